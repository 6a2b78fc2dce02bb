/-
  VirtqNobody: a queue and a port that are nil, or that New and Open did not make, do nothing, and none is made of no memory. No conditions: any buffers, any numbers.
-/
import Derived.Test.YtgmgfhmdehkdaaaAwake
import Derived.ProofKit
import Derived.OpenShut
import Derived.ShutString
import Derived.ChangeOld
import Derived.Below
namespace Go.Proofs.Ytgmgfhmdehkdaaa.vnobody
open Go.ChangeShapes Go.WideShapes Go.ChangeAt Go.RowKit Go.Sort
open Go.ChangeMaps (open_string shut_string)
set_option linter.unusedVariables false

theorem own : ownKnob Try.prog.godebug = none := by kernel_rfl
theorem laidOut : laidOutB Try.prog = true := by kernel_rfl

/-- Whatever slice came in. -/
def AnySlice (w : World) (p : Option Addr) (len : Nat) (l : Unit) : Prop := True
theorem open_any {H : Type} {enc : TypeId × Value → H} {w : World} {p : Option Addr} {len cap fuel : Nat} {x : DataW H × List MemPlace}
    (h : DataW.trod enc Try.prog w 0 (fun _ => true) true fuel 36 (Value.slice p len cap).cells.toList = some x) : ∃ l, AnySlice w p len l := ⟨(), trivial⟩

set_option maxRecDepth 100000 in
set_option maxHeartbeats 1600000 in
theorem walk (a0 : Option Addr) (len0 cap0 : Nat) (l0 : Unit) (a1 a2 a3 a4 : Int) (w : World) (w0 : AnySlice w a0 len0 l0) (w1 : (Lit.int .i64 a1).wf = true) (w2 : (Lit.int .i64 a2).wf = true) (w3 : (Lit.int .u32 a3).wf = true) (w4 : (Lit.int .u32 a4).wf = true) :
    Calls Try.prog 6 #[.slice a0 len0 cap0, .int .i64 a1, .int .i64 a2, .int .u32 a3, .int .u32 a4] w fun e w' => e = .returned (.bool true) ∧ Below w.heap.size w w' := by
  clear w0 w1 w2 w3 w4
  by_cases hs : 100 < len0
  · have hs1 : decide ((100 : Int) < len0) = true := decide_eq_true (by omega)
    clear hs
    go_enter Try.func6, Try.ntmps6
    go_wp2_with fail
    refine (vawake_any _).mono ?_
    rintro e w1 ⟨rfl, bel⟩
    go_wp2_with fail
    go_ret
    exact ⟨rfl, bel⟩
  · have hs1 : decide ((100 : Int) < len0) = false := decide_eq_false (by omega)
    clear hs
    go_enter Try.func6, Try.ntmps6
    go_wp2_with fail
    refine (vawake_any _).mono ?_
    rintro e w1 ⟨rfl, bel⟩
    have bel2 := bel.alloc bel.size (.cells #[.pointer none, .int .i64 0, .int .i64 0, .map none, .int .u16 0, .int .u16 0, .bool false, .pointer none] 75)
    have hbare : NoQ (w1.alloc (.cells #[.pointer none, .int .i64 0, .int .i64 0, .map none, .int .u16 0, .int .u16 0, .bool false, .pointer none] 75)) (some ⟨w1.heap.size, 0, none⟩) :=
      .inr ⟨w1.heap.size, rfl, by rw [cell_of_block (heap_alloc_new w1 _)]; rfl⟩
    have hlt : w1.heap.size < (w1.alloc (.cells #[.pointer none, .int .i64 0, .int .i64 0, .map none, .int .u16 0, .int .u16 0, .bool false, .pointer none] 75)).heap.size := by simp
    have hq : ∀ w, NoQ w none := fun w => .inl rfl
    have hp : ∀ w, NoP w none := fun w => .inl rfl
    have HQ := Lib.hid hq
    have HP := Lib.hid hp
    have HB := Lib.hid hbare
    clear hq hp hbare
    go_wp2_with fail
    generalize w1.alloc _ = W at bel2 HB hlt ⊢
    refine (Reset_none _ _ (HQ.out _)).mono ?_
    rintro e w2 ⟨rfl, rfl⟩
    go_wp2_with fail
    refine (Reset_none _ _ HB.out).mono ?_
    rintro e w2 ⟨rfl, rfl⟩
    go_wp2_with fail
    refine (Add_none _ _ (HQ.out _) _).mono ?_
    rintro e w2 ⟨rfl, rfl⟩
    go_wp2_with fail
    refine (Add_none _ _ HB.out _).mono ?_
    rintro e w2 ⟨rfl, rfl⟩
    go_wp2_with fail
    refine (Pop_none _ _ (HQ.out _)).mono ?_
    rintro e w2 ⟨rfl, rfl⟩
    go_wp2_with fail
    refine (Next_none _ _ (HP.out _)).mono ?_
    rintro e w2 ⟨rfl, rfl⟩
    have k3 := World.grownBy_alloc W (.cells #[.pointer none, .int .i64 0, .int .i64 0, .int .u16 0, .int .u16 0, .pointer none] 77) none
    have hbp : NoP (W.alloc (.cells #[.pointer none, .int .i64 0, .int .i64 0, .int .u16 0, .int .u16 0, .pointer none] 77)) (some ⟨W.heap.size, 0, none⟩) :=
      .inr ⟨W.heap.size, rfl, by rw [cell_of_block (heap_alloc_new W _)]; rfl⟩
    have HBP := Lib.hid hbp
    clear hbp
    go_wp2_with fail
    generalize W.alloc _ = W3 at k3 HBP ⊢
    refine (Next_none _ _ HBP.out).mono ?_
    rintro e w2 ⟨rfl, rfl⟩
    go_wp2_with fail
    refine (New_none W3 none (.inl rfl) _ _).mono ?_
    rintro e w4 ⟨rfl, k4⟩
    go_wp2_with fail
    refine (Open_none w4 none (.inl rfl) _ _).mono ?_
    rintro e w5 ⟨rfl, k5⟩
    have k35 := (k3.trans k4).trans k5
    have hb5 : NoQ w5 (some ⟨w1.heap.size, 0, none⟩) := by
      rcases HB.out with h | ⟨g, h, hc⟩
      · cases h
      · injection h with h
        injection h with h
        subst h
        exact .inr ⟨_, rfl, by rw [World.cell?_of_block (w := W) (a := ⟨w1.heap.size, 7, none⟩) (k35.block _ hlt (by simp))]; exact hc⟩
    have HB5 := Lib.hid hb5
    clear hb5 k3 k4 k5
    go_wp2_with fail
    refine (Done_none _ _ (HP.out _) _ _).mono ?_
    rintro e w6 ⟨rfl, rfl⟩
    go_wp2_with fail
    refine (Free_none _ _ (HQ.out _)).mono ?_
    rintro e w6 ⟨rfl, rfl⟩
    go_wp2_with fail
    refine (Out_none _ _ (HQ.out _)).mono ?_
    rintro e w6 ⟨rfl, rfl⟩
    go_wp2_with fail
    refine (Broken_none _ _ (HQ.out _)).mono ?_
    rintro e w6 ⟨rfl, rfl⟩
    go_wp2_with fail
    refine (Free_none _ _ HB5.out).mono ?_
    rintro e w6 ⟨rfl, rfl⟩
    go_wp2_with fail
    go_ret
    exact ⟨rfl, bel2.grown k35 bel2.size (fun j e => by cases e)⟩

set_option maxRecDepth 100000 in
theorem lifted (os : Os) (started : os.Started) (H : Type) (enc : TypeId × Value → H) :
    ReturnsInHanded {} Try.checked os 6 .any (Rows.virtqNobodySpec.pre6 enc Try.prog Try.f6 Rows.virtqNobodyRow.domain false) (Rows.virtqNobodySpec.post enc Try.prog Try.f6 false true false false) := by
  refine returnsInHanded_of_change (C := Try.checked) own started (by kernel_rfl) Try.func6
    (ChangeSpec.witness6 (enc := enc) (C := Try.checked) false ⟨#[], #[.slice none 0 0, .int .i64 0, .int .i64 0, .int .u32 0, .int .u32 0], []⟩ 8 (by kernel_rfl) (by kernel_rfl) (by kernel_rfl) (by kernel_rfl)) ?_
  intro W base args ds gs before hval0 hW hcnd _
  have hval : ∀ (j : Nat) t v, Try.f6.params[j]? = some t → args[j]? = some v → Value.okWide Try.prog W .any base t v := hval0
  have hW' := hW
  obtain ⟨p, q, hA0, hV, rfl, hfz, hnd⟩ := hW
  have hA : DataW.TrodAll enc Try.prog W 0 (fun _ => true) true Try.f6.params.toList args.toList ds p := hA0
  rw [Try.params6] at hA hval
  obtain ⟨v0, vs0, d0, ds0, p0, q0, hargs, rfl, rfl, h0, r0⟩ := trodAll_cons hA
  obtain ⟨v1, vs1, d1, ds1, p1, q1, rfl, rfl, rfl, h1, r1⟩ := trodAll_cons r0
  obtain ⟨v2, vs2, d2, ds2, p2, q2, rfl, rfl, rfl, h2, r2⟩ := trodAll_cons r1
  obtain ⟨v3, vs3, d3, ds3, p3, q3, rfl, rfl, rfl, h3, r3⟩ := trodAll_cons r2
  obtain ⟨v4, vs4, d4, ds4, p4, q4, rfl, rfl, rfl, h4, r4⟩ := trodAll_cons r3
  obtain ⟨rfl, rfl, rfl⟩ := trodAll_nil r4
  obtain rfl : args = #[v0, v1, v2, v3, v4] := by cases args; simp_all
  obtain ⟨rfl, rfl⟩ := trodVars_none hV
  obtain ⟨a0, len0, cap0, rfl⟩ := okWide_slice Try.underlying36 (hval 0 36 v0 rfl rfl)
  have k0 := h0
  have lt0 : ∀ x ∈ p0, x.block < W.heap.size := by obtain ⟨m, hm⟩ := k0; exact DataW.trod_lt m _ _ _ hm
  obtain ⟨l0, w0⟩ : ∃ l, AnySlice W a0 len0 l := by obtain ⟨fuel, hf⟩ := h0; exact open_any hf
  obtain ⟨a1, rfl, rfl, rfl, w1⟩ := open_int Try.underlying3 (hval 1 3 v1 rfl rfl) h1
  obtain ⟨a2, rfl, rfl, rfl, w2⟩ := open_int Try.underlying3 (hval 2 3 v2 rfl rfl) h2
  obtain ⟨a3, rfl, rfl, rfl, w3⟩ := open_int Try.underlying41 (hval 3 41 v3 rfl rfl) h3
  obtain ⟨a4, rfl, rfl, rfl, w4⟩ := open_int Try.underlying41 (hval 4 41 v4 rfl rfl) h4
  clear hA0 hval0
  refine (walk a0 len0 cap0 l0 a1 a2 a3 a4 W w0 w1 w2 w3 w4).mono fun e W' ⟨he, bel⟩ => ?_
  subst he
  exact ⟨_, rfl, _, _, _, [], _, [], hW', trodAll_mk1 (shut_bool Try.underlying4 _), (trodAll_cons_mk (Below.trod laidOut (by kernel_rfl) (of_decide_eq_true (by kernel_rfl)) k0 bel lt0) (trodAll_cons_mk (shut_int Try.underlying3 w1) (trodAll_cons_mk (shut_int Try.underlying3 w2) (trodAll_cons_mk (shut_int Try.underlying41 w3) (trodAll_cons_mk (shut_int Try.underlying41 w4) trodAll_mk0))))), rfl, bel.frame _, fun h => by cases h⟩

/-- THE STATEMENT. -/
theorem proved : Rows.VirtqNobodySaid :=
  OpenClaim.holds_of_wide 6 Try.f6 rfl rfl rfl rfl rfl rfl rfl ⟨rfl, rfl, rfl, rfl, rfl⟩ rfl rfl rfl rfl rfl (by kernel_rfl) Try.func6 (by kernel_rfl)
    (of_decide_eq_true (by kernel_rfl)) (by unfold Func.isWrapper; first | (rw [if_pos (by decide +kernel)]; kernel_rfl) | (rw [if_neg (by decide +kernel)]; exact ⟨rfl, rfl⟩))
    (fun os started H enc _ => lifted os started H enc)
#print axioms proved

end Go.Proofs.Ytgmgfhmdehkdaaa.vnobody
