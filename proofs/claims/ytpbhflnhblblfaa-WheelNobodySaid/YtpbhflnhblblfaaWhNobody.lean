/-
  WheelNobody: a nil wheel, and one that New did not make, tell nothing, and refuse Set with the error of what is none. No conditions: any two numbers.
-/
import Derived.Test.YtpbhflnhblblfaaWhN
import Derived.ProofKit
import Derived.OpenShut
import Derived.ShutString
import Derived.ChangeOld
import Derived.Below
namespace Go.Proofs.Ytpbhflnhblblfaa.nob
open Go.ChangeShapes Go.WideShapes Go.ChangeAt Go.RowKit
open Go.ChangeMaps (open_string shut_string)
set_option linter.unusedVariables false

theorem own : ownKnob Try.prog.godebug = none := by kernel_rfl

theorem bare_none (w : World) : NoWh (w.alloc (.cells Try.zeroCells56 56)) (some ⟨w.heap.size, 0, none⟩) :=
  .inr ⟨w.heap.size, rfl, by rw [cell_of_cells (_root_.Go.heap_alloc_new w _)]; kernel_rfl⟩
theorem noWh_alloc {w : World} {p : Option Addr} (h : NoWh w p) (o : Obj) : NoWh (w.alloc o) p := by
  rcases h with rfl | ⟨g, rfl, h⟩
  · exact .inl rfl
  · exact .inr ⟨g, rfl, by rw [World.cell?_alloc_past _ _ _ (World.block_lt_of_cell? w _ h)]; exact h⟩

set_option maxHeartbeats 400000 in
theorem cancel_none (w : World) (p : Option Addr) (hp : NoWh w p) (id : Int) :
    Calls Try.prog 21 #[.pointer p, .int .i64 id] w fun e w' => e = .returned (.bool false) ∧ w' = w.alloc (.cells #[.int .i64 id] 3) := by
  have hp2 := noWh_alloc hp (.cells #[.int .i64 id] 3)
  go_enter Try.func21, Try.ntmps21
  go_wp2_with (go_at_call 36; refine (none_yesI _ _ hp2).mono ?_; rintro e w' ⟨rfl, rfl⟩)
  go_ret
  exact ⟨rfl, rfl⟩

set_option maxHeartbeats 1000000 in
theorem walk (a0 a1 : Int) (w0 : (Lit.int .i64 a0).wf = true) (w1 : (Lit.int .i64 a1).wf = true) (w : World) :
    Calls Try.prog 5 #[.int .i64 a0, .int .i64 a1] w fun e w' => e = .returned (.bool true) ∧ Below w.heap.size w w' := by
  clear w0 w1
  go_enter Try.func5, Try.ntmps5
  go_wp2_with fail
  refine (awake_any _).mono ?_
  rintro e w1 ⟨rfl, t1⟩
  have hb := bare_none w1
  have hn : ∀ w, NoWh w none := fun _ => .inl rfl
  have HN := Lib.hid hn
  have b1 := t1.below.alloc t1.size (.cells Try.zeroCells56 56)
  have HB := Lib.hid hb
  have B1 := Lib.hid b1
  clear hn hb b1 t1
  go_wp2_with fail
  generalize w1.heap.size = g at HB ⊢
  generalize w1.alloc (.cells Try.zeroCells56 56) = w2 at HB B1 ⊢
  refine (set_noneI _ _ (HN.out _) _ _).mono ?_
  rintro e w3 ⟨rfl, rfl⟩
  go_wp2_with fail
  refine (set_noneI _ _ HB.out _ _).mono ?_
  rintro e w3 ⟨rfl, rfl⟩
  go_wp2_with fail
  refine (next_noneI _ _ (HN.out _)).mono ?_
  rintro e w3 ⟨rfl, rfl⟩
  go_wp2_with fail
  refine (cancel_none _ _ (HN.out _) _).mono ?_
  rintro e w3 ⟨rfl, hw⟩
  have HB3 : Hid (NoWh w3 (some ⟨g, 0, none⟩)) := Lib.hid (by rw [hw]; exact noWh_alloc HB.out _)
  have B3 : Hid (Below w.heap.size w w3) := Lib.hid (by rw [hw]; exact B1.out.alloc B1.out.size _)
  clear hw HB B1
  go_wp2_with fail
  refine (cancel_none _ _ HB3.out _).mono ?_
  rintro e w4 ⟨rfl, hw⟩
  have HB4 : Hid (NoWh w4 (some ⟨g, 0, none⟩)) := Lib.hid (by rw [hw]; exact noWh_alloc HB3.out _)
  have B4 : Hid (Below w.heap.size w w4) := Lib.hid (by rw [hw]; exact B3.out.alloc B3.out.size _)
  clear hw HB3 B3
  go_wp2_with fail
  refine (adv_noneI _ _ (HN.out _) _).mono ?_
  rintro e w3 ⟨rfl, rfl⟩
  go_wp2_with fail
  refine (adv_noneI _ _ HB4.out _).mono ?_
  rintro e w3 ⟨rfl, rfl⟩
  go_wp2_with fail
  refine (now_noneI _ _ (HN.out _)).mono ?_
  rintro e w3 ⟨rfl, rfl⟩
  go_wp2_with fail
  refine (now_noneI _ _ HB4.out).mono ?_
  rintro e w3 ⟨rfl, rfl⟩
  go_wp2_with fail
  refine (len_noneI _ _ (HN.out _)).mono ?_
  rintro e w3 ⟨rfl, rfl⟩
  go_wp2_with fail
  go_ret
  exact ⟨rfl, B4.out⟩

set_option maxRecDepth 100000 in
theorem lifted (os : Os) (started : os.Started) (H : Type) (enc : TypeId × Value → H) :
    ReturnsInHanded {} Try.checked os 5 .any (Rows.wheelNobodySpec.pre6 enc Try.prog Try.f5 Rows.wheelNobodyRow.domain false) (Rows.wheelNobodySpec.post enc Try.prog Try.f5 false true false false) := by
  refine returnsInHanded_of_change (C := Try.checked) own started (by kernel_rfl) Try.func5
    (ChangeSpec.witness6 (enc := enc) (C := Try.checked) false ⟨#[], #[.int .i64 0, .int .i64 0], []⟩ 8 (by kernel_rfl) (by kernel_rfl) (by kernel_rfl) (by kernel_rfl)) ?_
  intro W base args ds gs before hval0 hW hcnd _
  have hval : ∀ (j : Nat) t v, Try.f5.params[j]? = some t → args[j]? = some v → Value.okWide Try.prog W .any base t v := hval0
  have hW' := hW
  obtain ⟨p, q, hA0, hV, rfl, hfz, hnd⟩ := hW
  have hA : DataW.TrodAll enc Try.prog W 0 (fun _ => true) true Try.f5.params.toList args.toList ds p := hA0
  rw [Try.params5] at hA hval
  obtain ⟨v0, vs0, d0, ds0, p0, q0, hargs, rfl, rfl, h0, r0⟩ := trodAll_cons hA
  obtain ⟨v1, vs1, d1, ds1, p1, q1, rfl, rfl, rfl, h1, r1⟩ := trodAll_cons r0
  obtain ⟨rfl, rfl, rfl⟩ := trodAll_nil r1
  obtain rfl : args = #[v0, v1] := by cases args; simp_all
  obtain ⟨rfl, rfl⟩ := trodVars_none hV
  obtain ⟨a0, rfl, rfl, rfl, w0⟩ := open_int Try.underlying3 (hval 0 3 v0 rfl rfl) h0
  obtain ⟨a1, rfl, rfl, rfl, w1⟩ := open_int Try.underlying3 (hval 1 3 v1 rfl rfl) h1
  clear hA0 hval0
  refine (walk a0 a1 w0 w1 W).mono fun e W' ⟨he, bel⟩ => ?_
  subst he
  exact ⟨_, rfl, _, _, _, [], _, [], hW', trodAll_mk1 (shut_bool Try.underlying4 _), (trodAll_cons_mk (shut_int Try.underlying3 w0) (trodAll_cons_mk (shut_int Try.underlying3 w1) trodAll_mk0)), rfl, bel.frame _, fun h => by cases h⟩

/-- THE STATEMENT. -/
theorem proved : Rows.WheelNobodySaid :=
  OpenClaim.holds_of_wide 5 Try.f5 rfl rfl rfl rfl rfl rfl rfl ⟨rfl, rfl, rfl, rfl, rfl⟩ rfl rfl rfl rfl rfl (by kernel_rfl) Try.func5 (by kernel_rfl)
    (of_decide_eq_true (by kernel_rfl)) (by unfold Func.isWrapper; first | (rw [if_pos (by decide +kernel)]; kernel_rfl) | (rw [if_neg (by decide +kernel)]; exact ⟨rfl, rfl⟩))
    (fun os started H enc _ => lifted os started H enc)
#print axioms proved

end Go.Proofs.Ytpbhflnhblblfaa.nob
