/-
  Ipv4Nobody: what is none joins nothing. Conditions: a packet with more than 3000 bytes of data is not asked about, as the statement says.
-/
import Derived.Test.YtdckjliocgnbgaaIpJ
import Derived.ProofKit
import Derived.OpenShut
import Derived.ShutString
import Derived.ChangeOld
import Derived.Below
namespace Go.Proofs.Ytdckjliocgnbgaa.ino
open Go.ChangeShapes Go.WideShapes Go.ChangeAt Go.RowKit
open Go.ChangeMaps (open_string shut_string)
set_option linter.unusedVariables false

/-- The packet, and a joiner of noughts. -/
structure NS (w W : World) (n g : Nat) (f : Pd) : Prop where
  pd : PdAt W n f
  no : W.cell? ⟨g, 2, none⟩ = some (.pointer none)
  lt : g < W.heap.size
  bl : Below w.heap.size w W
theorem NS.grow {w W W' : World} {n g : Nat} {f : Pd} (h : NS w W n g f) (b : Below W.heap.size W W') : NS w W' n g f :=
  ⟨h.pd.grow b, (b.cell (p := ⟨g, 2, none⟩) h.lt).trans h.no, Nat.lt_of_lt_of_le h.lt b.size, h.bl.trans (b.mono h.bl.size)⟩
theorem NS.nc {w W : World} {n g : Nat} {f : Pd} (h : NS w W n g f) : NoJo W (some ⟨g, 0, none⟩) := .inr ⟨g, rfl, h.no⟩
theorem NS.ncl {w W : World} {n g : Nat} {f : Pd} (h : NS w W n g f) : ∀ k, (some ⟨g, 0, none⟩ : Option Addr) = some ⟨k, 0, none⟩ → k < W.heap.size := fun k e => by injection e with e; injection e with e; rw [← e]; exact h.lt
theorem nil_nc (W : World) : NoJo W none := .inl rfl
theorem nil_ncl (W : World) : ∀ k, (none : Option Addr) = some ⟨k, 0, none⟩ → k < W.heap.size := fun k e => by cases e

set_option maxRecDepth 100000 in
set_option maxHeartbeats 4000000 in
theorem walk (f : Pd) (hf : f.ok) (w : World) :
    Calls Try.prog 8 #[.agg (pdC f)] w fun e w' => e = .returned (.bool true) ∧ Below w.heap.size w w' := by
  have hm : f.da.size ≤ 9223372036854775807 := by have := hf.2.2.2.2; unfold maxLen at this; omega
  go_enter Try.func8, Try.ntmps8
  go_upto_region 1 with fail
  have F1 : Hid (PdAt (w.alloc (.cells (pdC f) 29)) w.heap.size f) := Lib.hid (pd_new w _ f rfl)
  have BL : Hid (Below w.heap.size w (w.alloc (.cells (pdC f) 29))) := Lib.hid ((Below.refl _ _).alloc (Nat.le_refl _) _)
  obtain ⟨n, hn⟩ : ∃ n, n = w.heap.size := ⟨_, rfl⟩
  generalize w.alloc _ = W1 at F1 BL ⊢
  rw [← hn] at F1 ⊢
  clear hn
  go_wp2_with fail
  refine (awakeD _).mono ?_
  rintro e w1 ⟨rfl, b1⟩
  have G1 := Lib.hid (F1.out.grow b1)
  have B1 := bstep BL b1
  clear b1 F1 BL
  have c13 := G1.out.da
  by_cases hz : 3000 < f.da.size
  · go_wp2_with fail
    go_ret
    exact ⟨rfl, B1.out⟩
  go_upto_region 7 with fail
  have NN : Hid (NS w (w1.alloc (.cells #[.int .i64 0, .slice none 0 0, .pointer none] 61)) n w1.heap.size f) := Lib.hid
    ⟨G1.out.grow ((Below.refl _ _).alloc (Nat.le_refl _) _), by rw [cell_of_block (heap_alloc_new w1 _)]; rfl, by simp, B1.out.alloc B1.out.size _⟩
  obtain ⟨g, hg⟩ : ∃ g, g = w1.heap.size := ⟨_, rfl⟩
  clear G1 B1 c13
  generalize w1.alloc _ = W2 at NN ⊢
  rw [← hg] at NN ⊢
  clear hg
  go_wp2_with fail
  refine (jtick_none _ none (nil_nc _) (nil_ncl _)).mono ?_
  rintro e w5 ⟨rfl, b5⟩
  have N5 := Lib.hid (NN.out.grow b5)
  clear b5 NN
  go_wp2_with fail
  refine (jtick_none _ _ N5.out.nc N5.out.ncl).mono ?_
  rintro e w6 ⟨rfl, b6⟩
  have N6 := Lib.hid (N5.out.grow b6)
  clear b6 N5
  have hp := N6.out.pd
  go_wp2_with (refine pd_ld (by rfl) _ rfl n rfl _ hp ?_)
  refine (jput_none _ none (nil_nc _) (nil_ncl _) f).mono ?_
  rintro e w7 ⟨rfl, b7⟩
  have N7 := Lib.hid ((N6.out.grow b7).grow ((Below.refl _ _).alloc (Nat.le_refl _) (.cells (pdC pdZ) 29)))
  have hst := pd_storeZ w7 pdZ
  clear b7 N6 hp
  go_upto_region 10 with (refine wpList_storeW 29 _ _ rfl rfl _ w7.heap.size rfl rfl hst ?_)
  clear hst
  generalize w7.alloc _ = W8 at N7 ⊢
  have hp := N7.out.pd
  go_wp2_with (refine pd_ld (by rfl) _ rfl n rfl _ hp ?_)
  refine (jput_none _ _ N7.out.nc N7.out.ncl f).mono ?_
  rintro e w9 ⟨rfl, b9⟩
  have N9 := Lib.hid ((N7.out.grow b9).grow ((Below.refl _ _).alloc (Nat.le_refl _) (.cells (pdC pdZ) 29)))
  have hst := pd_storeZ w9 pdZ
  clear b9 N7 hp
  go_upto_region 11 with (refine wpList_storeW 29 _ _ rfl rfl _ w9.heap.size rfl rfl hst ?_)
  clear hst
  generalize w9.alloc _ = W10 at N9 ⊢
  go_wp2_with fail
  refine (jlen_none _ none (nil_nc _)).mono ?_
  rintro e w11 ⟨rfl, rfl⟩
  go_wp2_with fail
  refine (jlen_none _ _ N9.out.nc).mono ?_
  rintro e w12 ⟨rfl, rfl⟩
  go_wp2_with fail
  go_ret
  exact ⟨rfl, N9.out.bl⟩

set_option maxRecDepth 100000 in
theorem lifted (os : Os) (started : os.Started) (H : Type) (enc : TypeId × Value → H) :
    ReturnsInHanded {} Try.checked os 8 .any (Rows.ipv4NobodySpec.pre6 enc Try.prog Try.f8 Rows.ipv4NobodyRow.domain false) (Rows.ipv4NobodySpec.post enc Try.prog Try.f8 false true false false) := by
  refine returnsInHanded_of_change (C := Try.checked) own started (by kernel_rfl) Try.func8
    (ChangeSpec.witness6 (enc := enc) (C := Try.checked) false ⟨#[], #[.agg #[.int .i64 0, .int .u8 0, .int .u8 0, .int .u8 0, .int .u8 0, .int .u8 0, .int .u8 0, .int .u8 0, .int .u8 0, .int .i64 0, .int .i64 0, .int .i64 0, .bool false, .string ByteArray.empty]], []⟩ 8 (by kernel_rfl) (by kernel_rfl) (by kernel_rfl) (by kernel_rfl)) ?_
  intro W base args ds gs before hval0 hW hcnd _
  have hval : ∀ (j : Nat) t v, Try.f8.params[j]? = some t → args[j]? = some v → Value.okWide Try.prog W .any base t v := hval0
  have hW' := hW
  obtain ⟨p, q, hA0, hV, rfl, hfz, hnd⟩ := hW
  have hA : DataW.TrodAll enc Try.prog W 0 (fun _ => true) true Try.f8.params.toList args.toList ds p := hA0
  rw [Try.params8] at hA hval
  obtain ⟨v0, vs0, d0, ds0, p0, q0, hargs, rfl, rfl, h0, r0⟩ := trodAll_cons hA
  obtain ⟨rfl, rfl, rfl⟩ := trodAll_nil r0
  obtain rfl : args = #[v0] := by cases args; simp_all
  obtain ⟨rfl, rfl⟩ := trodVars_none hV
  obtain ⟨a0, rfl, w0⟩ := open_packet (hval 0 29 v0 rfl rfl) h0
  have k0 := h0
  have lt0 : ∀ x ∈ p0, x.block < W.heap.size := by obtain ⟨m, hm⟩ := k0; exact DataW.trod_lt m _ _ _ hm
  clear hA0 hval0
  refine (walk a0 w0 W).mono fun e W' ⟨he, bel⟩ => ?_
  subst he
  exact ⟨_, rfl, _, _, _, [], _, [], hW', trodAll_mk1 (shut_bool Try.underlying4 _), (trodAll_cons_mk (Below.trod laidOut (by kernel_rfl) (of_decide_eq_true (by kernel_rfl)) k0 bel lt0) trodAll_mk0), rfl, bel.frame _, fun h => by cases h⟩

/-- THE STATEMENT. -/
theorem proved : Rows.Ipv4NobodySaid :=
  OpenClaim.holds_of_wide 8 Try.f8 rfl rfl rfl rfl rfl rfl rfl ⟨rfl, rfl, rfl, rfl, rfl⟩ rfl rfl rfl rfl rfl (by kernel_rfl) Try.func8 (by kernel_rfl)
    (of_decide_eq_true (by kernel_rfl)) (by unfold Func.isWrapper; first | (rw [if_pos (by decide +kernel)]; kernel_rfl) | (rw [if_neg (by decide +kernel)]; exact ⟨rfl, rfl⟩))
    (fun os started H enc _ => lifted os started H enc)
#print axioms proved

end Go.Proofs.Ytdckjliocgnbgaa.ino
