/-
  Ipv4Writes: a packet's bytes, and the sum of a text, are the document's. Conditions: more than 3000 bytes of data, or of text, are not asked about, as the statement says.
-/
import Derived.Test.YtdckjliocgnbgaaIpL
import Derived.ProofKit
import Derived.OpenShut
import Derived.ShutString
import Derived.ChangeOld
import Derived.Below
namespace Go.Proofs.Ytdckjliocgnbgaa.iwr
open Go.ChangeShapes Go.WideShapes Go.ChangeAt Go.RowKit
open Go.ChangeMaps (open_string shut_string)
set_option linter.unusedVariables false

set_option maxRecDepth 100000 in
set_option maxHeartbeats 4000000 in
theorem walk_long (f : Pd) (b : ByteArray) (hm : f.da.size ≤ 9223372036854775807) (hb : b.size ≤ 9223372036854775807) (h : 3000 < f.da.size ∨ (f.da.size ≤ 3000 ∧ 3000 < b.size)) (w : World) :
    Calls Try.prog 4 #[.agg (pdC f), .string b] w fun e w' => e = .returned (.bool true) ∧ Below w.heap.size w w' := by
  rcases h with h | ⟨h, h2⟩
  all_goals
    go_enter Try.func4, Try.ntmps4
    go_upto_region 1 with fail
    have F1 : Hid (PdAt (w.alloc (.cells (pdC f) 29)) w.heap.size f) := Lib.hid (pd_new w _ f rfl)
    have BL : Hid (Below w.heap.size w (w.alloc (.cells (pdC f) 29))) := Lib.hid ((Below.refl _ _).alloc (Nat.le_refl _) _)
    obtain ⟨n, hn⟩ : ∃ n, n = w.heap.size := ⟨_, rfl⟩
    generalize w.alloc _ = W1 at F1 BL ⊢
    rw [← hn] at F1 ⊢
    clear hn
    go_wp2_with fail
    refine (awakeD _).mono ?_
    rintro e w1 ⟨rfl, b1⟩
    have G1 := Lib.hid (F1.out.grow b1)
    have B1 := bstep BL b1
    clear b1 F1 BL
    have c13 := G1.out.da
    go_wp2_with fail
    go_ret
    exact ⟨rfl, B1.out⟩

set_option maxRecDepth 100000 in
set_option maxHeartbeats 4000000 in
theorem walk_main (f : Pd) (b : ByteArray) (hz : f.da.size ≤ 3000) (hb : b.size ≤ 3000) (w : World) :
    Calls Try.prog 4 #[.agg (pdC f), .string b] w fun e w' => e = .returned (.bool true) ∧ Below w.heap.size w w' := by
  have k1 := Lib.hid (fun w => pdBytes_any w f (by omega))
  have k2 := Lib.hid (fun w => rBytes8_any w f (by omega))
  have k3 := Lib.hid (fun w => Sum_any w b (by omega))
  have k4 := Lib.hid (fun w => rSum_any w b (by omega))
  generalize pdS f = S at k1 k2
  generalize pdE f = E at k1 k2
  generalize sumT b.data.toList = K at k3 k4
  go_enter Try.func4, Try.ntmps4
  go_upto_region 1 with fail
  have F1 : Hid (PdAt (w.alloc (.cells (pdC f) 29)) w.heap.size f) := Lib.hid (pd_new w _ f rfl)
  have BL : Hid (Below w.heap.size w (w.alloc (.cells (pdC f) 29))) := Lib.hid ((Below.refl _ _).alloc (Nat.le_refl _) _)
  obtain ⟨n, hn⟩ : ∃ n, n = w.heap.size := ⟨_, rfl⟩
  generalize w.alloc _ = W1 at F1 BL ⊢
  rw [← hn] at F1 ⊢
  clear hn
  go_wp2_with fail
  refine (awakeD _).mono ?_
  rintro e w1 ⟨rfl, b1⟩
  have G1 := Lib.hid (F1.out.grow b1)
  have B1 := bstep BL b1
  clear b1 F1 BL
  have c13 := G1.out.da
  have hp := G1.out
  go_wp2_with (refine pd_ld (by rfl) _ rfl n rfl _ hp ?_)
  refine (k1.out _).mono ?_
  rintro e w2 ⟨rfl, b2⟩
  have B2 := bstep B1 b2
  have G2 := Lib.hid (G1.out.grow b2)
  clear b2 B1 G1 hp c13
  have hp := G2.out
  go_wp2_with (refine pd_ld (by rfl) _ rfl n rfl _ hp ?_)
  refine (k2.out _).mono ?_
  rintro e w3 ⟨rfl, b3⟩
  have B3 := bstep B2 b3
  clear b3 B2 G2 hp
  have e1 : (S.toList == S.toList) = true := by simp
  have e2 : (E == E) = true := by simp
  go_wp2_with fail
  refine (k3.out _).mono ?_
  rintro e w4 ⟨rfl, b4⟩
  have B4 := bstep B3 b4
  go_wp2_with fail
  refine (k4.out _).mono ?_
  rintro e w5 ⟨rfl, b5⟩
  have B5 := bstep B4 b5
  go_wp2_with fail
  go_ret
  exact ⟨by simp, B5.out⟩

theorem walk (f : Pd) (b : ByteArray) (w0 : f.ok) (w1 : b.size ≤ maxLen) (w : World) :
    Calls Try.prog 4 #[.agg (pdC f), .string b] w fun e w' => e = .returned (.bool true) ∧ Below w.heap.size w w' := by
  have m0 : f.da.size ≤ 9223372036854775807 := by have := w0.2.2.2.2; unfold maxLen at this; omega
  have m1 : b.size ≤ 9223372036854775807 := by unfold maxLen at w1; omega
  by_cases h1 : 3000 < f.da.size
  · exact walk_long f b m0 m1 (.inl h1) w
  by_cases h2 : 3000 < b.size
  · exact walk_long f b m0 m1 (.inr ⟨by omega, h2⟩) w
  exact walk_main f b (by omega) (by omega) w

set_option maxRecDepth 100000 in
theorem lifted (os : Os) (started : os.Started) (H : Type) (enc : TypeId × Value → H) :
    ReturnsInHanded {} Try.checked os 4 .any (Rows.ipv4WritesSpec.pre6 enc Try.prog Try.f4 Rows.ipv4WritesRow.domain false) (Rows.ipv4WritesSpec.post enc Try.prog Try.f4 false true false false) := by
  refine returnsInHanded_of_change (C := Try.checked) own started (by kernel_rfl) Try.func4
    (ChangeSpec.witness6 (enc := enc) (C := Try.checked) false ⟨#[], #[.agg #[.int .i64 0, .int .u8 0, .int .u8 0, .int .u8 0, .int .u8 0, .int .u8 0, .int .u8 0, .int .u8 0, .int .u8 0, .int .i64 0, .int .i64 0, .int .i64 0, .bool false, .string ByteArray.empty], .string ByteArray.empty], []⟩ 8 (by kernel_rfl) (by kernel_rfl) (by kernel_rfl) (by kernel_rfl)) ?_
  intro W base args ds gs before hval0 hW hcnd _
  have hval : ∀ (j : Nat) t v, Try.f4.params[j]? = some t → args[j]? = some v → Value.okWide Try.prog W .any base t v := hval0
  have hW' := hW
  obtain ⟨p, q, hA0, hV, rfl, hfz, hnd⟩ := hW
  have hA : DataW.TrodAll enc Try.prog W 0 (fun _ => true) true Try.f4.params.toList args.toList ds p := hA0
  rw [Try.params4] at hA hval
  obtain ⟨v0, vs0, d0, ds0, p0, q0, hargs, rfl, rfl, h0, r0⟩ := trodAll_cons hA
  obtain ⟨v1, vs1, d1, ds1, p1, q1, rfl, rfl, rfl, h1, r1⟩ := trodAll_cons r0
  obtain ⟨rfl, rfl, rfl⟩ := trodAll_nil r1
  obtain rfl : args = #[v0, v1] := by cases args; simp_all
  obtain ⟨rfl, rfl⟩ := trodVars_none hV
  obtain ⟨a0, rfl, w0⟩ := open_packet (hval 0 29 v0 rfl rfl) h0
  have k0 := h0
  have lt0 : ∀ x ∈ p0, x.block < W.heap.size := by obtain ⟨m, hm⟩ := k0; exact DataW.trod_lt m _ _ _ hm
  obtain ⟨a1, rfl, rfl, rfl, w1⟩ := open_string Try.underlying9 (hval 1 9 v1 rfl rfl) h1
  clear hA0 hval0
  refine (walk a0 a1 w0 w1 W).mono fun e W' ⟨he, bel⟩ => ?_
  subst he
  exact ⟨_, rfl, _, _, _, [], _, [], hW', trodAll_mk1 (shut_bool Try.underlying4 _), (trodAll_cons_mk (Below.trod laidOut (by kernel_rfl) (of_decide_eq_true (by kernel_rfl)) k0 bel lt0) (trodAll_cons_mk (shut_string Try.underlying9 w1) trodAll_mk0)), rfl, bel.frame _, fun h => by cases h⟩

/-- THE STATEMENT. -/
theorem proved : Rows.Ipv4WritesSaid :=
  OpenClaim.holds_of_wide 4 Try.f4 rfl rfl rfl rfl rfl rfl rfl ⟨rfl, rfl, rfl, rfl, rfl⟩ rfl rfl rfl rfl rfl (by kernel_rfl) Try.func4 (by kernel_rfl)
    (of_decide_eq_true (by kernel_rfl)) (by unfold Func.isWrapper; first | (rw [if_pos (by decide +kernel)]; kernel_rfl) | (rw [if_neg (by decide +kernel)]; exact ⟨rfl, rfl⟩))
    (fun os started H enc _ => lifted os started H enc)
#print axioms proved

end Go.Proofs.Ytdckjliocgnbgaa.iwr
