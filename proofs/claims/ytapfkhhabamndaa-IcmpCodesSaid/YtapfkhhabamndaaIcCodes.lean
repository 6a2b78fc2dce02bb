/-
  IcmpCodes: a message's bytes, and what any bytes are read as, are the document's. Conditions: more than 2000 bytes of data, or of text, are not asked about, as the statement says.
-/
import Derived.Test.YtapfkhhabamndaaIcD
import Derived.Test.YtapfkhhabamndaaIcE
import Derived.Test.YtapfkhhabamndaaIcF
import Derived.ProofKit
import Derived.OpenShut
import Derived.ShutString
import Derived.ChangeOld
import Derived.Below
namespace Go.Proofs.Ytapfkhhabamndaa.icc
open Go.ChangeShapes Go.WideShapes Go.ChangeAt Go.RowKit
open Go.ChangeMaps (open_string shut_string)
set_option linter.unusedVariables false

set_option maxRecDepth 100000 in
set_option maxHeartbeats 4000000 in
theorem walk_long (f : Ic) (s : ByteArray) (hm : f.da.size ≤ 9223372036854775807) (hb : s.size ≤ 9223372036854775807) (h : 2000 < f.da.size ∨ (f.da.size ≤ 2000 ∧ 2000 < s.size)) (w : World) :
    Calls Try.prog 5 #[.agg (icC f), .string s] w fun e w' => e = .returned (.bool true) ∧ Below w.heap.size w w' := by
  rcases h with h | ⟨h, h2⟩
  all_goals
    go_enter Try.func5, Try.ntmps5
    go_upto_region 1 with fail
    have F1 : Hid (IcAt (w.alloc (.cells (icC f) 49)) w.heap.size f) := Lib.hid (ic_new w _ f rfl)
    have BL : Hid (Below w.heap.size w (w.alloc (.cells (icC f) 49))) := Lib.hid ((Below.refl _ _).alloc (Nat.le_refl _) _)
    obtain ⟨n, hn⟩ : ∃ n, n = w.heap.size := ⟨_, rfl⟩
    generalize w.alloc _ = W1 at F1 BL ⊢
    rw [← hn] at F1 ⊢
    clear hn
    go_wp2_with fail
    refine (awakeI _).mono ?_
    rintro e w1 ⟨rfl, b1⟩
    have G1 := Lib.hid (F1.out.grow b1)
    have B1 := bstep BL b1
    clear b1 F1 BL
    have c3 := G1.out.da
    go_wp2_with fail
    go_ret
    exact ⟨rfl, B1.out⟩
set_option maxRecDepth 100000 in
set_option maxHeartbeats 4000000 in
theorem walk_main (f : Ic) (hf : f.ok) (s : ByteArray) (hz : f.da.size ≤ 2000) (hs : s.size ≤ 2000) (w : World) :
    Calls Try.prog 5 #[.agg (icC f), .string s] w fun e w' => e = .returned (.bool true) ∧ Below w.heap.size w w' := by
  have k1 := Lib.hid (fun w => icBytes_any w f hf (by omega))
  have k2 := Lib.hid (fun w => rBytes9_any w f hf (by omega))
  have k3 := Lib.hid (fun w => icRead_any w s (by omega))
  have k4 := Lib.hid (fun w => rRead9_any w s (by omega))
  have hok := irP_ok s (by unfold maxLen; omega)
  generalize icS f = S at k1 k2
  generalize icE f = E at k1 k2
  generalize irP s = R at k3 k4 hok
  generalize irE s = G at k3 k4
  have hq := eqli R R hok hok true (decide_eq_true rfl)
  clear hok
  go_enter Try.func5, Try.ntmps5
  go_upto_region 1 with fail
  have F1 : Hid (IcAt (w.alloc (.cells (icC f) 49)) w.heap.size f) := Lib.hid (ic_new w _ f rfl)
  have BL : Hid (Below w.heap.size w (w.alloc (.cells (icC f) 49))) := Lib.hid ((Below.refl _ _).alloc (Nat.le_refl _) _)
  obtain ⟨n, hn⟩ : ∃ n, n = w.heap.size := ⟨_, rfl⟩
  generalize w.alloc _ = W1 at F1 BL ⊢
  rw [← hn] at F1 ⊢
  clear hn
  go_wp2_with fail
  refine (awakeI _).mono ?_
  rintro e w1 ⟨rfl, b1⟩
  have G1 := Lib.hid (F1.out.grow b1)
  have B1 := bstep BL b1
  clear b1 F1 BL
  have c3 := G1.out.da
  have hp := G1.out
  go_wp2_with (first | (refine ic_ld (by rfl) (.tmp 2) rfl n rfl _ hp ?_))
  refine (k1.out _).mono ?_
  rintro e w2 ⟨rfl, b2⟩
  have B2 := bstep B1 b2
  have G2 := Lib.hid (G1.out.grow b2)
  clear b2 G1
  clear hp c3
  have hp := G2.out
  go_wp2_with (first | (refine ic_ld (by rfl) (.tmp 2) rfl n rfl _ hp ?_))
  refine (k2.out _).mono ?_
  rintro e w3 ⟨rfl, b3⟩
  have B3 := bstep B2 b3
  clear b3
  clear hp G2
  have e1 : (S.toList == S.toList) = true := by simp
  have e2 : (E == E) = true := by simp
  have e3 : (G == G) = true := by simp
  go_wp2_with fail
  refine (k3.out _).mono ?_
  rintro e w4 ⟨rfl, b4⟩
  have B4 := bstep B3 b4
  clear b4
  have hst := ic_store w4 R
  go_upto_region 8 with (refine wpList_storeW 49 (.tmp 9) (.tmp 37) rfl rfl (.agg (icC R)) w4.heap.size rfl rfl hst ?_)
  try simp only [Act.put]
  have Pp : Hid (IcAt (w4.alloc (.cells (icC R) 49)) w4.heap.size R) := Lib.hid (ic_new _ _ _ rfl)
  have B4s := bstep B4 ((Below.refl w4.heap.size w4).alloc (Nat.le_refl _) (.cells (icC R) 49))
  clear hst
  obtain ⟨p, hnp⟩ : ∃ n, n = w4.heap.size := ⟨_, rfl⟩
  generalize w4.alloc _ = W4s at Pp B4s ⊢
  rw [← hnp] at Pp ⊢
  clear hnp
  go_wp2_with fail
  refine (k4.out _).mono ?_
  rintro e w5 ⟨rfl, b5⟩
  have B5 := bstep B4s b5
  have Q5 := Lib.hid (Pp.out.grow b5)
  clear b5 Pp
  have hst := ic_store w5 R
  go_upto_region 9 with (refine wpList_storeW 49 (.tmp 11) (.tmp 42) rfl rfl (.agg (icC R)) w5.heap.size rfl rfl hst ?_)
  try simp only [Act.put]
  have Pq : Hid (IcAt (w5.alloc (.cells (icC R) 49)) w5.heap.size R) := Lib.hid (ic_new _ _ _ rfl)
  have B5s := bstep B5 ((Below.refl w5.heap.size w5).alloc (Nat.le_refl _) (.cells (icC R) 49))
  have Q6 := Lib.hid (Q5.out.grow ((Below.refl w5.heap.size w5).alloc (Nat.le_refl _) (.cells (icC R) 49)))
  clear hst Q5
  obtain ⟨q, hnq⟩ : ∃ n, n = w5.heap.size := ⟨_, rfl⟩
  generalize w5.alloc _ = W5s at Pq B5s Q6 ⊢
  rw [← hnq] at Pq ⊢
  clear hnq
  have ha := Q6.out
  have hb := Pq.out
  go_wp2_with (first | (refine ic_ld (by rfl) (.tmp 9) rfl p rfl _ ha ?_) | (refine ic_ld (by rfl) (.tmp 11) rfl q rfl _ hb ?_) | (refine ic_eq (by rfl) (.tmp 53) (.tmp 54) _ rfl R R rfl rfl true hq ?_))
  go_ret
  exact ⟨rfl, B5s.out⟩

theorem walk (f : Ic) (s : ByteArray) (w0 : f.ok) (w1 : s.size ≤ maxLen) (w : World) :
    Calls Try.prog 5 #[.agg (icC f), .string s] w fun e w' => e = .returned (.bool true) ∧ Below w.heap.size w w' := by
  have m0 : f.da.size ≤ 9223372036854775807 := by have := w0.2.2.2; unfold maxLen at this; omega
  have m1 : s.size ≤ 9223372036854775807 := by unfold maxLen at w1; omega
  by_cases h1 : 2000 < f.da.size
  · exact walk_long f s m0 m1 (.inl h1) w
  by_cases h2 : 2000 < s.size
  · exact walk_long f s m0 m1 (.inr ⟨by omega, h2⟩) w
  exact walk_main f w0 s (by omega) (by omega) w

set_option maxRecDepth 100000 in
theorem lifted (os : Os) (started : os.Started) (H : Type) (enc : TypeId × Value → H) :
    ReturnsInHanded {} Try.checked os 5 .any (Rows.icmpCodesSpec.pre6 enc Try.prog Try.f5 Rows.icmpCodesRow.domain false) (Rows.icmpCodesSpec.post enc Try.prog Try.f5 false true false false) := by
  refine returnsInHanded_of_change (C := Try.checked) own started (by kernel_rfl) Try.func5
    (ChangeSpec.witness6 (enc := enc) (C := Try.checked) false ⟨#[], #[.agg #[.int .i64 0, .int .i64 0, .int .u32 0, .string ByteArray.empty], .string ByteArray.empty], []⟩ 8 (by kernel_rfl) (by kernel_rfl) (by kernel_rfl) (by kernel_rfl)) ?_
  intro W base args ds gs before hval0 hW hcnd _
  have hval : ∀ (j : Nat) t v, Try.f5.params[j]? = some t → args[j]? = some v → Value.okWide Try.prog W .any base t v := hval0
  have hW' := hW
  obtain ⟨p, q, hA0, hV, rfl, hfz, hnd⟩ := hW
  have hA : DataW.TrodAll enc Try.prog W 0 (fun _ => true) true Try.f5.params.toList args.toList ds p := hA0
  rw [Try.params5] at hA hval
  obtain ⟨v0, vs0, d0, ds0, p0, q0, hargs, rfl, rfl, h0, r0⟩ := trodAll_cons hA
  obtain ⟨v1, vs1, d1, ds1, p1, q1, rfl, rfl, rfl, h1, r1⟩ := trodAll_cons r0
  obtain ⟨rfl, rfl, rfl⟩ := trodAll_nil r1
  obtain rfl : args = #[v0, v1] := by cases args; simp_all
  obtain ⟨rfl, rfl⟩ := trodVars_none hV
  obtain ⟨a0, rfl, w0⟩ := open_icmp (hval 0 49 v0 rfl rfl) h0
  have k0 := h0
  have lt0 : ∀ x ∈ p0, x.block < W.heap.size := by obtain ⟨m, hm⟩ := k0; exact DataW.trod_lt m _ _ _ hm
  obtain ⟨a1, rfl, rfl, rfl, w1⟩ := open_string Try.underlying9 (hval 1 9 v1 rfl rfl) h1
  clear hA0 hval0
  refine (walk a0 a1 w0 w1 W).mono fun e W' ⟨he, bel⟩ => ?_
  subst he
  exact ⟨_, rfl, _, _, _, [], _, [], hW', trodAll_mk1 (shut_bool Try.underlying4 _), (trodAll_cons_mk (Below.trod laidOut (by kernel_rfl) (of_decide_eq_true (by kernel_rfl)) k0 bel lt0) (trodAll_cons_mk (shut_string Try.underlying9 w1) trodAll_mk0)), rfl, bel.frame _, fun h => by cases h⟩

/-- THE STATEMENT. -/
theorem proved : Rows.IcmpCodesSaid :=
  OpenClaim.holds_of_wide 5 Try.f5 rfl rfl rfl rfl rfl rfl rfl ⟨rfl, rfl, rfl, rfl, rfl⟩ rfl rfl rfl rfl rfl (by kernel_rfl) Try.func5 (by kernel_rfl)
    (of_decide_eq_true (by kernel_rfl)) (by unfold Func.isWrapper; first | (rw [if_pos (by decide +kernel)]; kernel_rfl) | (rw [if_neg (by decide +kernel)]; exact ⟨rfl, rfl⟩))
    (fun os started H enc _ => lifted os started H enc)
#print axioms proved

end Go.Proofs.Ytapfkhhabamndaa.icc
