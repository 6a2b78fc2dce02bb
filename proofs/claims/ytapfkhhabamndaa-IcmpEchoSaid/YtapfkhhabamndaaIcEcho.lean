/-
  IcmpEcho: an echo has what was asked with, as an answer, which nobody echoes; nothing else is echoed. Conditions: more than 2000 bytes of data are not asked about, as the statement says.
-/
import Derived.Test.YtapfkhhabamndaaIcE
import Derived.ProofKit
import Derived.OpenShut
import Derived.ShutString
import Derived.ChangeOld
import Derived.Below
namespace Go.Proofs.Ytapfkhhabamndaa.ico
open Go.ChangeShapes Go.WideShapes Go.ChangeAt Go.RowKit
open Go.ChangeMaps (open_string shut_string)
set_option linter.unusedVariables false

set_option maxRecDepth 100000 in
set_option maxHeartbeats 4000000 in
theorem walk_long (f : Ic) (hm : f.da.size ≤ 9223372036854775807) (h : 2000 < f.da.size) (w : World) :
    Calls Try.prog 8 #[.agg (icC f)] w fun e w' => e = .returned (.bool true) ∧ Below w.heap.size w w' := by
  go_enter Try.func8, Try.ntmps8
  go_upto_region 1 with fail
  have F1 : Hid (IcAt (w.alloc (.cells (icC f) 49)) w.heap.size f) := Lib.hid (ic_new w _ f rfl)
  have BL : Hid (Below w.heap.size w (w.alloc (.cells (icC f) 49))) := Lib.hid ((Below.refl _ _).alloc (Nat.le_refl _) _)
  obtain ⟨n, hn⟩ : ∃ n, n = w.heap.size := ⟨_, rfl⟩
  generalize w.alloc _ = W1 at F1 BL ⊢
  rw [← hn] at F1 ⊢
  clear hn
  go_wp2_with fail
  refine (awakeI _).mono ?_
  rintro e w1 ⟨rfl, b1⟩
  have G1 := Lib.hid (F1.out.grow b1)
  have B1 := bstep BL b1
  clear b1 F1 BL
  have c3 := G1.out.da
  go_wp2_with fail
  go_ret
  exact ⟨rfl, B1.out⟩
set_option maxRecDepth 100000 in
set_option maxHeartbeats 4000000 in
theorem walk_no (f : Ic) (hz : f.da.size ≤ 2000) (h : ecB f = false) (w : World) :
    Calls Try.prog 8 #[.agg (icC f)] w fun e w' => e = .returned (.bool true) ∧ Below w.heap.size w w' := by
  have k1 := Lib.hid (fun w => icEcho_any w f)
  rw [show ecC f = icZ by rw [ecC, if_neg (by rw [h]; decide)], h] at k1
  have hq := eqli icZ icZ icZ_ok icZ_ok true (decide_eq_true rfl)
  by_cases hk : f.kd = 8
  · have h1 : (f.kd == 8) = true := by simp [hk]
    have h2 : (f.co == 0) = false := by
      simp only [beq_eq_false_iff_ne, ne_eq]
      intro e
      rw [ecB, decide_eq_true ⟨hk, e⟩] at h
      cases h
    clear hk h
    go_enter Try.func8, Try.ntmps8
    go_upto_region 1 with fail
    have F1 : Hid (IcAt (w.alloc (.cells (icC f) 49)) w.heap.size f) := Lib.hid (ic_new w _ f rfl)
    have BL : Hid (Below w.heap.size w (w.alloc (.cells (icC f) 49))) := Lib.hid ((Below.refl _ _).alloc (Nat.le_refl _) _)
    obtain ⟨n, hn⟩ : ∃ n, n = w.heap.size := ⟨_, rfl⟩
    generalize w.alloc _ = W1 at F1 BL ⊢
    rw [← hn] at F1 ⊢
    clear hn
    go_wp2_with fail
    refine (awakeI _).mono ?_
    rintro e w1 ⟨rfl, b1⟩
    have G1 := Lib.hid (F1.out.grow b1)
    have B1 := bstep BL b1
    clear b1 F1 BL
    have c3 := G1.out.da
    have hp := G1.out
    go_wp2_with (first | (refine ic_ld (by rfl) (.tmp 1) rfl n rfl _ hp ?_))
    refine (k1.out _).mono ?_
    rintro e w2 ⟨rfl, b2⟩
    have B2 := bstep B1 b2
    have G2 := Lib.hid (G1.out.grow b2)
    clear b2 G1
    clear hp c3
    have hst := ic_store w2 icZ
    go_upto_region 6 with (refine wpList_storeW 49 (.tmp 3) (.tmp 16) rfl rfl (.agg (icC icZ)) w2.heap.size rfl rfl hst ?_)
    try simp only [Act.put]
    have Pp : Hid (IcAt (w2.alloc (.cells (icC icZ) 49)) w2.heap.size icZ) := Lib.hid (ic_new _ _ _ rfl)
    have B2s := bstep B2 ((Below.refl w2.heap.size w2).alloc (Nat.le_refl _) (.cells (icC icZ) 49))
    have G3 := Lib.hid (G2.out.grow ((Below.refl w2.heap.size w2).alloc (Nat.le_refl _) (.cells (icC icZ) 49)))
    clear hst G2
    obtain ⟨p, hnp⟩ : ∃ n, n = w2.heap.size := ⟨_, rfl⟩
    generalize w2.alloc _ = W2s at Pp B2s G3 ⊢
    rw [← hnp] at Pp ⊢
    clear hnp
    obtain ⟨c0, c1, c2, c3⟩ := G3.out.all
    have hb := Pp.out
    go_wp2_with (first | (refine ic_ld (by rfl) (.tmp 3) rfl p rfl _ hb ?_) | (refine ic_eq (by rfl) (.tmp 30) (.tmp 31) _ rfl icZ icZ rfl rfl true hq ?_))
    go_ret
    exact ⟨rfl, B2s.out⟩
  · have h1 : (f.kd == 8) = false := by simpa using hk
    clear hk h
    go_enter Try.func8, Try.ntmps8
    go_upto_region 1 with fail
    have F1 : Hid (IcAt (w.alloc (.cells (icC f) 49)) w.heap.size f) := Lib.hid (ic_new w _ f rfl)
    have BL : Hid (Below w.heap.size w (w.alloc (.cells (icC f) 49))) := Lib.hid ((Below.refl _ _).alloc (Nat.le_refl _) _)
    obtain ⟨n, hn⟩ : ∃ n, n = w.heap.size := ⟨_, rfl⟩
    generalize w.alloc _ = W1 at F1 BL ⊢
    rw [← hn] at F1 ⊢
    clear hn
    go_wp2_with fail
    refine (awakeI _).mono ?_
    rintro e w1 ⟨rfl, b1⟩
    have G1 := Lib.hid (F1.out.grow b1)
    have B1 := bstep BL b1
    clear b1 F1 BL
    have c3 := G1.out.da
    have hp := G1.out
    go_wp2_with (first | (refine ic_ld (by rfl) (.tmp 1) rfl n rfl _ hp ?_))
    refine (k1.out _).mono ?_
    rintro e w2 ⟨rfl, b2⟩
    have B2 := bstep B1 b2
    have G2 := Lib.hid (G1.out.grow b2)
    clear b2 G1
    clear hp c3
    have hst := ic_store w2 icZ
    go_upto_region 6 with (refine wpList_storeW 49 (.tmp 3) (.tmp 16) rfl rfl (.agg (icC icZ)) w2.heap.size rfl rfl hst ?_)
    try simp only [Act.put]
    have Pp : Hid (IcAt (w2.alloc (.cells (icC icZ) 49)) w2.heap.size icZ) := Lib.hid (ic_new _ _ _ rfl)
    have B2s := bstep B2 ((Below.refl w2.heap.size w2).alloc (Nat.le_refl _) (.cells (icC icZ) 49))
    have G3 := Lib.hid (G2.out.grow ((Below.refl w2.heap.size w2).alloc (Nat.le_refl _) (.cells (icC icZ) 49)))
    clear hst G2
    obtain ⟨p, hnp⟩ : ∃ n, n = w2.heap.size := ⟨_, rfl⟩
    generalize w2.alloc _ = W2s at Pp B2s G3 ⊢
    rw [← hnp] at Pp ⊢
    clear hnp
    obtain ⟨c0, c1, c2, c3⟩ := G3.out.all
    have hb := Pp.out
    go_wp2_with (first | (refine ic_ld (by rfl) (.tmp 3) rfl p rfl _ hb ?_) | (refine ic_eq (by rfl) (.tmp 30) (.tmp 31) _ rfl icZ icZ rfl rfl true hq ?_))
    go_ret
    exact ⟨rfl, B2s.out⟩
set_option maxRecDepth 100000 in
set_option maxHeartbeats 4000000 in
theorem walk_yes (f : Ic) (hz : f.da.size ≤ 2000) (h : ecB f = true) (Q : Ic) (hQ : Q = ⟨0, 0, f.re, f.da⟩) (w : World) :
    Calls Try.prog 8 #[.agg (icC f)] w fun e w' => e = .returned (.bool true) ∧ Below w.heap.size w w' := by
  have k1 := Lib.hid (fun w => icEcho_any w f)
  rw [show ecC f = Q by rw [ecC, if_pos h, hQ], h] at k1
  obtain ⟨g1, g2⟩ : f.kd = 8 ∧ f.co = 0 := of_decide_eq_true h
  have h1 : (f.kd == 8) = true := by simp [g1]
  have h2 : (f.co == 0) = true := by simp [g2]
  have k2 := Lib.hid (fun w => icEcho_any w Q)
  have hQ0 : Q.kd = 0 := by rw [hQ]
  rw [show ecB Q = false from decide_eq_false (fun e => by rw [hQ0] at e; exact absurd e.1 (by decide)), show ecC Q = icZ by rw [ecC, if_neg (by rw [show ecB Q = false from decide_eq_false (fun e => by rw [hQ0] at e; exact absurd e.1 (by decide))]; decide)]] at k2
  have q0 : (Q.kd == 0) = true := by rw [hQ]; rfl
  have q1 : (Q.co == 0) = true := by rw [hQ]; rfl
  have q2 : (Q.re == f.re) = true := by rw [hQ]; simp
  have q3 : (Q.da.toList == f.da.toList) = true := by rw [hQ]; simp
  clear g1 g2 hQ hQ0 h
  go_enter Try.func8, Try.ntmps8
  go_upto_region 1 with fail
  have F1 : Hid (IcAt (w.alloc (.cells (icC f) 49)) w.heap.size f) := Lib.hid (ic_new w _ f rfl)
  have BL : Hid (Below w.heap.size w (w.alloc (.cells (icC f) 49))) := Lib.hid ((Below.refl _ _).alloc (Nat.le_refl _) _)
  obtain ⟨n, hn⟩ : ∃ n, n = w.heap.size := ⟨_, rfl⟩
  generalize w.alloc _ = W1 at F1 BL ⊢
  rw [← hn] at F1 ⊢
  clear hn
  go_wp2_with fail
  refine (awakeI _).mono ?_
  rintro e w1 ⟨rfl, b1⟩
  have G1 := Lib.hid (F1.out.grow b1)
  have B1 := bstep BL b1
  clear b1 F1 BL
  have c3 := G1.out.da
  have hp := G1.out
  go_wp2_with (first | (refine ic_ld (by rfl) (.tmp 1) rfl n rfl _ hp ?_))
  refine (k1.out _).mono ?_
  rintro e w2 ⟨rfl, b2⟩
  have B2 := bstep B1 b2
  have G2 := Lib.hid (G1.out.grow b2)
  clear b2 G1
  clear hp c3
  have hst := ic_store w2 Q
  go_upto_region 6 with (refine wpList_storeW 49 (.tmp 3) (.tmp 16) rfl rfl (.agg (icC Q)) w2.heap.size rfl rfl hst ?_)
  try simp only [Act.put]
  have Pp : Hid (IcAt (w2.alloc (.cells (icC Q) 49)) w2.heap.size Q) := Lib.hid (ic_new _ _ _ rfl)
  have B2s := bstep B2 ((Below.refl w2.heap.size w2).alloc (Nat.le_refl _) (.cells (icC Q) 49))
  have G3 := Lib.hid (G2.out.grow ((Below.refl w2.heap.size w2).alloc (Nat.le_refl _) (.cells (icC Q) 49)))
  clear hst G2
  obtain ⟨p, hnp⟩ : ∃ n, n = w2.heap.size := ⟨_, rfl⟩
  generalize w2.alloc _ = W2s at Pp B2s G3 ⊢
  rw [← hnp] at Pp ⊢
  clear hnp
  obtain ⟨c0, c1, c2, c3⟩ := G3.out.all
  have hb := Pp.out
  go_wp2_with (first | (refine ic_ld (by rfl) (.tmp 3) rfl p rfl _ hb ?_))
  refine (k2.out _).mono ?_
  rintro e w4 ⟨rfl, b4⟩
  have B4 := bstep B2s b4
  have P4 := Lib.hid (Pp.out.grow b4)
  have G4 := Lib.hid (G3.out.grow b4)
  clear b4 Pp G3
  clear hb c0 c1 c2 c3
  have hst := ic_store w4 icZ
  go_upto_region 11 with (refine wpList_storeW 49 (.tmp 5) (.tmp 36) rfl rfl (.agg (icC icZ)) w4.heap.size rfl rfl hst ?_)
  try simp only [Act.put]
  have Pq : Hid (IcAt (w4.alloc (.cells (icC icZ) 49)) w4.heap.size icZ) := Lib.hid (ic_new _ _ _ rfl)
  have B4s := bstep B4 ((Below.refl w4.heap.size w4).alloc (Nat.le_refl _) (.cells (icC icZ) 49))
  have P5 := Lib.hid (P4.out.grow ((Below.refl w4.heap.size w4).alloc (Nat.le_refl _) (.cells (icC icZ) 49)))
  have G5 := Lib.hid (G4.out.grow ((Below.refl w4.heap.size w4).alloc (Nat.le_refl _) (.cells (icC icZ) 49)))
  clear hst P4 G4
  obtain ⟨q, hnq⟩ : ∃ n, n = w4.heap.size := ⟨_, rfl⟩
  generalize w4.alloc _ = W4s at Pq B4s P5 G5 ⊢
  rw [← hnq] at Pq ⊢
  clear hnq
  obtain ⟨c0, c1, c2, c3⟩ := G5.out.all
  obtain ⟨d0, d1, d2, d3⟩ := P5.out.all
  clear h1 h2
  go_wp2_with fail
  go_ret
  exact ⟨rfl, B4s.out⟩
theorem walk (f : Ic) (w0 : f.ok) (w : World) :
    Calls Try.prog 8 #[.agg (icC f)] w fun e w' => e = .returned (.bool true) ∧ Below w.heap.size w w' := by
  have m0 : f.da.size ≤ 9223372036854775807 := by have := w0.2.2.2; unfold maxLen at this; omega
  by_cases h1 : 2000 < f.da.size
  · exact walk_long f m0 h1 w
  cases h : ecB f with
  | false => exact walk_no f (by omega) h w
  | true => exact walk_yes f (by omega) h _ rfl w

set_option maxRecDepth 100000 in
theorem lifted (os : Os) (started : os.Started) (H : Type) (enc : TypeId × Value → H) :
    ReturnsInHanded {} Try.checked os 8 .any (Rows.icmpEchoSpec.pre6 enc Try.prog Try.f8 Rows.icmpEchoRow.domain false) (Rows.icmpEchoSpec.post enc Try.prog Try.f8 false true false false) := by
  refine returnsInHanded_of_change (C := Try.checked) own started (by kernel_rfl) Try.func8
    (ChangeSpec.witness6 (enc := enc) (C := Try.checked) false ⟨#[], #[.agg #[.int .i64 0, .int .i64 0, .int .u32 0, .string ByteArray.empty]], []⟩ 8 (by kernel_rfl) (by kernel_rfl) (by kernel_rfl) (by kernel_rfl)) ?_
  intro W base args ds gs before hval0 hW hcnd _
  have hval : ∀ (j : Nat) t v, Try.f8.params[j]? = some t → args[j]? = some v → Value.okWide Try.prog W .any base t v := hval0
  have hW' := hW
  obtain ⟨p, q, hA0, hV, rfl, hfz, hnd⟩ := hW
  have hA : DataW.TrodAll enc Try.prog W 0 (fun _ => true) true Try.f8.params.toList args.toList ds p := hA0
  rw [Try.params8] at hA hval
  obtain ⟨v0, vs0, d0, ds0, p0, q0, hargs, rfl, rfl, h0, r0⟩ := trodAll_cons hA
  obtain ⟨rfl, rfl, rfl⟩ := trodAll_nil r0
  obtain rfl : args = #[v0] := by cases args; simp_all
  obtain ⟨rfl, rfl⟩ := trodVars_none hV
  obtain ⟨a0, rfl, w0⟩ := open_icmp (hval 0 49 v0 rfl rfl) h0
  have k0 := h0
  have lt0 : ∀ x ∈ p0, x.block < W.heap.size := by obtain ⟨m, hm⟩ := k0; exact DataW.trod_lt m _ _ _ hm
  clear hA0 hval0
  refine (walk a0 w0 W).mono fun e W' ⟨he, bel⟩ => ?_
  subst he
  exact ⟨_, rfl, _, _, _, [], _, [], hW', trodAll_mk1 (shut_bool Try.underlying4 _), (trodAll_cons_mk (Below.trod laidOut (by kernel_rfl) (of_decide_eq_true (by kernel_rfl)) k0 bel lt0) trodAll_mk0), rfl, bel.frame _, fun h => by cases h⟩

/-- THE STATEMENT. -/
theorem proved : Rows.IcmpEchoSaid :=
  OpenClaim.holds_of_wide 8 Try.f8 rfl rfl rfl rfl rfl rfl rfl ⟨rfl, rfl, rfl, rfl, rfl⟩ rfl rfl rfl rfl rfl (by kernel_rfl) Try.func8 (by kernel_rfl)
    (of_decide_eq_true (by kernel_rfl)) (by unfold Func.isWrapper; first | (rw [if_pos (by decide +kernel)]; kernel_rfl) | (rw [if_neg (by decide +kernel)]; exact ⟨rfl, rfl⟩))
    (fun os started H enc _ => lifted os started H enc)
#print axioms proved

end Go.Proofs.Ytapfkhhabamndaa.ico
