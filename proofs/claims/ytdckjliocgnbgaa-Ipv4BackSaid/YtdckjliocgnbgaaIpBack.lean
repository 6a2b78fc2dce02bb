/-
  Ipv4Back: what has bytes is read from them, whatever stands behind; the sum of the head is 0. Conditions: more than 3000 bytes of data, or more than 1000 behind, are not asked about, as the statement says.
-/
import Derived.Test.YtdckjliocgnbgaaIpK
import Derived.ProofKit
import Derived.OpenShut
import Derived.ShutString
import Derived.ChangeOld
import Derived.Below
namespace Go.Proofs.Ytdckjliocgnbgaa.iba
open Go.ChangeShapes Go.WideShapes Go.ChangeAt Go.RowKit
open Go.ChangeMaps (open_string shut_string)
set_option linter.unusedVariables false

set_option maxRecDepth 100000 in
set_option maxHeartbeats 4000000 in
theorem walk_long (f : Pd) (hf : f.ok) (b : ByteArray) (hm : f.da.size ≤ 9223372036854775807) (hb : b.size ≤ 9223372036854775807) (h : 3000 < f.da.size ∨ (f.da.size ≤ 3000 ∧ 1000 < b.size)) (w : World) :
    Calls Try.prog 9 #[.agg (pdC f), .string b] w fun e w' => e = .returned (.bool true) ∧ Below w.heap.size w w' := by
  rcases h with h | ⟨h, h2⟩
  all_goals
    go_enter Try.func9, Try.ntmps9
    go_upto_region 1 with fail
    have F1 : Hid (PdAt (w.alloc (.cells (pdC f) 29)) w.heap.size f) := Lib.hid (pd_new w _ f rfl)
    have BL : Hid (Below w.heap.size w (w.alloc (.cells (pdC f) 29))) := Lib.hid ((Below.refl _ _).alloc (Nat.le_refl _) _)
    obtain ⟨n, hn⟩ : ∃ n, n = w.heap.size := ⟨_, rfl⟩
    generalize w.alloc _ = W1 at F1 BL ⊢
    rw [← hn] at F1 ⊢
    clear hn
    go_wp2_with fail
    refine (awakeD _).mono ?_
    rintro e w1 ⟨rfl, b1⟩
    have G1 := Lib.hid (F1.out.grow b1)
    have B1 := bstep BL b1
    clear b1 F1 BL
    have c13 := G1.out.da
    go_wp2_with fail
    go_ret
    exact ⟨rfl, B1.out⟩

set_option maxRecDepth 100000 in
set_option maxHeartbeats 4000000 in
theorem walk_bad (f : Pd) (hf : f.ok) (b : ByteArray) (hz : f.da.size ≤ 3000) (hb : b.size ≤ 1000) (E : Int) (hE : pdE f = E) (h0 : ¬ E = 0) (w : World) :
    Calls Try.prog 9 #[.agg (pdC f), .string b] w fun e w' => e = .returned (.bool true) ∧ Below w.heap.size w w' := by
  have kB := Lib.hid (fun w => pdBytes_any w f (by omega))
  rw [show pdS f = ⟨#[]⟩ by rw [pdS, hE, if_neg h0], hE] at kB
  have hx : (E != 0) = true := by simpa using h0
  clear h0 hE
  go_enter Try.func9, Try.ntmps9
  go_upto_region 1 with fail
  have F1 : Hid (PdAt (w.alloc (.cells (pdC f) 29)) w.heap.size f) := Lib.hid (pd_new w _ f rfl)
  have BL : Hid (Below w.heap.size w (w.alloc (.cells (pdC f) 29))) := Lib.hid ((Below.refl _ _).alloc (Nat.le_refl _) _)
  obtain ⟨n, hn⟩ : ∃ n, n = w.heap.size := ⟨_, rfl⟩
  generalize w.alloc _ = W1 at F1 BL ⊢
  rw [← hn] at F1 ⊢
  clear hn
  go_wp2_with fail
  refine (awakeD _).mono ?_
  rintro e w1 ⟨rfl, b1⟩
  have G1 := Lib.hid (F1.out.grow b1)
  have B1 := bstep BL b1
  clear b1 F1 BL
  have c13 := G1.out.da
  have hp := G1.out
  go_wp2_with (refine pd_ld (by rfl) _ rfl n rfl _ hp ?_)
  refine (kB.out _).mono ?_
  rintro e w2 ⟨rfl, b2⟩
  have B2 := bstep B1 b2
  go_wp2_with fail
  go_ret
  exact ⟨rfl, B2.out⟩

set_option maxRecDepth 100000 in
set_option maxHeartbeats 4000000 in
theorem walk_main (f : Pd) (hf : f.ok) (b : ByteArray) (hz : f.da.size ≤ 3000) (hb : b.size ≤ 1000) (h0 : pdE f = 0) (w : World) :
    Calls Try.prog 9 #[.agg (pdC f), .string b] w fun e w' => e = .returned (.bool true) ∧ Below w.heap.size w w' := by
  have kB := Lib.hid (fun w => pdBytes_any w f (by omega))
  obtain ⟨S, hS⟩ : ∃ S, pdS f = S := ⟨_, rfl⟩
  obtain ⟨d, hd⟩ : ∃ d, d = f.da.size := ⟨_, rfl⟩
  rw [hS, h0] at kB
  have zS : S.size = 20 + d := by rw [← hS, hd]; exact pdS_size h0
  have hl : S.data.toList = hdL f ++ f.da.data.toList := by rw [← hS]; exact pdS_list h0
  have kS : Hid (∀ w, Calls Try.prog 18 #[.string (S.extract 0 20)] w fun e w' => e = .returned (.int .i64 ((0 : Nat) : Int)) ∧ Below w.heap.size w w') := Lib.hid (fun w => by
    have := Sum_any w (S.extract 0 20) (by rw [ByteArray.size_extract]; omega)
    rw [extract_take, hl, List.take_append_of_le_length (by rw [hdL_length]; exact Nat.le_refl _), List.take_of_length_le (by rw [hdL_length]; exact Nat.le_refl _), hdL_sum] at this
    exact this)
  have kR : Hid (∀ w, Calls Try.prog 22 #[.string (S ++ b)] w fun e w' => e = .returned (.tuple #[.agg (pdC f), .int .i64 0]) ∧ Below w.heap.size w w') := Lib.hid (fun w => by
    have := pdRead_any w (S ++ b) (by rw [ByteArray.size_append, zS]; omega)
    obtain ⟨r1, r2⟩ := read_back8 f h0 b
    rw [hS] at r1 r2
    rw [r1, r2] at this
    exact this)
  obtain ⟨m, hm⟩ : ∃ m, m = 19 + d := ⟨_, rfl⟩
  have kC : Hid (∀ w, Calls Try.prog 22 #[.string (S.extract 0 m)] w fun e w' => e = .returned (.tuple #[.agg (pdC pdZ), .int .i64 7]) ∧ Below w.heap.size w w') := Lib.hid (fun w => by
    have := pdRead_any w (S.extract 0 m) (by rw [ByteArray.size_extract]; omega)
    have r2 := read_cut8 f h0
    rw [hS, ← hd, ← hm] at r2
    rw [rqP, r2, if_neg (by decide)] at this
    exact this)
  have e1 : (S.size : Int) - 1 = (m : Int) := by omega
  have e2 : ((S.size : Int) != 20 + (f.da.size : Int)) = false := by simp; omega
  have e3 : ¬ 9223372036854775807 < S.size + b.size := by omega
  have e4 : 20 ≤ S.size := by omega
  have e5 : m ≤ S.size := by omega
  have e6 : S.size ≤ 4000 := by omega
  have hq := eqld f f hf hf true (decide_eq_true rfl)
  clear hS hd zS hl h0 hm
  go_enter Try.func9, Try.ntmps9
  go_upto_region 1 with fail
  have F1 : Hid (PdAt (w.alloc (.cells (pdC f) 29)) w.heap.size f) := Lib.hid (pd_new w _ f rfl)
  have BL : Hid (Below w.heap.size w (w.alloc (.cells (pdC f) 29))) := Lib.hid ((Below.refl _ _).alloc (Nat.le_refl _) _)
  obtain ⟨n, hn⟩ : ∃ n, n = w.heap.size := ⟨_, rfl⟩
  generalize w.alloc _ = W1 at F1 BL ⊢
  rw [← hn] at F1 ⊢
  clear hn
  go_wp2_with fail
  refine (awakeD _).mono ?_
  rintro e w1 ⟨rfl, b1⟩
  have G1 := Lib.hid (F1.out.grow b1)
  have B1 := bstep BL b1
  clear b1 F1 BL
  have c13 := G1.out.da
  have hp := G1.out
  go_wp2_with (refine pd_ld (by rfl) _ rfl n rfl _ hp ?_)
  refine (kB.out _).mono ?_
  rintro e w2 ⟨rfl, b2⟩
  have B2 := bstep B1 b2
  have G2 := Lib.hid (G1.out.grow b2)
  clear b2 B1 G1 hp c13
  have c13 := G2.out.da
  go_wp2_with fail
  refine (kS.out _).mono ?_
  rintro e w3 ⟨rfl, b3⟩
  have B3 := bstep B2 b3
  have G3 := Lib.hid (G2.out.grow b3)
  clear b3 B2 G2 c13
  go_wp2_with fail
  refine (kR.out _).mono ?_
  rintro e w4 ⟨rfl, b4⟩
  have B4 := bstep B3 b4
  have G4 := Lib.hid (G3.out.grow b4)
  clear b4 B3 G3
  have hst := pd_storeZ w4 f
  go_upto_region 11 with (refine wpList_storeW 29 _ _ rfl rfl _ w4.heap.size rfl rfl hst ?_)
  have P5 : Hid (PdAt (w4.alloc (.cells (pdC f) 29)) w4.heap.size f) := Lib.hid (pd_new _ _ _ rfl)
  have B5 := bstep B4 ((Below.refl w4.heap.size w4).alloc (Nat.le_refl _) (.cells (pdC f) 29))
  have G5 := Lib.hid (G4.out.grow ((Below.refl w4.heap.size w4).alloc (Nat.le_refl _) (.cells (pdC f) 29)))
  clear hst B4 G4
  obtain ⟨k, hk⟩ : ∃ k, k = w4.heap.size := ⟨_, rfl⟩
  generalize w4.alloc _ = W5 at P5 B5 G5 ⊢
  rw [← hk] at P5 ⊢
  clear hk
  go_wp2_with fail
  refine (kC.out _).mono ?_
  rintro e w6 ⟨rfl, b6⟩
  have B6 := bstep B5 b6
  have G6 := Lib.hid (G5.out.grow b6)
  have P6 := Lib.hid (P5.out.grow b6)
  clear b6 B5 G5 P5
  have hst := pd_storeZ w6 pdZ
  go_upto_region 12 with (refine wpList_storeW 29 _ _ rfl rfl _ w6.heap.size rfl rfl hst ?_)
  have B7 := bstep B6 ((Below.refl w6.heap.size w6).alloc (Nat.le_refl _) (.cells (pdC pdZ) 29))
  have G7 := Lib.hid (G6.out.grow ((Below.refl w6.heap.size w6).alloc (Nat.le_refl _) (.cells (pdC pdZ) 29)))
  have P7 := Lib.hid (P6.out.grow ((Below.refl w6.heap.size w6).alloc (Nat.le_refl _) (.cells (pdC pdZ) 29)))
  clear hst B6 G6 P6
  generalize w6.alloc _ = W7 at P7 B7 G7 ⊢
  have ha := G7.out
  have hz := P7.out
  go_wp2_with (first | (refine pd_ld (by rfl) _ rfl k rfl _ hz ?_) | (refine pd_ld (by rfl) _ rfl n rfl _ ha ?_) | (refine pd_eq (by rfl) _ _ _ rfl f f rfl rfl true hq ?_))
  go_ret
  exact ⟨rfl, B7.out⟩

theorem walk (f : Pd) (b : ByteArray) (w0 : f.ok) (w1 : b.size ≤ maxLen) (w : World) :
    Calls Try.prog 9 #[.agg (pdC f), .string b] w fun e w' => e = .returned (.bool true) ∧ Below w.heap.size w w' := by
  have m0 : f.da.size ≤ 9223372036854775807 := by have := w0.2.2.2.2; unfold maxLen at this; omega
  have m1 : b.size ≤ 9223372036854775807 := by unfold maxLen at w1; omega
  by_cases h1 : 3000 < f.da.size
  · exact walk_long f w0 b m0 m1 (.inl h1) w
  by_cases h2 : 1000 < b.size
  · exact walk_long f w0 b m0 m1 (.inr ⟨by omega, h2⟩) w
  by_cases h0 : pdE f = 0
  · exact walk_main f w0 b (by omega) (by omega) h0 w
  · exact walk_bad f w0 b (by omega) (by omega) _ rfl h0 w

set_option maxRecDepth 100000 in
theorem lifted (os : Os) (started : os.Started) (H : Type) (enc : TypeId × Value → H) :
    ReturnsInHanded {} Try.checked os 9 .any (Rows.ipv4BackSpec.pre6 enc Try.prog Try.f9 Rows.ipv4BackRow.domain false) (Rows.ipv4BackSpec.post enc Try.prog Try.f9 false true false false) := by
  refine returnsInHanded_of_change (C := Try.checked) own started (by kernel_rfl) Try.func9
    (ChangeSpec.witness6 (enc := enc) (C := Try.checked) false ⟨#[], #[.agg #[.int .i64 0, .int .u8 0, .int .u8 0, .int .u8 0, .int .u8 0, .int .u8 0, .int .u8 0, .int .u8 0, .int .u8 0, .int .i64 0, .int .i64 0, .int .i64 0, .bool false, .string ByteArray.empty], .string ByteArray.empty], []⟩ 8 (by kernel_rfl) (by kernel_rfl) (by kernel_rfl) (by kernel_rfl)) ?_
  intro W base args ds gs before hval0 hW hcnd _
  have hval : ∀ (j : Nat) t v, Try.f9.params[j]? = some t → args[j]? = some v → Value.okWide Try.prog W .any base t v := hval0
  have hW' := hW
  obtain ⟨p, q, hA0, hV, rfl, hfz, hnd⟩ := hW
  have hA : DataW.TrodAll enc Try.prog W 0 (fun _ => true) true Try.f9.params.toList args.toList ds p := hA0
  rw [Try.params9] at hA hval
  obtain ⟨v0, vs0, d0, ds0, p0, q0, hargs, rfl, rfl, h0, r0⟩ := trodAll_cons hA
  obtain ⟨v1, vs1, d1, ds1, p1, q1, rfl, rfl, rfl, h1, r1⟩ := trodAll_cons r0
  obtain ⟨rfl, rfl, rfl⟩ := trodAll_nil r1
  obtain rfl : args = #[v0, v1] := by cases args; simp_all
  obtain ⟨rfl, rfl⟩ := trodVars_none hV
  obtain ⟨a0, rfl, w0⟩ := open_packet (hval 0 29 v0 rfl rfl) h0
  have k0 := h0
  have lt0 : ∀ x ∈ p0, x.block < W.heap.size := by obtain ⟨m, hm⟩ := k0; exact DataW.trod_lt m _ _ _ hm
  obtain ⟨a1, rfl, rfl, rfl, w1⟩ := open_string Try.underlying9 (hval 1 9 v1 rfl rfl) h1
  clear hA0 hval0
  refine (walk a0 a1 w0 w1 W).mono fun e W' ⟨he, bel⟩ => ?_
  subst he
  exact ⟨_, rfl, _, _, _, [], _, [], hW', trodAll_mk1 (shut_bool Try.underlying4 _), (trodAll_cons_mk (Below.trod laidOut (by kernel_rfl) (of_decide_eq_true (by kernel_rfl)) k0 bel lt0) (trodAll_cons_mk (shut_string Try.underlying9 w1) trodAll_mk0)), rfl, bel.frame _, fun h => by cases h⟩

/-- THE STATEMENT. -/
theorem proved : Rows.Ipv4BackSaid :=
  OpenClaim.holds_of_wide 9 Try.f9 rfl rfl rfl rfl rfl rfl rfl ⟨rfl, rfl, rfl, rfl, rfl⟩ rfl rfl rfl rfl rfl (by kernel_rfl) Try.func9 (by kernel_rfl)
    (of_decide_eq_true (by kernel_rfl)) (by unfold Func.isWrapper; first | (rw [if_pos (by decide +kernel)]; kernel_rfl) | (rw [if_neg (by decide +kernel)]; exact ⟨rfl, rfl⟩))
    (fun os started H enc _ => lifted os started H enc)
#print axioms proved

end Go.Proofs.Ytdckjliocgnbgaa.iba
