/-
  IcmpBack: what has bytes is read from them; the sum of them is 0; what is read has bytes that are read as it again. Conditions: more than 2000 bytes of data, or of text, are not asked about, as the statement says.
-/
import Derived.Test.YtapfkhhabamndaaIcE
import Derived.BigQuiet
import Derived.ProofKit
import Derived.OpenShut
import Derived.ShutString
import Derived.ChangeOld
import Derived.Below
namespace Go.Proofs.Ytapfkhhabamndaa.icb
open Go.ChangeShapes Go.WideShapes Go.ChangeAt Go.RowKit
open Go.ChangeMaps (open_string shut_string)
set_option linter.unusedVariables false

set_option maxRecDepth 100000 in
set_option maxHeartbeats 4000000 in
theorem walk_long (f : Ic) (s : ByteArray) (hm : f.da.size ≤ 9223372036854775807) (hb : s.size ≤ 9223372036854775807) (h : 2000 < f.da.size ∨ (f.da.size ≤ 2000 ∧ 2000 < s.size)) (w : World) :
    Calls Try.prog 7 #[.agg (icC f), .string s] w fun e w' => e = .returned (.bool true) ∧ Below w.heap.size w w' := by
  rcases h with h | ⟨h, h2⟩
  all_goals
    go_enter Try.func7, Try.ntmps7
    go_upto_region 1 with fail
    have F1 : Hid (IcAt (w.alloc (.cells (icC f) 49)) w.heap.size f) := Lib.hid (ic_new w _ f rfl)
    have BL : Hid (Below w.heap.size w (w.alloc (.cells (icC f) 49))) := Lib.hid ((Below.refl _ _).alloc (Nat.le_refl _) _)
    obtain ⟨n, hn⟩ : ∃ n, n = w.heap.size := ⟨_, rfl⟩
    generalize w.alloc _ = W1 at F1 BL ⊢
    rw [← hn] at F1 ⊢
    clear hn
    go_wp2_with fail
    refine (awakeI _).mono ?_
    rintro e w1 ⟨rfl, b1⟩
    have G1 := Lib.hid (F1.out.grow b1)
    have B1 := bstep BL b1
    clear b1 F1 BL
    have c3 := G1.out.da
    go_wp2_with fail
    go_ret
    exact ⟨rfl, B1.out⟩
set_option maxRecDepth 100000 in
set_option maxHeartbeats 4000000 in
theorem walk_bad (f : Ic) (hf : f.ok) (s : ByteArray) (hz : f.da.size ≤ 2000) (hs : s.size ≤ 2000) (h0 : ¬ icE f = 0) (X : Ic) (hXe : X = irP s) (w : World) :
    Calls Try.prog 7 #[.agg (icC f), .string s] w fun e w' => e = .returned (.bool true) ∧ Below w.heap.size w w' := by
  have hX : X.ok := by rw [hXe]; exact irP_ok s (by unfold maxLen; omega)
  have k3 := Lib.hid (fun w => icRead_any w s (by omega))
  rw [← hXe] at k3
  have k1 := Lib.hid (fun w => icBytes_any w f hf (by omega))
  have hy : (icE f == 0) = false := by simpa using h0
  generalize icS f = T at k1
  generalize icE f = E1 at k1 hy
  clear h0
  go_enter Try.func7, Try.ntmps7
  go_upto_region 1 with fail
  have F1 : Hid (IcAt (w.alloc (.cells (icC f) 49)) w.heap.size f) := Lib.hid (ic_new w _ f rfl)
  have BL : Hid (Below w.heap.size w (w.alloc (.cells (icC f) 49))) := Lib.hid ((Below.refl _ _).alloc (Nat.le_refl _) _)
  obtain ⟨n, hn⟩ : ∃ n, n = w.heap.size := ⟨_, rfl⟩
  generalize w.alloc _ = W1 at F1 BL ⊢
  rw [← hn] at F1 ⊢
  clear hn
  go_wp2_with fail
  refine (awakeI _).mono ?_
  rintro e w1 ⟨rfl, b1⟩
  have G1 := Lib.hid (F1.out.grow b1)
  have B1 := bstep BL b1
  clear b1 F1 BL
  have c3 := G1.out.da
  have hp := G1.out
  go_wp2_with (first | (refine ic_ld (by rfl) (.tmp 2) rfl n rfl _ hp ?_))
  refine (k1.out _).mono ?_
  rintro e w2 ⟨rfl, b2⟩
  have B2 := bstep B1 b2
  clear b2
  clear hp c3 G1
  go_upto_region 10 with fail
  clear hy
  by_cases hE : irE s = 0
  case neg =>
    have hx : (irE s != 0) = true := by simpa using hE
    have hXz : X = icZ := by rw [hXe, irP, if_neg hE]
    subst hXz
    have hq := eqli icZ icZ icZ_ok icZ_ok true (decide_eq_true rfl)
    generalize irE s = E at k3 hx
    clear hE hXe
    go_wp2_with fail
    refine (k3.out _).mono ?_
    rintro e w3 ⟨rfl, b3⟩
    have B3 := bstep B2 b3
    clear b3
    have hst := ic_store w3 icZ
    go_upto_region 11 with (refine wpList_storeW 49 (.tmp 9) (.tmp 62) rfl rfl (.agg (icC icZ)) w3.heap.size rfl rfl hst ?_)
    try simp only [Act.put]
    have Pp : Hid (IcAt (w3.alloc (.cells (icC icZ) 49)) w3.heap.size icZ) := Lib.hid (ic_new _ _ _ rfl)
    have B3s := bstep B3 ((Below.refl w3.heap.size w3).alloc (Nat.le_refl _) (.cells (icC icZ) 49))
    clear hst
    obtain ⟨p, hnp⟩ : ∃ n, n = w3.heap.size := ⟨_, rfl⟩
    generalize w3.alloc _ = W3s at Pp B3s ⊢
    rw [← hnp] at Pp ⊢
    clear hnp
    have ha := Pp.out
    go_wp2_with (first | (refine ic_ld (by rfl) (.tmp 9) rfl p rfl _ ha ?_) | (refine ic_eq (by rfl) (.tmp 66) (.tmp 67) _ rfl icZ icZ rfl rfl true hq ?_))
    go_ret
    exact ⟨rfl, B3s.out⟩
  have hXq : X = irQ s := by rw [hXe, irP, if_pos hE]
  obtain ⟨y1, y2, y3, y4⟩ := read_same s hE
  rw [← hXq] at y1 y2 y3 y4
  have k4 := Lib.hid (fun w => icBytes_any w X hX (by obtain ⟨_, z⟩ := icE_zero.1 y1; omega))
  rw [y1] at k4
  have k5 := Lib.hid (fun w => icRead_any w (icS X) (by rw [y2]; omega))
  obtain ⟨r1, r2⟩ := read_back9 X hX y1
  rw [r1, r2] at k5
  obtain ⟨z1, -, -⟩ := irE_zero.1 hE
  rw [hE] at k3
  have hq := eqli X X hX hX true (decide_eq_true rfl)
  generalize icS X = S at k4 k5 y2 y3 y4
  have f1 : ((S.size : Int) == (s.size : Int)) = true := by simp; omega
  have f2 : ((S.extract 4 S.size).toList == (s.extract 4 s.size).toList) = true := by
    rw [ByteArray.toList_eq, ByteArray.toList_eq, drop_data, drop_data, y4]; simp
  have f3 : ((S.extract 0 2).toList == (s.extract 0 2).toList) = true := by
    rw [ByteArray.toList_eq, ByteArray.toList_eq, Lib.extract_data, Lib.extract_data, List.drop_zero, List.drop_zero, y3]; simp
  have f4 : ¬ (S.size : Int) < 4 := by omega
  have f5 : ¬ (s.size : Int) < 4 := by omega
  have f6 : ¬ (S.size : Int) < 2 := by omega
  have f7 : ¬ (s.size : Int) < 2 := by omega
  have f8 : 4 ≤ S.size := by omega
  have f9 : 4 ≤ s.size := by omega
  have g1 : 2 ≤ S.size := by omega
  have g2 : 2 ≤ s.size := by omega
  clear y1 y2 y3 y4 r1 r2 z1 hE hXq hXe
  go_wp2_with fail
  refine (k3.out _).mono ?_
  rintro e w3 ⟨rfl, b3⟩
  have B3 := bstep B2 b3
  clear b3
  have hst := ic_store w3 X
  go_upto_region 11 with (refine wpList_storeW 49 (.tmp 9) (.tmp 62) rfl rfl (.agg (icC X)) w3.heap.size rfl rfl hst ?_)
  try simp only [Act.put]
  have Pp : Hid (IcAt (w3.alloc (.cells (icC X) 49)) w3.heap.size X) := Lib.hid (ic_new _ _ _ rfl)
  have B3s := bstep B3 ((Below.refl w3.heap.size w3).alloc (Nat.le_refl _) (.cells (icC X) 49))
  clear hst
  obtain ⟨p, hnp⟩ : ∃ n, n = w3.heap.size := ⟨_, rfl⟩
  generalize w3.alloc _ = W3s at Pp B3s ⊢
  rw [← hnp] at Pp ⊢
  clear hnp
  have ha := Pp.out
  go_wp2_with (first | (refine ic_ld (by rfl) (.tmp 9) rfl p rfl _ ha ?_))
  refine (k4.out _).mono ?_
  rintro e w4 ⟨rfl, b4⟩
  have B4 := bstep B3s b4
  have Q1 := Lib.hid (Pp.out.grow b4)
  clear b4 Pp
  clear ha
  go_wp2_with fail
  refine (k5.out _).mono ?_
  rintro e w5 ⟨rfl, b5⟩
  have B5 := bstep B4 b5
  have Q2 := Lib.hid (Q1.out.grow b5)
  clear b5 Q1
  have hst := ic_store w5 X
  go_upto_region 15 with (refine wpList_storeW 49 (.tmp 13) (.tmp 77) rfl rfl (.agg (icC X)) w5.heap.size rfl rfl hst ?_)
  try simp only [Act.put]
  have Pq : Hid (IcAt (w5.alloc (.cells (icC X) 49)) w5.heap.size X) := Lib.hid (ic_new _ _ _ rfl)
  have B5s := bstep B5 ((Below.refl w5.heap.size w5).alloc (Nat.le_refl _) (.cells (icC X) 49))
  have Q3 := Lib.hid (Q2.out.grow ((Below.refl w5.heap.size w5).alloc (Nat.le_refl _) (.cells (icC X) 49)))
  clear hst Q2
  obtain ⟨q, hnq⟩ : ∃ n, n = w5.heap.size := ⟨_, rfl⟩
  generalize w5.alloc _ = W5s at Pq B5s Q3 ⊢
  rw [← hnq] at Pq ⊢
  clear hnq
  obtain ⟨c0, c1, c2, c3⟩ := Q3.out.all
  obtain ⟨d0, d1, d2, d3⟩ := Pq.out.all
  have hq1 : ∀ w, (Op.equalIn 10000 49 (.agg #[.int .i64 X.kd, .int .i64 X.co, .int .u32 X.re, .string X.da]) (.agg #[.int .i64 X.kd, .int .i64 X.co, .int .u32 X.re, .string X.da])).run Try.prog w = .ok true w := hq
  clear k3 k4 k5 hq
  go_upto_region 15 with fail
  go_quiet (fail)
  go_wp2_with fail
  go_ret
  exact ⟨rfl, below_drewN B5s.out _⟩
set_option maxRecDepth 100000 in
set_option maxHeartbeats 4000000 in
theorem walk_main (f : Ic) (hf : f.ok) (s : ByteArray) (hz : f.da.size ≤ 2000) (hs : s.size ≤ 2000) (h0 : icE f = 0) (X : Ic) (hXe : X = irP s) (w : World) :
    Calls Try.prog 7 #[.agg (icC f), .string s] w fun e w' => e = .returned (.bool true) ∧ Below w.heap.size w w' := by
  have hX : X.ok := by rw [hXe]; exact irP_ok s (by unfold maxLen; omega)
  have k3 := Lib.hid (fun w => icRead_any w s (by omega))
  rw [← hXe] at k3
  have k1 := Lib.hid (fun w => icBytes_any w f hf (by omega))
  have k2 := Lib.hid (fun w => icRead_any w (icS f) (by rw [icS_size h0]; omega))
  obtain ⟨r1, r2⟩ := read_back9 f hf h0
  have k6 := Lib.hid (fun w => Sum_any w (icS f) (by rw [icS_size h0]; omega))
  rw [show sumT (icS f).data.toList = 0 by rw [icS_list h0]; exact icL_sum f] at k6
  rw [r1, r2] at k2
  rw [h0] at k1
  have zs := icS_size h0
  generalize icS f = T at k1 k2 k6 zs
  have hq0 := eqli f f hf hf true (decide_eq_true rfl)
  have t1 : ((T.size : Int) != 8 + (f.da.size : Int)) = false := by simp; omega
  clear r1 r2 h0 zs
  go_enter Try.func7, Try.ntmps7
  go_upto_region 1 with fail
  have F1 : Hid (IcAt (w.alloc (.cells (icC f) 49)) w.heap.size f) := Lib.hid (ic_new w _ f rfl)
  have BL : Hid (Below w.heap.size w (w.alloc (.cells (icC f) 49))) := Lib.hid ((Below.refl _ _).alloc (Nat.le_refl _) _)
  obtain ⟨n, hn⟩ : ∃ n, n = w.heap.size := ⟨_, rfl⟩
  generalize w.alloc _ = W1 at F1 BL ⊢
  rw [← hn] at F1 ⊢
  clear hn
  go_wp2_with fail
  refine (awakeI _).mono ?_
  rintro e w1 ⟨rfl, b1⟩
  have G1 := Lib.hid (F1.out.grow b1)
  have B1 := bstep BL b1
  clear b1 F1 BL
  have c3 := G1.out.da
  have hp := G1.out
  go_wp2_with (first | (refine ic_ld (by rfl) (.tmp 2) rfl n rfl _ hp ?_))
  refine (k1.out _).mono ?_
  rintro e w2 ⟨rfl, b2⟩
  have B2 := bstep B1 b2
  have G2 := Lib.hid (G1.out.grow b2)
  clear b2 G1
  clear hp c3
  go_wp2_with fail
  refine (k2.out _).mono ?_
  rintro e w3 ⟨rfl, b3⟩
  have B3 := bstep B2 b3
  have G3 := Lib.hid (G2.out.grow b3)
  clear b3 G2
  have hst := ic_store w3 f
  go_upto_region 8 with (refine wpList_storeW 49 (.tmp 7) (.tmp 36) rfl rfl (.agg (icC f)) w3.heap.size rfl rfl hst ?_)
  try simp only [Act.put]
  have Pu : Hid (IcAt (w3.alloc (.cells (icC f) 49)) w3.heap.size f) := Lib.hid (ic_new _ _ _ rfl)
  have B3s := bstep B3 ((Below.refl w3.heap.size w3).alloc (Nat.le_refl _) (.cells (icC f) 49))
  have G4 := Lib.hid (G3.out.grow ((Below.refl w3.heap.size w3).alloc (Nat.le_refl _) (.cells (icC f) 49)))
  clear hst G3
  obtain ⟨u, hnu⟩ : ∃ n, n = w3.heap.size := ⟨_, rfl⟩
  generalize w3.alloc _ = W3s at Pu B3s G4 ⊢
  rw [← hnu] at Pu ⊢
  clear hnu
  have ha := Pu.out
  have hb := G4.out
  go_wp2_with (first | (refine ic_ld (by rfl) (.tmp 7) rfl u rfl _ ha ?_) | (refine ic_ld (by rfl) (.tmp 2) rfl n rfl _ hb ?_) | (refine ic_neq (by rfl) (.tmp 41) (.tmp 42) _ rfl f f rfl rfl true hq0 ?_))
  refine (k6.out _).mono ?_
  rintro e w4 ⟨rfl, b4⟩
  have B4 := bstep B3s b4
  have G5 := Lib.hid (G4.out.grow b4)
  clear b4 G4
  clear ha hb Pu hq0
  have c3 := G5.out.da
  go_upto_region 10 with fail
  clear c3 t1 G5
  by_cases hE : irE s = 0
  case neg =>
    have hx : (irE s != 0) = true := by simpa using hE
    have hXz : X = icZ := by rw [hXe, irP, if_neg hE]
    subst hXz
    have hq := eqli icZ icZ icZ_ok icZ_ok true (decide_eq_true rfl)
    generalize irE s = E at k3 hx
    clear hE hXe
    go_wp2_with fail
    refine (k3.out _).mono ?_
    rintro e w5 ⟨rfl, b5⟩
    have B5 := bstep B4 b5
    clear b5
    have hst := ic_store w5 icZ
    go_upto_region 11 with (refine wpList_storeW 49 (.tmp 9) (.tmp 62) rfl rfl (.agg (icC icZ)) w5.heap.size rfl rfl hst ?_)
    try simp only [Act.put]
    have Pp : Hid (IcAt (w5.alloc (.cells (icC icZ) 49)) w5.heap.size icZ) := Lib.hid (ic_new _ _ _ rfl)
    have B5s := bstep B5 ((Below.refl w5.heap.size w5).alloc (Nat.le_refl _) (.cells (icC icZ) 49))
    clear hst
    obtain ⟨p, hnp⟩ : ∃ n, n = w5.heap.size := ⟨_, rfl⟩
    generalize w5.alloc _ = W5s at Pp B5s ⊢
    rw [← hnp] at Pp ⊢
    clear hnp
    have ha := Pp.out
    go_wp2_with (first | (refine ic_ld (by rfl) (.tmp 9) rfl p rfl _ ha ?_) | (refine ic_eq (by rfl) (.tmp 66) (.tmp 67) _ rfl icZ icZ rfl rfl true hq ?_))
    go_ret
    exact ⟨rfl, B5s.out⟩
  have hXq : X = irQ s := by rw [hXe, irP, if_pos hE]
  obtain ⟨y1, y2, y3, y4⟩ := read_same s hE
  rw [← hXq] at y1 y2 y3 y4
  have k4 := Lib.hid (fun w => icBytes_any w X hX (by obtain ⟨_, z⟩ := icE_zero.1 y1; omega))
  rw [y1] at k4
  have k5 := Lib.hid (fun w => icRead_any w (icS X) (by rw [y2]; omega))
  obtain ⟨r1, r2⟩ := read_back9 X hX y1
  rw [r1, r2] at k5
  obtain ⟨z1, -, -⟩ := irE_zero.1 hE
  rw [hE] at k3
  have hq := eqli X X hX hX true (decide_eq_true rfl)
  generalize icS X = S at k4 k5 y2 y3 y4
  have f1 : ((S.size : Int) == (s.size : Int)) = true := by simp; omega
  have f2 : ((S.extract 4 S.size).toList == (s.extract 4 s.size).toList) = true := by
    rw [ByteArray.toList_eq, ByteArray.toList_eq, drop_data, drop_data, y4]; simp
  have f3 : ((S.extract 0 2).toList == (s.extract 0 2).toList) = true := by
    rw [ByteArray.toList_eq, ByteArray.toList_eq, Lib.extract_data, Lib.extract_data, List.drop_zero, List.drop_zero, y3]; simp
  have f4 : ¬ (S.size : Int) < 4 := by omega
  have f5 : ¬ (s.size : Int) < 4 := by omega
  have f6 : ¬ (S.size : Int) < 2 := by omega
  have f7 : ¬ (s.size : Int) < 2 := by omega
  have f8 : 4 ≤ S.size := by omega
  have f9 : 4 ≤ s.size := by omega
  have g1 : 2 ≤ S.size := by omega
  have g2 : 2 ≤ s.size := by omega
  clear y1 y2 y3 y4 r1 r2 z1 hE hXq hXe
  go_wp2_with fail
  refine (k3.out _).mono ?_
  rintro e w5 ⟨rfl, b5⟩
  have B5 := bstep B4 b5
  clear b5
  have hst := ic_store w5 X
  go_upto_region 11 with (refine wpList_storeW 49 (.tmp 9) (.tmp 62) rfl rfl (.agg (icC X)) w5.heap.size rfl rfl hst ?_)
  try simp only [Act.put]
  have Pp : Hid (IcAt (w5.alloc (.cells (icC X) 49)) w5.heap.size X) := Lib.hid (ic_new _ _ _ rfl)
  have B5s := bstep B5 ((Below.refl w5.heap.size w5).alloc (Nat.le_refl _) (.cells (icC X) 49))
  clear hst
  obtain ⟨p, hnp⟩ : ∃ n, n = w5.heap.size := ⟨_, rfl⟩
  generalize w5.alloc _ = W5s at Pp B5s ⊢
  rw [← hnp] at Pp ⊢
  clear hnp
  have ha := Pp.out
  go_wp2_with (first | (refine ic_ld (by rfl) (.tmp 9) rfl p rfl _ ha ?_))
  refine (k4.out _).mono ?_
  rintro e w6 ⟨rfl, b6⟩
  have B6 := bstep B5s b6
  have Q1 := Lib.hid (Pp.out.grow b6)
  clear b6 Pp
  clear ha
  go_wp2_with fail
  refine (k5.out _).mono ?_
  rintro e w7 ⟨rfl, b7⟩
  have B7 := bstep B6 b7
  have Q2 := Lib.hid (Q1.out.grow b7)
  clear b7 Q1
  have hst := ic_store w7 X
  go_upto_region 15 with (refine wpList_storeW 49 (.tmp 13) (.tmp 77) rfl rfl (.agg (icC X)) w7.heap.size rfl rfl hst ?_)
  try simp only [Act.put]
  have Pq : Hid (IcAt (w7.alloc (.cells (icC X) 49)) w7.heap.size X) := Lib.hid (ic_new _ _ _ rfl)
  have B7s := bstep B7 ((Below.refl w7.heap.size w7).alloc (Nat.le_refl _) (.cells (icC X) 49))
  have Q3 := Lib.hid (Q2.out.grow ((Below.refl w7.heap.size w7).alloc (Nat.le_refl _) (.cells (icC X) 49)))
  clear hst Q2
  obtain ⟨q, hnq⟩ : ∃ n, n = w7.heap.size := ⟨_, rfl⟩
  generalize w7.alloc _ = W7s at Pq B7s Q3 ⊢
  rw [← hnq] at Pq ⊢
  clear hnq
  obtain ⟨c0, c1, c2, c3⟩ := Q3.out.all
  obtain ⟨d0, d1, d2, d3⟩ := Pq.out.all
  have hq1 : ∀ w, (Op.equalIn 10000 49 (.agg #[.int .i64 X.kd, .int .i64 X.co, .int .u32 X.re, .string X.da]) (.agg #[.int .i64 X.kd, .int .i64 X.co, .int .u32 X.re, .string X.da])).run Try.prog w = .ok true w := hq
  clear k3 k4 k5 hq
  go_upto_region 15 with fail
  go_quiet (fail)
  go_wp2_with fail
  go_ret
  exact ⟨rfl, below_drewN B7s.out _⟩
theorem walk (f : Ic) (s : ByteArray) (w0 : f.ok) (w1 : s.size ≤ maxLen) (w : World) :
    Calls Try.prog 7 #[.agg (icC f), .string s] w fun e w' => e = .returned (.bool true) ∧ Below w.heap.size w w' := by
  have m0 : f.da.size ≤ 9223372036854775807 := by have := w0.2.2.2; unfold maxLen at this; omega
  have m1 : s.size ≤ 9223372036854775807 := by unfold maxLen at w1; omega
  by_cases h1 : 2000 < f.da.size
  · exact walk_long f s m0 m1 (.inl h1) w
  by_cases h2 : 2000 < s.size
  · exact walk_long f s m0 m1 (.inr ⟨by omega, h2⟩) w
  by_cases h0 : icE f = 0
  · exact walk_main f w0 s (by omega) (by omega) h0 _ rfl w
  · exact walk_bad f w0 s (by omega) (by omega) h0 _ rfl w

set_option maxRecDepth 100000 in
theorem lifted (os : Os) (started : os.Started) (H : Type) (enc : TypeId × Value → H) :
    ReturnsInHanded {} Try.checked os 7 .any (Rows.icmpBackSpec.pre6 enc Try.prog Try.f7 Rows.icmpBackRow.domain false) (Rows.icmpBackSpec.post enc Try.prog Try.f7 false true false false) := by
  refine returnsInHanded_of_change (C := Try.checked) own started (by kernel_rfl) Try.func7
    (ChangeSpec.witness6 (enc := enc) (C := Try.checked) false ⟨#[], #[.agg #[.int .i64 0, .int .i64 0, .int .u32 0, .string ByteArray.empty], .string ByteArray.empty], []⟩ 8 (by kernel_rfl) (by kernel_rfl) (by kernel_rfl) (by kernel_rfl)) ?_
  intro W base args ds gs before hval0 hW hcnd _
  have hval : ∀ (j : Nat) t v, Try.f7.params[j]? = some t → args[j]? = some v → Value.okWide Try.prog W .any base t v := hval0
  have hW' := hW
  obtain ⟨p, q, hA0, hV, rfl, hfz, hnd⟩ := hW
  have hA : DataW.TrodAll enc Try.prog W 0 (fun _ => true) true Try.f7.params.toList args.toList ds p := hA0
  rw [Try.params7] at hA hval
  obtain ⟨v0, vs0, d0, ds0, p0, q0, hargs, rfl, rfl, h0, r0⟩ := trodAll_cons hA
  obtain ⟨v1, vs1, d1, ds1, p1, q1, rfl, rfl, rfl, h1, r1⟩ := trodAll_cons r0
  obtain ⟨rfl, rfl, rfl⟩ := trodAll_nil r1
  obtain rfl : args = #[v0, v1] := by cases args; simp_all
  obtain ⟨rfl, rfl⟩ := trodVars_none hV
  obtain ⟨a0, rfl, w0⟩ := open_icmp (hval 0 49 v0 rfl rfl) h0
  have k0 := h0
  have lt0 : ∀ x ∈ p0, x.block < W.heap.size := by obtain ⟨m, hm⟩ := k0; exact DataW.trod_lt m _ _ _ hm
  obtain ⟨a1, rfl, rfl, rfl, w1⟩ := open_string Try.underlying9 (hval 1 9 v1 rfl rfl) h1
  clear hA0 hval0
  refine (walk a0 a1 w0 w1 W).mono fun e W' ⟨he, bel⟩ => ?_
  subst he
  exact ⟨_, rfl, _, _, _, [], _, [], hW', trodAll_mk1 (shut_bool Try.underlying4 _), (trodAll_cons_mk (Below.trod laidOut (by kernel_rfl) (of_decide_eq_true (by kernel_rfl)) k0 bel lt0) (trodAll_cons_mk (shut_string Try.underlying9 w1) trodAll_mk0)), rfl, bel.frame _, fun h => by cases h⟩

/-- THE STATEMENT. -/
theorem proved : Rows.IcmpBackSaid :=
  OpenClaim.holds_of_wide 7 Try.f7 rfl rfl rfl rfl rfl rfl rfl ⟨rfl, rfl, rfl, rfl, rfl⟩ rfl rfl rfl rfl rfl (by kernel_rfl) Try.func7 (by kernel_rfl)
    (of_decide_eq_true (by kernel_rfl)) (by unfold Func.isWrapper; first | (rw [if_pos (by decide +kernel)]; kernel_rfl) | (rw [if_neg (by decide +kernel)]; exact ⟨rfl, rfl⟩))
    (fun os started H enc _ => lifted os started H enc)
#print axioms proved

end Go.Proofs.Ytapfkhhabamndaa.icb
