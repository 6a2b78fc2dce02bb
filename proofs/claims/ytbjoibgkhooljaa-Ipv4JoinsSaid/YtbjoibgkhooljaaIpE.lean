/-
  Layer 8: a packet's bytes, an address, a head that is read, by the program. Conditions: as said.
-/
import Derived.Test.YtbjoibgkhooljaaIpD
import Derived.Test.YtbjoibgkhooljaaArpD
namespace Go.Proofs.Ytbjoibgkhooljaa
open Go.RowKit Go.Sort
set_option linter.unusedVariables false

theorem data_lst (w : World) (x z : List UInt8) (y : ByteArray) (h : z = x ++ y.data.toList) (hl : z.length ≤ 70000) : (Op.stringOp .add ⟨x.toArray⟩ y).run Try.prog w = .ok (.string ⟨z.toArray⟩) w := by
  have := add_lst w x y.data.toList z h hl
  simpa using this
set_option maxRecDepth 100000 in
set_option maxHeartbeats 1000000 in
theorem pdBytes_arg (w : World) (f : Pd) (hz : f.da.size ≤ 140737488355328) (h : mayB f = false) :
    Calls Try.prog 29 #[.agg (pdC f)] w fun e w' => e = .returned (.tuple #[.string ⟨#[]⟩, .int .i64 1]) ∧ Below w.heap.size w w' := by
  have hk := Lib.hid (fun w => pMay_any w f hz)
  rw [h] at hk
  go_enter Try.func29, Try.ntmps29
  go_upto_region 1 with fail
  have FA : Hid (PdAt (w.alloc (.cells (pdC f) 35)) w.heap.size f) := Lib.hid (pd_new w _ f rfl)
  have BL : Hid (Below w.heap.size w (w.alloc (.cells (pdC f) 35))) := Lib.hid ((Below.refl _ _).alloc (Nat.le_refl _) _)
  generalize w.alloc _ = W1 at FA BL ⊢
  have hp := FA.out
  go_wp2_with (refine pd_ld (by rfl) _ rfl w.heap.size rfl _ hp ?_)
  refine (hk.out _).mono ?_
  rintro e w2 ⟨rfl, b2⟩
  have B2 := bstep BL b2
  clear b2 hp
  go_wp2_with fail
  go_ret2
  exact ⟨rfl, B2.out⟩
set_option maxRecDepth 100000 in
set_option maxHeartbeats 1000000 in
theorem pdBytes_long (w : World) (f : Pd) (hz : f.da.size ≤ 140737488355328) (h : mayB f = true) (hl : 566 < f.da.size) :
    Calls Try.prog 29 #[.agg (pdC f)] w fun e w' => e = .returned (.tuple #[.string ⟨#[]⟩, .int .i64 3]) ∧ Below w.heap.size w w' := by
  have hk := Lib.hid (fun w => pMay_any w f hz)
  rw [h] at hk
  go_enter Try.func29, Try.ntmps29
  go_upto_region 1 with fail
  have FA : Hid (PdAt (w.alloc (.cells (pdC f) 35)) w.heap.size f) := Lib.hid (pd_new w _ f rfl)
  have BL : Hid (Below w.heap.size w (w.alloc (.cells (pdC f) 35))) := Lib.hid ((Below.refl _ _).alloc (Nat.le_refl _) _)
  generalize w.alloc _ = W1 at FA BL ⊢
  have hp := FA.out
  go_wp2_with (refine pd_ld (by rfl) _ rfl w.heap.size rfl _ hp ?_)
  refine (hk.out _).mono ?_
  rintro e w2 ⟨rfl, b2⟩
  have B2 := bstep BL b2
  have F2 := FA.out.grow b2
  have c13 := F2.da
  clear b2 hp
  go_wp2_with fail
  go_ret2
  exact ⟨rfl, B2.out⟩
set_option maxRecDepth 100000 in
set_option maxHeartbeats 1000000 in
theorem pdBytes_yes (w : World) (f : Pd) (h : mayB f = true) (hl : f.da.size ≤ 566) :
    Calls Try.prog 29 #[.agg (pdC f)] w fun e w' => e = .returned (.tuple #[.string ⟨(hdL f ++ f.da.data.toList).toArray⟩, .int .i64 0]) ∧ Below w.heap.size w w' := by
  have hk := Lib.hid (fun w => pMay_any w f (by omega))
  rw [h] at hk
  obtain ⟨L, hL⟩ : ∃ L, L = hdL f := ⟨_, rfl⟩
  have hh := Lib.hid (fun w => pHead_of w f h hl f.mo rfl L hL)
  obtain ⟨Z, hZ⟩ : ∃ Z, Z = hdL f ++ f.da.data.toList := ⟨_, rfl⟩
  have hZl : Z.length ≤ 70000 := by
    rw [hZ, List.length_append, hdL_length]
    have : f.da.data.toList.length = f.da.size := by rw [Array.length_toList]; rfl
    omega
  have C1 := Lib.hid (fun w => data_lst w L Z f.da (by rw [hZ, hL]) hZl)
  rw [← hZ]
  clear hZ hZl hL h
  go_enter Try.func29, Try.ntmps29
  go_upto_region 1 with fail
  have FA : Hid (PdAt (w.alloc (.cells (pdC f) 35)) w.heap.size f) := Lib.hid (pd_new w _ f rfl)
  have BL : Hid (Below w.heap.size w (w.alloc (.cells (pdC f) 35))) := Lib.hid ((Below.refl _ _).alloc (Nat.le_refl _) _)
  generalize w.alloc _ = W1 at FA BL ⊢
  have hp := FA.out
  go_wp2_with (refine pd_ld (by rfl) _ rfl w.heap.size rfl _ hp ?_)
  refine (hk.out _).mono ?_
  rintro e w2 ⟨rfl, b2⟩
  have B2 := bstep BL b2
  have F2 := Lib.hid (FA.out.grow b2)
  have c13 := F2.out.da
  clear b2 hp BL FA
  go_upto_region 5 with fail
  clear c13
  refine wp_region_noPanic ?_
  refine region_heldE (S := fun w' => PdAt w' w.heap.size f) (by kernel_rfl) (fun V d => (d.block _).trans F2.out) (fun V d hS => ?_)
  have BV0 := bstep B2 d.below
  clear d B2
  refine wpAnyH_take (i := 0) (oi := ⟨some 11, Op.load 35 (Operand.tmp 1), _, _, _, none⟩) (v := (.agg (pdC f))) rfl (by kernel_rfl) (by kernel_rfl) (by kernel_rfl) (fun _ _ _ h => h) (yields_pd (by kernel_rfl) _ rfl w.heap.size rfl f (fun _ h => h)) hS ?_
  simp only [Act.put]
  refine wpAnyH_take (i := 2) (oi := ⟨some 13, Op.fieldAddr 35 (Operand.tmp 1) 7, _, _, _, none⟩) (v := (.pointer (some ⟨w.heap.size, 13, none⟩))) rfl (by kernel_rfl) (by kernel_rfl) (by kernel_rfl) (fun _ _ _ h => h) (Or.inl ⟨by rfl, fun w' h' => ?_⟩) hS ?_
  · clear h'
    go_simp
  simp only [Act.put]
  refine wpAnyH_take (i := 3) (oi := ⟨some 14, Op.load 9 (Operand.tmp 13), _, _, _, none⟩) (v := (.string f.da)) rfl (by kernel_rfl) (by kernel_rfl) (by kernel_rfl) (fun _ _ _ h => h) (Or.inl ⟨by rfl, fun w' h' => ?_⟩) hS ?_
  · have c0 := PdAt.da h'
    clear h'
    go_simp
  simp only [Act.put]
  refine wpAnyH_ready (rs := [1]) (by kernel_rfl) (by simp) ?_
  refine AllReadyH.cons rfl (fun K hK => ?_) AllReadyH.nil
  go_simp
  refine (hh.out _).mono ?_
  rintro e v1 ⟨rfl, b1⟩
  have S1 : PdAt v1 w.heap.size f := hS.grow b1
  have BV1 := bstep BV0 b1
  clear b1 BV0
  go_simp
  refine hK.out _ _ S1 (fun _ => ?_)
  clear hK K
  refine wpAnyH_take (i := 4) (oi := ⟨some 15, Op.binOp BinOp.add 9 (Operand.tmp 12) (Operand.tmp 14) 9, _, _, _, none⟩) (v := (.string ⟨Z.toArray⟩)) rfl (by kernel_rfl) (by kernel_rfl) (by kernel_rfl) (fun _ _ _ h => h) (Or.inl ⟨by rfl, fun w' h' => ?_⟩) S1 ?_
  · have c0 := C1.out w'
    clear h'
    go_simp
  simp only [Act.put]
  refine wpAnyH_take (i := 5) (oi := ⟨some 2, Op.assign (Operand.tmp 15), _, _, _, none⟩) (v := (.string ⟨Z.toArray⟩)) rfl (by kernel_rfl) (by kernel_rfl) (by kernel_rfl) (fun _ _ _ h => h) (Or.inl ⟨by rfl, fun w' h' => ?_⟩) S1 ?_
  · clear h'
    go_simp
  simp only [Act.put]
  refine wpAnyH_take (i := 6) (oi := ⟨some 3, Op.assign (Operand.const (Value.int IntKind.i64 0)), _, _, _, none⟩) (v := (.int .i64 0)) rfl (by kernel_rfl) (by kernel_rfl) (by kernel_rfl) (fun _ _ _ h => h) (Or.inl ⟨by rfl, fun w' h' => ?_⟩) S1 ?_
  · clear h'
    go_simp
  simp only [Act.put]
  refine wpAnyH_done (by kernel_rfl) (NoPanic.normal ?_) _
  simp only [List.setIfInBounds_toArray, List.set_cons_zero, List.set_cons_succ]
  clear hS S1 F2
  go_wp2_with fail
  go_ret2
  exact ⟨rfl, BV1.out⟩

theorem pdBytes_any (w : World) (f : Pd) (hz : f.da.size ≤ 140737488355328) :
    Calls Try.prog 29 #[.agg (pdC f)] w fun e w' => e = .returned (.tuple #[.string (pdS f), .int .i64 (pdE f)]) ∧ Below w.heap.size w w' := by
  cases h : mayB f with
  | false =>
    have e1 : pdE f = 1 := by rw [pdE, if_pos h]
    rw [pdS, e1, if_neg (by decide)]
    exact pdBytes_arg w f hz h
  | true =>
    by_cases h2 : 566 < f.da.size
    · have e1 : pdE f = 3 := by rw [pdE, if_neg (by rw [h]; decide), if_pos h2]
      rw [pdS, e1, if_neg (by decide)]
      exact pdBytes_long w f hz h h2
    · have e1 : pdE f = 0 := by rw [pdE, if_neg (by rw [h]; decide), if_neg h2]
      rw [pdS, e1, if_pos rfl]
      exact pdBytes_yes w f h (by omega)

theorem take_list4 (s : ByteArray) (m : Ip4) (r : List UInt8) (hs : s.data.toList = m.list ++ r) : s.data.toList.take 4 = m.list := by rw [hs]; rfl
theorem run_copy_four (w : World) (s : ByteArray) (m : Ip4) (r : List UInt8) (hs : s.data.toList = m.list ++ r) (cs : Array Value) (hc : cs.size = 4) (n : Nat) (hn : n = w.heap.size) :
    (Builtin.copy_ #[61, 9] 3 #[.slice (some ⟨n, 0, none⟩) 4 4, .string s]).run Try.prog (w.alloc (.cells cs 33)) = .ok (.int .i64 4) (w.alloc (.cells #[.int .u8 (m.a.toNat : Int), .int .u8 (m.b.toNat : Int), .int .u8 (m.c.toNat : Int), .int .u8 (m.d.toNat : Int)] 33)) := by
  have hl : 4 ≤ s.size := by
    have := congrArg List.length hs
    simp only [List.length_append] at this
    have h2 : m.list.length = 4 := rfl
    rw [h2] at this
    simp only [Array.length_toList] at this
    show 4 ≤ s.data.size
    omega
  have h := run_copy_part (P := Try.prog) (w.alloc (.cells cs 33)) 61 9 3 5 n 0 4 4 s cs 33 Try.underlying61 (by kernel_rfl) (by rw [hn]; exact heap_alloc_new w _) hl (by omega)
  rw [h, hn, World.setRow_alloc_new, take_list4 s m r hs]
  have h0 : cs.toList.drop (0 + 4) = [] := List.drop_of_length_le (by simp [hc])
  rw [h0]
  rfl
set_option maxRecDepth 100000 in
set_option maxHeartbeats 400000 in
theorem addr_any (w : World) (s : ByteArray) (m : Ip4) (r : List UInt8) (hs : s.data.toList = m.list ++ r) :
    Calls Try.prog 70 #[.string s] w fun e w' => e = .returned (.agg #[.int .u8 (m.a.toNat : Int), .int .u8 (m.b.toNat : Int), .int .u8 (m.c.toNat : Int), .int .u8 (m.d.toNat : Int)]) ∧ Below w.heap.size w w' := by
  have hr := run_copy_four (w.alloc (.cells #[.int .u8 0, .int .u8 0, .int .u8 0, .int .u8 0] 33)) s m r hs #[.int .u8 0, .int .u8 0, .int .u8 0, .int .u8 0] rfl (w.heap.size + 1) (by simp)
  clear hs
  go_enter Try.func70, Try.ntmps70
  go_wp2_with fail
  exact bodyPost_ret (v := .agg #[.int .u8 (m.a.toNat : Int), .int .u8 (m.b.toNat : Int), .int .u8 (m.c.toNat : Int), .int .u8 (m.d.toNat : Int)]) (by simp [results, Try.results70, go_sem]) rfl ⟨rfl, ((Below.refl _ _).alloc (Nat.le_refl _) _).alloc (by simp) _⟩

/-- A head that is read: why there is none, and how many bytes it has. -/
def rhE (s : ByteArray) : Int := if s.size < 20 then 7 else if bt s.data.toList 0 < 69 ∨ 79 < bt s.data.toList 0 then 8 else if s.size < 4 * (bt s.data.toList 0 - 64) then 7 else if sumT (s.data.toList.take (4 * (bt s.data.toList 0 - 64))) = 0 then 0 else 9
def rhN (s : ByteArray) : Nat := if rhE s = 0 then 4 * (bt s.data.toList 0 - 64) else 0
theorem bt_at (s : ByteArray) (k : Nat) (h : k < s.size) : s[k].toNat = bt s.data.toList k := by
  unfold bt
  have hL : s.data.toList[k]? = some s[k] := by
    rw [Array.getElem?_toList]
    exact Array.getElem?_eq_getElem h
  rw [List.getD_eq_getElem?_getD, hL]
  rfl
theorem extract_take (s : ByteArray) (n : Nat) : (s.extract 0 n).data.toList = s.data.toList.take n := by
  rw [Lib.extract_data, List.drop_zero, Nat.sub_zero]
set_option maxRecDepth 100000 in
set_option maxHeartbeats 1000000 in
theorem rHead_short (w : World) (s : ByteArray) (h : s.size < 20) :
    Calls Try.prog 68 #[.string s] w fun e w' => e = .returned (.tuple #[.int .i64 0, .int .i64 7]) ∧ w = w' := by
  go_enter Try.func68, Try.ntmps68
  go_wp2
  go_ret2
  exact ⟨rfl, rfl⟩
set_option maxRecDepth 100000 in
set_option maxHeartbeats 1000000 in
theorem rHead_form (w : World) (s : ByteArray) (h : 20 ≤ s.size) (X : Nat) (h0 : 0 < s.size) (hX : (s[0]'h0).toNat = X) (h2 : X < 69 ∨ 79 < X) (h3 : X < 256) :
    Calls Try.prog 68 #[.string s] w fun e w' => e = .returned (.tuple #[.int .i64 0, .int .i64 8]) ∧ w = w' := by
  have hw1 : IntKind.i64.wrap (X : Int) = (X : Int) := IntWalk.i64_in _ (by omega)
  have hw2 : IntKind.i64.wrap ((X : Int) - 64) = (X : Int) - 64 := IntWalk.i64_in _ (by omega)
  have e0 : ¬ (s.size : Int) < 20 := by omega
  rcases h2 with h2 | h2
  · have e2 : decide ((X : Int) - 64 < 5) = true := decide_eq_true (by omega)
    clear h h2 h3
    go_enter Try.func68, Try.ntmps68
    go_wp2
    go_ret2
    exact ⟨rfl, rfl⟩
  · have e2 : decide ((X : Int) - 64 < 5) = false := decide_eq_false (by omega)
    have e3 : decide (15 < (X : Int) - 64) = true := decide_eq_true (by omega)
    clear h h2 h3
    go_enter Try.func68, Try.ntmps68
    go_wp2
    go_ret2
    exact ⟨rfl, rfl⟩
set_option maxRecDepth 100000 in
set_option maxHeartbeats 1000000 in
theorem rHead_cut (w : World) (s : ByteArray) (h : 20 ≤ s.size) (X N : Nat) (h0 : 0 < s.size) (hX : (s[0]'h0).toNat = X) (h2 : 69 ≤ X) (h3 : X ≤ 79) (hN : N = 4 * (X - 64)) (h4 : s.size < N) :
    Calls Try.prog 68 #[.string s] w fun e w' => e = .returned (.tuple #[.int .i64 0, .int .i64 7]) ∧ w = w' := by
  have hw1 : IntKind.i64.wrap (X : Int) = (X : Int) := IntWalk.i64_in _ (by omega)
  have hw2 : IntKind.i64.wrap ((X : Int) - 64) = (X : Int) - 64 := IntWalk.i64_in _ (by omega)
  have hw3 : IntKind.i64.wrap (((X : Int) - 64) * 4) = (N : Int) := by rw [show ((X : Int) - 64) * 4 = (N : Int) by omega]; exact IntWalk.i64_in _ (by omega)
  have e0 : ¬ (s.size : Int) < 20 := by omega
  have e2 : decide ((X : Int) - 64 < 5) = false := decide_eq_false (by omega)
  have e3 : decide (15 < (X : Int) - 64) = false := decide_eq_false (by omega)
  clear h h2 h3 hN
  go_enter Try.func68, Try.ntmps68
  go_wp2
  go_ret2
  exact ⟨rfl, rfl⟩
set_option maxRecDepth 100000 in
set_option maxHeartbeats 1000000 in
theorem rHead_sum (w : World) (s : ByteArray) (h : 20 ≤ s.size) (hm : s.size ≤ 140737488355328) (X N : Nat) (h0 : 0 < s.size) (hX : (s[0]'h0).toNat = X) (h2 : 69 ≤ X) (h3 : X ≤ 79) (hN : N = 4 * (X - 64)) (h4 : N ≤ s.size) (K : Nat) (hK : sumT (s.data.toList.take N) = K) :
    Calls Try.prog 68 #[.string s] w fun e w' => e = .returned (.tuple #[.int .i64 (if K = 0 then N else 0 : Nat), .int .i64 (if K = 0 then 0 else 9)]) ∧ Below w.heap.size w w' := by
  have hw1 : IntKind.i64.wrap (X : Int) = (X : Int) := IntWalk.i64_in _ (by omega)
  have hw2 : IntKind.i64.wrap ((X : Int) - 64) = (X : Int) - 64 := IntWalk.i64_in _ (by omega)
  have hw3 : IntKind.i64.wrap (((X : Int) - 64) * 4) = (N : Int) := by rw [show ((X : Int) - 64) * 4 = (N : Int) by omega]; exact IntWalk.i64_in _ (by omega)
  have e0 : ¬ (s.size : Int) < 20 := by omega
  have e2 : decide ((X : Int) - 64 < 5) = false := decide_eq_false (by omega)
  have e3 : decide (15 < (X : Int) - 64) = false := decide_eq_false (by omega)
  have hS := Lib.hid (fun w => Sum_any w (s.extract 0 N) (by rw [ByteArray.size_extract]; omega))
  rw [extract_take, hK] at hS
  have HX : Hid (69 ≤ X ∧ X ≤ 79 ∧ N = 4 * (X - 64)) := Lib.hid ⟨h2, h3, hN⟩
  clear h h2 h3 hN hK
  by_cases hK0 : K = 0
  · have e5 : ((K : Int) != 0) = false := by simp [hK0]
    rw [if_pos hK0, if_pos hK0]
    clear hK0
    go_enter Try.func68, Try.ntmps68
    go_wp2_with fail
    refine (hS.out _).mono ?_
    rintro e w2 ⟨rfl, b2⟩
    go_wp2_with fail
    go_ret2
    exact ⟨rfl, b2⟩
  · have e5 : ((K : Int) != 0) = true := by simp [hK0]
    rw [if_neg hK0, if_neg hK0]
    clear hK0
    go_enter Try.func68, Try.ntmps68
    go_wp2_with fail
    refine (hS.out _).mono ?_
    rintro e w2 ⟨rfl, b2⟩
    go_wp2_with fail
    go_ret2
    exact ⟨rfl, b2⟩
theorem rHead_any (w : World) (s : ByteArray) (hm : s.size ≤ 140737488355328) :
    Calls Try.prog 68 #[.string s] w fun e w' => e = .returned (.tuple #[.int .i64 (rhN s), .int .i64 (rhE s)]) ∧ Below w.heap.size w w' := by
  by_cases h1 : s.size < 20
  · have e1 : rhE s = 7 := if_pos h1
    rw [rhN, e1, if_neg (by decide)]
    refine (rHead_short w s h1).mono ?_
    rintro e w' ⟨rfl, rfl⟩
    exact ⟨rfl, Below.refl _ _⟩
  have hX := bt_at s 0 (by omega)
  have hb := bt_lt s.data.toList 0
  by_cases h2 : bt s.data.toList 0 < 69 ∨ 79 < bt s.data.toList 0
  · have e1 : rhE s = 8 := by rw [rhE, if_neg h1, if_pos h2]
    rw [rhN, e1, if_neg (by decide)]
    refine (rHead_form w s (by omega) _ (by omega) hX h2 hb).mono ?_
    rintro e w' ⟨rfl, rfl⟩
    exact ⟨rfl, Below.refl _ _⟩
  by_cases h3 : s.size < 4 * (bt s.data.toList 0 - 64)
  · have e1 : rhE s = 7 := by rw [rhE, if_neg h1, if_neg h2, if_pos h3]
    rw [rhN, e1, if_neg (by decide)]
    refine (rHead_cut w s (by omega) _ _ (by omega) hX (by omega) (by omega) rfl h3).mono ?_
    rintro e w' ⟨rfl, rfl⟩
    exact ⟨rfl, Below.refl _ _⟩
  refine (rHead_sum w s (by omega) hm _ _ (by omega) hX (by omega) (by omega) rfl (by omega) _ rfl).mono ?_
  rintro e w' ⟨rfl, b⟩
  refine ⟨?_, b⟩
  by_cases h4 : sumT (s.data.toList.take (4 * (bt s.data.toList 0 - 64))) = 0
  · have e1 : rhE s = 0 := by rw [rhE, if_neg h1, if_neg h2, if_neg h3, if_pos h4]
    rw [rhN, e1, if_pos rfl, if_pos h4, if_pos h4]
  · have e1 : rhE s = 9 := by rw [rhE, if_neg h1, if_neg h2, if_neg h3, if_neg h4]
    rw [rhN, e1, if_neg (show ¬ ((9 : Int) = 0) by decide), if_neg h4, if_neg h4]

end Go.Proofs.Ytbjoibgkhooljaa
