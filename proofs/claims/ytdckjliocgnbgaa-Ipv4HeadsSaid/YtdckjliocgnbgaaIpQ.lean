/-
  Layer 8: a packet that is read, by the document. Conditions: a text has at most 100,000 bytes.
-/
import Derived.Test.YtdckjliocgnbgaaIpG
import Derived.Test.YtdckjliocgnbgaaArpG
namespace Go.Proofs.Ytdckjliocgnbgaa
open Go.RowKit Go.Sort
set_option linter.unusedVariables false

/-- A packet of which the first bytes of both addresses are there. -/
def partD (Q : Pd) (k : Nat) : Pd := ⟨Q.id, part4 Q.sr k, part4 Q.ds k, Q.pr, Q.tl, Q.ps, Q.mo, Q.da⟩
theorem partD_full (Q : Pd) : partD Q 4 = Q := rfl
theorem PdRoom.there {w : World} {n : Nat} (h : PdRoom w n) (k : Nat) (hk : k < 14) : ∃ u, w.cell? ⟨n, k, none⟩ = some u ∧ w.frozen? ⟨n, k, none⟩ = false := by
  obtain ⟨cs, h0, h⟩ := h
  exact ⟨cs[k]'(by omega), by rw [cell_of_block h]; exact Array.getElem?_eq_getElem (by omega), by simp [World.frozen?, h]⟩
theorem PdAt.fill {w : World} {n : Nat} {Q : Pd} {k : Nat} (hk : k < 4) (h : PdAt w n (partD Q k)) (X Y : UInt8) (hX : Q.sr.list[k]? = some X) (hY : Q.ds.list[k]? = some Y) :
    PdAt ((w.setCell ⟨n, 1 + k, none⟩ (.int .u8 (X.toNat : Int))).setCell ⟨n, 5 + k, none⟩ (.int .u8 (Y.toNat : Int))) n (partD Q (k + 1)) := by
  have h1 := set_cells h (.int .u8 (X.toNat : Int)) (i := 1 + k) (by show 1 + k < 14; omega)
  have h2 := set_cells h1 (.int .u8 (Y.toNat : Int)) (i := 5 + k) (by rw [Array.size_setIfInBounds]; show 5 + k < 14; omega)
  unfold PdAt
  rw [h2]
  rcases k with _ | _ | _ | _ | k <;> first | omega | (simp only [Ip4.list, List.getElem?_cons_zero, List.getElem?_cons_succ, Option.some.injEq] at hX hY; subst hX; subst hY; rfl)
theorem pdroom_kept {w : World} {n m k : Nat} {v : Value} (h : PdRoom w m) (hn : m ≠ n) : PdRoom (w.setCell ⟨n, k, none⟩ v) m := h.kept (Below.heap_setCell _ _ _ _ hn)
theorem pdat_kept {w : World} {n m k : Nat} {v : Value} {f : Pd} (h : PdAt w m f) (hn : m ≠ n) : PdAt (w.setCell ⟨n, k, none⟩ v) m f := h.kept (Below.heap_setCell _ _ _ _ hn)

set_option maxRecDepth 100000 in
set_option maxHeartbeats 4000000 in
theorem dR_short (w : World) (s : ByteArray) (hm : s.size ≤ 100000) (h : s.size < 20) :
    Calls Try.prog 23 #[.string s] w fun e w' => e = .returned (.tuple #[.agg (pdC pdZ), .int .i64 7]) ∧ Below w.heap.size w w' := by
  go_enter Try.func23, Try.ntmps23
  go_upto_region 2 with fail
  have RM : Hid (PdRoom ((w.alloc (.cells #[.int .i64 0, .int .u8 0, .int .u8 0, .int .u8 0, .int .u8 0, .int .u8 0, .int .u8 0, .int .u8 0, .int .u8 0, .int .i64 0, .int .i64 0, .int .i64 0, .bool false, .string ⟨#[]⟩] 29)).alloc (.cells #[.int .i64 0, .int .u8 0, .int .u8 0, .int .u8 0, .int .u8 0, .int .u8 0, .int .u8 0, .int .u8 0, .int .u8 0, .int .i64 0, .int .i64 0, .int .i64 0, .bool false, .string ⟨#[]⟩] 29)) w.heap.size) := Lib.hid ((pdroom_new w _ #[.int .i64 0, .int .u8 0, .int .u8 0, .int .u8 0, .int .u8 0, .int .u8 0, .int .u8 0, .int .u8 0, .int .u8 0, .int .i64 0, .int .i64 0, .int .i64 0, .bool false, .string ⟨#[]⟩] rfl rfl).grow ((Below.refl _ _).alloc (Nat.le_refl _) _))
  have P4 : Hid (PdAt ((w.alloc (.cells #[.int .i64 0, .int .u8 0, .int .u8 0, .int .u8 0, .int .u8 0, .int .u8 0, .int .u8 0, .int .u8 0, .int .u8 0, .int .i64 0, .int .i64 0, .int .i64 0, .bool false, .string ⟨#[]⟩] 29)).alloc (.cells #[.int .i64 0, .int .u8 0, .int .u8 0, .int .u8 0, .int .u8 0, .int .u8 0, .int .u8 0, .int .u8 0, .int .u8 0, .int .i64 0, .int .i64 0, .int .i64 0, .bool false, .string ⟨#[]⟩] 29)) (w.heap.size + 1) pdZ) := Lib.hid (pd_new _ _ pdZ (by simp))
  have BL : Hid (Below w.heap.size w ((w.alloc (.cells #[.int .i64 0, .int .u8 0, .int .u8 0, .int .u8 0, .int .u8 0, .int .u8 0, .int .u8 0, .int .u8 0, .int .u8 0, .int .i64 0, .int .i64 0, .int .i64 0, .bool false, .string ⟨#[]⟩] 29)).alloc (.cells #[.int .i64 0, .int .u8 0, .int .u8 0, .int .u8 0, .int .u8 0, .int .u8 0, .int .u8 0, .int .u8 0, .int .u8 0, .int .i64 0, .int .i64 0, .int .i64 0, .bool false, .string ⟨#[]⟩] 29))) := Lib.hid (((Below.refl _ _).alloc (Nat.le_refl _) _).alloc (by simp) _)
  obtain ⟨n4, hn4⟩ : ∃ n, n = w.heap.size + 1 := ⟨_, rfl⟩
  have HN4 : Hid (w.heap.size < n4) := Lib.hid (by omega)
  generalize (w.alloc _).alloc _ = W1 at RM P4 BL ⊢
  rw [← hn4] at P4 ⊢
  clear hn4
  have hp := P4.out
  obtain ⟨hst, S6⟩ := RM.out.put pdZ
  have S6 := Lib.hid S6
  have B6 := Lib.hid (below_setRow BL.out (Nat.le_refl _) (pdC pdZ))
  go_wp2_with (first | (refine pd_ld (by rfl) _ rfl n4 rfl _ hp ?_) | (refine wpList_storeW 29 _ _ rfl rfl _ w.heap.size rfl rfl hst ?_))
  exact bodyPost_ret (v := .tuple #[.agg (pdC pdZ), .int .i64 7]) (results_row _ 2 3 29 (by kernel_rfl) _ w.heap.size _ _ _ _ rfl rfl S6.out Try.underlying29 rfl (by kernel_rfl)) rfl ⟨rfl, B6.out⟩
set_option maxRecDepth 100000 in
set_option maxHeartbeats 4000000 in
theorem dR_low (w : World) (s : ByteArray) (hm : s.size ≤ 100000) (h : 20 ≤ s.size) (X : Nat) (h0 : 0 < s.size) (hX : (s[0]'h0).toNat = X) (h2 : X < 69) :
    Calls Try.prog 23 #[.string s] w fun e w' => e = .returned (.tuple #[.agg (pdC pdZ), .int .i64 8]) ∧ Below w.heap.size w w' := by
  have hw1 : IntKind.i64.wrap (X : Int) = (X : Int) := IntWalk.i64_in _ (by omega)
  have hw2 : IntKind.i64.wrap ((X : Int) - 64) = (X : Int) - 64 := IntWalk.i64_in _ (by omega)
  have hw3 : IntKind.i64.wrap (4 * ((X : Int) - 64)) = 4 * ((X : Int) - 64) := IntWalk.i64_in _ (by omega)
  have e0 : ¬ (s.size : Int) < 20 := by omega
  have e2 : decide (4 * ((X : Int) - 64) < 20) = true := decide_eq_true (by omega)
  clear h h2
  go_enter Try.func23, Try.ntmps23
  go_upto_region 2 with fail
  have RM : Hid (PdRoom ((w.alloc (.cells #[.int .i64 0, .int .u8 0, .int .u8 0, .int .u8 0, .int .u8 0, .int .u8 0, .int .u8 0, .int .u8 0, .int .u8 0, .int .i64 0, .int .i64 0, .int .i64 0, .bool false, .string ⟨#[]⟩] 29)).alloc (.cells #[.int .i64 0, .int .u8 0, .int .u8 0, .int .u8 0, .int .u8 0, .int .u8 0, .int .u8 0, .int .u8 0, .int .u8 0, .int .i64 0, .int .i64 0, .int .i64 0, .bool false, .string ⟨#[]⟩] 29)) w.heap.size) := Lib.hid ((pdroom_new w _ #[.int .i64 0, .int .u8 0, .int .u8 0, .int .u8 0, .int .u8 0, .int .u8 0, .int .u8 0, .int .u8 0, .int .u8 0, .int .i64 0, .int .i64 0, .int .i64 0, .bool false, .string ⟨#[]⟩] rfl rfl).grow ((Below.refl _ _).alloc (Nat.le_refl _) _))
  have P4 : Hid (PdAt ((w.alloc (.cells #[.int .i64 0, .int .u8 0, .int .u8 0, .int .u8 0, .int .u8 0, .int .u8 0, .int .u8 0, .int .u8 0, .int .u8 0, .int .i64 0, .int .i64 0, .int .i64 0, .bool false, .string ⟨#[]⟩] 29)).alloc (.cells #[.int .i64 0, .int .u8 0, .int .u8 0, .int .u8 0, .int .u8 0, .int .u8 0, .int .u8 0, .int .u8 0, .int .u8 0, .int .i64 0, .int .i64 0, .int .i64 0, .bool false, .string ⟨#[]⟩] 29)) (w.heap.size + 1) pdZ) := Lib.hid (pd_new _ _ pdZ (by simp))
  have BL : Hid (Below w.heap.size w ((w.alloc (.cells #[.int .i64 0, .int .u8 0, .int .u8 0, .int .u8 0, .int .u8 0, .int .u8 0, .int .u8 0, .int .u8 0, .int .u8 0, .int .i64 0, .int .i64 0, .int .i64 0, .bool false, .string ⟨#[]⟩] 29)).alloc (.cells #[.int .i64 0, .int .u8 0, .int .u8 0, .int .u8 0, .int .u8 0, .int .u8 0, .int .u8 0, .int .u8 0, .int .u8 0, .int .i64 0, .int .i64 0, .int .i64 0, .bool false, .string ⟨#[]⟩] 29))) := Lib.hid (((Below.refl _ _).alloc (Nat.le_refl _) _).alloc (by simp) _)
  obtain ⟨n4, hn4⟩ : ∃ n, n = w.heap.size + 1 := ⟨_, rfl⟩
  have HN4 : Hid (w.heap.size < n4) := Lib.hid (by omega)
  generalize (w.alloc _).alloc _ = W1 at RM P4 BL ⊢
  rw [← hn4] at P4 ⊢
  clear hn4
  have hp := P4.out
  obtain ⟨hst, S6⟩ := RM.out.put pdZ
  have S6 := Lib.hid S6
  have B6 := Lib.hid (below_setRow BL.out (Nat.le_refl _) (pdC pdZ))
  go_wp2_with (first | (refine pd_ld (by rfl) _ rfl n4 rfl _ hp ?_) | (refine wpList_storeW 29 _ _ rfl rfl _ w.heap.size rfl rfl hst ?_))
  exact bodyPost_ret (v := .tuple #[.agg (pdC pdZ), .int .i64 8]) (results_row _ 2 3 29 (by kernel_rfl) _ w.heap.size _ _ _ _ rfl rfl S6.out Try.underlying29 rfl (by kernel_rfl)) rfl ⟨rfl, B6.out⟩
set_option maxRecDepth 100000 in
set_option maxHeartbeats 4000000 in
theorem dR_high (w : World) (s : ByteArray) (hm : s.size ≤ 100000) (h : 20 ≤ s.size) (X : Nat) (h0 : 0 < s.size) (hX : (s[0]'h0).toNat = X) (h2 : 79 < X) (h3 : X < 256) :
    Calls Try.prog 23 #[.string s] w fun e w' => e = .returned (.tuple #[.agg (pdC pdZ), .int .i64 8]) ∧ Below w.heap.size w w' := by
  have hw1 : IntKind.i64.wrap (X : Int) = (X : Int) := IntWalk.i64_in _ (by omega)
  have hw2 : IntKind.i64.wrap ((X : Int) - 64) = (X : Int) - 64 := IntWalk.i64_in _ (by omega)
  have hw3 : IntKind.i64.wrap (4 * ((X : Int) - 64)) = 4 * ((X : Int) - 64) := IntWalk.i64_in _ (by omega)
  have e0 : ¬ (s.size : Int) < 20 := by omega
  have e2 : decide (4 * ((X : Int) - 64) < 20) = false := decide_eq_false (by omega)
  have e3 : decide (60 < 4 * ((X : Int) - 64)) = true := decide_eq_true (by omega)
  clear h h2 h3
  go_enter Try.func23, Try.ntmps23
  go_upto_region 2 with fail
  have RM : Hid (PdRoom ((w.alloc (.cells #[.int .i64 0, .int .u8 0, .int .u8 0, .int .u8 0, .int .u8 0, .int .u8 0, .int .u8 0, .int .u8 0, .int .u8 0, .int .i64 0, .int .i64 0, .int .i64 0, .bool false, .string ⟨#[]⟩] 29)).alloc (.cells #[.int .i64 0, .int .u8 0, .int .u8 0, .int .u8 0, .int .u8 0, .int .u8 0, .int .u8 0, .int .u8 0, .int .u8 0, .int .i64 0, .int .i64 0, .int .i64 0, .bool false, .string ⟨#[]⟩] 29)) w.heap.size) := Lib.hid ((pdroom_new w _ #[.int .i64 0, .int .u8 0, .int .u8 0, .int .u8 0, .int .u8 0, .int .u8 0, .int .u8 0, .int .u8 0, .int .u8 0, .int .i64 0, .int .i64 0, .int .i64 0, .bool false, .string ⟨#[]⟩] rfl rfl).grow ((Below.refl _ _).alloc (Nat.le_refl _) _))
  have P4 : Hid (PdAt ((w.alloc (.cells #[.int .i64 0, .int .u8 0, .int .u8 0, .int .u8 0, .int .u8 0, .int .u8 0, .int .u8 0, .int .u8 0, .int .u8 0, .int .i64 0, .int .i64 0, .int .i64 0, .bool false, .string ⟨#[]⟩] 29)).alloc (.cells #[.int .i64 0, .int .u8 0, .int .u8 0, .int .u8 0, .int .u8 0, .int .u8 0, .int .u8 0, .int .u8 0, .int .u8 0, .int .i64 0, .int .i64 0, .int .i64 0, .bool false, .string ⟨#[]⟩] 29)) (w.heap.size + 1) pdZ) := Lib.hid (pd_new _ _ pdZ (by simp))
  have BL : Hid (Below w.heap.size w ((w.alloc (.cells #[.int .i64 0, .int .u8 0, .int .u8 0, .int .u8 0, .int .u8 0, .int .u8 0, .int .u8 0, .int .u8 0, .int .u8 0, .int .i64 0, .int .i64 0, .int .i64 0, .bool false, .string ⟨#[]⟩] 29)).alloc (.cells #[.int .i64 0, .int .u8 0, .int .u8 0, .int .u8 0, .int .u8 0, .int .u8 0, .int .u8 0, .int .u8 0, .int .u8 0, .int .i64 0, .int .i64 0, .int .i64 0, .bool false, .string ⟨#[]⟩] 29))) := Lib.hid (((Below.refl _ _).alloc (Nat.le_refl _) _).alloc (by simp) _)
  obtain ⟨n4, hn4⟩ : ∃ n, n = w.heap.size + 1 := ⟨_, rfl⟩
  have HN4 : Hid (w.heap.size < n4) := Lib.hid (by omega)
  generalize (w.alloc _).alloc _ = W1 at RM P4 BL ⊢
  rw [← hn4] at P4 ⊢
  clear hn4
  have hp := P4.out
  obtain ⟨hst, S6⟩ := RM.out.put pdZ
  have S6 := Lib.hid S6
  have B6 := Lib.hid (below_setRow BL.out (Nat.le_refl _) (pdC pdZ))
  go_wp2_with (first | (refine pd_ld (by rfl) _ rfl n4 rfl _ hp ?_) | (refine wpList_storeW 29 _ _ rfl rfl _ w.heap.size rfl rfl hst ?_))
  exact bodyPost_ret (v := .tuple #[.agg (pdC pdZ), .int .i64 8]) (results_row _ 2 3 29 (by kernel_rfl) _ w.heap.size _ _ _ _ rfl rfl S6.out Try.underlying29 rfl (by kernel_rfl)) rfl ⟨rfl, B6.out⟩
set_option maxRecDepth 100000 in
set_option maxHeartbeats 4000000 in
theorem dR_cut (w : World) (s : ByteArray) (hm : s.size ≤ 100000) (h : 20 ≤ s.size) (X : Nat) (h0 : 0 < s.size) (hX : (s[0]'h0).toNat = X) (h2 : 69 ≤ X) (h3 : X ≤ 79) (N : Nat) (hN : N = 4 * (X - 64)) (h4 : s.size < N) :
    Calls Try.prog 23 #[.string s] w fun e w' => e = .returned (.tuple #[.agg (pdC pdZ), .int .i64 7]) ∧ Below w.heap.size w w' := by
  have hw1 : IntKind.i64.wrap (X : Int) = (X : Int) := IntWalk.i64_in _ (by omega)
  have hw2 : IntKind.i64.wrap ((X : Int) - 64) = (X : Int) - 64 := IntWalk.i64_in _ (by omega)
  have hw4 : 4 * ((X : Int) - 64) = (N : Int) := by omega
  have hw3 : IntKind.i64.wrap (N : Int) = (N : Int) := IntWalk.i64_in _ (by omega)
  have e0 : ¬ (s.size : Int) < 20 := by omega
  have e2 : decide ((N : Int) < 20) = false := decide_eq_false (by omega)
  have e3 : decide (60 < (N : Int)) = false := decide_eq_false (by omega)
  have e4 : decide (s.size < N) = true := decide_eq_true h4
  clear h h2 h3 hN
  go_enter Try.func23, Try.ntmps23
  go_upto_region 2 with fail
  have RM : Hid (PdRoom ((w.alloc (.cells #[.int .i64 0, .int .u8 0, .int .u8 0, .int .u8 0, .int .u8 0, .int .u8 0, .int .u8 0, .int .u8 0, .int .u8 0, .int .i64 0, .int .i64 0, .int .i64 0, .bool false, .string ⟨#[]⟩] 29)).alloc (.cells #[.int .i64 0, .int .u8 0, .int .u8 0, .int .u8 0, .int .u8 0, .int .u8 0, .int .u8 0, .int .u8 0, .int .u8 0, .int .i64 0, .int .i64 0, .int .i64 0, .bool false, .string ⟨#[]⟩] 29)) w.heap.size) := Lib.hid ((pdroom_new w _ #[.int .i64 0, .int .u8 0, .int .u8 0, .int .u8 0, .int .u8 0, .int .u8 0, .int .u8 0, .int .u8 0, .int .u8 0, .int .i64 0, .int .i64 0, .int .i64 0, .bool false, .string ⟨#[]⟩] rfl rfl).grow ((Below.refl _ _).alloc (Nat.le_refl _) _))
  have P4 : Hid (PdAt ((w.alloc (.cells #[.int .i64 0, .int .u8 0, .int .u8 0, .int .u8 0, .int .u8 0, .int .u8 0, .int .u8 0, .int .u8 0, .int .u8 0, .int .i64 0, .int .i64 0, .int .i64 0, .bool false, .string ⟨#[]⟩] 29)).alloc (.cells #[.int .i64 0, .int .u8 0, .int .u8 0, .int .u8 0, .int .u8 0, .int .u8 0, .int .u8 0, .int .u8 0, .int .u8 0, .int .i64 0, .int .i64 0, .int .i64 0, .bool false, .string ⟨#[]⟩] 29)) (w.heap.size + 1) pdZ) := Lib.hid (pd_new _ _ pdZ (by simp))
  have BL : Hid (Below w.heap.size w ((w.alloc (.cells #[.int .i64 0, .int .u8 0, .int .u8 0, .int .u8 0, .int .u8 0, .int .u8 0, .int .u8 0, .int .u8 0, .int .u8 0, .int .i64 0, .int .i64 0, .int .i64 0, .bool false, .string ⟨#[]⟩] 29)).alloc (.cells #[.int .i64 0, .int .u8 0, .int .u8 0, .int .u8 0, .int .u8 0, .int .u8 0, .int .u8 0, .int .u8 0, .int .u8 0, .int .i64 0, .int .i64 0, .int .i64 0, .bool false, .string ⟨#[]⟩] 29))) := Lib.hid (((Below.refl _ _).alloc (Nat.le_refl _) _).alloc (by simp) _)
  obtain ⟨n4, hn4⟩ : ∃ n, n = w.heap.size + 1 := ⟨_, rfl⟩
  have HN4 : Hid (w.heap.size < n4) := Lib.hid (by omega)
  generalize (w.alloc _).alloc _ = W1 at RM P4 BL ⊢
  rw [← hn4] at P4 ⊢
  clear hn4
  have hp := P4.out
  obtain ⟨hst, S6⟩ := RM.out.put pdZ
  have S6 := Lib.hid S6
  have B6 := Lib.hid (below_setRow BL.out (Nat.le_refl _) (pdC pdZ))
  go_wp2_with (first | (refine pd_ld (by rfl) _ rfl n4 rfl _ hp ?_) | (refine wpList_storeW 29 _ _ rfl rfl _ w.heap.size rfl rfl hst ?_))
  exact bodyPost_ret (v := .tuple #[.agg (pdC pdZ), .int .i64 7]) (results_row _ 2 3 29 (by kernel_rfl) _ w.heap.size _ _ _ _ rfl rfl S6.out Try.underlying29 rfl (by kernel_rfl)) rfl ⟨rfl, B6.out⟩
set_option maxRecDepth 100000 in
set_option maxHeartbeats 4000000 in
theorem dR_sum (w : World) (s : ByteArray) (hm : s.size ≤ 100000) (h : 20 ≤ s.size) (X : Nat) (h0 : 0 < s.size) (hX : (s[0]'h0).toNat = X) (h2 : 69 ≤ X) (h3 : X ≤ 79) (N : Nat) (hN : N = 4 * (X - 64)) (h4 : N ≤ s.size) (K : Nat) (hK : sumT (s.data.toList.take N) = K) (h5 : ¬ K = 0) :
    Calls Try.prog 23 #[.string s] w fun e w' => e = .returned (.tuple #[.agg (pdC pdZ), .int .i64 9]) ∧ Below w.heap.size w w' := by
  have hw1 : IntKind.i64.wrap (X : Int) = (X : Int) := IntWalk.i64_in _ (by omega)
  have hw2 : IntKind.i64.wrap ((X : Int) - 64) = (X : Int) - 64 := IntWalk.i64_in _ (by omega)
  have hw4 : 4 * ((X : Int) - 64) = (N : Int) := by omega
  have hw3 : IntKind.i64.wrap (N : Int) = (N : Int) := IntWalk.i64_in _ (by omega)
  have e0 : ¬ (s.size : Int) < 20 := by omega
  have e2 : decide ((N : Int) < 20) = false := decide_eq_false (by omega)
  have e3 : decide (60 < (N : Int)) = false := decide_eq_false (by omega)
  have e4 : decide (s.size < N) = false := decide_eq_false (by omega)
  have hS := Lib.hid (fun w => rSum_any w (s.extract 0 N) (by rw [ByteArray.size_extract]; omega))
  rw [extract_take, hK] at hS
  have e5 : ((K : Int) != 0) = true := by simp [h5]
  clear h h2 h3 hN hK h5
  go_enter Try.func23, Try.ntmps23
  go_upto_region 2 with fail
  have RM : Hid (PdRoom ((w.alloc (.cells #[.int .i64 0, .int .u8 0, .int .u8 0, .int .u8 0, .int .u8 0, .int .u8 0, .int .u8 0, .int .u8 0, .int .u8 0, .int .i64 0, .int .i64 0, .int .i64 0, .bool false, .string ⟨#[]⟩] 29)).alloc (.cells #[.int .i64 0, .int .u8 0, .int .u8 0, .int .u8 0, .int .u8 0, .int .u8 0, .int .u8 0, .int .u8 0, .int .u8 0, .int .i64 0, .int .i64 0, .int .i64 0, .bool false, .string ⟨#[]⟩] 29)) w.heap.size) := Lib.hid ((pdroom_new w _ #[.int .i64 0, .int .u8 0, .int .u8 0, .int .u8 0, .int .u8 0, .int .u8 0, .int .u8 0, .int .u8 0, .int .u8 0, .int .i64 0, .int .i64 0, .int .i64 0, .bool false, .string ⟨#[]⟩] rfl rfl).grow ((Below.refl _ _).alloc (Nat.le_refl _) _))
  have P4 : Hid (PdAt ((w.alloc (.cells #[.int .i64 0, .int .u8 0, .int .u8 0, .int .u8 0, .int .u8 0, .int .u8 0, .int .u8 0, .int .u8 0, .int .u8 0, .int .i64 0, .int .i64 0, .int .i64 0, .bool false, .string ⟨#[]⟩] 29)).alloc (.cells #[.int .i64 0, .int .u8 0, .int .u8 0, .int .u8 0, .int .u8 0, .int .u8 0, .int .u8 0, .int .u8 0, .int .u8 0, .int .i64 0, .int .i64 0, .int .i64 0, .bool false, .string ⟨#[]⟩] 29)) (w.heap.size + 1) pdZ) := Lib.hid (pd_new _ _ pdZ (by simp))
  have BL : Hid (Below w.heap.size w ((w.alloc (.cells #[.int .i64 0, .int .u8 0, .int .u8 0, .int .u8 0, .int .u8 0, .int .u8 0, .int .u8 0, .int .u8 0, .int .u8 0, .int .i64 0, .int .i64 0, .int .i64 0, .bool false, .string ⟨#[]⟩] 29)).alloc (.cells #[.int .i64 0, .int .u8 0, .int .u8 0, .int .u8 0, .int .u8 0, .int .u8 0, .int .u8 0, .int .u8 0, .int .u8 0, .int .i64 0, .int .i64 0, .int .i64 0, .bool false, .string ⟨#[]⟩] 29))) := Lib.hid (((Below.refl _ _).alloc (Nat.le_refl _) _).alloc (by simp) _)
  obtain ⟨n4, hn4⟩ : ∃ n, n = w.heap.size + 1 := ⟨_, rfl⟩
  have HN4 : Hid (w.heap.size < n4) := Lib.hid (by omega)
  generalize (w.alloc _).alloc _ = W1 at RM P4 BL ⊢
  rw [← hn4] at P4 ⊢
  clear hn4
  go_wp2_with fail
  refine (hS.out _).mono ?_
  rintro e w2 ⟨rfl, b2⟩
  have RM2 := Lib.hid (RM.out.grow b2)
  have P42 := Lib.hid (P4.out.grow b2)
  have BL2 := bstep BL b2
  clear b2 RM BL P4
  have hp := P42.out
  obtain ⟨hst, S6⟩ := RM2.out.put pdZ
  have S6 := Lib.hid S6
  have B6 := Lib.hid (below_setRow BL2.out (Nat.le_refl _) (pdC pdZ))
  go_wp2_with (first | (refine pd_ld (by rfl) _ rfl n4 rfl _ hp ?_) | (refine wpList_storeW 29 _ _ rfl rfl _ w.heap.size rfl rfl hst ?_))
  exact bodyPost_ret (v := .tuple #[.agg (pdC pdZ), .int .i64 9]) (results_row _ 2 3 29 (by kernel_rfl) _ w.heap.size _ _ _ _ rfl rfl S6.out Try.underlying29 rfl (by kernel_rfl)) rfl ⟨rfl, B6.out⟩
set_option maxRecDepth 100000 in
set_option maxHeartbeats 4000000 in
theorem dR_less (w : World) (s : ByteArray) (hm : s.size ≤ 100000) (h : 20 ≤ s.size) (X : Nat) (h0 : 0 < s.size) (hX : (s[0]'h0).toNat = X) (h2 : 69 ≤ X) (h3 : X ≤ 79) (N : Nat) (hN : N = 4 * (X - 64)) (h4 : N ≤ s.size) (hK : sumT (s.data.toList.take N) = 0) (ALL : Nat) (hA : wd s.data.toList 2 = ALL) (h1 : ALL < N) :
    Calls Try.prog 23 #[.string s] w fun e w' => e = .returned (.tuple #[.agg (pdC pdZ), .int .i64 8]) ∧ Below w.heap.size w w' := by
  have hw1 : IntKind.i64.wrap (X : Int) = (X : Int) := IntWalk.i64_in _ (by omega)
  have hw2 : IntKind.i64.wrap ((X : Int) - 64) = (X : Int) - 64 := IntWalk.i64_in _ (by omega)
  have hw4 : 4 * ((X : Int) - 64) = (N : Int) := by omega
  have hw3 : IntKind.i64.wrap (N : Int) = (N : Int) := IntWalk.i64_in _ (by omega)
  have e0 : ¬ (s.size : Int) < 20 := by omega
  have e2 : decide ((N : Int) < 20) = false := decide_eq_false (by omega)
  have e3 : decide (60 < (N : Int)) = false := decide_eq_false (by omega)
  have e4 : decide (s.size < N) = false := decide_eq_false (by omega)
  have hS := Lib.hid (fun w => rSum_any w (s.extract 0 N) (by rw [ByteArray.size_extract]; omega))
  rw [extract_take, hK] at hS
  have z2 : 2 < s.size := by omega
  obtain ⟨X2, x2⟩ : ∃ X, bt s.data.toList 2 = X := ⟨_, rfl⟩
  have HX2 : Hid ((s[2]'z2).toNat = X2) := Lib.hid (by rw [← x2]; exact bt_at s 2 z2)
  have HB2 : Hid (X2 < 256) := Lib.hid (by rw [← x2]; exact bt_lt _ _)
  have HW2 : Hid (IntKind.i64.wrap (X2 : Int) = (X2 : Int)) := Lib.hid (IntWalk.i64_in _ (by have := HB2.out; omega))
  have z3 : 3 < s.size := by omega
  obtain ⟨X3, x3⟩ : ∃ X, bt s.data.toList 3 = X := ⟨_, rfl⟩
  have HX3 : Hid ((s[3]'z3).toNat = X3) := Lib.hid (by rw [← x3]; exact bt_at s 3 z3)
  have HB3 : Hid (X3 < 256) := Lib.hid (by rw [← x3]; exact bt_lt _ _)
  have HW3 : Hid (IntKind.i64.wrap (X3 : Int) = (X3 : Int)) := Lib.hid (IntWalk.i64_in _ (by have := HB3.out; omega))
  have M2 : Hid (IntKind.i64.wrap (256 * (X2 : Int)) = 256 * (X2 : Int)) := Lib.hid (IntWalk.i64_in _ (by have := HB2.out; omega))
  have A2 : Hid (IntKind.i64.wrap (256 * (X2 : Int) + (X3 : Int)) = (ALL : Int)) := Lib.hid (by rw [IntWalk.i64_in _ (by have := HB2.out; have := HB3.out; omega)]; rw [← hA, wd, x2, x3]; omega)
  have d1 : decide (ALL < N) = true := decide_eq_true h1
  clear h h2 h3 hN hK hA x2 x3
  go_enter Try.func23, Try.ntmps23
  go_upto_region 2 with fail
  have RM : Hid (PdRoom ((w.alloc (.cells #[.int .i64 0, .int .u8 0, .int .u8 0, .int .u8 0, .int .u8 0, .int .u8 0, .int .u8 0, .int .u8 0, .int .u8 0, .int .i64 0, .int .i64 0, .int .i64 0, .bool false, .string ⟨#[]⟩] 29)).alloc (.cells #[.int .i64 0, .int .u8 0, .int .u8 0, .int .u8 0, .int .u8 0, .int .u8 0, .int .u8 0, .int .u8 0, .int .u8 0, .int .i64 0, .int .i64 0, .int .i64 0, .bool false, .string ⟨#[]⟩] 29)) w.heap.size) := Lib.hid ((pdroom_new w _ #[.int .i64 0, .int .u8 0, .int .u8 0, .int .u8 0, .int .u8 0, .int .u8 0, .int .u8 0, .int .u8 0, .int .u8 0, .int .i64 0, .int .i64 0, .int .i64 0, .bool false, .string ⟨#[]⟩] rfl rfl).grow ((Below.refl _ _).alloc (Nat.le_refl _) _))
  have P4 : Hid (PdAt ((w.alloc (.cells #[.int .i64 0, .int .u8 0, .int .u8 0, .int .u8 0, .int .u8 0, .int .u8 0, .int .u8 0, .int .u8 0, .int .u8 0, .int .i64 0, .int .i64 0, .int .i64 0, .bool false, .string ⟨#[]⟩] 29)).alloc (.cells #[.int .i64 0, .int .u8 0, .int .u8 0, .int .u8 0, .int .u8 0, .int .u8 0, .int .u8 0, .int .u8 0, .int .u8 0, .int .i64 0, .int .i64 0, .int .i64 0, .bool false, .string ⟨#[]⟩] 29)) (w.heap.size + 1) pdZ) := Lib.hid (pd_new _ _ pdZ (by simp))
  have BL : Hid (Below w.heap.size w ((w.alloc (.cells #[.int .i64 0, .int .u8 0, .int .u8 0, .int .u8 0, .int .u8 0, .int .u8 0, .int .u8 0, .int .u8 0, .int .u8 0, .int .i64 0, .int .i64 0, .int .i64 0, .bool false, .string ⟨#[]⟩] 29)).alloc (.cells #[.int .i64 0, .int .u8 0, .int .u8 0, .int .u8 0, .int .u8 0, .int .u8 0, .int .u8 0, .int .u8 0, .int .u8 0, .int .i64 0, .int .i64 0, .int .i64 0, .bool false, .string ⟨#[]⟩] 29))) := Lib.hid (((Below.refl _ _).alloc (Nat.le_refl _) _).alloc (by simp) _)
  obtain ⟨n4, hn4⟩ : ∃ n, n = w.heap.size + 1 := ⟨_, rfl⟩
  have HN4 : Hid (w.heap.size < n4) := Lib.hid (by omega)
  generalize (w.alloc _).alloc _ = W1 at RM P4 BL ⊢
  rw [← hn4] at P4 ⊢
  clear hn4
  go_wp2_with fail
  refine (hS.out _).mono ?_
  rintro e w2 ⟨rfl, b2⟩
  have RM2 := Lib.hid (RM.out.grow b2)
  have P42 := Lib.hid (P4.out.grow b2)
  have BL2 := bstep BL b2
  clear b2 RM BL P4
  go_upto_region 11 with fail
  refine wp_region_noPanic ?_
  refine region_heldE (S := fun w' => PdRoom w' w.heap.size ∧ PdAt w' n4 pdZ) (by kernel_rfl) (fun V d => ⟨RM2.out.kept (d.block _), P42.out.kept (d.block _)⟩) (fun V3 d hS => ?_)
  have RM3 := Lib.hid hS.1
  have P43 := Lib.hid hS.2
  have BL3 := bstep BL2 d.below
  clear d RM2 P42 BL2
  refine wpAnyH_take (i := 0) (oi := ⟨some 38, Op.move (Operand.tmp 0), _, _, _, none⟩) (v := (.string s)) rfl (by kernel_rfl) (by kernel_rfl) (by kernel_rfl) (fun _ _ _ h => h) (Or.inl ⟨by rfl, fun w' h' => ?_⟩) hS ?_
  · clear h'
    go_simp
  simp only [Act.put]
  refine wpAnyH_take (i := 1) (oi := ⟨some 39, Op.index 9 (Operand.tmp 38) (Operand.const (Value.int IntKind.i64 2)), _, _, _, none⟩) (v := (.int .u8 (X2 : Int))) rfl (by kernel_rfl) (by kernel_rfl) (by kernel_rfl) (fun _ _ _ h => h) (Or.inl ⟨by rfl, fun w' h' => ?_⟩) hS ?_
  · have c0 := HX2.out
    clear h'
    go_simp
    try intro hq
    try omega
  simp only [Act.put]
  refine wpAnyH_take (i := 2) (oi := ⟨some 40, Op.convert 5 3 (Operand.tmp 39), _, _, _, none⟩) (v := (.int .i64 (X2 : Int))) rfl (by kernel_rfl) (by kernel_rfl) (by kernel_rfl) (fun _ _ _ h => h) (Or.inl ⟨by rfl, fun w' h' => ?_⟩) hS ?_
  · have c0 := HW2.out
    clear h'
    go_simp
  simp only [Act.put]
  refine wpAnyH_take (i := 3) (oi := ⟨some 41, Op.binOp BinOp.mul 3 (Operand.const (Value.int IntKind.i64 256)) (Operand.tmp 40) 3, _, _, _, none⟩) (v := (.int .i64 (256 * (X2 : Int)))) rfl (by kernel_rfl) (by kernel_rfl) (by kernel_rfl) (fun _ _ _ h => h) (Or.inl ⟨by rfl, fun w' h' => ?_⟩) hS ?_
  · have c0 := M2.out
    clear h'
    go_simp
  simp only [Act.put]
  refine wpAnyH_take (i := 4) (oi := ⟨some 42, Op.move (Operand.tmp 0), _, _, _, none⟩) (v := (.string s)) rfl (by kernel_rfl) (by kernel_rfl) (by kernel_rfl) (fun _ _ _ h => h) (Or.inl ⟨by rfl, fun w' h' => ?_⟩) hS ?_
  · clear h'
    go_simp
  simp only [Act.put]
  refine wpAnyH_take (i := 5) (oi := ⟨some 43, Op.index 9 (Operand.tmp 42) (Operand.const (Value.int IntKind.i64 3)), _, _, _, none⟩) (v := (.int .u8 (X3 : Int))) rfl (by kernel_rfl) (by kernel_rfl) (by kernel_rfl) (fun _ _ _ h => h) (Or.inl ⟨by rfl, fun w' h' => ?_⟩) hS ?_
  · have c0 := HX3.out
    clear h'
    go_simp
    try intro hq
    try omega
  simp only [Act.put]
  refine wpAnyH_take (i := 6) (oi := ⟨some 44, Op.convert 5 3 (Operand.tmp 43), _, _, _, none⟩) (v := (.int .i64 (X3 : Int))) rfl (by kernel_rfl) (by kernel_rfl) (by kernel_rfl) (fun _ _ _ h => h) (Or.inl ⟨by rfl, fun w' h' => ?_⟩) hS ?_
  · have c0 := HW3.out
    clear h'
    go_simp
  simp only [Act.put]
  refine wpAnyH_take (i := 7) (oi := ⟨some 45, Op.binOp BinOp.add 3 (Operand.tmp 41) (Operand.tmp 44) 3, _, _, _, none⟩) (v := (.int .i64 (ALL : Int))) rfl (by kernel_rfl) (by kernel_rfl) (by kernel_rfl) (fun _ _ _ h => h) (Or.inl ⟨by rfl, fun w' h' => ?_⟩) hS ?_
  · have c0 := A2.out
    clear h'
    go_simp
  simp only [Act.put]
  refine wpAnyH_take (i := 8) (oi := ⟨some 6, Op.assign (Operand.tmp 45), _, _, _, none⟩) (v := (.int .i64 (ALL : Int))) rfl (by kernel_rfl) (by kernel_rfl) (by kernel_rfl) (fun _ _ _ h => h) (Or.inl ⟨by rfl, fun w' h' => ?_⟩) hS ?_
  · clear h'
    go_simp
  simp only [Act.put]
  refine wpAnyH_done (by kernel_rfl) (NoPanic.normal ?_) _
  
  simp only [List.setIfInBounds_toArray, List.set_cons_zero, List.set_cons_succ]
  have hp := P43.out
  obtain ⟨hst, S6⟩ := RM3.out.put pdZ
  have S6 := Lib.hid S6
  have B6 := Lib.hid (below_setRow BL3.out (Nat.le_refl _) (pdC pdZ))
  go_wp2_with (first | (refine pd_ld (by rfl) _ rfl n4 rfl _ hp ?_) | (refine wpList_storeW 29 _ _ rfl rfl _ w.heap.size rfl rfl hst ?_))
  exact bodyPost_ret (v := .tuple #[.agg (pdC pdZ), .int .i64 8]) (results_row _ 2 3 29 (by kernel_rfl) _ w.heap.size _ _ _ _ rfl rfl S6.out Try.underlying29 rfl (by kernel_rfl)) rfl ⟨rfl, B6.out⟩
set_option maxRecDepth 100000 in
set_option maxHeartbeats 4000000 in
theorem dR_more (w : World) (s : ByteArray) (hm : s.size ≤ 100000) (h : 20 ≤ s.size) (X : Nat) (h0 : 0 < s.size) (hX : (s[0]'h0).toNat = X) (h2 : 69 ≤ X) (h3 : X ≤ 79) (N : Nat) (hN : N = 4 * (X - 64)) (h4 : N ≤ s.size) (hK : sumT (s.data.toList.take N) = 0) (ALL : Nat) (hA : wd s.data.toList 2 = ALL) (h1 : ¬ ALL < N) (h6 : s.size < ALL) :
    Calls Try.prog 23 #[.string s] w fun e w' => e = .returned (.tuple #[.agg (pdC pdZ), .int .i64 7]) ∧ Below w.heap.size w w' := by
  have hw1 : IntKind.i64.wrap (X : Int) = (X : Int) := IntWalk.i64_in _ (by omega)
  have hw2 : IntKind.i64.wrap ((X : Int) - 64) = (X : Int) - 64 := IntWalk.i64_in _ (by omega)
  have hw4 : 4 * ((X : Int) - 64) = (N : Int) := by omega
  have hw3 : IntKind.i64.wrap (N : Int) = (N : Int) := IntWalk.i64_in _ (by omega)
  have e0 : ¬ (s.size : Int) < 20 := by omega
  have e2 : decide ((N : Int) < 20) = false := decide_eq_false (by omega)
  have e3 : decide (60 < (N : Int)) = false := decide_eq_false (by omega)
  have e4 : decide (s.size < N) = false := decide_eq_false (by omega)
  have hS := Lib.hid (fun w => rSum_any w (s.extract 0 N) (by rw [ByteArray.size_extract]; omega))
  rw [extract_take, hK] at hS
  have z2 : 2 < s.size := by omega
  obtain ⟨X2, x2⟩ : ∃ X, bt s.data.toList 2 = X := ⟨_, rfl⟩
  have HX2 : Hid ((s[2]'z2).toNat = X2) := Lib.hid (by rw [← x2]; exact bt_at s 2 z2)
  have HB2 : Hid (X2 < 256) := Lib.hid (by rw [← x2]; exact bt_lt _ _)
  have HW2 : Hid (IntKind.i64.wrap (X2 : Int) = (X2 : Int)) := Lib.hid (IntWalk.i64_in _ (by have := HB2.out; omega))
  have z3 : 3 < s.size := by omega
  obtain ⟨X3, x3⟩ : ∃ X, bt s.data.toList 3 = X := ⟨_, rfl⟩
  have HX3 : Hid ((s[3]'z3).toNat = X3) := Lib.hid (by rw [← x3]; exact bt_at s 3 z3)
  have HB3 : Hid (X3 < 256) := Lib.hid (by rw [← x3]; exact bt_lt _ _)
  have HW3 : Hid (IntKind.i64.wrap (X3 : Int) = (X3 : Int)) := Lib.hid (IntWalk.i64_in _ (by have := HB3.out; omega))
  have M2 : Hid (IntKind.i64.wrap (256 * (X2 : Int)) = 256 * (X2 : Int)) := Lib.hid (IntWalk.i64_in _ (by have := HB2.out; omega))
  have A2 : Hid (IntKind.i64.wrap (256 * (X2 : Int) + (X3 : Int)) = (ALL : Int)) := Lib.hid (by rw [IntWalk.i64_in _ (by have := HB2.out; have := HB3.out; omega)]; rw [← hA, wd, x2, x3]; omega)
  have d1 : decide (ALL < N) = false := decide_eq_false h1
  have d2 : decide (s.size < ALL) = true := decide_eq_true h6
  clear h h2 h3 hN hK hA x2 x3
  go_enter Try.func23, Try.ntmps23
  go_upto_region 2 with fail
  have RM : Hid (PdRoom ((w.alloc (.cells #[.int .i64 0, .int .u8 0, .int .u8 0, .int .u8 0, .int .u8 0, .int .u8 0, .int .u8 0, .int .u8 0, .int .u8 0, .int .i64 0, .int .i64 0, .int .i64 0, .bool false, .string ⟨#[]⟩] 29)).alloc (.cells #[.int .i64 0, .int .u8 0, .int .u8 0, .int .u8 0, .int .u8 0, .int .u8 0, .int .u8 0, .int .u8 0, .int .u8 0, .int .i64 0, .int .i64 0, .int .i64 0, .bool false, .string ⟨#[]⟩] 29)) w.heap.size) := Lib.hid ((pdroom_new w _ #[.int .i64 0, .int .u8 0, .int .u8 0, .int .u8 0, .int .u8 0, .int .u8 0, .int .u8 0, .int .u8 0, .int .u8 0, .int .i64 0, .int .i64 0, .int .i64 0, .bool false, .string ⟨#[]⟩] rfl rfl).grow ((Below.refl _ _).alloc (Nat.le_refl _) _))
  have P4 : Hid (PdAt ((w.alloc (.cells #[.int .i64 0, .int .u8 0, .int .u8 0, .int .u8 0, .int .u8 0, .int .u8 0, .int .u8 0, .int .u8 0, .int .u8 0, .int .i64 0, .int .i64 0, .int .i64 0, .bool false, .string ⟨#[]⟩] 29)).alloc (.cells #[.int .i64 0, .int .u8 0, .int .u8 0, .int .u8 0, .int .u8 0, .int .u8 0, .int .u8 0, .int .u8 0, .int .u8 0, .int .i64 0, .int .i64 0, .int .i64 0, .bool false, .string ⟨#[]⟩] 29)) (w.heap.size + 1) pdZ) := Lib.hid (pd_new _ _ pdZ (by simp))
  have BL : Hid (Below w.heap.size w ((w.alloc (.cells #[.int .i64 0, .int .u8 0, .int .u8 0, .int .u8 0, .int .u8 0, .int .u8 0, .int .u8 0, .int .u8 0, .int .u8 0, .int .i64 0, .int .i64 0, .int .i64 0, .bool false, .string ⟨#[]⟩] 29)).alloc (.cells #[.int .i64 0, .int .u8 0, .int .u8 0, .int .u8 0, .int .u8 0, .int .u8 0, .int .u8 0, .int .u8 0, .int .u8 0, .int .i64 0, .int .i64 0, .int .i64 0, .bool false, .string ⟨#[]⟩] 29))) := Lib.hid (((Below.refl _ _).alloc (Nat.le_refl _) _).alloc (by simp) _)
  obtain ⟨n4, hn4⟩ : ∃ n, n = w.heap.size + 1 := ⟨_, rfl⟩
  have HN4 : Hid (w.heap.size < n4) := Lib.hid (by omega)
  generalize (w.alloc _).alloc _ = W1 at RM P4 BL ⊢
  rw [← hn4] at P4 ⊢
  clear hn4
  go_wp2_with fail
  refine (hS.out _).mono ?_
  rintro e w2 ⟨rfl, b2⟩
  have RM2 := Lib.hid (RM.out.grow b2)
  have P42 := Lib.hid (P4.out.grow b2)
  have BL2 := bstep BL b2
  clear b2 RM BL P4
  go_upto_region 11 with fail
  refine wp_region_noPanic ?_
  refine region_heldE (S := fun w' => PdRoom w' w.heap.size ∧ PdAt w' n4 pdZ) (by kernel_rfl) (fun V d => ⟨RM2.out.kept (d.block _), P42.out.kept (d.block _)⟩) (fun V3 d hS => ?_)
  have RM3 := Lib.hid hS.1
  have P43 := Lib.hid hS.2
  have BL3 := bstep BL2 d.below
  clear d RM2 P42 BL2
  refine wpAnyH_take (i := 0) (oi := ⟨some 38, Op.move (Operand.tmp 0), _, _, _, none⟩) (v := (.string s)) rfl (by kernel_rfl) (by kernel_rfl) (by kernel_rfl) (fun _ _ _ h => h) (Or.inl ⟨by rfl, fun w' h' => ?_⟩) hS ?_
  · clear h'
    go_simp
  simp only [Act.put]
  refine wpAnyH_take (i := 1) (oi := ⟨some 39, Op.index 9 (Operand.tmp 38) (Operand.const (Value.int IntKind.i64 2)), _, _, _, none⟩) (v := (.int .u8 (X2 : Int))) rfl (by kernel_rfl) (by kernel_rfl) (by kernel_rfl) (fun _ _ _ h => h) (Or.inl ⟨by rfl, fun w' h' => ?_⟩) hS ?_
  · have c0 := HX2.out
    clear h'
    go_simp
    try intro hq
    try omega
  simp only [Act.put]
  refine wpAnyH_take (i := 2) (oi := ⟨some 40, Op.convert 5 3 (Operand.tmp 39), _, _, _, none⟩) (v := (.int .i64 (X2 : Int))) rfl (by kernel_rfl) (by kernel_rfl) (by kernel_rfl) (fun _ _ _ h => h) (Or.inl ⟨by rfl, fun w' h' => ?_⟩) hS ?_
  · have c0 := HW2.out
    clear h'
    go_simp
  simp only [Act.put]
  refine wpAnyH_take (i := 3) (oi := ⟨some 41, Op.binOp BinOp.mul 3 (Operand.const (Value.int IntKind.i64 256)) (Operand.tmp 40) 3, _, _, _, none⟩) (v := (.int .i64 (256 * (X2 : Int)))) rfl (by kernel_rfl) (by kernel_rfl) (by kernel_rfl) (fun _ _ _ h => h) (Or.inl ⟨by rfl, fun w' h' => ?_⟩) hS ?_
  · have c0 := M2.out
    clear h'
    go_simp
  simp only [Act.put]
  refine wpAnyH_take (i := 4) (oi := ⟨some 42, Op.move (Operand.tmp 0), _, _, _, none⟩) (v := (.string s)) rfl (by kernel_rfl) (by kernel_rfl) (by kernel_rfl) (fun _ _ _ h => h) (Or.inl ⟨by rfl, fun w' h' => ?_⟩) hS ?_
  · clear h'
    go_simp
  simp only [Act.put]
  refine wpAnyH_take (i := 5) (oi := ⟨some 43, Op.index 9 (Operand.tmp 42) (Operand.const (Value.int IntKind.i64 3)), _, _, _, none⟩) (v := (.int .u8 (X3 : Int))) rfl (by kernel_rfl) (by kernel_rfl) (by kernel_rfl) (fun _ _ _ h => h) (Or.inl ⟨by rfl, fun w' h' => ?_⟩) hS ?_
  · have c0 := HX3.out
    clear h'
    go_simp
    try intro hq
    try omega
  simp only [Act.put]
  refine wpAnyH_take (i := 6) (oi := ⟨some 44, Op.convert 5 3 (Operand.tmp 43), _, _, _, none⟩) (v := (.int .i64 (X3 : Int))) rfl (by kernel_rfl) (by kernel_rfl) (by kernel_rfl) (fun _ _ _ h => h) (Or.inl ⟨by rfl, fun w' h' => ?_⟩) hS ?_
  · have c0 := HW3.out
    clear h'
    go_simp
  simp only [Act.put]
  refine wpAnyH_take (i := 7) (oi := ⟨some 45, Op.binOp BinOp.add 3 (Operand.tmp 41) (Operand.tmp 44) 3, _, _, _, none⟩) (v := (.int .i64 (ALL : Int))) rfl (by kernel_rfl) (by kernel_rfl) (by kernel_rfl) (fun _ _ _ h => h) (Or.inl ⟨by rfl, fun w' h' => ?_⟩) hS ?_
  · have c0 := A2.out
    clear h'
    go_simp
  simp only [Act.put]
  refine wpAnyH_take (i := 8) (oi := ⟨some 6, Op.assign (Operand.tmp 45), _, _, _, none⟩) (v := (.int .i64 (ALL : Int))) rfl (by kernel_rfl) (by kernel_rfl) (by kernel_rfl) (fun _ _ _ h => h) (Or.inl ⟨by rfl, fun w' h' => ?_⟩) hS ?_
  · clear h'
    go_simp
  simp only [Act.put]
  refine wpAnyH_done (by kernel_rfl) (NoPanic.normal ?_) _
  
  simp only [List.setIfInBounds_toArray, List.set_cons_zero, List.set_cons_succ]
  have hp := P43.out
  obtain ⟨hst, S6⟩ := RM3.out.put pdZ
  have S6 := Lib.hid S6
  have B6 := Lib.hid (below_setRow BL3.out (Nat.le_refl _) (pdC pdZ))
  go_wp2_with (first | (refine pd_ld (by rfl) _ rfl n4 rfl _ hp ?_) | (refine wpList_storeW 29 _ _ rfl rfl _ w.heap.size rfl rfl hst ?_))
  exact bodyPost_ret (v := .tuple #[.agg (pdC pdZ), .int .i64 7]) (results_row _ 2 3 29 (by kernel_rfl) _ w.heap.size _ _ _ _ rfl rfl S6.out Try.underlying29 rfl (by kernel_rfl)) rfl ⟨rfl, B6.out⟩
set_option maxRecDepth 100000 in
set_option maxHeartbeats 4000000 in
theorem dR_of (w : World) (s : ByteArray) (hm : s.size ≤ 100000) (h : 20 ≤ s.size) (X : Nat) (h0 : 0 < s.size) (hX : (s[0]'h0).toNat = X) (h2 : 69 ≤ X) (h3 : X ≤ 79) (N : Nat) (hN : N = 4 * (X - 64)) (h4 : N ≤ s.size) (hK : sumT (s.data.toList.take N) = 0) (ALL : Nat) (hA : wd s.data.toList 2 = ALL) (h1 : ¬ ALL < N) (h6 : ¬ s.size < ALL) (PL : Nat) (hP : wd s.data.toList 6 = PL) (Q : Pd) (hQ : Q = rdQ s) (hQN : rdN s = N) (bad : Bool) (hbad : (decide (32768 ≤ PL) || !mayB Q) = bad) (R : Pd) (E : Int) (hR : R = if bad = true then pdZ else Q) (hE : E = if bad = true then 8 else 0) :
    Calls Try.prog 23 #[.string s] w fun e w' => e = .returned (.tuple #[.agg (pdC R), .int .i64 E]) ∧ Below w.heap.size w w' := by
  have hw1 : IntKind.i64.wrap (X : Int) = (X : Int) := IntWalk.i64_in _ (by omega)
  have hw2 : IntKind.i64.wrap ((X : Int) - 64) = (X : Int) - 64 := IntWalk.i64_in _ (by omega)
  have hw4 : 4 * ((X : Int) - 64) = (N : Int) := by omega
  have hw3 : IntKind.i64.wrap (N : Int) = (N : Int) := IntWalk.i64_in _ (by omega)
  have e0 : ¬ (s.size : Int) < 20 := by omega
  have e2 : decide ((N : Int) < 20) = false := decide_eq_false (by omega)
  have e3 : decide (60 < (N : Int)) = false := decide_eq_false (by omega)
  have e4 : decide (s.size < N) = false := decide_eq_false (by omega)
  have hS := Lib.hid (fun w => rSum_any w (s.extract 0 N) (by rw [ByteArray.size_extract]; omega))
  rw [extract_take, hK] at hS
  have z2 : 2 < s.size := by omega
  obtain ⟨X2, x2⟩ : ∃ X, bt s.data.toList 2 = X := ⟨_, rfl⟩
  have HX2 : Hid ((s[2]'z2).toNat = X2) := Lib.hid (by rw [← x2]; exact bt_at s 2 z2)
  have HB2 : Hid (X2 < 256) := Lib.hid (by rw [← x2]; exact bt_lt _ _)
  have HW2 : Hid (IntKind.i64.wrap (X2 : Int) = (X2 : Int)) := Lib.hid (IntWalk.i64_in _ (by have := HB2.out; omega))
  have z3 : 3 < s.size := by omega
  obtain ⟨X3, x3⟩ : ∃ X, bt s.data.toList 3 = X := ⟨_, rfl⟩
  have HX3 : Hid ((s[3]'z3).toNat = X3) := Lib.hid (by rw [← x3]; exact bt_at s 3 z3)
  have HB3 : Hid (X3 < 256) := Lib.hid (by rw [← x3]; exact bt_lt _ _)
  have HW3 : Hid (IntKind.i64.wrap (X3 : Int) = (X3 : Int)) := Lib.hid (IntWalk.i64_in _ (by have := HB3.out; omega))
  have M2 : Hid (IntKind.i64.wrap (256 * (X2 : Int)) = 256 * (X2 : Int)) := Lib.hid (IntWalk.i64_in _ (by have := HB2.out; omega))
  have A2 : Hid (IntKind.i64.wrap (256 * (X2 : Int) + (X3 : Int)) = (ALL : Int)) := Lib.hid (by rw [IntWalk.i64_in _ (by have := HB2.out; have := HB3.out; omega)]; rw [← hA, wd, x2, x3]; omega)
  have z4 : 4 < s.size := by omega
  obtain ⟨X4, x4⟩ : ∃ X, bt s.data.toList 4 = X := ⟨_, rfl⟩
  have HX4 : Hid ((s[4]'z4).toNat = X4) := Lib.hid (by rw [← x4]; exact bt_at s 4 z4)
  have HB4 : Hid (X4 < 256) := Lib.hid (by rw [← x4]; exact bt_lt _ _)
  have HW4 : Hid (IntKind.i64.wrap (X4 : Int) = (X4 : Int)) := Lib.hid (IntWalk.i64_in _ (by have := HB4.out; omega))
  have z5 : 5 < s.size := by omega
  obtain ⟨X5, x5⟩ : ∃ X, bt s.data.toList 5 = X := ⟨_, rfl⟩
  have HX5 : Hid ((s[5]'z5).toNat = X5) := Lib.hid (by rw [← x5]; exact bt_at s 5 z5)
  have HB5 : Hid (X5 < 256) := Lib.hid (by rw [← x5]; exact bt_lt _ _)
  have HW5 : Hid (IntKind.i64.wrap (X5 : Int) = (X5 : Int)) := Lib.hid (IntWalk.i64_in _ (by have := HB5.out; omega))
  have z6 : 6 < s.size := by omega
  obtain ⟨X6, x6⟩ : ∃ X, bt s.data.toList 6 = X := ⟨_, rfl⟩
  have HX6 : Hid ((s[6]'z6).toNat = X6) := Lib.hid (by rw [← x6]; exact bt_at s 6 z6)
  have HB6 : Hid (X6 < 256) := Lib.hid (by rw [← x6]; exact bt_lt _ _)
  have HW6 : Hid (IntKind.i64.wrap (X6 : Int) = (X6 : Int)) := Lib.hid (IntWalk.i64_in _ (by have := HB6.out; omega))
  have z7 : 7 < s.size := by omega
  obtain ⟨X7, x7⟩ : ∃ X, bt s.data.toList 7 = X := ⟨_, rfl⟩
  have HX7 : Hid ((s[7]'z7).toNat = X7) := Lib.hid (by rw [← x7]; exact bt_at s 7 z7)
  have HB7 : Hid (X7 < 256) := Lib.hid (by rw [← x7]; exact bt_lt _ _)
  have HW7 : Hid (IntKind.i64.wrap (X7 : Int) = (X7 : Int)) := Lib.hid (IntWalk.i64_in _ (by have := HB7.out; omega))
  have z8 : 8 < s.size := by omega
  obtain ⟨X8, x8⟩ : ∃ X, bt s.data.toList 8 = X := ⟨_, rfl⟩
  have HX8 : Hid ((s[8]'z8).toNat = X8) := Lib.hid (by rw [← x8]; exact bt_at s 8 z8)
  have HB8 : Hid (X8 < 256) := Lib.hid (by rw [← x8]; exact bt_lt _ _)
  have HW8 : Hid (IntKind.i64.wrap (X8 : Int) = (X8 : Int)) := Lib.hid (IntWalk.i64_in _ (by have := HB8.out; omega))
  have z9 : 9 < s.size := by omega
  obtain ⟨X9, x9⟩ : ∃ X, bt s.data.toList 9 = X := ⟨_, rfl⟩
  have HX9 : Hid ((s[9]'z9).toNat = X9) := Lib.hid (by rw [← x9]; exact bt_at s 9 z9)
  have HB9 : Hid (X9 < 256) := Lib.hid (by rw [← x9]; exact bt_lt _ _)
  have HW9 : Hid (IntKind.i64.wrap (X9 : Int) = (X9 : Int)) := Lib.hid (IntWalk.i64_in _ (by have := HB9.out; omega))
  have M4 : Hid (IntKind.i64.wrap (256 * (X4 : Int)) = 256 * (X4 : Int)) := Lib.hid (IntWalk.i64_in _ (by have := HB4.out; omega))
  have A4 : Hid (IntKind.i64.wrap (256 * (X4 : Int) + (X5 : Int)) = Q.id) := Lib.hid (by rw [IntWalk.i64_in _ (by have := HB4.out; have := HB5.out; omega)]; rw [hQ, rdQ, wd, x4, x5]; simp)
  have M6 : Hid (IntKind.i64.wrap (256 * (X6 : Int)) = 256 * (X6 : Int)) := Lib.hid (IntWalk.i64_in _ (by have := HB6.out; omega))
  have A6 : Hid (IntKind.i64.wrap (256 * (X6 : Int) + (X7 : Int)) = (PL : Int)) := Lib.hid (by rw [IntWalk.i64_in _ (by have := HB6.out; have := HB7.out; omega)]; rw [← hP, wd, x6, x7]; omega)
  have d1 : decide (ALL < N) = false := decide_eq_false h1
  have d2 : decide (s.size < ALL) = false := decide_eq_false h6
  have W9 : Hid (IntKind.i64.wrap (X9 : Int) = Q.pr) := Lib.hid (by rw [HW9.out, hQ, ← x9]; rfl)
  have W8 : Hid (IntKind.i64.wrap (X8 : Int) = Q.tl) := Lib.hid (by rw [HW8.out, hQ, ← x8]; rfl)
  obtain ⟨PM, hPM⟩ : ∃ X, X = PL % 8192 := ⟨_, rfl⟩
  obtain ⟨PD, hPD⟩ : ∃ X, X = PL / 8192 := ⟨_, rfl⟩
  obtain ⟨PE, hPE⟩ : ∃ X, X = PD % 2 := ⟨_, rfl⟩
  have hPl : PL < 65536 := by rw [← hP]; exact wd_lt _ _
  have T1 : Hid ((PL : Int).tmod 8192 = (PM : Int)) := Lib.hid (by rw [Int.tmod_eq_emod_of_nonneg (by omega)]; omega)
  have T2 : Hid ((PL : Int) / 8192 = (PD : Int)) := Lib.hid (by omega)
  have T3 : Hid ((PD : Int).tmod 2 = (PE : Int)) := Lib.hid (by rw [Int.tmod_eq_emod_of_nonneg (by omega)]; omega)
  have T4 := Lib.hid (wrap_nat PD (by omega))
  have WP : Hid (IntKind.i64.wrap ((PM : Int) * 8) = Q.ps) := Lib.hid (by rw [IntWalk.i64_in _ (by omega), hQ, rdQ, hP, hPM]; simp)
  have CM2 : Hid (((PE : Int) == 1) = Q.mo) := Lib.hid (by rw [hQ, rdQ, hP, ← hPD, ← hPE, Bool.eq_iff_iff, beq_iff_eq, decide_eq_true_eq]; omega)
  have GA : Hid (¬ (ALL : Int) < (N : Int)) := Lib.hid (by omega)
  have GB : Hid (¬ (s.size : Int) < (ALL : Int)) := Lib.hid (by omega)
  have HD : Hid (s.extract N ALL = Q.da) := Lib.hid (by rw [hQ, rdQ, hQN, hA])
  have hQz : Q.da.size ≤ 140737488355328 := by rw [← HD.out, ByteArray.size_extract]; omega
  have kM := Lib.hid (fun w => rMay_any w Q hQz)
  have M2' : Hid (Q.sr = ipAt s.data.toList 12) := Lib.hid (by rw [hQ]; rfl)
  have M3' : Hid (Q.ds = ipAt s.data.toList 16) := Lib.hid (by rw [hQ]; rfl)
  have HZ : Hid (20 ≤ s.size) := Lib.hid h
  have HBd := Lib.hid hbad
  have HR := Lib.hid hR
  have HE := Lib.hid hE
  clear hbad hR hE hPM hPD hPE hPl hQz h1 h6 hP hQ hQN x4 x5 x6 x7 x8 x9
  clear h h2 h3 hN hK hA x2 x3
  go_enter Try.func23, Try.ntmps23
  go_upto_region 2 with fail
  have RM : Hid (PdRoom ((w.alloc (.cells #[.int .i64 0, .int .u8 0, .int .u8 0, .int .u8 0, .int .u8 0, .int .u8 0, .int .u8 0, .int .u8 0, .int .u8 0, .int .i64 0, .int .i64 0, .int .i64 0, .bool false, .string ⟨#[]⟩] 29)).alloc (.cells #[.int .i64 0, .int .u8 0, .int .u8 0, .int .u8 0, .int .u8 0, .int .u8 0, .int .u8 0, .int .u8 0, .int .u8 0, .int .i64 0, .int .i64 0, .int .i64 0, .bool false, .string ⟨#[]⟩] 29)) w.heap.size) := Lib.hid ((pdroom_new w _ #[.int .i64 0, .int .u8 0, .int .u8 0, .int .u8 0, .int .u8 0, .int .u8 0, .int .u8 0, .int .u8 0, .int .u8 0, .int .i64 0, .int .i64 0, .int .i64 0, .bool false, .string ⟨#[]⟩] rfl rfl).grow ((Below.refl _ _).alloc (Nat.le_refl _) _))
  have P4 : Hid (PdAt ((w.alloc (.cells #[.int .i64 0, .int .u8 0, .int .u8 0, .int .u8 0, .int .u8 0, .int .u8 0, .int .u8 0, .int .u8 0, .int .u8 0, .int .i64 0, .int .i64 0, .int .i64 0, .bool false, .string ⟨#[]⟩] 29)).alloc (.cells #[.int .i64 0, .int .u8 0, .int .u8 0, .int .u8 0, .int .u8 0, .int .u8 0, .int .u8 0, .int .u8 0, .int .u8 0, .int .i64 0, .int .i64 0, .int .i64 0, .bool false, .string ⟨#[]⟩] 29)) (w.heap.size + 1) pdZ) := Lib.hid (pd_new _ _ pdZ (by simp))
  have BL : Hid (Below w.heap.size w ((w.alloc (.cells #[.int .i64 0, .int .u8 0, .int .u8 0, .int .u8 0, .int .u8 0, .int .u8 0, .int .u8 0, .int .u8 0, .int .u8 0, .int .i64 0, .int .i64 0, .int .i64 0, .bool false, .string ⟨#[]⟩] 29)).alloc (.cells #[.int .i64 0, .int .u8 0, .int .u8 0, .int .u8 0, .int .u8 0, .int .u8 0, .int .u8 0, .int .u8 0, .int .u8 0, .int .i64 0, .int .i64 0, .int .i64 0, .bool false, .string ⟨#[]⟩] 29))) := Lib.hid (((Below.refl _ _).alloc (Nat.le_refl _) _).alloc (by simp) _)
  obtain ⟨n4, hn4⟩ : ∃ n, n = w.heap.size + 1 := ⟨_, rfl⟩
  have HN4 : Hid (w.heap.size < n4) := Lib.hid (by omega)
  generalize (w.alloc _).alloc _ = W1 at RM P4 BL ⊢
  rw [← hn4] at P4 ⊢
  clear hn4
  go_wp2_with fail
  refine (hS.out _).mono ?_
  rintro e w2 ⟨rfl, b2⟩
  have RM2 := Lib.hid (RM.out.grow b2)
  have P42 := Lib.hid (P4.out.grow b2)
  have BL2 := bstep BL b2
  clear b2 RM BL P4
  go_upto_region 11 with fail
  refine wp_region_noPanic ?_
  refine region_heldE (S := fun w' => PdRoom w' w.heap.size ∧ PdAt w' n4 pdZ) (by kernel_rfl) (fun V d => ⟨RM2.out.kept (d.block _), P42.out.kept (d.block _)⟩) (fun V3 d hS => ?_)
  have RM3 := Lib.hid hS.1
  have P43 := Lib.hid hS.2
  have BL3 := bstep BL2 d.below
  clear d RM2 P42 BL2
  refine wpAnyH_take (i := 0) (oi := ⟨some 38, Op.move (Operand.tmp 0), _, _, _, none⟩) (v := (.string s)) rfl (by kernel_rfl) (by kernel_rfl) (by kernel_rfl) (fun _ _ _ h => h) (Or.inl ⟨by rfl, fun w' h' => ?_⟩) hS ?_
  · clear h'
    go_simp
  simp only [Act.put]
  refine wpAnyH_take (i := 1) (oi := ⟨some 39, Op.index 9 (Operand.tmp 38) (Operand.const (Value.int IntKind.i64 2)), _, _, _, none⟩) (v := (.int .u8 (X2 : Int))) rfl (by kernel_rfl) (by kernel_rfl) (by kernel_rfl) (fun _ _ _ h => h) (Or.inl ⟨by rfl, fun w' h' => ?_⟩) hS ?_
  · have c0 := HX2.out
    clear h'
    go_simp
    try intro hq
    try omega
  simp only [Act.put]
  refine wpAnyH_take (i := 2) (oi := ⟨some 40, Op.convert 5 3 (Operand.tmp 39), _, _, _, none⟩) (v := (.int .i64 (X2 : Int))) rfl (by kernel_rfl) (by kernel_rfl) (by kernel_rfl) (fun _ _ _ h => h) (Or.inl ⟨by rfl, fun w' h' => ?_⟩) hS ?_
  · have c0 := HW2.out
    clear h'
    go_simp
  simp only [Act.put]
  refine wpAnyH_take (i := 3) (oi := ⟨some 41, Op.binOp BinOp.mul 3 (Operand.const (Value.int IntKind.i64 256)) (Operand.tmp 40) 3, _, _, _, none⟩) (v := (.int .i64 (256 * (X2 : Int)))) rfl (by kernel_rfl) (by kernel_rfl) (by kernel_rfl) (fun _ _ _ h => h) (Or.inl ⟨by rfl, fun w' h' => ?_⟩) hS ?_
  · have c0 := M2.out
    clear h'
    go_simp
  simp only [Act.put]
  refine wpAnyH_take (i := 4) (oi := ⟨some 42, Op.move (Operand.tmp 0), _, _, _, none⟩) (v := (.string s)) rfl (by kernel_rfl) (by kernel_rfl) (by kernel_rfl) (fun _ _ _ h => h) (Or.inl ⟨by rfl, fun w' h' => ?_⟩) hS ?_
  · clear h'
    go_simp
  simp only [Act.put]
  refine wpAnyH_take (i := 5) (oi := ⟨some 43, Op.index 9 (Operand.tmp 42) (Operand.const (Value.int IntKind.i64 3)), _, _, _, none⟩) (v := (.int .u8 (X3 : Int))) rfl (by kernel_rfl) (by kernel_rfl) (by kernel_rfl) (fun _ _ _ h => h) (Or.inl ⟨by rfl, fun w' h' => ?_⟩) hS ?_
  · have c0 := HX3.out
    clear h'
    go_simp
    try intro hq
    try omega
  simp only [Act.put]
  refine wpAnyH_take (i := 6) (oi := ⟨some 44, Op.convert 5 3 (Operand.tmp 43), _, _, _, none⟩) (v := (.int .i64 (X3 : Int))) rfl (by kernel_rfl) (by kernel_rfl) (by kernel_rfl) (fun _ _ _ h => h) (Or.inl ⟨by rfl, fun w' h' => ?_⟩) hS ?_
  · have c0 := HW3.out
    clear h'
    go_simp
  simp only [Act.put]
  refine wpAnyH_take (i := 7) (oi := ⟨some 45, Op.binOp BinOp.add 3 (Operand.tmp 41) (Operand.tmp 44) 3, _, _, _, none⟩) (v := (.int .i64 (ALL : Int))) rfl (by kernel_rfl) (by kernel_rfl) (by kernel_rfl) (fun _ _ _ h => h) (Or.inl ⟨by rfl, fun w' h' => ?_⟩) hS ?_
  · have c0 := A2.out
    clear h'
    go_simp
  simp only [Act.put]
  refine wpAnyH_take (i := 8) (oi := ⟨some 6, Op.assign (Operand.tmp 45), _, _, _, none⟩) (v := (.int .i64 (ALL : Int))) rfl (by kernel_rfl) (by kernel_rfl) (by kernel_rfl) (fun _ _ _ h => h) (Or.inl ⟨by rfl, fun w' h' => ?_⟩) hS ?_
  · clear h'
    go_simp
  simp only [Act.put]
  refine wpAnyH_done (by kernel_rfl) (NoPanic.normal ?_) _
  
  simp only [List.setIfInBounds_toArray, List.set_cons_zero, List.set_cons_succ]
  go_upto_region 16 with fail
  refine wp_region_noPanic ?_
  refine region_heldE (S := fun w' => PdRoom w' w.heap.size ∧ PdAt w' n4 pdZ) (by kernel_rfl) (fun V d => ⟨RM3.out.kept (d.block _), P43.out.kept (d.block _)⟩) (fun V5 d hS => ?_)
  have RM5 := Lib.hid hS.1
  have P45 := Lib.hid hS.2
  have BL5 := bstep BL3 d.below
  clear d RM3 P43 BL3
  refine wpAnyH_take (i := 0) (oi := ⟨some 55, Op.move (Operand.tmp 0), _, _, _, none⟩) (v := (.string s)) rfl (by kernel_rfl) (by kernel_rfl) (by kernel_rfl) (fun _ _ _ h => h) (Or.inl ⟨by rfl, fun w' h' => ?_⟩) hS ?_
  · clear h'
    go_simp
  simp only [Act.put]
  refine wpAnyH_take (i := 1) (oi := ⟨some 56, Op.index 9 (Operand.tmp 55) (Operand.const (Value.int IntKind.i64 6)), _, _, _, none⟩) (v := (.int .u8 (X6 : Int))) rfl (by kernel_rfl) (by kernel_rfl) (by kernel_rfl) (fun _ _ _ h => h) (Or.inl ⟨by rfl, fun w' h' => ?_⟩) hS ?_
  · have c0 := HX6.out
    clear h'
    go_simp
    try intro hq
    try omega
  simp only [Act.put]
  refine wpAnyH_take (i := 2) (oi := ⟨some 57, Op.convert 5 3 (Operand.tmp 56), _, _, _, none⟩) (v := (.int .i64 (X6 : Int))) rfl (by kernel_rfl) (by kernel_rfl) (by kernel_rfl) (fun _ _ _ h => h) (Or.inl ⟨by rfl, fun w' h' => ?_⟩) hS ?_
  · have c0 := HW6.out
    clear h'
    go_simp
  simp only [Act.put]
  refine wpAnyH_take (i := 3) (oi := ⟨some 58, Op.binOp BinOp.mul 3 (Operand.const (Value.int IntKind.i64 256)) (Operand.tmp 57) 3, _, _, _, none⟩) (v := (.int .i64 (256 * (X6 : Int)))) rfl (by kernel_rfl) (by kernel_rfl) (by kernel_rfl) (fun _ _ _ h => h) (Or.inl ⟨by rfl, fun w' h' => ?_⟩) hS ?_
  · have c0 := M6.out
    clear h'
    go_simp
  simp only [Act.put]
  refine wpAnyH_take (i := 4) (oi := ⟨some 59, Op.move (Operand.tmp 0), _, _, _, none⟩) (v := (.string s)) rfl (by kernel_rfl) (by kernel_rfl) (by kernel_rfl) (fun _ _ _ h => h) (Or.inl ⟨by rfl, fun w' h' => ?_⟩) hS ?_
  · clear h'
    go_simp
  simp only [Act.put]
  refine wpAnyH_take (i := 5) (oi := ⟨some 60, Op.index 9 (Operand.tmp 59) (Operand.const (Value.int IntKind.i64 7)), _, _, _, none⟩) (v := (.int .u8 (X7 : Int))) rfl (by kernel_rfl) (by kernel_rfl) (by kernel_rfl) (fun _ _ _ h => h) (Or.inl ⟨by rfl, fun w' h' => ?_⟩) hS ?_
  · have c0 := HX7.out
    clear h'
    go_simp
    try intro hq
    try omega
  simp only [Act.put]
  refine wpAnyH_take (i := 6) (oi := ⟨some 61, Op.convert 5 3 (Operand.tmp 60), _, _, _, none⟩) (v := (.int .i64 (X7 : Int))) rfl (by kernel_rfl) (by kernel_rfl) (by kernel_rfl) (fun _ _ _ h => h) (Or.inl ⟨by rfl, fun w' h' => ?_⟩) hS ?_
  · have c0 := HW7.out
    clear h'
    go_simp
  simp only [Act.put]
  refine wpAnyH_take (i := 7) (oi := ⟨some 62, Op.binOp BinOp.add 3 (Operand.tmp 58) (Operand.tmp 61) 3, _, _, _, none⟩) (v := (.int .i64 (PL : Int))) rfl (by kernel_rfl) (by kernel_rfl) (by kernel_rfl) (fun _ _ _ h => h) (Or.inl ⟨by rfl, fun w' h' => ?_⟩) hS ?_
  · have c0 := A6.out
    clear h'
    go_simp
  simp only [Act.put]
  refine wpAnyH_take (i := 8) (oi := ⟨some 7, Op.assign (Operand.tmp 62), _, _, _, none⟩) (v := (.int .i64 (PL : Int))) rfl (by kernel_rfl) (by kernel_rfl) (by kernel_rfl) (fun _ _ _ h => h) (Or.inl ⟨by rfl, fun w' h' => ?_⟩) hS ?_
  · clear h'
    go_simp
  simp only [Act.put]
  refine wpAnyH_done (by kernel_rfl) (NoPanic.normal ?_) _
  
  simp only [List.setIfInBounds_toArray, List.set_cons_zero, List.set_cons_succ]
  go_upto_region 17 with fail
  refine wp_region_noPanic ?_
  refine region_heldE (S := fun w' => PdRoom w' w.heap.size ∧ PdAt w' n4 pdZ) (by kernel_rfl) (fun V d => ⟨RM5.out.kept (d.block _), P45.out.kept (d.block _)⟩) (fun V6 d hS => ?_)
  have RM6 := Lib.hid hS.1
  have P46 := Lib.hid hS.2
  have BL6 := bstep BL5 d.below
  clear d RM5 P45 BL5
  refine wpAnyH_take (i := 0) (oi := ⟨some 63, Op.move (Operand.tmp 0), _, _, _, none⟩) (v := (.string s)) rfl (by kernel_rfl) (by kernel_rfl) (by kernel_rfl) (fun _ _ _ h => h) (Or.inl ⟨by rfl, fun w' h' => ?_⟩) hS ?_
  · clear h'
    go_simp
  simp only [Act.put]
  refine wpAnyH_take (i := 1) (oi := ⟨some 64, Op.index 9 (Operand.tmp 63) (Operand.const (Value.int IntKind.i64 4)), _, _, _, none⟩) (v := (.int .u8 (X4 : Int))) rfl (by kernel_rfl) (by kernel_rfl) (by kernel_rfl) (fun _ _ _ h => h) (Or.inl ⟨by rfl, fun w' h' => ?_⟩) hS ?_
  · have c0 := HX4.out
    clear h'
    go_simp
    try intro hq
    try omega
  simp only [Act.put]
  refine wpAnyH_take (i := 2) (oi := ⟨some 65, Op.convert 5 3 (Operand.tmp 64), _, _, _, none⟩) (v := (.int .i64 (X4 : Int))) rfl (by kernel_rfl) (by kernel_rfl) (by kernel_rfl) (fun _ _ _ h => h) (Or.inl ⟨by rfl, fun w' h' => ?_⟩) hS ?_
  · have c0 := HW4.out
    clear h'
    go_simp
  simp only [Act.put]
  refine wpAnyH_take (i := 3) (oi := ⟨some 66, Op.binOp BinOp.mul 3 (Operand.const (Value.int IntKind.i64 256)) (Operand.tmp 65) 3, _, _, _, none⟩) (v := (.int .i64 (256 * (X4 : Int)))) rfl (by kernel_rfl) (by kernel_rfl) (by kernel_rfl) (fun _ _ _ h => h) (Or.inl ⟨by rfl, fun w' h' => ?_⟩) hS ?_
  · have c0 := M4.out
    clear h'
    go_simp
  simp only [Act.put]
  refine wpAnyH_take (i := 4) (oi := ⟨some 67, Op.move (Operand.tmp 0), _, _, _, none⟩) (v := (.string s)) rfl (by kernel_rfl) (by kernel_rfl) (by kernel_rfl) (fun _ _ _ h => h) (Or.inl ⟨by rfl, fun w' h' => ?_⟩) hS ?_
  · clear h'
    go_simp
  simp only [Act.put]
  refine wpAnyH_take (i := 5) (oi := ⟨some 68, Op.index 9 (Operand.tmp 67) (Operand.const (Value.int IntKind.i64 5)), _, _, _, none⟩) (v := (.int .u8 (X5 : Int))) rfl (by kernel_rfl) (by kernel_rfl) (by kernel_rfl) (fun _ _ _ h => h) (Or.inl ⟨by rfl, fun w' h' => ?_⟩) hS ?_
  · have c0 := HX5.out
    clear h'
    go_simp
    try intro hq
    try omega
  simp only [Act.put]
  refine wpAnyH_take (i := 6) (oi := ⟨some 69, Op.convert 5 3 (Operand.tmp 68), _, _, _, none⟩) (v := (.int .i64 (X5 : Int))) rfl (by kernel_rfl) (by kernel_rfl) (by kernel_rfl) (fun _ _ _ h => h) (Or.inl ⟨by rfl, fun w' h' => ?_⟩) hS ?_
  · have c0 := HW5.out
    clear h'
    go_simp
  simp only [Act.put]
  refine wpAnyH_take (i := 7) (oi := ⟨some 70, Op.binOp BinOp.add 3 (Operand.tmp 66) (Operand.tmp 69) 3, _, _, _, none⟩) (v := (.int .i64 Q.id)) rfl (by kernel_rfl) (by kernel_rfl) (by kernel_rfl) (fun _ _ _ h => h) (Or.inl ⟨by rfl, fun w' h' => ?_⟩) hS ?_
  · have c0 := A4.out
    clear h'
    go_simp
  simp only [Act.put]
  refine wpAnyH_take (i := 8) (oi := ⟨some 71, Op.move (Operand.tmp 0), _, _, _, none⟩) (v := (.string s)) rfl (by kernel_rfl) (by kernel_rfl) (by kernel_rfl) (fun _ _ _ h => h) (Or.inl ⟨by rfl, fun w' h' => ?_⟩) hS ?_
  · clear h'
    go_simp
  simp only [Act.put]
  refine wpAnyH_take (i := 9) (oi := ⟨some 72, Op.index 9 (Operand.tmp 71) (Operand.const (Value.int IntKind.i64 8)), _, _, _, none⟩) (v := (.int .u8 (X8 : Int))) rfl (by kernel_rfl) (by kernel_rfl) (by kernel_rfl) (fun _ _ _ h => h) (Or.inl ⟨by rfl, fun w' h' => ?_⟩) hS ?_
  · have c0 := HX8.out
    clear h'
    go_simp
    try intro hq
    try omega
  simp only [Act.put]
  refine wpAnyH_take (i := 10) (oi := ⟨some 73, Op.convert 5 3 (Operand.tmp 72), _, _, _, none⟩) (v := (.int .i64 Q.tl)) rfl (by kernel_rfl) (by kernel_rfl) (by kernel_rfl) (fun _ _ _ h => h) (Or.inl ⟨by rfl, fun w' h' => ?_⟩) hS ?_
  · have c0 := W8.out
    clear h'
    go_simp
  simp only [Act.put]
  refine wpAnyH_take (i := 11) (oi := ⟨some 74, Op.move (Operand.tmp 0), _, _, _, none⟩) (v := (.string s)) rfl (by kernel_rfl) (by kernel_rfl) (by kernel_rfl) (fun _ _ _ h => h) (Or.inl ⟨by rfl, fun w' h' => ?_⟩) hS ?_
  · clear h'
    go_simp
  simp only [Act.put]
  refine wpAnyH_take (i := 12) (oi := ⟨some 75, Op.index 9 (Operand.tmp 74) (Operand.const (Value.int IntKind.i64 9)), _, _, _, none⟩) (v := (.int .u8 (X9 : Int))) rfl (by kernel_rfl) (by kernel_rfl) (by kernel_rfl) (fun _ _ _ h => h) (Or.inl ⟨by rfl, fun w' h' => ?_⟩) hS ?_
  · have c0 := HX9.out
    clear h'
    go_simp
    try intro hq
    try omega
  simp only [Act.put]
  refine wpAnyH_take (i := 13) (oi := ⟨some 76, Op.convert 5 3 (Operand.tmp 75), _, _, _, none⟩) (v := (.int .i64 Q.pr)) rfl (by kernel_rfl) (by kernel_rfl) (by kernel_rfl) (fun _ _ _ h => h) (Or.inl ⟨by rfl, fun w' h' => ?_⟩) hS ?_
  · have c0 := W9.out
    clear h'
    go_simp
  simp only [Act.put]
  refine wpAnyH_take (i := 14) (oi := ⟨some 77, Op.move (Operand.tmp 7), _, _, _, none⟩) (v := (.int .i64 (PL : Int))) rfl (by kernel_rfl) (by kernel_rfl) (by kernel_rfl) (fun _ _ _ h => h) (Or.inl ⟨by rfl, fun w' h' => ?_⟩) hS ?_
  · clear h'
    go_simp
  simp only [Act.put]
  refine wpAnyH_take (i := 15) (oi := ⟨some 78, Op.binOp BinOp.rem 3 (Operand.tmp 77) (Operand.const (Value.int IntKind.i64 8192)) 3, _, _, _, none⟩) (v := (.int .i64 (PM : Int))) rfl (by kernel_rfl) (by kernel_rfl) (by kernel_rfl) (fun _ _ _ h => h) (Or.inl ⟨by rfl, fun w' h' => ?_⟩) hS ?_
  · have c0 := T1.out
    clear h'
    go_simp
  simp only [Act.put]
  refine wpAnyH_take (i := 16) (oi := ⟨some 79, Op.binOp BinOp.mul 3 (Operand.tmp 78) (Operand.const (Value.int IntKind.i64 8)) 3, _, _, _, none⟩) (v := (.int .i64 Q.ps)) rfl (by kernel_rfl) (by kernel_rfl) (by kernel_rfl) (fun _ _ _ h => h) (Or.inl ⟨by rfl, fun w' h' => ?_⟩) hS ?_
  · have c0 := WP.out
    clear h'
    go_simp
  simp only [Act.put]
  refine wpAnyH_take (i := 17) (oi := ⟨some 80, Op.move (Operand.tmp 7), _, _, _, none⟩) (v := (.int .i64 (PL : Int))) rfl (by kernel_rfl) (by kernel_rfl) (by kernel_rfl) (fun _ _ _ h => h) (Or.inl ⟨by rfl, fun w' h' => ?_⟩) hS ?_
  · clear h'
    go_simp
  simp only [Act.put]
  refine wpAnyH_take (i := 18) (oi := ⟨some 81, Op.binOp BinOp.quo 3 (Operand.tmp 80) (Operand.const (Value.int IntKind.i64 8192)) 3, _, _, _, none⟩) (v := (.int .i64 (PD : Int))) rfl (by kernel_rfl) (by kernel_rfl) (by kernel_rfl) (fun _ _ _ h => h) (Or.inl ⟨by rfl, fun w' h' => ?_⟩) hS ?_
  · have c0 := T2.out
    have c1 := T4.out
    clear h'
    go_simp
  simp only [Act.put]
  refine wpAnyH_take (i := 19) (oi := ⟨some 82, Op.binOp BinOp.rem 3 (Operand.tmp 81) (Operand.const (Value.int IntKind.i64 2)) 3, _, _, _, none⟩) (v := (.int .i64 (PE : Int))) rfl (by kernel_rfl) (by kernel_rfl) (by kernel_rfl) (fun _ _ _ h => h) (Or.inl ⟨by rfl, fun w' h' => ?_⟩) hS ?_
  · have c0 := T3.out
    clear h'
    go_simp
  simp only [Act.put]
  refine wpAnyH_take (i := 20) (oi := ⟨some 83, Op.binOp BinOp.eql 3 (Operand.tmp 82) (Operand.const (Value.int IntKind.i64 1)) 3, _, _, _, none⟩) (v := (.bool Q.mo)) rfl (by kernel_rfl) (by kernel_rfl) (by kernel_rfl) (fun _ _ _ h => h) (Or.inl ⟨by rfl, fun w' h' => ?_⟩) hS ?_
  · have c0 := CM2.out
    clear h'
    go_simp
  simp only [Act.put]
  refine wpAnyH_take (i := 21) (oi := ⟨some 84, Op.move (Operand.tmp 0), _, _, _, none⟩) (v := (.string s)) rfl (by kernel_rfl) (by kernel_rfl) (by kernel_rfl) (fun _ _ _ h => h) (Or.inl ⟨by rfl, fun w' h' => ?_⟩) hS ?_
  · clear h'
    go_simp
  simp only [Act.put]
  refine wpAnyH_take (i := 22) (oi := ⟨some 85, Op.move (Operand.tmp 5), _, _, _, none⟩) (v := (.int .i64 (N : Int))) rfl (by kernel_rfl) (by kernel_rfl) (by kernel_rfl) (fun _ _ _ h => h) (Or.inl ⟨by rfl, fun w' h' => ?_⟩) hS ?_
  · clear h'
    go_simp
  simp only [Act.put]
  refine wpAnyH_take (i := 23) (oi := ⟨some 86, Op.move (Operand.tmp 6), _, _, _, none⟩) (v := (.int .i64 (ALL : Int))) rfl (by kernel_rfl) (by kernel_rfl) (by kernel_rfl) (fun _ _ _ h => h) (Or.inl ⟨by rfl, fun w' h' => ?_⟩) hS ?_
  · clear h'
    go_simp
  simp only [Act.put]
  refine wpAnyH_take (i := 24) (oi := ⟨some 87, Op.slice 9 (Operand.tmp 84) (some (Operand.tmp 85)) (some (Operand.tmp 86)) none, _, _, _, none⟩) (v := (.string Q.da)) rfl (by kernel_rfl) (by kernel_rfl) (by kernel_rfl) (fun _ _ _ h => h) (Or.inl ⟨by rfl, fun w' h' => ?_⟩) hS ?_
  · have c0 := GA.out
    have c1 := GB.out
    have c2 := HD.out
    clear h'
    go_simp
  simp only [Act.put]
  refine wpAnyH_take (i := 25) (oi := ⟨some 88, Op.build 29 #[(0, (Operand.tmp 70)), (4, (Operand.tmp 73)), (3, (Operand.tmp 76)), (5, (Operand.tmp 79)), (6, (Operand.tmp 83)), (7, (Operand.tmp 87))], _, _, _, none⟩) (v := (.agg #[.int .i64 Q.id, .int .u8 0, .int .u8 0, .int .u8 0, .int .u8 0, .int .u8 0, .int .u8 0, .int .u8 0, .int .u8 0, .int .i64 Q.pr, .int .i64 Q.tl, .int .i64 Q.ps, .bool Q.mo, .string Q.da])) rfl (by kernel_rfl) (by kernel_rfl) (by kernel_rfl) (fun _ _ _ h => h) (Or.inl ⟨by rfl, fun w' h' => ?_⟩) hS ?_
  · clear h'
    go_simp
  simp only [Act.put]
  refine wpAnyH_ready (rs := [26]) (by kernel_rfl) (by simp) ?_
  refine AllReadyH.cons rfl (fun K hK => ?_) AllReadyH.nil
  obtain ⟨n8, hn8⟩ : ∃ x, x = V6.heap.size := ⟨_, rfl⟩
  have hl8 : w.heap.size < n8 := by rw [hn8]; exact RM6.out.lt
  have hl84 : n4 < n8 := by rw [hn8]; exact P46.out.lt
  have RN : PdRoom (V6.alloc (.cells #[.int .i64 0, .int .u8 0, .int .u8 0, .int .u8 0, .int .u8 0, .int .u8 0, .int .u8 0, .int .u8 0, .int .u8 0, .int .i64 0, .int .i64 0, .int .i64 0, .bool false, .string ⟨#[]⟩] 29)) n8 := pdroom_new _ _ _ rfl hn8
  have S7 : PdRoom (V6.alloc (.cells #[.int .i64 0, .int .u8 0, .int .u8 0, .int .u8 0, .int .u8 0, .int .u8 0, .int .u8 0, .int .u8 0, .int .u8 0, .int .i64 0, .int .i64 0, .int .i64 0, .bool false, .string ⟨#[]⟩] 29)) w.heap.size ∧ PdAt (V6.alloc (.cells #[.int .i64 0, .int .u8 0, .int .u8 0, .int .u8 0, .int .u8 0, .int .u8 0, .int .u8 0, .int .u8 0, .int .u8 0, .int .i64 0, .int .i64 0, .int .i64 0, .bool false, .string ⟨#[]⟩] 29)) n4 pdZ := ⟨RM6.out.kept (((Below.refl _ _).alloc (Nat.le_refl _) _).block _ RM6.out.lt), P46.out.kept (((Below.refl _ _).alloc (Nat.le_refl _) _).block _ P46.out.lt)⟩
  have BL7 := bstep BL6 ((Below.refl V6.heap.size V6).alloc (Nat.le_refl _) (.cells #[.int .i64 0, .int .u8 0, .int .u8 0, .int .u8 0, .int .u8 0, .int .u8 0, .int .u8 0, .int .u8 0, .int .u8 0, .int .i64 0, .int .i64 0, .int .i64 0, .bool false, .string ⟨#[]⟩] 29))
  go_simp
  rw [← hn8]
  generalize V6.alloc _ = V7 at RN S7 BL7 ⊢
  clear hn8 RM6 P46 BL6
  refine hK.out _ _ S7 (fun _ => ?_)
  clear hK K
  refine wpAnyH_ready (rs := [27]) (by kernel_rfl) (by simp) ?_
  refine AllReadyH.cons rfl (fun K hK => ?_) AllReadyH.nil
  obtain ⟨hst, S9⟩ := RN.put (partD Q 0)
  have hn1 : w.heap.size ≠ n8 := by omega
  have hn2 : n4 ≠ n8 := by omega
  have S8 : PdRoom (V7.setRow n8 (pdC (partD Q 0))) w.heap.size ∧ PdAt (V7.setRow n8 (pdC (partD Q 0))) n4 pdZ := ⟨S7.1.kept (setRow_other _ _ _ _ hn1), S7.2.kept (setRow_other _ _ _ _ hn2)⟩
  have BL8 := Lib.hid (below_setRow BL7.out (Nat.le_of_lt hl8) (pdC (partD Q 0)))
  refine upon_store0 29 _ _ rfl rfl _ n8 rfl rfl hst ?_
  refine hK.out _ _ S8 (fun _ => ?_)
  clear hK K
  refine wpAnyH_done (by kernel_rfl) (NoPanic.normal ?_) _
  
  try simp only [List.setIfInBounds_toArray, List.set_cons_zero, List.set_cons_succ]
  have RM8 := Lib.hid S8.1
  have P48 := Lib.hid S8.2
  have S9 := Lib.hid S9
  clear S8 S7 RN hst hS BL7
  generalize V7.setRow n8 _ = W8 at RM8 P48 S9 BL8 ⊢
  have NE := Lib.hid hn1
  have NE2 := Lib.hid hn2
  have NL : Hid (w.heap.size ≤ n8) := Lib.hid (Nat.le_of_lt hl8)
  clear hn1 hn2 hl8 hl84
  go_upto_region 18 with fail
  go_wp2_with fail
  go_loopw [9] (fun i wr => ∃ k : Nat, k ≤ 4 ∧ i = .int .i64 k ∧ Hid (PdAt wr n8 (partD Q k)) ∧ Hid (PdRoom wr w.heap.size) ∧ Hid (PdAt wr n4 pdZ) ∧ Hid (Below w.heap.size w wr)) (fun i _ => 4 - (intOf i).toNat)
  case atStart => exact ⟨0, by omega, rfl, S9, RM8, P48, BL8⟩
  case round =>
    obtain ⟨k, hk, rfl, fa, ra, pa, bl⟩ := hrel
    clear S9 RM8 P48 BL8
    by_cases hlt : k < 4
    · obtain ⟨u1, c1, f1⟩ := fa.out.room.there (1 + k) (by omega)
      obtain ⟨u2, c2, f2⟩ := fa.out.room.there (5 + k) (by omega)
      have k1 : 12 + k < s.size := by have := HZ.out; omega
      have k2 : 16 + k < s.size := by have := HZ.out; omega
      have hN1 : ((12 : Int) + (k : Int)).toNat = 12 + k := by omega
      have hN2 : ((16 : Int) + (k : Int)).toNat = 16 + k := by omega
      have HA := Lib.hid (ip_byte s 12 k hlt k1 Q.sr M2'.out)
      have HB := Lib.hid (ip_byte s 16 k hlt k2 Q.ds M3'.out)
      go_wp2
      go_roundw
      case rel => exact ⟨k + 1, by omega, by go_num, Lib.hid (PdAt.fill hlt fa.out _ _ HA.out HB.out), Lib.hid (pdroom_kept (pdroom_kept ra.out NE.out) NE.out), Lib.hid (pdat_kept (pdat_kept pa.out NE2.out) NE2.out), Lib.hid ((bl.out.setCell NL.out _).setCell NL.out _)⟩
      case measure => simp [intOf]; omega
    · have hz : k = 4 := by omega
      have hzi : (k : Int) = 4 := by omega
      rw [hz, partD_full] at fa
      rw [hzi]
      clear hk hlt hz hzi
      by_cases hp : 32768 ≤ PL
      · have hb : bad = true := by rw [← HBd.out, decide_eq_true hp]; rfl
        have hR : Hid (R = pdZ) := Lib.hid (by rw [HR.out, hb]; rfl)
        have hE : Hid (E = 8) := Lib.hid (by rw [HE.out, hb]; rfl)
        have d3 : decide (32768 ≤ (PL : Int)) = true := decide_eq_true (by omega)
        clear HR HE HBd hb
        have hp := pa.out
        obtain ⟨hst, S6⟩ := ra.out.put pdZ
        have S6 := Lib.hid S6
        have B6 := Lib.hid (below_setRow bl.out (Nat.le_refl _) (pdC pdZ))
        go_wp2_with (first | (refine pd_ld (by rfl) _ rfl n4 rfl _ hp ?_) | (refine wpList_storeW 29 _ _ rfl rfl _ w.heap.size rfl rfl hst ?_))
        exact bodyPost_ret (v := .tuple #[.agg (pdC pdZ), .int .i64 8]) (results_row _ 2 3 29 (by kernel_rfl) _ w.heap.size _ _ _ _ rfl rfl S6.out Try.underlying29 rfl (by kernel_rfl)) rfl ⟨by rw [hR.out, hE.out], B6.out⟩
      · have d3 : decide (32768 ≤ (PL : Int)) = false := decide_eq_false (by omega)
        have ha := fa.out
        cases hM : mayB Q with
        | false =>
          have hb : bad = true := by rw [← HBd.out, decide_eq_false hp, hM]; rfl
          have hR : Hid (R = pdZ) := Lib.hid (by rw [HR.out, hb]; rfl)
          have hE : Hid (E = 8) := Lib.hid (by rw [HE.out, hb]; rfl)
          rw [hM] at kM
          clear HR HE HBd hb hM
          go_wp2_with (refine pd_ld (by rfl) _ rfl n8 rfl _ ha ?_)
          refine (kM.out _).mono ?_
          rintro e w9 ⟨rfl, b9⟩
          have RM9 := Lib.hid (ra.out.grow b9)
          have P49 := Lib.hid (pa.out.grow b9)
          have BL9 := bstep bl b9
          clear ha
          have hp := P49.out
          obtain ⟨hst, S6⟩ := RM9.out.put pdZ
          have S6 := Lib.hid S6
          have B6 := Lib.hid (below_setRow BL9.out (Nat.le_refl _) (pdC pdZ))
          go_wp2_with (first | (refine pd_ld (by rfl) _ rfl n4 rfl _ hp ?_) | (refine wpList_storeW 29 _ _ rfl rfl _ w.heap.size rfl rfl hst ?_))
          exact bodyPost_ret (v := .tuple #[.agg (pdC pdZ), .int .i64 8]) (results_row _ 2 3 29 (by kernel_rfl) _ w.heap.size _ _ _ _ rfl rfl S6.out Try.underlying29 rfl (by kernel_rfl)) rfl ⟨by rw [hR.out, hE.out], B6.out⟩
        | true =>
          have hb : bad = false := by rw [← HBd.out, decide_eq_false hp, hM]; rfl
          have hR : Hid (R = Q) := Lib.hid (by rw [HR.out, hb]; rfl)
          have hE : Hid (E = 0) := Lib.hid (by rw [HE.out, hb]; rfl)
          rw [hM] at kM
          clear HR HE HBd hb hM
          go_wp2_with (refine pd_ld (by rfl) _ rfl n8 rfl _ ha ?_)
          refine (kM.out _).mono ?_
          rintro e w9 ⟨rfl, b9⟩
          have RM9 := Lib.hid (ra.out.grow b9)
          have P89 := Lib.hid (fa.out.grow b9)
          have BL9 := bstep bl b9
          clear ha
          have hp := P89.out
          obtain ⟨hst, S6⟩ := RM9.out.put Q
          have S6 := Lib.hid S6
          have B6 := Lib.hid (below_setRow BL9.out (Nat.le_refl _) (pdC Q))
          go_wp2_with (first | (refine pd_ld (by rfl) _ rfl n8 rfl _ hp ?_) | (refine wpList_storeW 29 _ _ rfl rfl _ w.heap.size rfl rfl hst ?_))
          exact bodyPost_ret (v := .tuple #[.agg (pdC Q), .int .i64 0]) (results_row _ 2 3 29 (by kernel_rfl) _ w.heap.size _ _ _ _ rfl rfl S6.out Try.underlying29 rfl (by kernel_rfl)) rfl ⟨by rw [hR.out, hE.out], B6.out⟩

theorem dRead8_any (w : World) (s : ByteArray) (hm : s.size ≤ 100000) :
    Calls Try.prog 23 #[.string s] w fun e w' => e = .returned (.tuple #[.agg (pdC (rqP s)), .int .i64 (rqE s)]) ∧ Below w.heap.size w w' := by
  by_cases h1 : s.size < 20
  · have e0 : rhE s = 7 := if_pos h1
    have e1 : rqE s = 7 := by rw [rqE, e0, if_neg (by decide)]
    rw [rqP, e1, if_neg (by decide)]
    exact dR_short w s hm h1
  have hX := bt_at s 0 (by omega)
  have hb := bt_lt s.data.toList 0
  by_cases h2 : bt s.data.toList 0 < 69 ∨ 79 < bt s.data.toList 0
  · have e0 : rhE s = 8 := by rw [rhE, if_neg h1, if_pos h2]
    have e1 : rqE s = 8 := by rw [rqE, e0, if_neg (by decide)]
    rw [rqP, e1, if_neg (by decide)]
    rcases h2 with h2 | h2
    · exact dR_low w s hm (by omega) _ (by omega) hX h2
    · exact dR_high w s hm (by omega) _ (by omega) hX h2 hb
  by_cases h3 : s.size < 4 * (bt s.data.toList 0 - 64)
  · have e0 : rhE s = 7 := by rw [rhE, if_neg h1, if_neg h2, if_pos h3]
    have e1 : rqE s = 7 := by rw [rqE, e0, if_neg (by decide)]
    rw [rqP, e1, if_neg (by decide)]
    exact dR_cut w s hm (by omega) _ (by omega) hX (by omega) (by omega) _ rfl h3
  by_cases h4 : sumT (s.data.toList.take (4 * (bt s.data.toList 0 - 64))) = 0
  case neg =>
    have e0 : rhE s = 9 := by rw [rhE, if_neg h1, if_neg h2, if_neg h3, if_neg h4]
    have e1 : rqE s = 9 := by rw [rqE, e0, if_neg (by decide)]
    rw [rqP, e1, if_neg (by decide)]
    exact dR_sum w s hm (by omega) _ (by omega) hX (by omega) (by omega) _ rfl (by omega) _ rfl h4
  have h0 : rhE s = 0 := by rw [rhE, if_neg h1, if_neg h2, if_neg h3, if_pos h4]
  by_cases h5 : wd s.data.toList 2 < rdN s
  · have e1 : rqE s = 8 := by rw [rqE, if_pos h0, if_pos h5]
    rw [rqP, e1, if_neg (by decide)]
    exact dR_less w s hm (by omega) _ (by omega) hX (by omega) (by omega) _ rfl (by omega) h4 _ rfl h5
  by_cases h6 : s.size < wd s.data.toList 2
  · have e1 : rqE s = 7 := by rw [rqE, if_pos h0, if_neg h5, if_pos h6]
    rw [rqP, e1, if_neg (by decide)]
    exact dR_more w s hm (by omega) _ (by omega) hX (by omega) (by omega) _ rfl (by omega) h4 _ rfl h5 h6
  refine dR_of w s hm (by omega) _ (by omega) hX (by omega) (by omega) _ rfl (by omega) h4 _ rfl h5 h6 _ rfl _ rfl rfl _ rfl _ _ ?_ ?_
  · rw [rqP]
    cases hb : (decide (32768 ≤ wd s.data.toList 6) || !mayB (rdQ s))
    · have e1 : rqE s = 0 := by rw [rqE, if_pos h0, if_neg h5, if_neg h6, if_neg (by rw [hb]; decide)]
      rw [e1, if_pos rfl]; rfl
    · have e1 : rqE s = 8 := by rw [rqE, if_pos h0, if_neg h5, if_neg h6, if_pos hb]
      rw [e1, if_neg (by decide)]; rfl
  · rw [rqE, if_pos h0, if_neg h5, if_neg h6]

end Go.Proofs.Ytdckjliocgnbgaa
