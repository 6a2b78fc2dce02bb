/-
  Layer 7: the document's own reading of bytes as a packet. Conditions: a text is no longer than a string may be.
-/
import Derived.Test.YtolegdjdppaeoaaArpF
namespace Go.Proofs.Ytolegdjdppaeoaa
open Go.RowKit Go.Sort
set_option linter.unusedVariables false

/-- An address of four of which the first bytes are there. -/
def part4 (T : Ip4) (k : Nat) : Ip4 := ⟨if 0 < k then T.a else 0, if 1 < k then T.b else 0, if 2 < k then T.c else 0, if 3 < k then T.d else 0⟩
theorem part_full4 (T : Ip4) : part4 T 4 = T := rfl
theorem PkRoom.there {w : World} {n : Nat} (h : PkRoom w n) (k : Nat) (hk : k < 21) : ∃ u, w.cell? ⟨n, k, none⟩ = some u ∧ w.frozen? ⟨n, k, none⟩ = false := by
  obtain ⟨cs, h0, h⟩ := h
  exact ⟨cs[k]'(by omega), by rw [cell_of_block h]; exact Array.getElem?_eq_getElem (by omega), by simp [World.frozen?, h]⟩
theorem PkAt.fill {w : World} {n : Nat} {T G : Mac6} {i j : Ip4} {y : Int} {k : Nat} (hk : k < 6) (h : PkAt w n ⟨y, part6 T k, i, part6 G k, j⟩) (X Y : UInt8) (hX : T.list[k]? = some X) (hY : G.list[k]? = some Y) :
    PkAt ((w.setCell ⟨n, 1 + k, none⟩ (.int .u8 (X.toNat : Int))).setCell ⟨n, 11 + k, none⟩ (.int .u8 (Y.toNat : Int))) n ⟨y, part6 T (k + 1), i, part6 G (k + 1), j⟩ := by
  have h1 := set_cells h (.int .u8 (X.toNat : Int)) (i := 1 + k) (by show 1 + k < 21; omega)
  have h2 := set_cells h1 (.int .u8 (Y.toNat : Int)) (i := 11 + k) (by rw [Array.size_setIfInBounds]; show 11 + k < 21; omega)
  unfold PkAt
  rw [h2]
  rcases k with _ | _ | _ | _ | _ | _ | k <;> first | omega | (simp only [Mac6.list, List.getElem?_cons_zero, List.getElem?_cons_succ, Option.some.injEq] at hX hY; subst hX; subst hY; rfl)
theorem PkAt.fill4 {w : World} {n : Nat} {T G : Mac6} {i j : Ip4} {y : Int} {k : Nat} (hk : k < 4) (h : PkAt w n ⟨y, T, part4 i k, G, part4 j k⟩) (X Y : UInt8) (hX : i.list[k]? = some X) (hY : j.list[k]? = some Y) :
    PkAt ((w.setCell ⟨n, 7 + k, none⟩ (.int .u8 (X.toNat : Int))).setCell ⟨n, 17 + k, none⟩ (.int .u8 (Y.toNat : Int))) n ⟨y, T, part4 i (k + 1), G, part4 j (k + 1)⟩ := by
  have h1 := set_cells h (.int .u8 (X.toNat : Int)) (i := 7 + k) (by show 7 + k < 21; omega)
  have h2 := set_cells h1 (.int .u8 (Y.toNat : Int)) (i := 17 + k) (by rw [Array.size_setIfInBounds]; show 17 + k < 21; omega)
  unfold PkAt
  rw [h2]
  rcases k with _ | _ | _ | _ | k <;> first | omega | (simp only [Ip4.list, List.getElem?_cons_zero, List.getElem?_cons_succ, Option.some.injEq] at hX hY; subst hX; subst hY; rfl)
theorem ip_byte (s : ByteArray) (b k : Nat) (hk : k < 4) (h : b + k < s.size) (T : Ip4) (hT : T = ipAt s.data.toList b) : T.list[k]? = some s[b + k] := by
  have hL : s.data.toList[b + k]? = some s[b + k] := by
    rw [Array.getElem?_toList]
    exact Array.getElem?_eq_getElem h
  have hg : s.data.toList.getD (b + k) 0 = s[b + k] := by rw [List.getD_eq_getElem?_getD, hL]; rfl
  rw [← hg, hT]
  rcases k with _ | _ | _ | _ | k <;> first | omega | rfl
theorem room_kept {w : World} {n m k : Nat} {v : Value} (h : PkRoom w m) (hn : m ≠ n) : PkRoom (w.setCell ⟨n, k, none⟩ v) m := h.kept (Below.heap_setCell _ _ _ _ hn)
/-- The kind of a text's packet, by its bytes. -/
theorem op_bytes (s : ByteArray) (h : 28 ≤ s.size) : (rdK s).op = ((s[7].toNat + 256 * s[6].toNat : Nat) : Int) := by
  have hc : cutS s 6 2 = [s[6], s[7]] := by
    unfold cutS okR
    rw [if_pos (decide_eq_true (by omega))]
    apply List.ext_getElem?
    intro i
    rw [List.getElem?_take, List.getElem?_drop]
    rcases i with _ | _ | i
    · show (if 0 < 2 then s.data.toList[6]? else none) = _
      rw [if_pos (by decide), Array.getElem?_toList]
      exact Array.getElem?_eq_getElem (by show 6 < s.size; omega)
    · show (if 1 < 2 then s.data.toList[7]? else none) = _
      rw [if_pos (by decide), Array.getElem?_toList]
      exact Array.getElem?_eq_getElem (by show 7 < s.size; omega)
    · simp; omega
  show ((num (cutS s 6 2).reverse : Nat) : Int) = _
  rw [hc]
  simp [num]

set_option maxRecDepth 100000 in
set_option maxHeartbeats 1000000 in
theorem dRead_short (w : World) (s : ByteArray) (h : s.size < 28) :
    Calls Try.prog 20 #[.string s] w fun e w' => e = .returned (.tuple #[.agg (pkC pkZ), .int .i64 7]) ∧ Below w.heap.size w w' := by
  go_enter Try.func20, Try.ntmps20
  go_upto_region 1 with fail
  have RM : Hid (PkRoom (w.alloc (.cells #[.int .i64 0, .int .u8 0, .int .u8 0, .int .u8 0, .int .u8 0, .int .u8 0, .int .u8 0, .int .u8 0, .int .u8 0, .int .u8 0, .int .u8 0, .int .u8 0, .int .u8 0, .int .u8 0, .int .u8 0, .int .u8 0, .int .u8 0, .int .u8 0, .int .u8 0, .int .u8 0, .int .u8 0] 27)) w.heap.size) := Lib.hid (room_new _ _ _ rfl rfl)
  have BL : Hid (Below w.heap.size w (w.alloc (.cells #[.int .i64 0, .int .u8 0, .int .u8 0, .int .u8 0, .int .u8 0, .int .u8 0, .int .u8 0, .int .u8 0, .int .u8 0, .int .u8 0, .int .u8 0, .int .u8 0, .int .u8 0, .int .u8 0, .int .u8 0, .int .u8 0, .int .u8 0, .int .u8 0, .int .u8 0, .int .u8 0, .int .u8 0] 27))) := Lib.hid ((Below.refl _ _).alloc (Nat.le_refl _) _)
  generalize w.alloc _ = W1 at RM BL ⊢
  obtain ⟨hst, S6⟩ := RM.out.put pkZ
  have S6 := Lib.hid S6
  have B6 := Lib.hid (below_setRow BL.out (Nat.le_refl _) (pkC pkZ))
  go_wp2_with (refine wpList_storeW 27 _ _ rfl rfl _ w.heap.size rfl rfl hst ?_)
  exact bodyPost_ret (v := .tuple #[.agg (pkC pkZ), .int .i64 7]) (results_row _ 2 3 27 (by kernel_rfl) _ w.heap.size _ _ _ _ rfl rfl S6.out Try.underlying27 rfl (by kernel_rfl)) rfl ⟨rfl, B6.out⟩
set_option maxRecDepth 100000 in
set_option maxHeartbeats 1000000 in
theorem dRead_form (w : World) (s : ByteArray) (h : 28 ≤ s.size) (h2 : ¬ (s.extract 0 6).toList = [0, 1, 8, 0, 6, 4]) :
    Calls Try.prog 20 #[.string s] w fun e w' => e = .returned (.tuple #[.agg (pkC pkZ), .int .i64 8]) ∧ Below w.heap.size w w' := by
  have h3 : ¬ s.size < 28 := by omega
  have h4 : 6 ≤ s.size := by omega
  have hx : ((s.extract 0 6).toList == [0, 1, 8, 0, 6, 4]) = false := by simpa using h2
  clear h h2
  go_enter Try.func20, Try.ntmps20
  go_upto_region 1 with fail
  have RM : Hid (PkRoom (w.alloc (.cells #[.int .i64 0, .int .u8 0, .int .u8 0, .int .u8 0, .int .u8 0, .int .u8 0, .int .u8 0, .int .u8 0, .int .u8 0, .int .u8 0, .int .u8 0, .int .u8 0, .int .u8 0, .int .u8 0, .int .u8 0, .int .u8 0, .int .u8 0, .int .u8 0, .int .u8 0, .int .u8 0, .int .u8 0] 27)) w.heap.size) := Lib.hid (room_new _ _ _ rfl rfl)
  have BL : Hid (Below w.heap.size w (w.alloc (.cells #[.int .i64 0, .int .u8 0, .int .u8 0, .int .u8 0, .int .u8 0, .int .u8 0, .int .u8 0, .int .u8 0, .int .u8 0, .int .u8 0, .int .u8 0, .int .u8 0, .int .u8 0, .int .u8 0, .int .u8 0, .int .u8 0, .int .u8 0, .int .u8 0, .int .u8 0, .int .u8 0, .int .u8 0] 27))) := Lib.hid ((Below.refl _ _).alloc (Nat.le_refl _) _)
  generalize w.alloc _ = W1 at RM BL ⊢
  obtain ⟨hst, S6⟩ := RM.out.put pkZ
  have S6 := Lib.hid S6
  have B6 := Lib.hid (below_setRow BL.out (Nat.le_refl _) (pkC pkZ))
  go_wp2_with (refine wpList_storeW 27 _ _ rfl rfl _ w.heap.size rfl rfl hst ?_)
  exact bodyPost_ret (v := .tuple #[.agg (pkC pkZ), .int .i64 8]) (results_row _ 2 3 27 (by kernel_rfl) _ w.heap.size _ _ _ _ rfl rfl S6.out Try.underlying27 rfl (by kernel_rfl)) rfl ⟨rfl, B6.out⟩
set_option maxRecDepth 100000 in
set_option maxHeartbeats 1000000 in
theorem dRead_kind (w : World) (s : ByteArray) (h : 28 ≤ s.size) (h2 : (s.extract 0 6).toList = [0, 1, 8, 0, 6, 4]) (X Y : Nat) (hX : s[6].toNat = X) (hY : s[7].toNat = Y) (hk : ¬ X = 0 ∨ (X = 0 ∧ ¬ Y = 1 ∧ ¬ Y = 2)) :
    Calls Try.prog 20 #[.string s] w fun e w' => e = .returned (.tuple #[.agg (pkC pkZ), .int .i64 10]) ∧ Below w.heap.size w w' := by
  have h3 : ¬ s.size < 28 := by omega
  have h4 : 6 ≤ s.size := by omega
  have h6 : 6 < s.size := by omega
  have h7 : 7 < s.size := by omega
  have hx : ((s.extract 0 6).toList == [0, 1, 8, 0, 6, 4]) = true := by simpa using h2
  clear h2
  have hcase : ((X : Int) != 0) = true ∨ (((X : Int) != 0) = false ∧ ((Y : Int) != 1) = true ∧ ((Y : Int) != 2) = true) := by
    rcases hk with h | ⟨h, h', h''⟩
    · exact .inl (by simp; omega)
    · exact .inr ⟨by simp; omega, by simp; omega, by simp; omega⟩
  clear hk
  go_enter Try.func20, Try.ntmps20
  go_upto_region 1 with fail
  have RM : Hid (PkRoom (w.alloc (.cells #[.int .i64 0, .int .u8 0, .int .u8 0, .int .u8 0, .int .u8 0, .int .u8 0, .int .u8 0, .int .u8 0, .int .u8 0, .int .u8 0, .int .u8 0, .int .u8 0, .int .u8 0, .int .u8 0, .int .u8 0, .int .u8 0, .int .u8 0, .int .u8 0, .int .u8 0, .int .u8 0, .int .u8 0] 27)) w.heap.size) := Lib.hid (room_new _ _ _ rfl rfl)
  have BL : Hid (Below w.heap.size w (w.alloc (.cells #[.int .i64 0, .int .u8 0, .int .u8 0, .int .u8 0, .int .u8 0, .int .u8 0, .int .u8 0, .int .u8 0, .int .u8 0, .int .u8 0, .int .u8 0, .int .u8 0, .int .u8 0, .int .u8 0, .int .u8 0, .int .u8 0, .int .u8 0, .int .u8 0, .int .u8 0, .int .u8 0, .int .u8 0] 27))) := Lib.hid ((Below.refl _ _).alloc (Nat.le_refl _) _)
  generalize w.alloc _ = W1 at RM BL ⊢
  obtain ⟨hst, S6⟩ := RM.out.put pkZ
  have S6 := Lib.hid S6
  have B6 := Lib.hid (below_setRow BL.out (Nat.le_refl _) (pkC pkZ))
  rcases hcase with h8 | ⟨h8, h9, h10⟩
  all_goals
    go_wp2_with (refine wpList_storeW 27 _ _ rfl rfl _ w.heap.size rfl rfl hst ?_)
    exact bodyPost_ret (v := .tuple #[.agg (pkC pkZ), .int .i64 10]) (results_row _ 2 3 27 (by kernel_rfl) _ w.heap.size _ _ _ _ rfl rfl S6.out Try.underlying27 rfl (by kernel_rfl)) rfl ⟨rfl, B6.out⟩
set_option maxRecDepth 100000 in
set_option maxHeartbeats 4000000 in
theorem dRead_yes1 (w : World) (s : ByteArray) (h : 28 ≤ s.size) (h2 : (s.extract 0 6).toList = [0, 1, 8, 0, 6, 4]) (hX : s[6].toNat = 0) (hY : s[7].toNat = 1) (R : Pk) (hR : R = rdK s) :
    Calls Try.prog 20 #[.string s] w fun e w' => e = .returned (.tuple #[.agg (pkC R), .int .i64 0]) ∧ Below w.heap.size w w' := by
  have h3 : ¬ s.size < 28 := by omega
  have h4 : 6 ≤ s.size := by omega
  have h6 : 6 < s.size := by omega
  have h7 : 7 < s.size := by omega
  have hx : ((s.extract 0 6).toList == [0, 1, 8, 0, 6, 4]) = true := by simpa using h2
  have HO : Hid (R.op = 1) := Lib.hid (by rw [hR, op_bytes s h, hX, hY]; rfl)
  have M1 : Hid (R.ma = macAt s.data.toList 8) := Lib.hid (by rw [hR]; rfl)
  have M2 : Hid (R.ip = ipAt s.data.toList 14) := Lib.hid (by rw [hR]; rfl)
  have M3 : Hid (R.tm = macAt s.data.toList 18) := Lib.hid (by rw [hR]; rfl)
  have M4 : Hid (R.ti = ipAt s.data.toList 24) := Lib.hid (by rw [hR]; rfl)
  have HZ := Lib.hid h
  clear h2 hR
  go_enter Try.func20, Try.ntmps20
  go_upto_region 1 with fail
  have RM : Hid (PkRoom (w.alloc (.cells #[.int .i64 0, .int .u8 0, .int .u8 0, .int .u8 0, .int .u8 0, .int .u8 0, .int .u8 0, .int .u8 0, .int .u8 0, .int .u8 0, .int .u8 0, .int .u8 0, .int .u8 0, .int .u8 0, .int .u8 0, .int .u8 0, .int .u8 0, .int .u8 0, .int .u8 0, .int .u8 0, .int .u8 0] 27)) w.heap.size) := Lib.hid (room_new _ _ _ rfl rfl)
  have BL : Hid (Below w.heap.size w (w.alloc (.cells #[.int .i64 0, .int .u8 0, .int .u8 0, .int .u8 0, .int .u8 0, .int .u8 0, .int .u8 0, .int .u8 0, .int .u8 0, .int .u8 0, .int .u8 0, .int .u8 0, .int .u8 0, .int .u8 0, .int .u8 0, .int .u8 0, .int .u8 0, .int .u8 0, .int .u8 0, .int .u8 0, .int .u8 0] 27))) := Lib.hid ((Below.refl _ _).alloc (Nat.le_refl _) _)
  generalize w.alloc _ = W1 at RM BL ⊢
  have RM2 : Hid (PkRoom (W1.alloc (.cells (pkC ⟨1, pkZ.ma, pkZ.ip, pkZ.tm, pkZ.ti⟩) 27)) w.heap.size) := Lib.hid (RM.out.kept (((Below.refl _ _).alloc (Nat.le_refl _) _).block _ RM.out.lt))
  have BL2 : Hid (Below w.heap.size w (W1.alloc (.cells (pkC ⟨1, pkZ.ma, pkZ.ip, pkZ.tm, pkZ.ti⟩) 27))) := Lib.hid (BL.out.alloc BL.out.size _)
  have A2 : Hid (PkAt (W1.alloc (.cells (pkC ⟨1, pkZ.ma, pkZ.ip, pkZ.tm, pkZ.ti⟩) 27)) W1.heap.size ⟨1, pkZ.ma, pkZ.ip, pkZ.tm, pkZ.ti⟩) := Lib.hid (PkAt.of_alloc _ _ _ rfl)
  have NE : w.heap.size ≠ W1.heap.size := by have := RM.out.lt; omega
  have NL : w.heap.size ≤ W1.heap.size := by have := RM.out.lt; omega
  have hst := pk_store W1 ⟨1, pkZ.ma, pkZ.ip, pkZ.tm, pkZ.ti⟩
  clear RM BL
  go_upto_region 8 with (refine wpList_storeW 27 _ _ rfl rfl _ W1.heap.size rfl rfl hst ?_)
  clear hst
  obtain ⟨n, hn⟩ : ∃ n, n = W1.heap.size := ⟨_, rfl⟩
  generalize W1.alloc _ = W2 at A2 RM2 BL2 ⊢
  rw [← hn] at A2 NE NL ⊢
  clear hn hX hY
  have S8 : Hid (PkAt W2 n ⟨1, part6 R.ma 0, pkZ.ip, part6 R.tm 0, pkZ.ti⟩) := A2
  clear A2
  go_wp2
  go_loopw [5] (fun i wr => ∃ k : Nat, k ≤ 6 ∧ i = .int .i64 k ∧ Hid (PkAt wr n ⟨1, part6 R.ma k, pkZ.ip, part6 R.tm k, pkZ.ti⟩) ∧ Hid (PkRoom wr w.heap.size) ∧ Hid (Below w.heap.size w wr)) (fun i _ => 6 - (intOf i).toNat)
  case atStart => exact ⟨0, by omega, rfl, S8, RM2, BL2⟩
  case round =>
    obtain ⟨k, hk, rfl, fa, ra, bl⟩ := hrel
    clear S8 RM2 BL2
    by_cases hlt : k < 6
    · obtain ⟨u1, c1, f1⟩ := fa.out.room.there (1 + k) (by omega)
      obtain ⟨u2, c2, f2⟩ := fa.out.room.there (11 + k) (by omega)
      have k1 : 8 + k < s.size := by have := HZ.out; omega
      have k2 : 18 + k < s.size := by have := HZ.out; omega
      have hN1 : ((8 : Int) + (k : Int)).toNat = 8 + k := by omega
      have hN2 : ((18 : Int) + (k : Int)).toNat = 18 + k := by omega
      have HA := Lib.hid (mac_byte s 8 k hlt k1 R.ma M1.out)
      have HB := Lib.hid (mac_byte s 18 k hlt k2 R.tm M3.out)
      go_wp2
      go_roundw
      case rel => exact ⟨k + 1, by omega, by go_num, Lib.hid (PkAt.fill hlt fa.out _ _ HA.out HB.out), Lib.hid (room_kept (room_kept ra.out NE) NE), Lib.hid ((bl.out.setCell NL _).setCell NL _)⟩
      case measure => simp [intOf]; omega
    · have hz : k = 6 := by omega
      have hzi : (k : Int) = 6 := by omega
      rw [hz, part_full, part_full] at fa
      rw [hzi]
      rename World => W3
      have S9 : Hid (PkAt W3 n ⟨1, R.ma, part4 R.ip 0, R.tm, part4 R.ti 0⟩) := fa
      clear hk hlt hz hzi fa
      go_wp2
      go_loopw [6] (fun i wr => ∃ k : Nat, k ≤ 4 ∧ i = .int .i64 k ∧ Hid (PkAt wr n ⟨1, R.ma, part4 R.ip k, R.tm, part4 R.ti k⟩) ∧ Hid (PkRoom wr w.heap.size) ∧ Hid (Below w.heap.size w wr)) (fun i _ => 4 - (intOf i).toNat)
      case atStart => exact ⟨0, by omega, rfl, S9, ra, bl⟩
      case round =>
        obtain ⟨k, hk, rfl, fa, rb, bm⟩ := hrel
        clear S9 ra bl
        by_cases hlt : k < 4
        · obtain ⟨u1, c1, f1⟩ := fa.out.room.there (7 + k) (by omega)
          obtain ⟨u2, c2, f2⟩ := fa.out.room.there (17 + k) (by omega)
          have k1 : 14 + k < s.size := by have := HZ.out; omega
          have k2 : 24 + k < s.size := by have := HZ.out; omega
          have hN1 : ((14 : Int) + (k : Int)).toNat = 14 + k := by omega
          have hN2 : ((24 : Int) + (k : Int)).toNat = 24 + k := by omega
          have HA := Lib.hid (ip_byte s 14 k hlt k1 R.ip M2.out)
          have HB := Lib.hid (ip_byte s 24 k hlt k2 R.ti M4.out)
          go_wp2
          go_roundw
          case rel => exact ⟨k + 1, by omega, by go_num, Lib.hid (PkAt.fill4 hlt fa.out _ _ HA.out HB.out), Lib.hid (room_kept (room_kept rb.out NE) NE), Lib.hid ((bm.out.setCell NL _).setCell NL _)⟩
          case measure => simp [intOf]; omega
        · have hz : k = 4 := by omega
          have hzi : (k : Int) = 4 := by omega
          rw [hz, part_full4, part_full4] at fa
          rw [hzi]
          rename World => W4
          have S10 : Hid (PkAt W4 n R) := Lib.hid (by
            have h9 := fa.out
            rw [← HO.out] at h9
            exact h9)
          clear hk hlt hz hzi fa
          have ha := S10.out
          obtain ⟨hst, S6⟩ := rb.out.put R
          have S6 := Lib.hid S6
          have B6 := Lib.hid (below_setRow bm.out (Nat.le_refl _) (pkC R))
          go_wp2_with (first | (refine pk_ld (by rfl) _ rfl n rfl _ ha ?_) | (refine wpList_storeW 27 _ _ rfl rfl _ w.heap.size rfl rfl hst ?_))
          exact bodyPost_ret (v := .tuple #[.agg (pkC R), .int .i64 0]) (results_row _ 2 3 27 (by kernel_rfl) _ w.heap.size _ _ _ _ rfl rfl S6.out Try.underlying27 rfl (by kernel_rfl)) rfl ⟨rfl, B6.out⟩
set_option maxRecDepth 100000 in
set_option maxHeartbeats 4000000 in
theorem dRead_yes2 (w : World) (s : ByteArray) (h : 28 ≤ s.size) (h2 : (s.extract 0 6).toList = [0, 1, 8, 0, 6, 4]) (hX : s[6].toNat = 0) (hY : s[7].toNat = 2) (R : Pk) (hR : R = rdK s) :
    Calls Try.prog 20 #[.string s] w fun e w' => e = .returned (.tuple #[.agg (pkC R), .int .i64 0]) ∧ Below w.heap.size w w' := by
  have h3 : ¬ s.size < 28 := by omega
  have h4 : 6 ≤ s.size := by omega
  have h6 : 6 < s.size := by omega
  have h7 : 7 < s.size := by omega
  have hx : ((s.extract 0 6).toList == [0, 1, 8, 0, 6, 4]) = true := by simpa using h2
  have HO : Hid (R.op = 2) := Lib.hid (by rw [hR, op_bytes s h, hX, hY]; rfl)
  have M1 : Hid (R.ma = macAt s.data.toList 8) := Lib.hid (by rw [hR]; rfl)
  have M2 : Hid (R.ip = ipAt s.data.toList 14) := Lib.hid (by rw [hR]; rfl)
  have M3 : Hid (R.tm = macAt s.data.toList 18) := Lib.hid (by rw [hR]; rfl)
  have M4 : Hid (R.ti = ipAt s.data.toList 24) := Lib.hid (by rw [hR]; rfl)
  have HZ := Lib.hid h
  clear h2 hR
  go_enter Try.func20, Try.ntmps20
  go_upto_region 1 with fail
  have RM : Hid (PkRoom (w.alloc (.cells #[.int .i64 0, .int .u8 0, .int .u8 0, .int .u8 0, .int .u8 0, .int .u8 0, .int .u8 0, .int .u8 0, .int .u8 0, .int .u8 0, .int .u8 0, .int .u8 0, .int .u8 0, .int .u8 0, .int .u8 0, .int .u8 0, .int .u8 0, .int .u8 0, .int .u8 0, .int .u8 0, .int .u8 0] 27)) w.heap.size) := Lib.hid (room_new _ _ _ rfl rfl)
  have BL : Hid (Below w.heap.size w (w.alloc (.cells #[.int .i64 0, .int .u8 0, .int .u8 0, .int .u8 0, .int .u8 0, .int .u8 0, .int .u8 0, .int .u8 0, .int .u8 0, .int .u8 0, .int .u8 0, .int .u8 0, .int .u8 0, .int .u8 0, .int .u8 0, .int .u8 0, .int .u8 0, .int .u8 0, .int .u8 0, .int .u8 0, .int .u8 0] 27))) := Lib.hid ((Below.refl _ _).alloc (Nat.le_refl _) _)
  generalize w.alloc _ = W1 at RM BL ⊢
  have RM2 : Hid (PkRoom (W1.alloc (.cells (pkC ⟨2, pkZ.ma, pkZ.ip, pkZ.tm, pkZ.ti⟩) 27)) w.heap.size) := Lib.hid (RM.out.kept (((Below.refl _ _).alloc (Nat.le_refl _) _).block _ RM.out.lt))
  have BL2 : Hid (Below w.heap.size w (W1.alloc (.cells (pkC ⟨2, pkZ.ma, pkZ.ip, pkZ.tm, pkZ.ti⟩) 27))) := Lib.hid (BL.out.alloc BL.out.size _)
  have A2 : Hid (PkAt (W1.alloc (.cells (pkC ⟨2, pkZ.ma, pkZ.ip, pkZ.tm, pkZ.ti⟩) 27)) W1.heap.size ⟨2, pkZ.ma, pkZ.ip, pkZ.tm, pkZ.ti⟩) := Lib.hid (PkAt.of_alloc _ _ _ rfl)
  have NE : w.heap.size ≠ W1.heap.size := by have := RM.out.lt; omega
  have NL : w.heap.size ≤ W1.heap.size := by have := RM.out.lt; omega
  have hst := pk_store W1 ⟨2, pkZ.ma, pkZ.ip, pkZ.tm, pkZ.ti⟩
  clear RM BL
  go_upto_region 8 with (refine wpList_storeW 27 _ _ rfl rfl _ W1.heap.size rfl rfl hst ?_)
  clear hst
  obtain ⟨n, hn⟩ : ∃ n, n = W1.heap.size := ⟨_, rfl⟩
  generalize W1.alloc _ = W2 at A2 RM2 BL2 ⊢
  rw [← hn] at A2 NE NL ⊢
  clear hn hX hY
  have S8 : Hid (PkAt W2 n ⟨2, part6 R.ma 0, pkZ.ip, part6 R.tm 0, pkZ.ti⟩) := A2
  clear A2
  go_wp2
  go_loopw [5] (fun i wr => ∃ k : Nat, k ≤ 6 ∧ i = .int .i64 k ∧ Hid (PkAt wr n ⟨2, part6 R.ma k, pkZ.ip, part6 R.tm k, pkZ.ti⟩) ∧ Hid (PkRoom wr w.heap.size) ∧ Hid (Below w.heap.size w wr)) (fun i _ => 6 - (intOf i).toNat)
  case atStart => exact ⟨0, by omega, rfl, S8, RM2, BL2⟩
  case round =>
    obtain ⟨k, hk, rfl, fa, ra, bl⟩ := hrel
    clear S8 RM2 BL2
    by_cases hlt : k < 6
    · obtain ⟨u1, c1, f1⟩ := fa.out.room.there (1 + k) (by omega)
      obtain ⟨u2, c2, f2⟩ := fa.out.room.there (11 + k) (by omega)
      have k1 : 8 + k < s.size := by have := HZ.out; omega
      have k2 : 18 + k < s.size := by have := HZ.out; omega
      have hN1 : ((8 : Int) + (k : Int)).toNat = 8 + k := by omega
      have hN2 : ((18 : Int) + (k : Int)).toNat = 18 + k := by omega
      have HA := Lib.hid (mac_byte s 8 k hlt k1 R.ma M1.out)
      have HB := Lib.hid (mac_byte s 18 k hlt k2 R.tm M3.out)
      go_wp2
      go_roundw
      case rel => exact ⟨k + 1, by omega, by go_num, Lib.hid (PkAt.fill hlt fa.out _ _ HA.out HB.out), Lib.hid (room_kept (room_kept ra.out NE) NE), Lib.hid ((bl.out.setCell NL _).setCell NL _)⟩
      case measure => simp [intOf]; omega
    · have hz : k = 6 := by omega
      have hzi : (k : Int) = 6 := by omega
      rw [hz, part_full, part_full] at fa
      rw [hzi]
      rename World => W3
      have S9 : Hid (PkAt W3 n ⟨2, R.ma, part4 R.ip 0, R.tm, part4 R.ti 0⟩) := fa
      clear hk hlt hz hzi fa
      go_wp2
      go_loopw [6] (fun i wr => ∃ k : Nat, k ≤ 4 ∧ i = .int .i64 k ∧ Hid (PkAt wr n ⟨2, R.ma, part4 R.ip k, R.tm, part4 R.ti k⟩) ∧ Hid (PkRoom wr w.heap.size) ∧ Hid (Below w.heap.size w wr)) (fun i _ => 4 - (intOf i).toNat)
      case atStart => exact ⟨0, by omega, rfl, S9, ra, bl⟩
      case round =>
        obtain ⟨k, hk, rfl, fa, rb, bm⟩ := hrel
        clear S9 ra bl
        by_cases hlt : k < 4
        · obtain ⟨u1, c1, f1⟩ := fa.out.room.there (7 + k) (by omega)
          obtain ⟨u2, c2, f2⟩ := fa.out.room.there (17 + k) (by omega)
          have k1 : 14 + k < s.size := by have := HZ.out; omega
          have k2 : 24 + k < s.size := by have := HZ.out; omega
          have hN1 : ((14 : Int) + (k : Int)).toNat = 14 + k := by omega
          have hN2 : ((24 : Int) + (k : Int)).toNat = 24 + k := by omega
          have HA := Lib.hid (ip_byte s 14 k hlt k1 R.ip M2.out)
          have HB := Lib.hid (ip_byte s 24 k hlt k2 R.ti M4.out)
          go_wp2
          go_roundw
          case rel => exact ⟨k + 1, by omega, by go_num, Lib.hid (PkAt.fill4 hlt fa.out _ _ HA.out HB.out), Lib.hid (room_kept (room_kept rb.out NE) NE), Lib.hid ((bm.out.setCell NL _).setCell NL _)⟩
          case measure => simp [intOf]; omega
        · have hz : k = 4 := by omega
          have hzi : (k : Int) = 4 := by omega
          rw [hz, part_full4, part_full4] at fa
          rw [hzi]
          rename World => W4
          have S10 : Hid (PkAt W4 n R) := Lib.hid (by
            have h9 := fa.out
            rw [← HO.out] at h9
            exact h9)
          clear hk hlt hz hzi fa
          have ha := S10.out
          obtain ⟨hst, S6⟩ := rb.out.put R
          have S6 := Lib.hid S6
          have B6 := Lib.hid (below_setRow bm.out (Nat.le_refl _) (pkC R))
          go_wp2_with (first | (refine pk_ld (by rfl) _ rfl n rfl _ ha ?_) | (refine wpList_storeW 27 _ _ rfl rfl _ w.heap.size rfl rfl hst ?_))
          exact bodyPost_ret (v := .tuple #[.agg (pkC R), .int .i64 0]) (results_row _ 2 3 27 (by kernel_rfl) _ w.heap.size _ _ _ _ rfl rfl S6.out Try.underlying27 rfl (by kernel_rfl)) rfl ⟨rfl, B6.out⟩

theorem dRead_any (w : World) (s : ByteArray) :
    Calls Try.prog 20 #[.string s] w fun e w' => e = .returned (.tuple #[.agg (pkC (rkR s)), .int .i64 (rkE s)]) ∧ Below w.heap.size w w' := by
  by_cases h1 : s.size < 28
  · have e1 : rkE s = 7 := if_pos h1
    rw [rkR, e1, if_neg (by decide)]
    exact dRead_short w s h1
  · have h28 : 28 ≤ s.size := by omega
    by_cases h2 : (s.extract 0 6).toList = [0, 1, 8, 0, 6, 4]
    · have ho := op_bytes s h28
      by_cases h3 : (rdK s).op = 1 ∨ (rdK s).op = 2
      · have e1 : rkE s = 0 := by rw [rkE, if_neg h1, if_neg (fun h => h h2), if_neg (fun h => h h3)]
        rw [rkR, e1, if_pos rfl]
        have hX : s[6].toNat = 0 := by omega
        have hY : s[7].toNat = 1 ∨ s[7].toNat = 2 := by omega
        rcases hY with hY | hY
        · exact dRead_yes1 w s h28 h2 hX hY _ rfl
        · exact dRead_yes2 w s h28 h2 hX hY _ rfl
      · have e1 : rkE s = 10 := by rw [rkE, if_neg h1, if_neg (fun h => h h2), if_pos h3]
        rw [rkR, e1, if_neg (by decide)]
        exact dRead_kind w s h28 h2 _ _ rfl rfl (by omega)
    · have e1 : rkE s = 8 := by rw [rkE, if_neg h1, if_pos h2]
      rw [rkR, e1, if_neg (by decide)]
      exact dRead_form w s h28 h2

end Go.Proofs.Ytolegdjdppaeoaa
