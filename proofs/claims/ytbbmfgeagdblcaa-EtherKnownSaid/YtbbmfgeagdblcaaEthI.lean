/-
  Layer 6: what follows of bytes and frames: mathematics alone.
-/
import Derived.Test.YtbbmfgeagdblcaaEthH
namespace Go.Proofs.Ytbbmfgeagdblcaa
open Go.RowKit
set_option linter.unusedVariables false

theorem MacAt.grow {w w' : World} {n : Nat} {m : Mac6} (h : MacAt w n m) (hb : Below w.heap.size w w') : MacAt w' n m := (hb.block n (lt_of_block h)).trans h
theorem MacAt.all {w : World} {n : Nat} {m : Mac6} (h : MacAt w n m) : w.cell? ⟨n, 0, none⟩ = some (.int .u8 (m.a.toNat : Int)) ∧ w.cell? ⟨n, 1, none⟩ = some (.int .u8 (m.b.toNat : Int)) ∧ w.cell? ⟨n, 2, none⟩ = some (.int .u8 (m.c.toNat : Int)) ∧ w.cell? ⟨n, 3, none⟩ = some (.int .u8 (m.d.toNat : Int)) ∧ w.cell? ⟨n, 4, none⟩ = some (.int .u8 (m.e.toNat : Int)) ∧ w.cell? ⟨n, 5, none⟩ = some (.int .u8 (m.f.toNat : Int)) := by
  refine ⟨?_, ?_, ?_, ?_, ?_, ?_⟩ <;> (rw [cell_of_block h]; rfl)
theorem below_step {w W W' : World} (h : Hid (Below w.heap.size w W)) (hb : Below W.heap.size W W') : Hid (Below w.heap.size w W') := Lib.hid (h.out.trans (hb.mono h.out.size))
theorem FrAt.setTo {w : World} {n : Nat} {f : Fr} (h : FrAt w n f) (m : Mac6) : FrAt ((((((w.setCell ⟨n, 0, none⟩ (.int .u8 (m.a.toNat : Int))).setCell ⟨n, 1, none⟩ (.int .u8 (m.b.toNat : Int))).setCell ⟨n, 2, none⟩ (.int .u8 (m.c.toNat : Int))).setCell ⟨n, 3, none⟩ (.int .u8 (m.d.toNat : Int))).setCell ⟨n, 4, none⟩ (.int .u8 (m.e.toNat : Int))).setCell ⟨n, 5, none⟩ (.int .u8 (m.f.toNat : Int))) n ⟨m, f.fr, f.ty, f.da⟩ := by
  have h0 := set_cells h (.int .u8 (m.a.toNat : Int)) (i := 0) (by show 0 < 14; decide)
  have h1 := set_cells h0 (.int .u8 (m.b.toNat : Int)) (i := 1) (by show 1 < 14; decide)
  have h2 := set_cells h1 (.int .u8 (m.c.toNat : Int)) (i := 2) (by show 2 < 14; decide)
  have h3 := set_cells h2 (.int .u8 (m.d.toNat : Int)) (i := 3) (by show 3 < 14; decide)
  have h4 := set_cells h3 (.int .u8 (m.e.toNat : Int)) (i := 4) (by show 4 < 14; decide)
  have h5 := set_cells h4 (.int .u8 (m.f.toNat : Int)) (i := 5) (by show 5 < 14; decide)
  unfold FrAt
  rw [h5]
  rfl
theorem MacAt.setTo {w : World} {n k : Nat} {x : Mac6} (h : MacAt w k x) (hn : k ≠ n) (m : Mac6) : MacAt ((((((w.setCell ⟨n, 0, none⟩ (.int .u8 (m.a.toNat : Int))).setCell ⟨n, 1, none⟩ (.int .u8 (m.b.toNat : Int))).setCell ⟨n, 2, none⟩ (.int .u8 (m.c.toNat : Int))).setCell ⟨n, 3, none⟩ (.int .u8 (m.d.toNat : Int))).setCell ⟨n, 4, none⟩ (.int .u8 (m.e.toNat : Int))).setCell ⟨n, 5, none⟩ (.int .u8 (m.f.toNat : Int))) k x := by
  unfold MacAt
  rw [Below.heap_setCell _ _ _ _ hn, Below.heap_setCell _ _ _ _ hn, Below.heap_setCell _ _ _ _ hn, Below.heap_setCell _ _ _ _ hn, Below.heap_setCell _ _ _ _ hn, Below.heap_setCell _ _ _ _ hn]
  exact h
theorem below_setTo {w w0 : World} {n : Nat} (h : Hid (Below w0.heap.size w0 w)) (hn : w0.heap.size ≤ n) (m : Mac6) : Hid (Below w0.heap.size w0 ((((((w.setCell ⟨n, 0, none⟩ (.int .u8 (m.a.toNat : Int))).setCell ⟨n, 1, none⟩ (.int .u8 (m.b.toNat : Int))).setCell ⟨n, 2, none⟩ (.int .u8 (m.c.toNat : Int))).setCell ⟨n, 3, none⟩ (.int .u8 (m.d.toNat : Int))).setCell ⟨n, 4, none⟩ (.int .u8 (m.e.toNat : Int))).setCell ⟨n, 5, none⟩ (.int .u8 (m.f.toNat : Int)))) :=
  Lib.hid ((((((h.out.setCell hn _).setCell hn _).setCell hn _).setCell hn _).setCell hn _).setCell hn _)
theorem size_setTo {w : World} {n : Nat} (m : Mac6) : ((((((w.setCell ⟨n, 0, none⟩ (.int .u8 (m.a.toNat : Int))).setCell ⟨n, 1, none⟩ (.int .u8 (m.b.toNat : Int))).setCell ⟨n, 2, none⟩ (.int .u8 (m.c.toNat : Int))).setCell ⟨n, 3, none⟩ (.int .u8 (m.d.toNat : Int))).setCell ⟨n, 4, none⟩ (.int .u8 (m.e.toNat : Int))).setCell ⟨n, 5, none⟩ (.int .u8 (m.f.toNat : Int))).heap.size = w.heap.size := by simp [World.setCell]
theorem FrAt.frozen {w : World} {n : Nat} {f : Fr} (h : FrAt w n f) (i : Nat) : w.frozen? ⟨n, i, none⟩ = false := by simp [World.frozen?, show w.heap[n]? = _ from h]
theorem mac_new2 (w : World) (n : Nat) (m : Mac6) (h : n = w.heap.size) : MacAt (w.alloc (.cells #[.int .u8 (m.a.toNat : Int), .int .u8 (m.b.toNat : Int), .int .u8 (m.c.toNat : Int), .int .u8 (m.d.toNat : Int), .int .u8 (m.e.toNat : Int), .int .u8 (m.f.toNat : Int)] 49)) n m := mac_new w n m h
/-- What has bytes is read from them. -/
theorem two_of (y : Int) (h1 : 0 ≤ y) : (leL y 2).reverse = [UInt8.ofNat (y.toNat / 256), UInt8.ofNat (y.toNat % 256)] := by
  rw [ofNat_mod]
  simp [leL, le, List.range_succ]
theorem frE_zero {f : Fr} (h : frE f = 0) : 0 ≤ f.ty ∧ f.ty ≤ 65535 ∧ f.da.size ≤ 586 := by
  unfold frE at h
  split at h
  · cases h
  · split at h
    · cases h
    · omega
theorem back_read (f : Fr) (hd : f.da.size ≤ maxLen) (h : frE f = 0) : rdR (frS f) = f ∧ rdE (frS f) = 0 := by
  obtain ⟨h1, h2, h3⟩ := frE_zero h
  have hs : frS f = ⟨(frL f).toArray⟩ := by rw [frS, if_pos h]
  have hl : frL f = f.to.a :: f.to.b :: f.to.c :: f.to.d :: f.to.e :: f.to.f :: f.fr.a :: f.fr.b :: f.fr.c :: f.fr.d :: f.fr.e :: f.fr.f :: UInt8.ofNat (f.ty.toNat / 256) :: UInt8.ofNat (f.ty.toNat % 256) :: f.da.data.toList := by
    unfold frL
    rw [two_of _ h1]
    rfl
  have hz : (frS f).size = 14 + f.da.size := by
    rw [hs]
    show (frL f).toArray.size = _
    rw [List.size_toArray, hl]
    simp only [List.length_cons, Array.length_toList]
    have : f.da.size = f.da.data.size := rfl
    omega
  have he : rdE (frS f) = 0 := by
    unfold rdE
    rw [if_neg (by omega), if_neg (by omega)]
  refine ⟨?_, he⟩
  rw [rdR, if_pos he]
  have hL : (frS f).data.toList = f.to.a :: f.to.b :: f.to.c :: f.to.d :: f.to.e :: f.to.f :: f.fr.a :: f.fr.b :: f.fr.c :: f.fr.d :: f.fr.e :: f.fr.f :: UInt8.ofNat (f.ty.toNat / 256) :: UInt8.ofNat (f.ty.toNat % 256) :: f.da.data.toList := by
    rw [← hl, hs]
  refine Fr.same ⟨?_, ?_, ?_, ?_⟩
  · show macAt (frS f).data.toList 0 = _
    rw [hL]; rfl
  · show macAt (frS f).data.toList 6 = _
    rw [hL]; rfl
  · show ((num (cutS (frS f) 12 2).reverse : Nat) : Int) = _
    rw [num_cut (frS f) (f.ty.toNat / 256) (f.ty.toNat % 256) (by omega) (by omega) (by omega) (by rw [hL]; rfl) (by rw [hL]; rfl)]
    omega
  · show (frS f).extract 14 (frS f).size = _
    apply ByteArray.ext
    apply Array.toList_inj.1
    rw [extract_list, hL]
    rfl
theorem back_same (f g : Fr) (hf : f.da.size ≤ maxLen) (hg : g.da.size ≤ maxLen) (h1 : frE f = 0) (h2 : frE g = 0) : ((frS f).toList == (frS g).toList) = decide (f = g) := by
  rw [Bool.eq_iff_iff]
  simp only [beq_iff_eq, decide_eq_true_eq]
  constructor
  · intro h
    rw [ByteArray.toList_eq, ByteArray.toList_eq, Array.toList_inj] at h
    have h3 : frS f = frS g := ByteArray.ext h
    rw [← (back_read f hf h1).1, h3, (back_read g hg h2).1]
  · rintro rfl; rfl
theorem read_none (s : ByteArray) (h : rdE s ≠ 0) : rdR s = frZ := by rw [rdR, if_neg h]
theorem rdE_zero {s : ByteArray} (h : rdE s = 0) : 14 ≤ s.size ∧ s.size ≤ 600 := by
  unfold rdE at h
  split at h
  · cases h
  · split at h
    · cases h
    · omega
theorem read_back (s : ByteArray) (h : rdE s = 0) : frE (rdR s) = 0 ∧ frS (rdR s) = s := by
  obtain ⟨h1, h2⟩ := rdE_zero h
  have hR : rdR s = rdF s := by rw [rdR, if_pos h]
  have hz : (rdF s).da.size = s.size - 14 := by
    show (s.extract 14 s.size).size = _
    rw [ByteArray.size_extract]
    omega
  have hty : (rdF s).ty = ((num (cutS s 12 2).reverse : Nat) : Int) := rfl
  have hk := num_two s 12
  have he : frE (rdF s) = 0 := by
    unfold frE
    rw [if_neg (by rw [hty]; omega), if_neg (by omega)]
  rw [hR]
  refine ⟨he, ?_⟩
  rw [frS, if_pos he]
  have hlen : s.data.toList.length = s.size := by rw [Array.length_toList]; rfl
  have hc : cutS s 12 2 = (s.data.toList.drop 12).take 2 := by
    unfold cutS okR
    rw [if_pos (decide_eq_true (by omega))]
    rfl
  have hcl : (cutS s 12 2).length = 2 := by
    rw [hc, List.length_take, List.length_drop, hlen]
    omega
  have hle : (leL (rdF s).ty 2).reverse = cutS s 12 2 := by
    rw [hty]
    unfold leL
    rw [if_pos (by omega), Int.toNat_natCast]
    have := le_num (cutS s 12 2).reverse
    rw [List.length_reverse, hcl] at this
    show (le (num (cutS s 12 2).reverse) 2).reverse = _
    rw [this, List.reverse_reverse]
  apply ByteArray.ext
  apply Array.toList_inj.1
  show frL (rdF s) = _
  unfold frL
  rw [hle, hc]
  show (macAt s.data.toList 0).list ++ (macAt s.data.toList 6).list ++ (s.data.toList.drop 12).take 2 ++ (s.extract 14 s.size).data.toList = s.data.toList
  rw [extract_list]
  have e1 := mac_at s.data.toList 0 (by omega)
  have e2 := mac_at s.data.toList 6 (by omega)
  have e3 : s.data.toList.drop 12 = (s.data.toList.drop 12).take 2 ++ s.data.toList.drop 14 := by
    have := (List.take_append_drop 2 (s.data.toList.drop 12)).symm
    rw [List.drop_drop] at this
    exact this
  rw [List.drop_zero, Nat.zero_add] at e1
  conv => rhs; rw [e1, e2, e3]
  simp only [List.append_assoc]
theorem fr_new (w : World) (n : Nat) (f : Fr) (h : n = w.heap.size) : FrAt (w.alloc (.cells #[.int .u8 (f.to.a.toNat : Int), .int .u8 (f.to.b.toNat : Int), .int .u8 (f.to.c.toNat : Int), .int .u8 (f.to.d.toNat : Int), .int .u8 (f.to.e.toNat : Int), .int .u8 (f.to.f.toNat : Int), .int .u8 (f.fr.a.toNat : Int), .int .u8 (f.fr.b.toNat : Int), .int .u8 (f.fr.c.toNat : Int), .int .u8 (f.fr.d.toNat : Int), .int .u8 (f.fr.e.toNat : Int), .int .u8 (f.fr.f.toNat : Int), .int .i64 f.ty, .string f.da] 51)) n f := by rw [h]; exact heap_alloc_new w _
theorem rd_ok (s : ByteArray) (h : s.size ≤ maxLen) : (rdR s).ok := by
  unfold rdR
  split
  · have hk := num_two s 12
    refine ⟨?_, ?_⟩
    · show (Lit.int .i64 ((num (cutS s 12 2).reverse : Nat) : Int)).wf = true
      exact Go.WalkArith.wf_i64 ⟨by omega, by omega⟩
    · show (s.extract 14 s.size).size ≤ maxLen
      rw [ByteArray.size_extract]
      omega
  · exact ⟨by decide, by decide⟩

end Go.Proofs.Ytbbmfgeagdblcaa
