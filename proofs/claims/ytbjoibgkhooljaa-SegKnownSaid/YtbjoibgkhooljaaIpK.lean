/-
  Layer 8: what follows of bytes and packets: mathematics alone. No conditions.
-/
import Derived.Test.YtbjoibgkhooljaaIpI
import Derived.Test.YtbjoibgkhooljaaIpO
namespace Go.Proofs.Ytbjoibgkhooljaa
open Go.RowKit
set_option linter.unusedVariables false

theorem size_list (s : ByteArray) : s.data.toList.length = s.size := by rw [Array.length_toList]; rfl
theorem pdE_zero {f : Pd} : pdE f = 0 ↔ (mayB f = true ∧ f.da.size ≤ 566) := by
  unfold pdE
  cases h : mayB f
  · simp
  · by_cases h2 : 566 < f.da.size
    · rw [if_neg (by decide), if_pos h2]; constructor
      · intro h; cases h
      · intro h; omega
    · rw [if_neg (by decide), if_neg h2]; simp; omega
theorem pdS_list {f : Pd} (h : pdE f = 0) : (pdS f).data.toList = hdL f ++ f.da.data.toList := by rw [pdS, if_pos h]
theorem pdS_size {f : Pd} (h : pdE f = 0) : (pdS f).size = 20 + f.da.size := by
  rw [← size_list, pdS_list h, List.length_append, hdL_length, size_list]
theorem two_bytes (n : Nat) : two n = [UInt8.ofNat (n / 256), UInt8.ofNat (n % 256)] := rfl
theorem two_val {n : Nat} (h : n ≤ 65535) : 256 * (UInt8.ofNat (n / 256)).toNat + (UInt8.ofNat (n % 256)).toNat = n := by
  have := tot_two h
  simpa [two, tot] using this
/-- The head, byte by byte. -/
def hdX (f : Pd) (k : Nat) : List UInt8 := [69, 0] ++ two (20 + f.da.size) ++ two f.id.toNat ++ two (plN f) ++ [UInt8.ofNat f.tl.toNat, UInt8.ofNat f.pr.toNat] ++ two k ++ f.sr.list ++ f.ds.list
theorem hdL_eq (f : Pd) : hdL f = hdX f (sumT (ahL f ++ two 0 ++ bhL f)) := by
  unfold hdL hdX ahL bhL
  simp [List.append_assoc]
theorem hdL_sum (f : Pd) : sumT (hdL f) = 0 := by
  have := sum_placed (ahL f) (bhL f) (by rw [ahL_length])
  exact this
theorem wd_of (a : List UInt8) (n : Nat) (b : List UInt8) (k : Nat) (hk : a.length = k) (hn : n ≤ 65535) : wd (a ++ two n ++ b) k = n := by
  subst hk
  have h0 : (a ++ two n ++ b).getD a.length 0 = UInt8.ofNat (n / 256) := by simp [two, List.getD]
  have h1 : (a ++ two n ++ b).getD (a.length + 1) 0 = UInt8.ofNat (n % 256) := by simp [two, List.getD]
  rw [wd, bt, bt, h0, h1, two_val hn]
theorem bt_of (a : List UInt8) (x : UInt8) (b : List UInt8) (k : Nat) (hk : a.length = k) : bt (a ++ x :: b) k = x.toNat := by
  subst hk
  simp [bt, List.getD]
theorem ip_of (a : List UInt8) (m : Ip4) (b : List UInt8) (k : Nat) (hk : a.length = k) : ipAt (a ++ m.list ++ b) k = m := by
  subst hk
  unfold ipAt
  apply Ip4.same
  simp [Ip4.list, List.getD]
theorem plN_lt {f : Pd} (h : mayB f = true) : plN f < 16384 := by
  obtain ⟨-, -, -, -, -, -, p8, p0, p1, -, -⟩ := mayB_all h
  unfold plN; split <;> omega
theorem plN_parts {f : Pd} (h : mayB f = true) : ((plN f % 8192 * 8 : Nat) : Int) = f.ps ∧ decide (plN f / 8192 % 2 = 1) = f.mo := by
  obtain ⟨-, -, -, -, -, -, p8, p0, p1, -, -⟩ := mayB_all h
  unfold plN
  cases f.mo
  · rw [if_neg (by decide)]
    exact ⟨by omega, decide_eq_false (by omega)⟩
  · rw [if_pos rfl]
    exact ⟨by omega, decide_eq_true (by omega)⟩
theorem bytes_end (h : List UInt8) (d r : List UInt8) (S : ByteArray) (hS : S.data.toList = h ++ d ++ r) (n k : Nat) (hn : h.length = n) (hk : d.length = k) : (S.extract n (n + k)).data.toList = d := by
  subst hn hk
  rw [Lib.extract_data, hS, List.append_assoc, List.drop_left]
  simp
/-- What stands in the bytes of a packet, with anything behind. -/
theorem read_bytes (f : Pd) (h : pdE f = 0) (S : ByteArray) (r : List UInt8) (hS : S.data.toList = hdL f ++ f.da.data.toList ++ r) : rhE S = 0 ∧ rdQ S = f ∧ rdN S = 20 ∧ wd S.data.toList 2 = 20 + f.da.size ∧ wd S.data.toList 6 = plN f := by
  obtain ⟨hm, hz⟩ := pdE_zero.1 h
  obtain ⟨i0, i1, r0, r1, t0, t1, p8, p0, p1, ps, -⟩ := mayB_all hm
  have hL := hdL_eq f
  generalize sumT (ahL f ++ two 0 ++ bhL f) = K at hL
  have b0 : bt S.data.toList 0 = 69 := by rw [hS, hL, hdX]; rfl
  have hl : S.size = 20 + f.da.size + r.length := by rw [← size_list, hS, List.length_append, List.length_append, hdL_length, size_list]
  have w2 : wd S.data.toList 2 = 20 + f.da.size := by
    have e : S.data.toList = [69, 0] ++ two (20 + f.da.size) ++ (two f.id.toNat ++ two (plN f) ++ [UInt8.ofNat f.tl.toNat, UInt8.ofNat f.pr.toNat] ++ two K ++ f.sr.list ++ f.ds.list ++ f.da.data.toList ++ r) := by rw [hS, hL, hdX]; simp only [List.append_assoc]
    rw [e]; exact wd_of _ _ _ _ rfl (by omega)
  have w4 : wd S.data.toList 4 = f.id.toNat := by
    have e : S.data.toList = ([69, 0] ++ two (20 + f.da.size)) ++ two f.id.toNat ++ (two (plN f) ++ [UInt8.ofNat f.tl.toNat, UInt8.ofNat f.pr.toNat] ++ two K ++ f.sr.list ++ f.ds.list ++ f.da.data.toList ++ r) := by rw [hS, hL, hdX]; simp only [List.append_assoc]
    rw [e]; exact wd_of _ _ _ _ rfl (by omega)
  have w6 : wd S.data.toList 6 = plN f := by
    have e : S.data.toList = ([69, 0] ++ two (20 + f.da.size) ++ two f.id.toNat) ++ two (plN f) ++ ([UInt8.ofNat f.tl.toNat, UInt8.ofNat f.pr.toNat] ++ two K ++ f.sr.list ++ f.ds.list ++ f.da.data.toList ++ r) := by rw [hS, hL, hdX]; simp only [List.append_assoc]
    rw [e]; exact wd_of _ _ _ _ rfl (by have := plN_lt hm; omega)
  have b8 : bt S.data.toList 8 = f.tl.toNat := by
    have e : S.data.toList = ([69, 0] ++ two (20 + f.da.size) ++ two f.id.toNat ++ two (plN f)) ++ UInt8.ofNat f.tl.toNat :: ([UInt8.ofNat f.pr.toNat] ++ two K ++ f.sr.list ++ f.ds.list ++ f.da.data.toList ++ r) := by rw [hS, hL, hdX]; simp only [List.append_assoc, List.cons_append, List.nil_append]
    rw [e]; refine (bt_of _ _ _ _ rfl).trans ?_; rw [UInt8.toNat_ofNat']; omega
  have b9 : bt S.data.toList 9 = f.pr.toNat := by
    have e : S.data.toList = ([69, 0] ++ two (20 + f.da.size) ++ two f.id.toNat ++ two (plN f) ++ [UInt8.ofNat f.tl.toNat]) ++ UInt8.ofNat f.pr.toNat :: (two K ++ f.sr.list ++ f.ds.list ++ f.da.data.toList ++ r) := by rw [hS, hL, hdX]; simp only [List.append_assoc, List.cons_append, List.nil_append]
    rw [e]; refine (bt_of _ _ _ _ rfl).trans ?_; rw [UInt8.toNat_ofNat']; omega
  have a12 : ipAt S.data.toList 12 = f.sr := by
    have e : S.data.toList = ([69, 0] ++ two (20 + f.da.size) ++ two f.id.toNat ++ two (plN f) ++ [UInt8.ofNat f.tl.toNat, UInt8.ofNat f.pr.toNat] ++ two K) ++ f.sr.list ++ (f.ds.list ++ f.da.data.toList ++ r) := by rw [hS, hL, hdX]; simp only [List.append_assoc]
    rw [e]; exact ip_of _ _ _ _ rfl
  have a16 : ipAt S.data.toList 16 = f.ds := by
    have e : S.data.toList = ([69, 0] ++ two (20 + f.da.size) ++ two f.id.toNat ++ two (plN f) ++ [UInt8.ofNat f.tl.toNat, UInt8.ofNat f.pr.toNat] ++ two K ++ f.sr.list) ++ f.ds.list ++ (f.da.data.toList ++ r) := by rw [hS, hL, hdX]; simp only [List.append_assoc]
    rw [e]; exact ip_of _ _ _ _ rfl
  have hN : rdN S = 20 := by rw [rdN, b0]
  have hE : rhE S = 0 := by
    have ht : S.data.toList.take 20 = hdL f := by rw [hS, List.append_assoc, List.take_append_of_le_length (by rw [hdL_length]; exact Nat.le_refl _), List.take_of_length_le (by rw [hdL_length]; exact Nat.le_refl _)]
    rw [rhE, if_neg (by omega), b0, if_neg (by omega), if_neg (by omega), show 4 * (69 - 64) = 20 from rfl, ht, hdL_sum, if_pos rfl]
  have hD : S.extract 20 (20 + f.da.size) = f.da := by
    apply ByteArray.ext
    apply Array.toList_inj.1
    exact bytes_end (hdL f) _ r S hS 20 f.da.size (hdL_length f) (size_list _)
  refine ⟨hE, ?_, hN, w2, w6⟩
  obtain ⟨q1, q2⟩ := plN_parts hm
  refine Pd.same ⟨?_, a12, a16, ?_, ?_, ?_, ?_, ?_⟩
  · show ((wd S.data.toList 4 : Nat) : Int) = f.id
    rw [w4]; omega
  · show ((bt S.data.toList 9 : Nat) : Int) = f.pr
    rw [b9]; omega
  · show ((bt S.data.toList 8 : Nat) : Int) = f.tl
    rw [b8]; omega
  · show ((wd S.data.toList 6 % 8192 * 8 : Nat) : Int) = f.ps
    rw [w6]; exact q1
  · show decide (wd S.data.toList 6 / 8192 % 2 = 1) = f.mo
    rw [w6]; exact q2
  · show S.extract (rdN S) (wd S.data.toList 2) = f.da
    rw [hN, w2]; exact hD
theorem read_back8 (f : Pd) (h : pdE f = 0) (b : ByteArray) : rqP (pdS f ++ b) = f ∧ rqE (pdS f ++ b) = 0 := by
  obtain ⟨hm, hz⟩ := pdE_zero.1 h
  have hS : (pdS f ++ b).data.toList = hdL f ++ f.da.data.toList ++ b.data.toList := by rw [show (pdS f ++ b).data.toList = (pdS f).data.toList ++ b.data.toList by simp, pdS_list h]
  obtain ⟨h1, h2, h3, h4, h5⟩ := read_bytes f h _ _ hS
  have hl : (pdS f ++ b).size = 20 + f.da.size + b.size := by rw [ByteArray.size_append, pdS_size h]
  have he : rqE (pdS f ++ b) = 0 := by
    rw [rqE, if_pos h1, h3, h4, h5, h2, hm, if_neg (by omega), if_neg (by omega), if_neg]
    have := plN_lt hm
    simp; omega
  exact ⟨by rw [rqP, if_pos he, h2], he⟩
/-- Without its last byte a packet is not read. -/
theorem read_cut8 (f : Pd) (h : pdE f = 0) : rqE ((pdS f).extract 0 (19 + f.da.size)) = 7 := by
  obtain ⟨hm, hz⟩ := pdE_zero.1 h
  have hzs : ((pdS f).extract 0 (19 + f.da.size)).size = 19 + f.da.size := by rw [ByteArray.size_extract, pdS_size h]; omega
  have hd : ((pdS f).extract 0 (19 + f.da.size)).data.toList = (hdL f ++ f.da.data.toList).take (19 + f.da.size) := by rw [extract_take, pdS_list h]
  by_cases h0 : f.da.size = 0
  · have hE : rhE ((pdS f).extract 0 (19 + f.da.size)) = 7 := by rw [rhE, if_pos (by omega)]
    rw [rqE, hE, if_neg (by decide)]
  · have hsp : (hdL f ++ f.da.data.toList).take (19 + f.da.size) = hdL f ++ f.da.data.toList.take (f.da.size - 1) := by
      rw [List.take_append, hdL_length, List.take_of_length_le (by rw [hdL_length]; omega), show 19 + f.da.size - 20 = f.da.size - 1 by omega]
    have hL := hdL_eq f
    have hs := hdL_sum f
    rw [hsp] at hd
    generalize hSg : (pdS f).extract 0 (19 + f.da.size) = S at hzs hd
    generalize sumT (ahL f ++ two 0 ++ bhL f) = K at hL
    have b0 : bt S.data.toList 0 = 69 := by rw [hd, hL, hdX]; rfl
    have w2 : wd S.data.toList 2 = 20 + f.da.size := by
      have e : S.data.toList = [69, 0] ++ two (20 + f.da.size) ++ (two f.id.toNat ++ two (plN f) ++ [UInt8.ofNat f.tl.toNat, UInt8.ofNat f.pr.toNat] ++ two K ++ f.sr.list ++ f.ds.list ++ f.da.data.toList.take (f.da.size - 1)) := by rw [hd, hL, hdX]; simp only [List.append_assoc]
      rw [e]; exact wd_of _ _ _ _ rfl (by omega)
    have hE : rhE S = 0 := by
      have ht : S.data.toList.take 20 = hdL f := by rw [hd, List.take_append_of_le_length (by rw [hdL_length]; exact Nat.le_refl _), List.take_of_length_le (by rw [hdL_length]; exact Nat.le_refl _)]
      rw [rhE, if_neg (by omega), b0, if_neg (by omega), if_neg (by omega), show 4 * (69 - 64) = 20 from rfl, ht, hs, if_pos rfl]
    have hN : rdN S = 20 := by rw [rdN, b0]
    rw [rqE, if_pos hE, w2, hN, if_neg (by omega), if_pos (by omega)]

end Go.Proofs.Ytbjoibgkhooljaa
