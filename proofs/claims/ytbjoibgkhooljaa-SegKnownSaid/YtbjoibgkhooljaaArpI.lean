/-
  Layer 7: what follows of bytes and packets: mathematics alone; two packets that lie in memory. No conditions.
-/
import Derived.Test.YtbjoibgkhooljaaArpH
namespace Go.Proofs.Ytbjoibgkhooljaa
open Go.RowKit
set_option linter.unusedVariables false

theorem pkE_zero (f : Pk) : pkE f = 0 ↔ (f.op = 1 ∨ f.op = 2) := by
  unfold pkE
  split <;> simp_all
def pkX (x : UInt8) (f : Pk) : List UInt8 := 0 :: 1 :: 8 :: 0 :: 6 :: 4 :: 0 :: x :: (f.ma.list ++ (f.ip.list ++ (f.tm.list ++ f.ti.list)))
theorem pkL_eq (f : Pk) (x : UInt8) (h : f.op = (x.toNat : Int)) (h2 : (leL f.op 2).reverse = [0, x]) : pkL f = pkX x f := by
  unfold pkL pkX hd6
  rw [h2]
  simp
theorem pk_bytes (f : Pk) (h : f.op = 1 ∨ f.op = 2) : ∃ x : UInt8, f.op = (x.toNat : Int) ∧ (x = 1 ∨ x = 2) ∧ (pkS f).data.toList = pkX x f := by
  have h0 : pkS f = ⟨(pkL f).toArray⟩ := by rw [pkS, if_pos ((pkE_zero f).2 h)]
  rcases h with h | h
  · exact ⟨1, by rw [h]; rfl, .inl rfl, by rw [h0, pkL_eq f 1 (by rw [h]; rfl) (by rw [h]; decide)]⟩
  · exact ⟨2, by rw [h]; rfl, .inr rfl, by rw [h0, pkL_eq f 2 (by rw [h]; rfl) (by rw [h]; decide)]⟩
theorem extract0 (s : ByteArray) (k : Nat) : (s.extract 0 k).toList = s.data.toList.take k := by
  rw [ByteArray.toList_eq]
  obtain ⟨⟨l⟩⟩ := s
  rw [ByteArray.extract_mk]
  simp
theorem read_of (s : ByteArray) (x : UInt8) (f : Pk) (r : List UInt8) (hx : x = 1 ∨ x = 2) (ho : f.op = (x.toNat : Int)) (hs : s.data.toList = pkX x f ++ r) : rkR s = f ∧ rkE s = 0 := by
  have hz : 28 ≤ s.size := by
    have h1 : s.data.toList.length = s.size := by rw [Array.length_toList]; rfl
    rw [← h1, hs, List.length_append]
    exact Nat.le_add_right 28 _
  have hc : cutS s 6 2 = [0, x] := by
    unfold cutS okR
    rw [if_pos (decide_eq_true (by omega)), hs]
    rfl
  have hk : rdK s = f := by
    refine Pk.same ⟨?_, ?_, ?_, ?_, ?_⟩
    · show ((num (cutS s 6 2).reverse : Nat) : Int) = f.op
      rw [hc, ho]
      simp [num]
    · show macAt s.data.toList 8 = _
      rw [hs]; rfl
    · show ipAt s.data.toList 14 = _
      rw [hs]; rfl
    · show macAt s.data.toList 18 = _
      rw [hs]; rfl
    · show ipAt s.data.toList 24 = _
      rw [hs]; rfl
  have he : rkE s = 0 := by
    have h1 : (rdK s).op = 1 ∨ (rdK s).op = 2 := by
      rw [hk, ho]
      rcases hx with rfl | rfl
      · exact .inl rfl
      · exact .inr rfl
    have h2 : (s.extract 0 6).toList = [0, 1, 8, 0, 6, 4] := by rw [extract0, hs]; rfl
    rw [rkE, if_neg (by omega), if_neg (fun h => h h2), if_neg (fun h => h h1)]
  exact ⟨by rw [rkR, if_pos he, hk], he⟩
theorem data_add (a b : ByteArray) : (a ++ b).data.toList = a.data.toList ++ b.data.toList := by
  simp
theorem pk_back (f : Pk) (h : f.op = 1 ∨ f.op = 2) (b : ByteArray) : rkR (pkS f ++ b) = f ∧ rkE (pkS f ++ b) = 0 := by
  obtain ⟨x, h1, h2, h3⟩ := pk_bytes f h
  exact read_of _ x f b.data.toList h2 h1 (by rw [data_add, h3])
theorem pk_size (f : Pk) (h : f.op = 1 ∨ f.op = 2) : (pkS f).size = 28 := by
  obtain ⟨x, _, _, h3⟩ := pk_bytes f h
  have h1 : (pkS f).data.toList.length = (pkS f).size := by rw [Array.length_toList]; rfl
  rw [← h1, h3]
  rfl
theorem pk_same (f g : Pk) (hf : f.op = 1 ∨ f.op = 2) (hg : g.op = 1 ∨ g.op = 2) : ((pkS f).toList == (pkS g).toList) = decide (f = g) := by
  rw [Bool.eq_iff_iff]
  simp only [beq_iff_eq, decide_eq_true_eq]
  constructor
  · intro h
    rw [ByteArray.toList_eq, ByteArray.toList_eq] at h
    obtain ⟨x, h1, h2, h3⟩ := pk_bytes f hf
    obtain ⟨y, k1, k2, k3⟩ := pk_bytes g hg
    have r1 := (read_of (pkS f) x f [] h2 h1 (by rw [h3, List.append_nil])).1
    have r2 := (read_of (pkS f) y g [] k2 k1 (by rw [h, k3, List.append_nil])).1
    rw [← r1, r2]
  · rintro rfl; rfl



end Go.Proofs.Ytbjoibgkhooljaa
