/-
  Layer 7: slices.Delete of one entry; a row that is appended to. Conditions: as said.
-/
import Derived.Test.YtolegdjdppaeoaaArpL
namespace Go.Proofs.Ytolegdjdppaeoaa
open Go.RowKit Go.Sort Go.Shelf
set_option linter.unusedVariables false

theorem info_en : ∃ i z, Try.prog.info? 68 = some i ∧ i.zero = some z ∧ i.size = 11 ∧ i.bytes = 24 ∧ z.cells.size = 11 := by
  have h : (Try.prog.info? 68).map (fun i => (i.zero.map (fun z => z.cells.size), i.size, i.bytes)) = some (some 11, 11, 24) := by kernel_rfl
  cases hi : Try.prog.info? 68 with
  | none => rw [hi] at h; cases h
  | some i =>
    rw [hi] at h
    simp only [Option.map_some, Option.some.injEq, Prod.mk.injEq] at h
    obtain ⟨h1, h2, h3⟩ := h
    cases hz : i.zero with
    | none => rw [hz] at h1; cases h1
    | some z => rw [hz] at h1; exact ⟨i, z, rfl, hz, h2, h3, by simpa using h1⟩

set_option maxRecDepth 100000 in
set_option maxHeartbeats 400000 in
theorem delete_ok (w : World) (b cap i : Nat) (l : List En) (h : EnRow w (.slice (some ⟨b, 0, none⟩) l.length cap) l) (hi : i < l.length) (hl : l.length ≤ 1000000) :
    Calls Try.prog 27 #[.slice (some ⟨b, 0, none⟩) l.length cap, .int .i64 i, .int .i64 ((i : Int) + 1)] w fun e w' =>
      e = .returned (.slice (some ⟨b, 0, none⟩) (l.length - 1) cap) ∧ EnRow w' (.slice (some ⟨b, 0, none⟩) (l.length - 1) cap) (l.eraseIdx i) ∧ Turn w w' (fun k => k = b) := by
  obtain ⟨cur, hb, hnc, hcm, hcs, htake⟩ : ∃ cur, w.heap[b]? = some (.cells cur 68 (0, 0)) ∧ l.length ≤ cap ∧ cap ≤ maxLen ∧ cur.size = cap * 11 ∧ cur.toList.take (l.length * 11) = encA enE l := by
    rcases h.2 with ⟨h1, _⟩ | ⟨g, cap', cur, h1, _, h2, h3, h4, h5, h6⟩
    · cases h1
    · injection h1 with h1 _ hc; injection h1 with h1; injection h1 with h1
      subst h1 hc
      exact ⟨cur, h2, h3, h4, h5, h6⟩
  have hcm0 := hcm
  unfold maxLen at hcm
  have hd : decide ((i : Int) = (i : Int) + 1) = false := by simp; omega
  obtain ⟨news, hnews⟩ : ∃ news, news = encA enE (l.drop (i + 1)) := ⟨_, rfl⟩
  have hnl : news.length = (l.length - (i + 1)) * 11 := by rw [hnews, encA_length enE_len, List.length_drop]
  have hcut : ∀ j u, news[j]? = some u → cur[(i + 1) * 11 + j]? = some u := fun j u hu => by
    have hj : j < news.length := (List.getElem?_eq_some_iff.1 hu).1
    have h1 : (encA enE l)[(i + 1) * 11 + j]? = some u := by
      rw [← hu, hnews]
      have e := encA_append enE (l.take (i + 1)) (l.drop (i + 1))
      rw [List.take_append_drop] at e
      have e2 := encA_length enE_len (l.take (i + 1))
      rw [List.length_take] at e2
      rw [e, List.getElem?_append_right (by omega)]
      congr 1
      omega
    rw [← htake, List.getElem?_take, if_pos (by omega)] at h1
    simpa using h1
  obtain ⟨A, hA, hsrc⟩ : ∃ A : Addr, (if cap = i + 1 then (some ⟨b, 0, none⟩ : Option Addr) else some ⟨b, (i + 1) * 11, none⟩) = some A ∧ Hid (∀ j u, news[j]? = some u → w.drew.cell? (A.add j) = some u) := by
    by_cases hc : cap = i + 1
    · refine ⟨⟨b, 0, none⟩, by simp [hc], fun j u hu => ?_⟩
      have h0 : news.length = 0 := by rw [hnl]; omega
      rw [List.length_eq_zero_iff.1 h0] at hu
      simp at hu
    · refine ⟨⟨b, (i + 1) * 11, none⟩, by simp [hc], fun j u hu => ?_⟩
      rw [add_off]
      show w.cell? _ = _
      rw [cell_of_row _ _ _ _ _ _ hb]
      exact hcut j u hu
  have hone : Hid (∀ u ∈ news, u.oneCell' = true) := fun u hu => by
    rw [hnews] at hu
    obtain ⟨tm, _, hu⟩ := List.mem_flatMap.1 hu
    exact enE_one tm u hu
  obtain ⟨i0, z0, hi0, hz0, hz1, hz2, hz3⟩ := info_en
  obtain ⟨W1, hW1⟩ : ∃ W1, W1 = w.drew.setRow b (cur.toList.take (i * 11) ++ news ++ cur.toList.drop (i * 11 + news.length)).toArray := ⟨_, rfl⟩
  have hb1 : W1.heap[b]? = some (.cells (cur.toList.take (i * 11) ++ news ++ cur.toList.drop (i * 11 + news.length)).toArray 68 (0, 0)) := by rw [hW1]; exact setRow_heap w.drew b cur _ _ _ hb
  have hfit : i * 11 + news.length ≤ cur.size := by rw [hnl, hcs]; omega
  have hc1 : (cur.toList.take (i * 11) ++ news ++ cur.toList.drop (i * 11 + news.length)).toArray.size = cap * 11 := by
    rw [List.size_toArray, List.length_append, List.length_append, List.length_take, List.length_drop, Array.length_toList]
    omega
  obtain ⟨C1, hC1⟩ : ∃ C1, C1 = (cur.toList.take (i * 11) ++ news ++ cur.toList.drop (i * 11 + news.length)).toArray := ⟨_, rfl⟩
  rw [← hC1] at hb1 hc1
  obtain ⟨W2, hW2, hb2⟩ := run_clear_row (P := Try.prog) W1 60 68 _ Try.underlying60 Try.zeroValue68 b ((i + (l.length - (i + 1))) * 11) (l.length - (i + (l.length - (i + 1)))) (cap - (i + (l.length - (i + 1)))) C1 hb1 (by omega) 11 (by omega) rfl (by omega) (by kernel_rfl)
  have hfin : Hid (EnRow W2 (.slice (some ⟨b, 0, none⟩) (l.length - 1) cap) (l.eraseIdx i) ∧ Turn w W2 (fun k => k = b)) := by
    obtain ⟨zs, hzl, hW2e⟩ := hb2
    have ho : (i + (l.length - (i + 1))) * 11 = (l.length - 1) * 11 := by omega
    have hm1 : (l.length - (i + (l.length - (i + 1)))) * 11 = 11 := by omega
    rw [ho, hm1] at hW2e
    have hel : (l.eraseIdx i).length = l.length - 1 := List.length_eraseIdx_of_lt hi
    have hee : encA enE (l.eraseIdx i) = encA enE (l.take i) ++ news := by rw [List.eraseIdx_eq_take_drop_succ, encA_append, hnews]
    have hti : cur.toList.take (i * 11) = encA enE (l.take i) := by
      have e1 := encA_append enE (l.take i) (l.drop i)
      rw [List.take_append_drop] at e1
      have e2 := encA_length enE_len (l.take i)
      rw [List.length_take] at e2
      have e3 : cur.toList.take (i * 11) = (cur.toList.take (l.length * 11)).take (i * 11) := by rw [List.take_take]; congr 1; omega
      rw [e3, htake, e1]
      exact List.take_left' (by omega)
    have hlc : (C1.toList).length = cap * 11 := by rw [Array.length_toList]; exact hc1
    have hct : C1.toList.take ((l.length - 1) * 11) = encA enE (l.eraseIdx i) := by
      rw [hC1, hee, ← hti]
      refine List.take_left' ?_
      rw [List.length_append, List.length_take, Array.length_toList]
      omega
    refine ⟨⟨by rw [encA_length enE_len], .inr ⟨b, cap, _, by rw [hel], Nat.zero_le _, by rw [hW2e]; exact setRow_heap W1 b C1 _ _ _ hb1, by omega, hcm0, ?_, ?_⟩⟩, ?_⟩
    · rw [List.size_toArray, List.length_append, List.length_append, List.length_take, List.length_drop, hlc, hzl, hm1]
      omega
    · rw [hel, ← hct]
      show (C1.toList.take ((l.length - 1) * 11) ++ zs ++ C1.toList.drop ((l.length - 1) * 11 + 11)).take ((l.length - 1) * 11) = _
      rw [List.append_assoc]
      exact List.take_left' (by rw [List.length_take, hlc]; omega)
    · rw [hW2e, hW1]
      exact ⟨rfl, rfl, rfl, by rw [size_setRow, size_setRow]; exact Nat.le_refl _, fun k _ hk => by rw [setRow_other _ _ _ _ hk, setRow_other _ _ _ _ hk]; rfl⟩
  have HB := Lib.hid hb
  have HHI := Lib.hid hi0
  have HZ1 := Lib.hid hz1
  have HHN := Lib.hid hnl
  have HHF := Lib.hid hfit
  have HW1 := Lib.hid hW1
  clear hi0 hz0 hz1 hz2 hz3 hb hnews hnl hcut hW1 hb1 hfit hc1 hC1 htake hcs h hb2
  go_enter Try.func27, Try.ntmps27
  go_wp2_with fail
  have hic : (i : Int) ≤ (cap : Int) := by omega
  have hjl : (i : Int) + 1 ≤ (l.length : Int) := by omega
  have hj0 : 0 ≤ (i : Int) + 1 := by omega
  go_region_law (refine step_append_in rfl (.tmp 22) (.tmp 25) 60 rfl 68 i0 11 Try.underlying60 HHI.out HZ1.out b i cap cur HB.out (by simp [Act.eval, Act.put]) A (l.length - (i + 1)) (cap - (i + 1)) news (by simp [Act.eval, Act.put]) HHN.out hsrc.out hone.out (by omega) HHF.out ?_; rw [← HW1.out])
  go_wp2
  go_ret
  exact ⟨by rw [show l.length - 1 = i + (l.length - (i + 1)) by omega]; rfl, hfin.out.1, hfin.out.2⟩

end Go.Proofs.Ytolegdjdppaeoaa
