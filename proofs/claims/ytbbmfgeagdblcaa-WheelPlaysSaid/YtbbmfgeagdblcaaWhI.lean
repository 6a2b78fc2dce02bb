/-
  Layer 5: slices.Delete of one timer. Conditions: as said.
-/
import Derived.Test.YtbbmfgeagdblcaaWhO
namespace Go.Proofs.Ytbbmfgeagdblcaa
open Go.RowKit Go.Sort Go.Shelf

/-- append WHERE THERE IS ROOM, the block's cells told: as one step of a region that draws. -/
theorem step_append_in {P : Program} {ops : Array Oper} {o : Oper} {a : Act} {w : World} {K : Act → World → Prop} {Q : Exit → Act → World → Prop} {E : Prop}
    (hg : o.guard = none) (s x : Operand) (t : TypeId) (hop : o.op = Op.call { callee := Callee.builtin Builtin.append, args := #[s, x], argTypes := #[t, t] })
    (e : TypeId) (i : TypeInfo) (size : Nat) (h1 : P.underlying t = some (.slice e)) (h2 : P.info? e = some i) (h4 : i.size = size)
    (b n cap : Nat) (cur : Array Value) (hb : w.heap[b]? = some (.cells cur e (0, 0))) (hs : a.eval s = .slice (some ⟨b, 0, none⟩) n cap)
    (ad : Addr) (m c : Nat) (news : List Value) (hx : a.eval x = .slice (some ad) m c) (hn : news.length = m * size) (hc : ∀ j u, news[j]? = some u → w.cell? (ad.add j) = some u) (h1c : ∀ u ∈ news, u.oneCell' = true)
    (hroom : n + m ≤ cap) (hfit : n * size + news.length ≤ cur.size)
    (hK : K (a.put o.dst (.slice (some ⟨b, 0, none⟩) (n + m) cap)) (w.setRow b (cur.toList.take (n * size) ++ news ++ cur.toList.drop (n * size + news.length)).toArray)) :
    if Region.wanted o (yielded ops a.tmps) = true then Oper.wp P o a w K Q else E := by
  have hw : Region.wanted o (yielded ops a.tmps) = true := by simp [Region.wanted, hg]
  rw [if_pos hw]
  subst h4
  have hrun := run_append_room (P := P) w t o.type e i h1 h2 b n cap cur hb ad m c news hn hc h1c hroom hfit
  unfold Oper.wp
  simp only [execOp, hop, resolve, invoke, builtin, Sem.run_bind, Sem.run_pure, Result.andThen_ok, List.map_toArray, List.map_cons, List.map_nil, hs, hx, hrun]
  exact hK

theorem run_clear_row {P : Program} (W : World) (t e : TypeId) (z : Value) (ht : P.underlying t = some (.slice e)) (hv : ∀ w, (zeroValue e).run P w = .ok z w) (b o m c : Nat) (cur : Array Value) (hb : W.heap[b]? = some (.cells cur e (0, 0))) (hm : 0 < m) (hz : z.cells.size = 3) (hfit : o + m * 3 ≤ cur.size) (h1 : z.cells.all (·.oneCell') = true) :
    ∃ W', (∀ ty, (Builtin.clear_ #[t] ty #[.slice (some ⟨b, o, none⟩) m c]).run P W = .ok (.tuple #[]) W') ∧ ∃ zs : List Value, zs.length = m * 3 ∧ W' = W.setRow b (cur.toList.take o ++ zs ++ cur.toList.drop (o + m * 3)).toArray := by
  have hsz : (Builtin.zeroCells z.cells m).toList.length = m * 3 := by rw [Array.length_toList, size_zeroCells, hz]
  have hone : ∀ v ∈ (Builtin.zeroCells z.cells m).toList, v.oneCell' = true := fun v hv => by
    have hv' : v ∈ Builtin.zeroCells z.cells m := by simpa using hv
    simp only [Builtin.zeroCells] at hv'
    obtain ⟨k, _, hk⟩ := Array.mem_map.1 hv'
    have hlt : k % z.cells.size < z.cells.size := Nat.mod_lt _ (by omega)
    rw [getElem!_pos z.cells _ hlt] at hk
    exact (Array.all_eq_true_iff_forall_mem.1 h1) v (by rw [← hk]; exact Array.getElem_mem _)
  have hst := run_storeCells_at P b o e (Builtin.zeroCells z.cells m).toList 0 cur W hb (by rw [hsz]; simpa using hfit) hone
  simp only [Nat.add_zero] at hst
  rw [hsz] at hst
  refine ⟨_, fun ty => ?_, _, hsz, rfl⟩
  match m, hm with
  | m + 1, _ => simp [Builtin.clear_, run_underlying ht, Sem.run_bind, hv, hst]

set_option maxRecDepth 100000 in
set_option maxHeartbeats 400000 in
theorem delete_okI (w : World) (b cap i : Nat) (l : List (Tm Int)) (h : Row 79 (Value.int .i64) w (.slice (some ⟨b, 0, none⟩) l.length cap) l) (hi : i < l.length) (hl : l.length ≤ 1000000) :
    Calls Try.prog 38 #[.slice (some ⟨b, 0, none⟩) l.length cap, .int .i64 i, .int .i64 ((i : Int) + 1)] w fun e w' =>
      e = .returned (.slice (some ⟨b, 0, none⟩) (l.length - 1) cap) ∧ Row 79 (Value.int .i64) w' (.slice (some ⟨b, 0, none⟩) (l.length - 1) cap) (l.eraseIdx i) ∧ Turn w w' (fun k => k = b) := by
  obtain ⟨cur, hb, hnc, hcm, hcs, htake⟩ : ∃ cur, w.heap[b]? = some (.cells cur 79 (0, 0)) ∧ l.length ≤ cap ∧ cap ≤ maxLen ∧ cur.size = cap * 3 ∧ cur.toList.take (l.length * 3) = encL (Value.int .i64) l := by
    rcases h.2 with ⟨h1, _⟩ | ⟨g, cap', cur, h1, _, h2, h3, h4, h5, h6⟩
    · cases h1
    · injection h1 with h1 _ hc; injection h1 with h1; injection h1 with h1
      subst h1 hc
      exact ⟨cur, h2, h3, h4, h5, h6⟩
  have hcm0 := hcm
  unfold maxLen at hcm
  have hd : decide ((i : Int) = (i : Int) + 1) = false := by simp; omega
  obtain ⟨news, hnews⟩ : ∃ news, news = encL (Value.int .i64) (l.drop (i + 1)) := ⟨_, rfl⟩
  have hnl : news.length = (l.length - (i + 1)) * 3 := by rw [hnews, encL_length, List.length_drop]
  have hcut : ∀ j u, news[j]? = some u → cur[(i + 1) * 3 + j]? = some u := fun j u hu => by
    have hj : j < news.length := (List.getElem?_eq_some_iff.1 hu).1
    have h1 : (encL (Value.int .i64) l)[(i + 1) * 3 + j]? = some u := by
      rw [← hu, hnews]
      have e := encL_append (Value.int .i64) (l.take (i + 1)) (l.drop (i + 1))
      rw [List.take_append_drop] at e
      have e2 := encL_length (Value.int .i64) (l.take (i + 1))
      rw [List.length_take] at e2
      rw [e, List.getElem?_append_right (by omega)]
      congr 1
      omega
    rw [← htake, List.getElem?_take, if_pos (by omega)] at h1
    simpa using h1
  obtain ⟨A, hA, hsrc⟩ : ∃ A : Addr, (if cap = i + 1 then (some ⟨b, 0, none⟩ : Option Addr) else some ⟨b, (i + 1) * 3, none⟩) = some A ∧ Hid (∀ j u, news[j]? = some u → w.drew.cell? (A.add j) = some u) := by
    by_cases hc : cap = i + 1
    · refine ⟨⟨b, 0, none⟩, by simp [hc], fun j u hu => ?_⟩
      have h0 : news.length = 0 := by rw [hnl]; omega
      rw [List.length_eq_zero_iff.1 h0] at hu
      simp at hu
    · refine ⟨⟨b, (i + 1) * 3, none⟩, by simp [hc], fun j u hu => ?_⟩
      rw [add_plain]
      show w.cell? _ = _
      rw [cell_of_cells hb]
      exact hcut j u hu
  have hone : Hid (∀ u ∈ news, u.oneCell' = true) := fun u hu => by
    rw [hnews] at hu
    obtain ⟨tm, _, hu⟩ := List.mem_flatMap.1 hu
    simp [Tm.cells] at hu
    rcases hu with rfl | rfl | rfl <;> rfl
  obtain ⟨i0, z0, hi0, hz0, hz1, hz2, hz3⟩ := info_tmI
  obtain ⟨W1, hW1⟩ : ∃ W1, W1 = w.drew.setRow b (cur.toList.take (i * 3) ++ news ++ cur.toList.drop (i * 3 + news.length)).toArray := ⟨_, rfl⟩
  have hb1 : W1.heap[b]? = some (.cells (cur.toList.take (i * 3) ++ news ++ cur.toList.drop (i * 3 + news.length)).toArray 79 (0, 0)) := by rw [hW1]; exact setRow_heap w.drew b cur _ _ _ hb
  have hfit : i * 3 + news.length ≤ cur.size := by rw [hnl, hcs]; omega
  have hc1 : (cur.toList.take (i * 3) ++ news ++ cur.toList.drop (i * 3 + news.length)).toArray.size = cap * 3 := by
    rw [List.size_toArray, List.length_append, List.length_append, List.length_take, List.length_drop, Array.length_toList]
    omega
  obtain ⟨C1, hC1⟩ : ∃ C1, C1 = (cur.toList.take (i * 3) ++ news ++ cur.toList.drop (i * 3 + news.length)).toArray := ⟨_, rfl⟩
  rw [← hC1] at hb1 hc1
  obtain ⟨W2, hW2, hb2⟩ := run_clear_row (P := Try.prog) W1 72 79 _ Try.underlying72 Try.zeroValue79 b ((i + (l.length - (i + 1))) * 3) (l.length - (i + (l.length - (i + 1)))) (cap - (i + (l.length - (i + 1)))) C1 hb1 (by omega) rfl (by omega) (by kernel_rfl)
  have hfin : Hid (Row 79 (Value.int .i64) W2 (.slice (some ⟨b, 0, none⟩) (l.length - 1) cap) (l.eraseIdx i) ∧ Turn w W2 (fun k => k = b)) := by
    obtain ⟨zs, hzl, hW2e⟩ := hb2
    have ho : (i + (l.length - (i + 1))) * 3 = (l.length - 1) * 3 := by omega
    have hm1 : (l.length - (i + (l.length - (i + 1)))) * 3 = 3 := by omega
    rw [ho, hm1] at hW2e
    have hel : (l.eraseIdx i).length = l.length - 1 := List.length_eraseIdx_of_lt hi
    have hee : encL (Value.int .i64) (l.eraseIdx i) = encL (Value.int .i64) (l.take i) ++ news := by rw [List.eraseIdx_eq_take_drop_succ, encL_append, hnews]
    have hti : cur.toList.take (i * 3) = encL (Value.int .i64) (l.take i) := by
      have e1 := encL_append (Value.int .i64) (l.take i) (l.drop i)
      rw [List.take_append_drop] at e1
      have e2 := encL_length (Value.int .i64) (l.take i)
      rw [List.length_take] at e2
      have e3 : cur.toList.take (i * 3) = (cur.toList.take (l.length * 3)).take (i * 3) := by rw [List.take_take]; congr 1; omega
      rw [e3, htake, e1]
      exact List.take_left' (by omega)
    have hlc : (C1.toList).length = cap * 3 := by rw [Array.length_toList]; exact hc1
    have hct : C1.toList.take ((l.length - 1) * 3) = encL (Value.int .i64) (l.eraseIdx i) := by
      rw [hC1, hee, ← hti]
      refine List.take_left' ?_
      rw [List.length_append, List.length_take, Array.length_toList]
      omega
    refine ⟨⟨by rw [encL_length], .inr ⟨b, cap, _, by rw [hel], Nat.zero_le _, by rw [hW2e]; exact setRow_heap W1 b C1 _ _ _ hb1, by omega, hcm0, ?_, ?_⟩⟩, ?_⟩
    · rw [List.size_toArray, List.length_append, List.length_append, List.length_take, List.length_drop, hlc, hzl, hm1]
      omega
    · rw [hel, ← hct]
      show (C1.toList.take ((l.length - 1) * 3) ++ zs ++ C1.toList.drop ((l.length - 1) * 3 + 3)).take ((l.length - 1) * 3) = _
      rw [List.append_assoc]
      exact List.take_left' (by rw [List.length_take, hlc]; omega)
    · rw [hW2e, hW1]
      exact ⟨rfl, rfl, rfl, by rw [size_setRow, size_setRow]; exact Nat.le_refl _, fun k _ hk => by rw [setRow_other _ _ _ _ hk, setRow_other _ _ _ _ hk]; rfl⟩
  have HB := Lib.hid hb
  have HHI := Lib.hid hi0
  have HZ1 := Lib.hid hz1
  have HHN := Lib.hid hnl
  have HHF := Lib.hid hfit
  have HW1 := Lib.hid hW1
  clear hi0 hz0 hz1 hz2 hz3 hb hnews hnl hcut hW1 hb1 hfit hc1 hC1 htake hcs h hb2
  go_enter Try.func38, Try.ntmps38
  go_wp2_with fail
  have hic : (i : Int) ≤ (cap : Int) := by omega
  have hjl : (i : Int) + 1 ≤ (l.length : Int) := by omega
  have hj0 : 0 ≤ (i : Int) + 1 := by omega
  go_region_law (refine step_append_in rfl (.tmp 22) (.tmp 25) 72 rfl 79 i0 3 Try.underlying72 HHI.out HZ1.out b i cap cur HB.out (by simp [Act.eval, Act.put]) A (l.length - (i + 1)) (cap - (i + 1)) news (by simp [Act.eval, Act.put]) HHN.out hsrc.out hone.out (by omega) HHF.out ?_; rw [← HW1.out])
  go_wp2
  go_ret
  exact ⟨by rw [show l.length - 1 = i + (l.length - (i + 1)) by omega]; rfl, hfin.out.1, hfin.out.2⟩

end Go.Proofs.Ytbbmfgeagdblcaa
