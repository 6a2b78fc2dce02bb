/-
  Layer 5: things. Conditions: as said.
-/
import Derived.Test.YtbbmfgeagdblcaaWhE
namespace Go.Proofs.Ytbbmfgeagdblcaa
open Go.RowKit Go.Sort

theorem info_xI : ∃ i z, Try.prog.info? 3 = some i ∧ i.zero = some z ∧ i.size = 1 ∧ i.bytes = 8 ∧ z.cells.size = 1 := by
  have h : (Try.prog.info? 3).map (fun i => (i.zero.map (fun z => z.cells.size), i.size, i.bytes)) = some (some 1, 1, 8) := by kernel_rfl
  cases hi : Try.prog.info? 3 with
  | none => rw [hi] at h; cases h
  | some i =>
    rw [hi] at h
    simp only [Option.map_some, Option.some.injEq, Prod.mk.injEq] at h
    obtain ⟨h1, h2, h3⟩ := h
    cases hz : i.zero with
    | none => rw [hz] at h1; cases h1
    | some z => rw [hz] at h1; exact ⟨i, z, rfl, hz, h2, h3, by simpa using h1⟩

set_option maxRecDepth 100000 in
set_option maxHeartbeats 1000000 in
theorem things_okI (w : World) (D : Value) (l : List (Tm Int)) (h : Row 79 (Value.int .i64) w D l) (hb : l.length ≤ 1000000) :
    Calls Try.prog 42 #[D] w fun e w' => ∃ v, e = .returned v ∧ w'.ownsRow w.heap.size 3 1 v l.length (l.map fun t => (Value.int .i64) t.x) ∧ Turn w w' (fun _ => False) := by
  have hTl : Turn w w (fun _ => False) := Turn.refl _ _
  obtain ⟨i0, z0, hi, hz0, hz1, hz2, hz3⟩ := info_xI
  have HI := Lib.hid hi
  have HZ0 := Lib.hid hz0
  have HZ1 := Lib.hid hz1
  have HZ2 := Lib.hid hz2
  have HZ3 := Lib.hid hz3
  clear hi hz0 hz1 hz2 hz3
  have HP : Hid (∃ p c, D = .slice p l.length c ∧ (0 < l.length → ∃ b, p = some ⟨b, 0, none⟩)) := Lib.hid (by
    rcases h.2 with ⟨h1, h2⟩ | ⟨g, cap, _, h1, _⟩
    · exact ⟨none, 0, by rw [h1, h2], fun h => by omega⟩
    · exact ⟨_, cap, h1, fun _ => ⟨g, rfl⟩⟩)
  obtain ⟨p, c, hp, hpp⟩ := HP.out
  subst hp
  have HPP := Lib.hid hpp
  have R := Lib.hid h
  clear hpp HP h
  go_enter Try.func42, Try.ntmps42
  go_wp2_with fail
  go_loopw [3, 8] (fun dv i wr => ∃ j : Nat, j ≤ l.length ∧ i = .int .i64 j ∧ wr.ownsRow w.heap.size 3 1 dv ((l.take j).map fun t => (Value.int .i64) t.x).length ((l.take j).map fun t => (Value.int .i64) t.x) ∧ Turn w wr (fun _ => False)) (fun _ i _ => l.length - (intOf i).toNat)
  case atStart => exact ⟨0, by omega, rfl, World.ownsRow_nil _ _ _ _, hTl⟩
  case round =>
    obtain ⟨j, hj, rfl, hown, T⟩ := hrel
    by_cases hjl : j < l.length
    · have R2 := R.out.kept (T.grown (fun _ _ h => h)) (by cases (Value.slice p l.length c).ownBlock <;> simp)
      obtain ⟨b', cap, hv, _, _, hbl, hE0⟩ := Row.elem R2 (by omega)
      have hE := hE0 j hjl
      clear hE0
      obtain ⟨b, hpb⟩ := HPP.out (by omega)
      subst hpb
      obtain rfl : b' = b := by injection hv with hq1; injection hq1 with hq1; injection hq1 with hq1; exact hq1.symm
      have HT := take_one l j hjl
      have hll : ((l.take j).map fun t => (Value.int .i64) t.x).length ≤ 1000000 := by rw [List.length_map]; have := List.length_take_le j l; omega
      generalize l[j] = t at hE HT
      obtain ⟨ti, td, tx⟩ := t
      have HE := Lib.hid hE
      have HTT : Hid ((l.take (j + 1)).map (fun t => (Value.int .i64) t.x) = (l.take j).map (fun t => (Value.int .i64) t.x) ++ [(Value.int .i64) tx]) := Lib.hid (by rw [HT]; simp)
      have hd2 : decide ((j : Int) < (l.length : Int)) = true := by simp; omega
      have hB : w.heap.size ≤ wr.heap.size := T.size
      generalize hL : (l.take j).map (fun t => (Value.int .i64) t.x) = L at *
      have o2 := Lib.hid (hown.alloc (.cells #[.int .i64 ti, .int .i64 td, (Value.int .i64) tx] 79))
      have o3 := Lib.hid (o2.out.alloc (.cells #[(Value.int .i64) tx] 3))
      have T3 := Lib.hid ((T.alloc (.cells #[.int .i64 ti, .int .i64 td, (Value.int .i64) tx] 79)).alloc (.cells #[(Value.int .i64) tx] 3))
      have hll2 : L.length + 1 ≤ maxLen := by unfold maxLen; omega
      have hll3 : (L.length + 1) * 8 ≤ 140737488355328 := by omega
      have hB2 : w.heap.size ≤ ((wr.alloc (.cells #[.int .i64 ti, .int .i64 td, (Value.int .i64) tx] 79)).alloc (.cells #[(Value.int .i64) tx] 3)).heap.size := by simp; omega
      have hnw := cell_one_new (wr.alloc (.cells #[.int .i64 ti, .int .i64 td, (Value.int .i64) tx] 79)) ((Value.int .i64) tx) 3
      rw [show (wr.alloc (.cells #[.int .i64 ti, .int .i64 td, (Value.int .i64) tx] 79)).heap.size = wr.heap.size + 1 by simp] at hnw
      have HNW := Lib.hid hnw
      clear hnw
      have H1C : Hid (∀ u ∈ [(Value.int .i64) tx], u.oneCell' = true) := Lib.hid (fun u hu => by simp at hu; subst hu; rfl)
      have HB2 := Lib.hid hB2
      have HL2 := Lib.hid hL
      clear R2 hv hE hbl HT hL hown o2 hll hB2 hB T
      go_wp2_with (first | (refine wpList_load_mid rfl 79 (.tmp 10) rfl b' (j * 3) rfl [.int .i64 ti, .int .i64 td, (Value.int .i64) tx] _ HE.out Try.underlying79 rfl (by kernel_rfl) ?_) | (refine wpList_append_own _ rfl (.tmp 12) (.tmp 15) 39 rfl w.heap.size 3 i0 z0 1 8 Try.underlying39 HI.out HZ0.out HZ1.out HZ2.out HZ3.out (by decide) _ _ _ rfl o3.out ⟨wr.heap.size + 1, 0, none⟩ 1 1 [(Value.int .i64) tx] rfl rfl HNW.out H1C.out hll2 hll3 HB2.out ?_; intro v' w2 hrow hgr2 _; have HR := Lib.hid hrow; have HG := Lib.hid hgr2; clear hrow hgr2))
      go_roundw
      case rel => exact ⟨j + 1, by omega, by go_num, by rw [HTT.out, List.length_append]; exact HR.out, turn_of_row T3.out rfl HG.out (fun k hk => (o3.out.lt k hk).1)⟩
      case measure => simp [intOf]; omega
    · obtain rfl : j = l.length := by omega
      rw [List.take_length] at hown
      have hown2 : wr.ownsRow w.heap.size 3 1 u3 l.length (l.map fun t => (Value.int .i64) t.x) := by simpa using hown
      have HO := Lib.hid hown2
      clear hown hown2
      go_wp2_with fail
      go_ret
      exact ⟨_, rfl, HO.out, T⟩
theorem info_xS : ∃ i z, Try.prog.info? 9 = some i ∧ i.zero = some z ∧ i.size = 1 ∧ i.bytes = 16 ∧ z.cells.size = 1 := by
  have h : (Try.prog.info? 9).map (fun i => (i.zero.map (fun z => z.cells.size), i.size, i.bytes)) = some (some 1, 1, 16) := by kernel_rfl
  cases hi : Try.prog.info? 9 with
  | none => rw [hi] at h; cases h
  | some i =>
    rw [hi] at h
    simp only [Option.map_some, Option.some.injEq, Prod.mk.injEq] at h
    obtain ⟨h1, h2, h3⟩ := h
    cases hz : i.zero with
    | none => rw [hz] at h1; cases h1
    | some z => rw [hz] at h1; exact ⟨i, z, rfl, hz, h2, h3, by simpa using h1⟩

set_option maxRecDepth 100000 in
set_option maxHeartbeats 1000000 in
theorem things_okS (w : World) (D : Value) (l : List (Tm ByteArray)) (h : Row 111 Value.string w D l) (hb : l.length ≤ 1000000) :
    Calls Try.prog 57 #[D] w fun e w' => ∃ v, e = .returned v ∧ w'.ownsRow w.heap.size 9 1 v l.length (l.map fun t => Value.string t.x) ∧ Turn w w' (fun _ => False) := by
  have hTl : Turn w w (fun _ => False) := Turn.refl _ _
  obtain ⟨i0, z0, hi, hz0, hz1, hz2, hz3⟩ := info_xS
  have HI := Lib.hid hi
  have HZ0 := Lib.hid hz0
  have HZ1 := Lib.hid hz1
  have HZ2 := Lib.hid hz2
  have HZ3 := Lib.hid hz3
  clear hi hz0 hz1 hz2 hz3
  have HP : Hid (∃ p c, D = .slice p l.length c ∧ (0 < l.length → ∃ b, p = some ⟨b, 0, none⟩)) := Lib.hid (by
    rcases h.2 with ⟨h1, h2⟩ | ⟨g, cap, _, h1, _⟩
    · exact ⟨none, 0, by rw [h1, h2], fun h => by omega⟩
    · exact ⟨_, cap, h1, fun _ => ⟨g, rfl⟩⟩)
  obtain ⟨p, c, hp, hpp⟩ := HP.out
  subst hp
  have HPP := Lib.hid hpp
  have R := Lib.hid h
  clear hpp HP h
  go_enter Try.func57, Try.ntmps57
  go_wp2_with fail
  go_loopw [3, 8] (fun dv i wr => ∃ j : Nat, j ≤ l.length ∧ i = .int .i64 j ∧ wr.ownsRow w.heap.size 9 1 dv ((l.take j).map fun t => Value.string t.x).length ((l.take j).map fun t => Value.string t.x) ∧ Turn w wr (fun _ => False)) (fun _ i _ => l.length - (intOf i).toNat)
  case atStart => exact ⟨0, by omega, rfl, World.ownsRow_nil _ _ _ _, hTl⟩
  case round =>
    obtain ⟨j, hj, rfl, hown, T⟩ := hrel
    by_cases hjl : j < l.length
    · have R2 := R.out.kept (T.grown (fun _ _ h => h)) (by cases (Value.slice p l.length c).ownBlock <;> simp)
      obtain ⟨b', cap, hv, _, _, hbl, hE0⟩ := Row.elem R2 (by omega)
      have hE := hE0 j hjl
      clear hE0
      obtain ⟨b, hpb⟩ := HPP.out (by omega)
      subst hpb
      obtain rfl : b' = b := by injection hv with hq1; injection hq1 with hq1; injection hq1 with hq1; exact hq1.symm
      have HT := take_one l j hjl
      have hll : ((l.take j).map fun t => Value.string t.x).length ≤ 1000000 := by rw [List.length_map]; have := List.length_take_le j l; omega
      generalize l[j] = t at hE HT
      obtain ⟨ti, td, tx⟩ := t
      have HE := Lib.hid hE
      have HTT : Hid ((l.take (j + 1)).map (fun t => Value.string t.x) = (l.take j).map (fun t => Value.string t.x) ++ [Value.string tx]) := Lib.hid (by rw [HT]; simp)
      have hd2 : decide ((j : Int) < (l.length : Int)) = true := by simp; omega
      have hB : w.heap.size ≤ wr.heap.size := T.size
      generalize hL : (l.take j).map (fun t => Value.string t.x) = L at *
      have o2 := Lib.hid (hown.alloc (.cells #[.int .i64 ti, .int .i64 td, Value.string tx] 111))
      have o3 := Lib.hid (o2.out.alloc (.cells #[Value.string tx] 9))
      have T3 := Lib.hid ((T.alloc (.cells #[.int .i64 ti, .int .i64 td, Value.string tx] 111)).alloc (.cells #[Value.string tx] 9))
      have hll2 : L.length + 1 ≤ maxLen := by unfold maxLen; omega
      have hll3 : (L.length + 1) * 16 ≤ 140737488355328 := by omega
      have hB2 : w.heap.size ≤ ((wr.alloc (.cells #[.int .i64 ti, .int .i64 td, Value.string tx] 111)).alloc (.cells #[Value.string tx] 9)).heap.size := by simp; omega
      have hnw := cell_one_new (wr.alloc (.cells #[.int .i64 ti, .int .i64 td, Value.string tx] 111)) (Value.string tx) 9
      rw [show (wr.alloc (.cells #[.int .i64 ti, .int .i64 td, Value.string tx] 111)).heap.size = wr.heap.size + 1 by simp] at hnw
      have HNW := Lib.hid hnw
      clear hnw
      have H1C : Hid (∀ u ∈ [Value.string tx], u.oneCell' = true) := Lib.hid (fun u hu => by simp at hu; subst hu; rfl)
      have HB2 := Lib.hid hB2
      have HL2 := Lib.hid hL
      clear R2 hv hE hbl HT hL hown o2 hll hB2 hB T
      go_wp2_with (first | (refine wpList_load_mid rfl 111 (.tmp 10) rfl b' (j * 3) rfl [.int .i64 ti, .int .i64 td, Value.string tx] _ HE.out Try.underlying111 rfl (by kernel_rfl) ?_) | (refine wpList_append_own _ rfl (.tmp 12) (.tmp 15) 70 rfl w.heap.size 9 i0 z0 1 16 Try.underlying70 HI.out HZ0.out HZ1.out HZ2.out HZ3.out (by decide) _ _ _ rfl o3.out ⟨wr.heap.size + 1, 0, none⟩ 1 1 [Value.string tx] rfl rfl HNW.out H1C.out hll2 hll3 HB2.out ?_; intro v' w2 hrow hgr2 _; have HR := Lib.hid hrow; have HG := Lib.hid hgr2; clear hrow hgr2))
      go_roundw
      case rel => exact ⟨j + 1, by omega, by go_num, by rw [HTT.out, List.length_append]; exact HR.out, turn_of_row T3.out rfl HG.out (fun k hk => (o3.out.lt k hk).1)⟩
      case measure => simp [intOf]; omega
    · obtain rfl : j = l.length := by omega
      rw [List.take_length] at hown
      have hown2 : wr.ownsRow w.heap.size 9 1 u3 l.length (l.map fun t => Value.string t.x) := by simpa using hown
      have HO := Lib.hid hown2
      clear hown hown2
      go_wp2_with fail
      go_ret
      exact ⟨_, rfl, HO.out, T⟩

end Go.Proofs.Ytbbmfgeagdblcaa
