/-
  Layer 5: Set. Conditions: as said.
-/
import Derived.Test.YtbbmfgeagdblcaaWhC
import Derived.Deep.RegionLaw
import Derived.Maps.AppendAt
import Derived.Deep.AppendSrc
namespace Go.Proofs.Ytbbmfgeagdblcaa
open Go.RowKit Go.Sort

theorem heap_set {w : World} {g i : Nat} {cs : Array Value} {t : TypeId} (v : Value) (h : w.heap[g]? = some (.cells cs t (0, 0))) : (w.setCell ⟨g, i, none⟩ v).heap[g]? = some (.cells (cs.toList.set i v).toArray t (0, 0)) := by
  have := heap_setCell_same w g i cs t v h
  rw [this]
  congr 1
  congr 1
  apply Array.toList_inj.1
  simp
theorem Turn.setCell {w w' : World} {O : Nat → Prop} (h : Turn w w' O) {g : Nat} (hg : O g) (i : Nat) (v : Value) : Turn w (w'.setCell ⟨g, i, none⟩ v) O :=
  h.trans ⟨rfl, rfl, rfl, by simp [World.setCell], fun k _ ho => heap_setCell_other w' ⟨g, i, none⟩ k v (fun e => ho (by rw [e]; exact hg))⟩

section
variable {X : Type} {TW TE : TypeId} {e : X → Value} {w w' : World} {O O' : Nat → Prop} {g : Nat} {now last : Int} {vs : Nat → Value} {ls : Nat → List (Tm X)}
theorem Row.set {v : Value} {l : List (Tm X)} (h : Row TE e w v l) {g i : Nat} (u : Value) (hg : ∀ k, v.ownBlock = some k → k ≠ g) : Row TE e (w.setCell ⟨g, i, none⟩ u) v l := by
  refine h.kept (row := some g) ⟨rfl, rfl, rfl, by simp [World.setCell], fun k _ ho => heap_setCell_other w ⟨g, i, none⟩ k u (fun x => ho (by rw [x]))⟩ ?_
  cases hv : v.ownBlock with
  | none => exact .inl rfl
  | some k => exact .inr (fun x => hg k hv (by injection x))
theorem WhV.setNow (h : WhV TW TE e w O g now last vs ls) (v : Int) : WhV TW TE e (w.setCell ⟨g, 0, none⟩ (.int .i64 v)) O g v last vs ls :=
  ⟨by rw [heap_set _ h.1, wcells_set0], h.2.1, fun i hi => ⟨(h.2.2.1 i hi).1.set _ (fun k hk => ((h.2.2.1 i hi).2 k hk).2), (h.2.2.1 i hi).2⟩, h.2.2.2⟩
theorem WhV.setLast (h : WhV TW TE e w O g now last vs ls) (v : Int) : WhV TW TE e (w.setCell ⟨g, 1, none⟩ (.int .i64 v)) O g now v vs ls :=
  ⟨by rw [heap_set _ h.1, wcells_set1], h.2.1, fun i hi => ⟨(h.2.2.1 i hi).1.set _ (fun k hk => ((h.2.2.1 i hi).2 k hk).2), (h.2.2.1 i hi).2⟩, h.2.2.2⟩
/-- A slot gets a new value, a row of its own. -/
theorem WhV.setSlot (h : WhV TW TE e w O g now last vs ls) {s : Nat} (hs : s < 64) {v : Value} {l : List (Tm X)} (hr : Row TE e w v l) (ho : ∀ k, v.ownBlock = some k → O k ∧ k ≠ g) (hd : ∀ j, j < 64 → j ≠ s → ∀ k, v.ownBlock = some k → (vs j).ownBlock ≠ some k) :
    WhV TW TE e (w.setCell ⟨g, 2 + s, none⟩ v) O g now last (upd vs s v) (upd ls s l) := by
  refine ⟨by rw [heap_set _ h.1, wcells_setSlot _ _ _ _ _ _ hs], h.2.1, fun i hi => ?_, fun i j hi hj hij k hk => ?_⟩
  · by_cases his : i = s
    · subst his
      rw [upd_same, upd_same]
      exact ⟨hr.set _ (fun k hk => (ho k hk).2), ho⟩
    · rw [upd_other _ _ _ his, upd_other _ _ _ his]
      exact ⟨(h.2.2.1 i hi).1.set _ (fun k hk => ((h.2.2.1 i hi).2 k hk).2), (h.2.2.1 i hi).2⟩
  · by_cases his : i = s
    · subst his
      rw [upd_same] at hk
      rw [upd_other _ _ _ (Ne.symm hij)]
      exact hd j hj (Ne.symm hij) k hk
    · rw [upd_other _ _ _ his] at hk
      by_cases hjs : j = s
      · subst hjs
        rw [upd_same]
        intro hv
        exact hd i hi his k hv hk
      · rw [upd_other _ _ _ hjs]
        exact h.2.2.2 i j hi hj hij k hk
end

/-- 'append' of one timer, onto a row of its own. -/
theorem step_append_row {P : Program} {ops : Array Oper} {o : Oper} {a : Act} {w : World} {K : Act → World → Prop} {Q : Exit → Act → World → Prop} {E : Prop} {X : Type}
    (hg : o.guard = none) (s x : Operand) (t : TypeId) (hop : o.op = Op.call { callee := Callee.builtin Builtin.append, args := #[s, x], argTypes := #[t, t] })
    (TE : TypeId) (i : TypeInfo) (z : Value) (bytes : Nat) (ht : P.underlying t = some (.slice TE)) (hi : P.info? TE = some i) (hz : i.zero = some z) (hsize : i.size = 3) (hby : i.bytes = bytes) (hb2 : bytes ≤ 64) (hzs : z.cells.size = 3)
    (e : X → Value) (h1e : ∀ y, (e y).oneCell' = true) (v : Value) (l : List (Tm X)) (hs : a.eval s = v) (hown : Row TE e w v l) (hl : l.length ≤ 100000000)
    (ad : Addr) (c : Nat) (tm : Tm X) (hx : a.eval x = .slice (some ad) 1 c) (hc : ∀ j u, (Tm.cells e tm)[j]? = some u → w.cell? (ad.add j) = some u)
    (hK : ∀ v' w', Row TE e w' v' (l ++ [tm]) → w.grownBy w' v.ownBlock → (v'.ownBlock = v.ownBlock ∨ v'.ownBlock = some w.heap.size) → K (a.put o.dst v') w') :
    if Region.wanted o (yielded ops a.tmps) = true then Oper.wp P o a w K Q else E := by
  have hw : Region.wanted o (yielded ops a.tmps) = true := by simp [Region.wanted, hg]
  rw [if_pos hw]
  obtain ⟨v', w', hr, h2, h3, _, h5⟩ := run_append_own_at (P := P) w 0 t o.type TE i z 3 bytes ht hi hz hsize hby hzs (by decide) v l.length (encL e l) hown ad 1 c (Tm.cells e tm) rfl hc
    (fun u hu => by simp [Tm.cells] at hu; rcases hu with rfl | rfl | rfl <;> first | rfl | exact h1e _) (by unfold maxLen; omega) (by have := Nat.mul_le_mul (show l.length + 1 ≤ 100000001 by omega) hb2; omega) (Nat.zero_le _)
  unfold Oper.wp
  simp only [execOp, hop, resolve, invoke, builtin, Sem.run_bind, Sem.run_pure, Result.andThen_ok, List.map_toArray, List.map_cons, List.map_nil, hs, hx, hr]
  refine hK v' w' ?_ h3 h5
  unfold Row
  rw [List.length_append, encL_append]
  simpa [encL] using h2

theorem cells_new {X : Type} {e : X → Value} (w : World) (t : Tm X) (TE : TypeId) : ∀ (j : Nat) (u : Value), (Tm.cells e t)[j]? = some u → (w.alloc (.cells #[.int .i64 t.id, .int .i64 t.due, e t.x] TE)).cell? ((⟨w.heap.size, 0, none⟩ : Addr).add j) = some u := by
  intro j u hu
  have ha : (⟨w.heap.size, 0, none⟩ : Addr).add j = ⟨w.heap.size, j, none⟩ := by unfold Addr.add; split <;> simp_all
  rw [ha, cell_of_cells (_root_.Go.heap_alloc_new w _)]
  rw [← hu, ← List.getElem?_toArray]
  rfl

/-- A slot's row is appended to, ahead of the store. -/
theorem WhV.appended {X : Type} {TW TE : TypeId} {e : X → Value} {w w2 : World} {O : Nat → Prop} {g : Nat} {now last : Int} {vs : Nat → Value} {ls : Nat → List (Tm X)} {s : Nat} {v v' : Value} {l : List (Tm X)} {o : Obj}
    (h : WhV TW TE e w O g now last vs ls) (hs : s < 64) (hv : vs s = v) (hg : (w.drew.alloc o).grownBy w2 v.ownBlock) (hr : Row TE e w2 v' l) (hb : v'.ownBlock = v.ownBlock ∨ v'.ownBlock = some (w.drew.alloc o).heap.size) :
    w2.cell? ⟨g, 1, none⟩ = some (.int .i64 last) ∧ w2.frozen? ⟨g, 2 + s, none⟩ = false ∧ w2.cell? ⟨g, 2 + s, none⟩ = some v ∧
      (WhV TW TE e (w2.setCell ⟨g, 2 + s, none⟩ v') (fun k => O k ∨ (w.heap.size ≤ k ∧ k < (w2.setCell ⟨g, 2 + s, none⟩ v').heap.size)) g now last (upd vs s v') (upd ls s l) ∧ Turn w (w2.setCell ⟨g, 2 + s, none⟩ v') O) := by
  subst hv
  have hsz : w.heap.size < w2.heap.size := by have := hg.size; simp at this; omega
  have hold : ∀ k, k < w.heap.size → some k ≠ (vs s).ownBlock → w2.heap[k]? = w.heap[k]? := fun k hk hn => by
    rw [hg.block k (by simp; omega) hn]
    exact (World.grownBy_alloc w.drew o none).block k hk (by simp)
  have hgg : w2.heap[g]? = some (.cells (wcells now last vs g) TW (0, 0)) := (hold g h.lt (fun x => ((h.2.2.1 s hs).2 g x.symm).2 rfl)).trans h.1
  have hG : w.grownBy w2 (vs s).ownBlock := ⟨hg.os, hg.tape, hg.output, by omega, hold⟩
  have hrow : ∀ i, i < 64 → i ≠ s → Row TE e w2 (vs i) (ls i) := fun i hi his => by
    refine (h.2.2.1 i hi).1.kept (row := (vs s).ownBlock) hG ?_
    cases hx : (vs i).ownBlock with
    | none => exact .inl rfl
    | some k => exact .inr (fun x => h.2.2.2 i s hi hs his k hx x.symm)
  have hnew : ∀ k, v'.ownBlock = some k → (vs s).ownBlock = some k ∨ (w.heap.size ≤ k ∧ k < w2.heap.size) := fun k hk => by
    rcases hb with hb | hb
    · exact .inl (by rw [← hb]; exact hk)
    · rw [hb] at hk
      injection hk with hk
      subst hk
      exact .inr ⟨by simp, (hr.lt _ hb).2⟩
  refine ⟨(cell_of_cells hgg).trans (wcells_1 ..), frozen_of_cells hgg, by rw [cell_of_cells hgg, wcells_slot _ _ _ _ _ hs], ⟨by rw [heap_set _ hgg, wcells_setSlot _ _ _ _ _ _ hs], .inl h.2.1, fun i hi => ?_, fun i j hi hj hij k hk => ?_⟩, ?_⟩
  · by_cases his : i = s
    · subst his
      rw [upd_same, upd_same]
      have hne : ∀ k, v'.ownBlock = some k → k ≠ g := fun k hk => by
        rcases hnew k hk with hk | hk
        · exact ((h.2.2.1 i hs).2 k hk).2
        · have := h.lt; omega
      refine ⟨hr.set _ hne, fun k hk => ⟨?_, hne k hk⟩⟩
      rcases hnew k hk with hk | hk
      · exact .inl ((h.2.2.1 i hs).2 k hk).1
      · exact .inr (by simp [World.setCell]; exact hk)
    · rw [upd_other _ _ _ his, upd_other _ _ _ his]
      exact ⟨(hrow i hi his).set _ (fun k hk => ((h.2.2.1 i hi).2 k hk).2), fun k hk => ⟨.inl ((h.2.2.1 i hi).2 k hk).1, ((h.2.2.1 i hi).2 k hk).2⟩⟩
  · have key : ∀ m, m < 64 → m ≠ s → ∀ k, v'.ownBlock = some k → (vs m).ownBlock ≠ some k := fun m hm hms k hk hx => by
      rcases hnew k hk with hk | hk
      · exact h.2.2.2 m s hm hs hms k hx hk
      · have := ((h.2.2.1 m hm).1.lt k hx).2; omega
    by_cases his : i = s
    · subst his
      rw [upd_same] at hk
      rw [upd_other _ _ _ (Ne.symm hij)]
      exact key j hj (Ne.symm hij) k hk
    · rw [upd_other _ _ _ his] at hk
      by_cases hjs : j = s
      · subst hjs
        rw [upd_same]
        exact fun hx => key i hi his k hx hk
      · rw [upd_other _ _ _ hjs]
        exact h.2.2.2 i j hi hj hij k hk
  · refine Turn.setCell (w' := w2) ⟨hG.os, hG.tape, hG.output, hG.size, fun k hk ho => hold k hk (fun x => ho ((h.2.2.1 s hs).2 k x.symm).1)⟩ h.2.1 _ _

theorem info_tmI : ∃ i z, Try.prog.info? 79 = some i ∧ i.zero = some z ∧ i.size = 3 ∧ i.bytes = 24 ∧ z.cells.size = 3 := by
  have h : (Try.prog.info? 79).map (fun i => (i.zero.map (fun z => z.cells.size), i.size, i.bytes)) = some (some 3, 3, 24) := by kernel_rfl
  cases hi : Try.prog.info? 79 with
  | none => rw [hi] at h; cases h
  | some i =>
    rw [hi] at h
    simp only [Option.map_some, Option.some.injEq, Prod.mk.injEq] at h
    obtain ⟨h1, h2, h3⟩ := h
    cases hz : i.zero with
    | none => rw [hz] at h1; cases h1
    | some z => rw [hz] at h1; exact ⟨i, z, rfl, hz, h2, h3, by simpa using h1⟩

set_option maxHeartbeats 400000 in
theorem set_noneI (w : World) (p : Option Addr) (hp : NoWh w p) (due : Int) (x : Int) :
    Calls Try.prog 12 #[.pointer p, .int .i64 due, (Value.int .i64) x] w fun e w' => e = .returned (.tuple #[.int .i64 0, .int .i64 2]) ∧ w = w' := by
  go_enter Try.func12, Try.ntmps12
  go_wp2_with (go_at_call 35; refine (none_yesI _ _ hp).mono ?_; rintro e w' ⟨rfl, rfl⟩)
  go_ret2
  exact ⟨rfl, rfl⟩

set_option maxHeartbeats 400000 in
theorem set_argI {w : World} {O : Nat → Prop} {g : Nat} {now last : Int} {ls : Nat → List (Tm Int)} (h : WhI w O g now last ls) (due : Int) (x : Int) (hd : due < 0) :
    Calls Try.prog 12 #[.pointer (some ⟨g, 0, none⟩), .int .i64 due, (Value.int .i64) x] w fun e w' => e = .returned (.tuple #[.int .i64 0, .int .i64 1]) ∧ w = w' := by
  obtain ⟨vs, m⟩ := h
  go_enter Try.func12, Try.ntmps12
  go_wp2_with (go_at_call 35; refine (none_noI m).mono ?_; rintro e w' ⟨rfl, rfl⟩)
  go_ret2
  exact ⟨rfl, rfl⟩

set_option maxHeartbeats 400000 in
theorem set_fullI {w : World} {O : Nat → Prop} {g : Nat} {now last : Int} {ls : Nat → List (Tm Int)} (h : WhI w O g now last ls) (due : Int) (x : Int) (hd : 0 ≤ due) (hf : 256 ≤ count ls 64) (hb : count ls 64 ≤ 1000000) :
    Calls Try.prog 12 #[.pointer (some ⟨g, 0, none⟩), .int .i64 due, (Value.int .i64) x] w fun e w' => e = .returned (.tuple #[.int .i64 0, .int .i64 6]) ∧ w = w' := by
  obtain ⟨vs, m⟩ := h
  have hl := fun hb => len_okI ⟨vs, m⟩ hb
  have HN := Lib.hid (none_noI m)
  have HL := Lib.hid (hl hb)
  have hd2 : decide (due < 0) = false := by simpa using hd
  obtain ⟨N, hN⟩ : ∃ N, N = count ls 64 := ⟨_, rfl⟩
  rw [← hN] at HL hf hb
  have hf2 : decide ((256 : Int) ≤ (N : Int)) = true := by simp; omega
  clear m hl hN hd hf hb
  go_enter Try.func12, Try.ntmps12
  go_wp2_with (first | (go_at_call 35; refine HN.out.mono ?_; rintro e w' ⟨rfl, rfl⟩) | (go_at_call 21; refine HL.out.mono ?_; rintro e w' ⟨rfl, rfl⟩))
  go_ret2
  exact ⟨rfl, rfl⟩

set_option maxRecDepth 100000 in
set_option maxHeartbeats 1000000 in
theorem set_okI {w : World} {O : Nat → Prop} {g : Nat} {now last : Int} {ls : Nat → List (Tm Int)} (h : WhI w O g now last ls) (due : Int) (x : Int) (hd : 0 ≤ due) (hd1 : due ≤ 9223372036854775807) (hn : 0 ≤ now) (hn1 : now ≤ 9223372036854775807) (hl0 : 0 ≤ last) (hl1 : last ≤ 1000000) (hf : count ls 64 < 256) (s : Nat) (hs : s = (max due now).toNat % 64) :
    Calls Try.prog 12 #[.pointer (some ⟨g, 0, none⟩), .int .i64 due, (Value.int .i64) x] w fun e w' => e = .returned (.tuple #[.int .i64 (last + 1), .int .i64 0]) ∧
      WhI w' (fun k => O k ∨ (w.heap.size ≤ k ∧ k < w'.heap.size)) g now (last + 1) (upd ls s (ls s ++ [⟨last + 1, due, x⟩])) ∧ Turn w w' O := by
  obtain ⟨vs, m⟩ := h
  have HN := Lib.hid (none_noI m)
  have HL := Lib.hid (len_okI ⟨vs, m⟩ (by omega))
  have hd2 : decide (due < 0) = false := by simpa using hd
  have HS : Hid (∀ i, (ls i).length ≤ 256 ∨ 64 ≤ i) := Lib.hid (fun i => by by_cases hi : i < 64; (have h1 := count_mono ls (n := i + 1) (m := 64) (by omega); have h2 := count_succ ls i; exact .inl (by omega)); exact .inr (by omega))
  obtain ⟨N, hN⟩ : ∃ N, N = count ls 64 := ⟨_, rfl⟩
  rw [← hN] at HL hf
  have hf2 : decide ((256 : Int) ≤ (N : Int)) = false := by simp; omega
  have c0 := m.c0
  have c1 := m.c1
  have f1 := m.free 1
  have M := Lib.hid m
  clear m hN
  go_enter Try.func12, Try.ntmps12
  go_upto_region 9 with (first | (go_at_call 35; refine HN.out.mono ?_; rintro e w' ⟨rfl, rfl⟩) | (go_at_call 21; refine HL.out.mono ?_; rintro e w' ⟨rfl, rfl⟩))
  clear hd2 hf2
  generalize hmx : (if due < now then now else due) = mx
  have hmx2 : max due now = mx := by rw [← hmx]; split <;> omega
  have hmx3 : 0 ≤ mx := by omega
  have hs64 : s < 64 := by omega
  have hs2 : mx % 64 = (s : Int) := by omega
  rw [hs2]
  have T1 : Turn w (w.setCell ⟨g, 1, none⟩ (.int .i64 (last + 1))) O := (Turn.refl w O).setCell M.out.2.1 1 _
  have M1 := M.out.setLast (last + 1)
  generalize w.setCell ⟨g, 1, none⟩ (.int .i64 (last + 1)) = W1 at M1 T1 ⊢
  have c1' := M1.c1
  have cs := M1.slot hs64
  have fs := M1.free (2 + s)
  have hgl := M1.lt
  have R1 := (M1.2.2.1 s hs64).1
  obtain ⟨i0, z0, hi, hz0, hz1, hz2, hz3⟩ := info_tmI
  have HI := Lib.hid hi
  have HZ0 := Lib.hid hz0
  have HZ1 := Lib.hid hz1
  have HZ2 := Lib.hid hz2
  have HZ3 := Lib.hid hz3
  have hsi : (s : Int) < 64 := by omega
  have hll : (ls s).length ≤ 256 := by rcases HS.out s with h | h <;> omega
  have HM1 := Lib.hid M1
  have HR1 := Lib.hid R1
  generalize hv : vs s = v at *
  have HV := Lib.hid hv
  clear M1 R1 hi hz0 hz1 hz2 hz3 hmx hmx2 hmx3 hs hs2 c0 c1 f1 hv hd hd1 hn hn1 hf M HS HN HL
  have HR2 : Hid (Row 79 (Value.int .i64) (W1.drew.alloc (.cells #[.int .i64 (last + 1), .int .i64 due, (Value.int .i64) x] 79)) v (ls s)) := Lib.hid (HR1.out.kept (row := none) ((Drew.grown (w := W1) rfl).trans (World.grownBy_alloc _ _ _)) (by cases v.ownBlock <;> simp))
  have hll3 : (ls s).length ≤ 100000000 := by omega
  have h64 : 24 ≤ 64 := by decide
  have HNW := Lib.hid (cells_new (e := (Value.int .i64)) W1.drew ⟨last + 1, due, x⟩ 79)
  go_region_law (refine step_append_row rfl (.tmp 37) (.tmp 45) 72 rfl 79 i0 z0 24 Try.underlying72 HI.out HZ0.out HZ1.out HZ2.out h64 HZ3.out (Value.int .i64) (fun _ => rfl) v (ls s) rfl HR2.out hll3 ⟨W1.heap.size, 0, none⟩ 1 ⟨last + 1, due, x⟩ rfl HNW.out ?_; intro v' w2 hrow hgr hbl; obtain ⟨b', cap', hv', _⟩ := Row.elem hrow (by rw [List.length_append]; exact Nat.lt_of_lt_of_le Nat.zero_lt_one (Nat.le_add_left _ _)); subst hv'; have A1 := WhV.appended HM1.out hs64 HV.out hgr hrow hbl; have c1'' := A1.1; have f2 := A1.2.1; have s2 := A1.2.2.1; have A2 := Lib.hid A1.2.2.2; clear A1 hrow hgr hbl)
  all_goals
    go_wp2_with fail
    go_ret2
    have B := A2.out
    simp only [List.length_append, List.length_cons, List.length_nil, Nat.zero_add] at B
    refine ⟨rfl, ?_, ?_⟩
    · have h3 := T1.size
      exact Wh.mono ⟨_, B.1⟩ (fun j _ hj => by rcases hj with hj | hj; exact .inl hj; exact .inr ⟨by omega, hj.2⟩)
    · exact T1.trans B.2
theorem info_tmS : ∃ i z, Try.prog.info? 111 = some i ∧ i.zero = some z ∧ i.size = 3 ∧ i.bytes = 32 ∧ z.cells.size = 3 := by
  have h : (Try.prog.info? 111).map (fun i => (i.zero.map (fun z => z.cells.size), i.size, i.bytes)) = some (some 3, 3, 32) := by kernel_rfl
  cases hi : Try.prog.info? 111 with
  | none => rw [hi] at h; cases h
  | some i =>
    rw [hi] at h
    simp only [Option.map_some, Option.some.injEq, Prod.mk.injEq] at h
    obtain ⟨h1, h2, h3⟩ := h
    cases hz : i.zero with
    | none => rw [hz] at h1; cases h1
    | some z => rw [hz] at h1; exact ⟨i, z, rfl, hz, h2, h3, by simpa using h1⟩

set_option maxHeartbeats 400000 in
theorem set_noneS (w : World) (p : Option Addr) (hp : NoWh w p) (due : Int) (x : ByteArray) :
    Calls Try.prog 33 #[.pointer p, .int .i64 due, Value.string x] w fun e w' => e = .returned (.tuple #[.int .i64 0, .int .i64 2]) ∧ w = w' := by
  go_enter Try.func33, Try.ntmps33
  go_wp2_with (go_at_call 52; refine (none_yesS _ _ hp).mono ?_; rintro e w' ⟨rfl, rfl⟩)
  go_ret2
  exact ⟨rfl, rfl⟩

set_option maxHeartbeats 400000 in
theorem set_argS {w : World} {O : Nat → Prop} {g : Nat} {now last : Int} {ls : Nat → List (Tm ByteArray)} (h : WhS w O g now last ls) (due : Int) (x : ByteArray) (hd : due < 0) :
    Calls Try.prog 33 #[.pointer (some ⟨g, 0, none⟩), .int .i64 due, Value.string x] w fun e w' => e = .returned (.tuple #[.int .i64 0, .int .i64 1]) ∧ w = w' := by
  obtain ⟨vs, m⟩ := h
  go_enter Try.func33, Try.ntmps33
  go_wp2_with (go_at_call 52; refine (none_noS m).mono ?_; rintro e w' ⟨rfl, rfl⟩)
  go_ret2
  exact ⟨rfl, rfl⟩

set_option maxHeartbeats 400000 in
theorem set_fullS {w : World} {O : Nat → Prop} {g : Nat} {now last : Int} {ls : Nat → List (Tm ByteArray)} (h : WhS w O g now last ls) (due : Int) (x : ByteArray) (hd : 0 ≤ due) (hf : 256 ≤ count ls 64) (hb : count ls 64 ≤ 1000000) :
    Calls Try.prog 33 #[.pointer (some ⟨g, 0, none⟩), .int .i64 due, Value.string x] w fun e w' => e = .returned (.tuple #[.int .i64 0, .int .i64 6]) ∧ w = w' := by
  obtain ⟨vs, m⟩ := h
  have hl := fun hb => len_okS ⟨vs, m⟩ hb
  have HN := Lib.hid (none_noS m)
  have HL := Lib.hid (hl hb)
  have hd2 : decide (due < 0) = false := by simpa using hd
  obtain ⟨N, hN⟩ : ∃ N, N = count ls 64 := ⟨_, rfl⟩
  rw [← hN] at HL hf hb
  have hf2 : decide ((256 : Int) ≤ (N : Int)) = true := by simp; omega
  clear m hl hN hd hf hb
  go_enter Try.func33, Try.ntmps33
  go_wp2_with (first | (go_at_call 52; refine HN.out.mono ?_; rintro e w' ⟨rfl, rfl⟩) | (go_at_call 53; refine HL.out.mono ?_; rintro e w' ⟨rfl, rfl⟩))
  go_ret2
  exact ⟨rfl, rfl⟩

set_option maxRecDepth 100000 in
set_option maxHeartbeats 1000000 in
theorem set_okS {w : World} {O : Nat → Prop} {g : Nat} {now last : Int} {ls : Nat → List (Tm ByteArray)} (h : WhS w O g now last ls) (due : Int) (x : ByteArray) (hd : 0 ≤ due) (hd1 : due ≤ 9223372036854775807) (hn : 0 ≤ now) (hn1 : now ≤ 9223372036854775807) (hl0 : 0 ≤ last) (hl1 : last ≤ 1000000) (hf : count ls 64 < 256) (s : Nat) (hs : s = (max due now).toNat % 64) :
    Calls Try.prog 33 #[.pointer (some ⟨g, 0, none⟩), .int .i64 due, Value.string x] w fun e w' => e = .returned (.tuple #[.int .i64 (last + 1), .int .i64 0]) ∧
      WhS w' (fun k => O k ∨ (w.heap.size ≤ k ∧ k < w'.heap.size)) g now (last + 1) (upd ls s (ls s ++ [⟨last + 1, due, x⟩])) ∧ Turn w w' O := by
  obtain ⟨vs, m⟩ := h
  have HN := Lib.hid (none_noS m)
  have HL := Lib.hid (len_okS ⟨vs, m⟩ (by omega))
  have hd2 : decide (due < 0) = false := by simpa using hd
  have HS : Hid (∀ i, (ls i).length ≤ 256 ∨ 64 ≤ i) := Lib.hid (fun i => by by_cases hi : i < 64; (have h1 := count_mono ls (n := i + 1) (m := 64) (by omega); have h2 := count_succ ls i; exact .inl (by omega)); exact .inr (by omega))
  obtain ⟨N, hN⟩ : ∃ N, N = count ls 64 := ⟨_, rfl⟩
  rw [← hN] at HL hf
  have hf2 : decide ((256 : Int) ≤ (N : Int)) = false := by simp; omega
  have c0 := m.c0
  have c1 := m.c1
  have f1 := m.free 1
  have M := Lib.hid m
  clear m hN
  go_enter Try.func33, Try.ntmps33
  go_upto_region 9 with (first | (go_at_call 52; refine HN.out.mono ?_; rintro e w' ⟨rfl, rfl⟩) | (go_at_call 53; refine HL.out.mono ?_; rintro e w' ⟨rfl, rfl⟩))
  clear hd2 hf2
  generalize hmx : (if due < now then now else due) = mx
  have hmx2 : max due now = mx := by rw [← hmx]; split <;> omega
  have hmx3 : 0 ≤ mx := by omega
  have hs64 : s < 64 := by omega
  have hs2 : mx % 64 = (s : Int) := by omega
  rw [hs2]
  have T1 : Turn w (w.setCell ⟨g, 1, none⟩ (.int .i64 (last + 1))) O := (Turn.refl w O).setCell M.out.2.1 1 _
  have M1 := M.out.setLast (last + 1)
  generalize w.setCell ⟨g, 1, none⟩ (.int .i64 (last + 1)) = W1 at M1 T1 ⊢
  have c1' := M1.c1
  have cs := M1.slot hs64
  have fs := M1.free (2 + s)
  have hgl := M1.lt
  have R1 := (M1.2.2.1 s hs64).1
  obtain ⟨i0, z0, hi, hz0, hz1, hz2, hz3⟩ := info_tmS
  have HI := Lib.hid hi
  have HZ0 := Lib.hid hz0
  have HZ1 := Lib.hid hz1
  have HZ2 := Lib.hid hz2
  have HZ3 := Lib.hid hz3
  have hsi : (s : Int) < 64 := by omega
  have hll : (ls s).length ≤ 256 := by rcases HS.out s with h | h <;> omega
  have HM1 := Lib.hid M1
  have HR1 := Lib.hid R1
  generalize hv : vs s = v at *
  have HV := Lib.hid hv
  clear M1 R1 hi hz0 hz1 hz2 hz3 hmx hmx2 hmx3 hs hs2 c0 c1 f1 hv hd hd1 hn hn1 hf M HS HN HL
  have HR2 : Hid (Row 111 Value.string (W1.drew.alloc (.cells #[.int .i64 (last + 1), .int .i64 due, Value.string x] 111)) v (ls s)) := Lib.hid (HR1.out.kept (row := none) ((Drew.grown (w := W1) rfl).trans (World.grownBy_alloc _ _ _)) (by cases v.ownBlock <;> simp))
  have hll3 : (ls s).length ≤ 100000000 := by omega
  have h64 : 32 ≤ 64 := by decide
  have HNW := Lib.hid (cells_new (e := Value.string) W1.drew ⟨last + 1, due, x⟩ 111)
  go_region_law (refine step_append_row rfl (.tmp 37) (.tmp 45) 106 rfl 111 i0 z0 32 Try.underlying106 HI.out HZ0.out HZ1.out HZ2.out h64 HZ3.out Value.string (fun _ => rfl) v (ls s) rfl HR2.out hll3 ⟨W1.heap.size, 0, none⟩ 1 ⟨last + 1, due, x⟩ rfl HNW.out ?_; intro v' w2 hrow hgr hbl; obtain ⟨b', cap', hv', _⟩ := Row.elem hrow (by rw [List.length_append]; exact Nat.lt_of_lt_of_le Nat.zero_lt_one (Nat.le_add_left _ _)); subst hv'; have A1 := WhV.appended HM1.out hs64 HV.out hgr hrow hbl; have c1'' := A1.1; have f2 := A1.2.1; have s2 := A1.2.2.1; have A2 := Lib.hid A1.2.2.2; clear A1 hrow hgr hbl)
  all_goals
    go_wp2_with fail
    go_ret2
    have B := A2.out
    simp only [List.length_append, List.length_cons, List.length_nil, Nat.zero_add] at B
    refine ⟨rfl, ?_, ?_⟩
    · have h3 := T1.size
      exact Wh.mono ⟨_, B.1⟩ (fun j _ hj => by rcases hj with hj | hj; exact .inl hj; exact .inr ⟨by omega, hj.2⟩)
    · exact T1.trans B.2

end Go.Proofs.Ytbbmfgeagdblcaa
