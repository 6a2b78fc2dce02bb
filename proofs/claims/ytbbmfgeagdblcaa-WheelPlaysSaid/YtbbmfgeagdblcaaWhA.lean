/-
  Layer 5: a wheel in memory; what is none; Now, Len, Next. Conditions: as said.
-/
import Derived.Test.YtbbmfgeagdblcaaRows
import Derived.WalkKit
import Derived.WalkSpells
import Derived.WalkLawsBesides
import Derived.Lib.Hide
import Derived.Deep.MidRow
import Derived.Laws.AppendOwn
import Derived.Below
import Derived.IntWalk
import Derived.Deep.CutBlock
import Derived.Deep.DeepCutAuto
import Derived.Deep.QuietTactic
import Derived.BigQuiet
import Derived.Outline
namespace Go.Proofs.Ytbbmfgeagdblcaa
open Go.RowKit

/-- A timer. -/
structure Tm (X : Type) where
  id : Int
  due : Int
  x : X
def Tm.cells {X : Type} (e : X → Value) (t : Tm X) : List Value := [.int .i64 t.id, .int .i64 t.due, e t.x]
def encL {X : Type} (e : X → Value) (l : List (Tm X)) : List Value := l.flatMap (Tm.cells e)
theorem encL_nil {X : Type} (e : X → Value) : encL e ([] : List (Tm X)) = [] := rfl
theorem encL_append {X : Type} (e : X → Value) (l m : List (Tm X)) : encL e (l ++ m) = encL e l ++ encL e m := by simp [encL]
theorem encL_length {X : Type} (e : X → Value) : ∀ l : List (Tm X), (encL e l).length = l.length * 3
  | [] => rfl
  | t :: l => by
    have := encL_length e l
    simp only [encL, List.flatMap_cons, List.length_append, List.length_cons] at this ⊢
    have h3 : (Tm.cells e t).length = 3 := rfl
    omega
theorem encL_at {X : Type} (e : X → Value) : ∀ (l : List (Tm X)) (i j : Nat) (hi : i < l.length), j < 3 → (encL e l)[i * 3 + j]? = (Tm.cells e l[i])[j]?
  | t :: l, 0, j, _, hj => by
    simp only [encL, List.flatMap_cons, Nat.zero_mul, Nat.zero_add, List.getElem_cons_zero]
    rw [List.getElem?_append_left (by show j < (Tm.cells e t).length; exact hj)]
  | t :: l, i + 1, j, hi, hj => by
    have := encL_at e l i j (by simpa using hi) hj
    simp only [encL, List.flatMap_cons, List.getElem_cons_succ] at this ⊢
    have h3 : (Tm.cells e t).length = 3 := rfl
    rw [List.getElem?_append_right (by omega), h3, show (i + 1) * 3 + j - 3 = i * 3 + j by omega]
    exact this

/-- The cells of a wheel. -/
def wcells (now last : Int) (vs : Nat → Value) (g : Nat) : Array Value := (.int .i64 now :: .int .i64 last :: ((List.range 64).map vs ++ [.pointer (some ⟨g, 0, none⟩)])).toArray
theorem wcells_size (now last : Int) (vs : Nat → Value) (g : Nat) : (wcells now last vs g).size = 67 := by simp [wcells]
theorem wcells_0 (now last : Int) (vs : Nat → Value) (g : Nat) : (wcells now last vs g)[0]? = some (.int .i64 now) := rfl
theorem wcells_1 (now last : Int) (vs : Nat → Value) (g : Nat) : (wcells now last vs g)[1]? = some (.int .i64 last) := rfl
theorem wcells_slot (now last : Int) (vs : Nat → Value) (g i : Nat) (hi : i < 64) : (wcells now last vs g)[2 + i]? = some (vs i) := by
  simp only [wcells, List.getElem?_toArray]
  rw [show 2 + i = i + 1 + 1 by omega, List.getElem?_cons_succ, List.getElem?_cons_succ, List.getElem?_append_left (by simpa using hi)]
  simp [hi]
theorem wcells_made (now last : Int) (vs : Nat → Value) (g : Nat) : (wcells now last vs g)[66]? = some (.pointer (some ⟨g, 0, none⟩)) := by
  simp only [wcells, List.getElem?_toArray]
  rw [show 66 = 64 + 1 + 1 by omega, List.getElem?_cons_succ, List.getElem?_cons_succ, List.getElem?_append_right (by simp)]
  simp

/-- As a function, turned at one place. -/
def upd {α : Type} (f : Nat → α) (i : Nat) (a : α) : Nat → α := fun j => if j = i then a else f j
theorem upd_same {α : Type} (f : Nat → α) (i : Nat) (a : α) : upd f i a i = a := by simp [upd]
theorem upd_other {α : Type} (f : Nat → α) (i : Nat) (a : α) {j : Nat} (h : j ≠ i) : upd f i a j = f j := by simp [upd, h]
theorem map_upd {α : Type} (f : Nat → α) (i n : Nat) (a : α) : (List.range n).map (upd f i a) = ((List.range n).map f).set i a := by
  apply List.ext_getElem
  · simp
  · intro j h1 h2
    simp only [List.getElem_map, List.getElem_range, List.getElem_set]
    unfold upd
    by_cases h : j = i
    · subst h; simp
    · simp [h, Ne.symm h]
theorem wcells_set0 (now last v : Int) (vs : Nat → Value) (g : Nat) : (wcells now last vs g).toList.set 0 (.int .i64 v) = (wcells v last vs g).toList := rfl
theorem wcells_set1 (now last v : Int) (vs : Nat → Value) (g : Nat) : (wcells now last vs g).toList.set 1 (.int .i64 v) = (wcells now v vs g).toList := rfl
theorem wcells_setSlot (now last : Int) (vs : Nat → Value) (g i : Nat) (v : Value) (hi : i < 64) : (wcells now last vs g).toList.set (2 + i) v = (wcells now last (upd vs i v) g).toList := by
  simp only [wcells]
  rw [map_upd, show 2 + i = i + 1 + 1 by omega, List.set_cons_succ, List.set_cons_succ, List.set_append, if_pos (by simpa using hi)]

/-- The slots, as a list. -/
def slotsL (vs : Nat → Value) : List Value := (List.range 64).map vs
theorem slotsL_at (vs : Nat → Value) {k : Nat} (hk : k < 64) : (slotsL vs)[k]? = some (vs k) := by
  unfold slotsL
  rw [List.getElem?_map, List.getElem?_range hk]
  rfl
theorem slotsL_len (vs : Nat → Value) : (slotsL vs).length = 64 := by unfold slotsL; rw [List.length_map, List.length_range]

/-- What is turned between two worlds lies in blocks of O; the rest is as it was. -/
structure Turn (w w' : World) (O : Nat → Prop) : Prop where
  os : w'.os = w.os
  tape : w'.tape = w.tape
  output : w'.output = w.output
  size : w.heap.size ≤ w'.heap.size
  block : ∀ k, k < w.heap.size → ¬ O k → w'.heap[k]? = w.heap[k]?
theorem Turn.refl (w : World) (O : Nat → Prop) : Turn w w O := ⟨rfl, rfl, rfl, Nat.le_refl _, fun _ _ _ => rfl⟩
theorem Turn.trans {w w1 w2 : World} {O : Nat → Prop} (h : Turn w w1 O) (k : Turn w1 w2 O) : Turn w w2 O :=
  ⟨k.os.trans h.os, k.tape.trans h.tape, k.output.trans h.output, Nat.le_trans h.size k.size, fun j hj ho => (k.block j (Nat.lt_of_lt_of_le hj h.size) ho).trans (h.block j hj ho)⟩
theorem Turn.mono {w w' : World} {O O' : Nat → Prop} (h : Turn w w' O) (k : ∀ j, j < w.heap.size → O j → O' j) : Turn w w' O' := ⟨h.os, h.tape, h.output, h.size, fun j hj ho => h.block j hj (fun x => ho (k j hj x))⟩
theorem Turn.trans' {w w1 w2 : World} {O O' : Nat → Prop} (h : Turn w w1 O) (k : Turn w1 w2 O') (ho : ∀ j, j < w.heap.size → O' j → O j) : Turn w w2 O :=
  ⟨k.os.trans h.os, k.tape.trans h.tape, k.output.trans h.output, Nat.le_trans h.size k.size, fun j hj hn => (k.block j (Nat.lt_of_lt_of_le hj h.size) (fun x => hn (ho j hj x))).trans (h.block j hj hn)⟩
theorem Turn.of_grown {w w' : World} {row : Option Nat} {O : Nat → Prop} (h : w.grownBy w' row) (k : ∀ j, row = some j → O j) : Turn w w' O :=
  ⟨h.os, h.tape, h.output, h.size, fun j hj ho => h.block j hj (fun e => ho (k j e.symm))⟩
theorem Turn.grown {w w' : World} {O : Nat → Prop} (h : Turn w w' O) (k : ∀ j, j < w.heap.size → ¬ O j) : w.grownBy w' none := ⟨h.os, h.tape, h.output, h.size, fun j hj _ => h.block j hj (k j hj)⟩

theorem Turn.alloc {w w' : World} {O : Nat → Prop} (h : Turn w w' O) (o : Obj) : Turn w (w'.alloc o) O := h.trans (Turn.of_grown (World.grownBy_alloc w' o none) (fun j h => by cases h))
/-- A slice that has a block of its own, or none: these timers. -/
abbrev Row {X : Type} (TE : TypeId) (e : X → Value) (w : World) (v : Value) (l : List (Tm X)) : Prop := w.ownsRow 0 TE 3 v l.length (encL e l)

/-- A wheel that 'New' made, in block g: its time, its last number, and the timers of each slot. Its blocks are of O. -/
def WhV {X : Type} (TW TE : TypeId) (e : X → Value) (w : World) (O : Nat → Prop) (g : Nat) (now last : Int) (vs : Nat → Value) (ls : Nat → List (Tm X)) : Prop :=
  w.heap[g]? = some (.cells (wcells now last vs g) TW (0, 0)) ∧ O g ∧ (∀ i, i < 64 → Row TE e w (vs i) (ls i) ∧ ∀ k, (vs i).ownBlock = some k → O k ∧ k ≠ g) ∧
    ∀ i j, i < 64 → j < 64 → i ≠ j → ∀ k, (vs i).ownBlock = some k → (vs j).ownBlock ≠ some k
def Wh {X : Type} (TW TE : TypeId) (e : X → Value) (w : World) (O : Nat → Prop) (g : Nat) (now last : Int) (ls : Nat → List (Tm X)) : Prop := ∃ vs, WhV TW TE e w O g now last vs ls

section
variable {X : Type} {TW TE : TypeId} {e : X → Value} {w w' : World} {O O' : Nat → Prop} {g : Nat} {now last : Int} {vs : Nat → Value} {ls : Nat → List (Tm X)}
theorem cell_of_cells {w : World} {g i : Nat} {cs : Array Value} {t : TypeId} {m : Nat × Nat} (h : w.heap[g]? = some (.cells cs t m)) : w.cell? ⟨g, i, none⟩ = cs[i]? := by
  simp [World.cell?, h]
theorem frozen_of_cells {w : World} {g i : Nat} {cs : Array Value} {t : TypeId} (h : w.heap[g]? = some (.cells cs t (0, 0))) : w.frozen? ⟨g, i, none⟩ = false := frozen_of_row w g i cs t h
theorem WhV.c0 (h : WhV TW TE e w O g now last vs ls) : w.cell? ⟨g, 0, none⟩ = some (.int .i64 now) := (cell_of_cells h.1).trans (wcells_0 ..)
theorem WhV.c1 (h : WhV TW TE e w O g now last vs ls) : w.cell? ⟨g, 1, none⟩ = some (.int .i64 last) := (cell_of_cells h.1).trans (wcells_1 ..)
theorem WhV.slot (h : WhV TW TE e w O g now last vs ls) {i : Nat} (hi : i < 64) : w.cell? ⟨g, 2 + i, none⟩ = some (vs i) := (cell_of_cells h.1).trans (wcells_slot _ _ _ _ _ hi)
theorem WhV.made (h : WhV TW TE e w O g now last vs ls) : w.cell? ⟨g, 66, none⟩ = some (.pointer (some ⟨g, 0, none⟩)) := (cell_of_cells h.1).trans (wcells_made ..)
theorem WhV.free (h : WhV TW TE e w O g now last vs ls) (i : Nat) : w.frozen? ⟨g, i, none⟩ = false := frozen_of_cells h.1
theorem WhV.lt (h : WhV TW TE e w O g now last vs ls) : g < w.heap.size := (Array.getElem?_eq_some_iff.1 h.1).1
theorem WhV.kept (h : WhV TW TE e w O g now last vs ls) (k : ∀ j, j < w.heap.size → O j → w'.heap[j]? = w.heap[j]?) : WhV TW TE e w' O g now last vs ls := by
  refine ⟨(k g h.lt h.2.1).trans h.1, h.2.1, fun i hi => ⟨?_, (h.2.2.1 i hi).2⟩, h.2.2.2⟩
  obtain ⟨⟨h1, h2⟩, h3⟩ := h.2.2.1 i hi
  refine ⟨h1, ?_⟩
  rcases h2 with h2 | ⟨b, cap, cur, hv, hb, hh, hr⟩
  · exact .inl h2
  · refine .inr ⟨b, cap, cur, hv, hb, ?_, hr⟩
    rw [k b (Array.getElem?_eq_some_iff.1 hh).1 (h3 b (by rw [hv]; rfl)).1]
    exact hh
theorem WhV.mono (h : WhV TW TE e w O g now last vs ls) (k : ∀ j, j < w.heap.size → O j → O' j) : WhV TW TE e w O' g now last vs ls :=
  ⟨h.1, k _ h.lt h.2.1, fun i hi => ⟨(h.2.2.1 i hi).1, fun b hb => ⟨k b ((h.2.2.1 i hi).1.lt b hb).2 ((h.2.2.1 i hi).2 b hb).1, ((h.2.2.1 i hi).2 b hb).2⟩⟩, h.2.2.2⟩
theorem Wh.mono (h : Wh TW TE e w O g now last ls) (k : ∀ j, j < w.heap.size → O j → O' j) : Wh TW TE e w O' g now last ls := by
  obtain ⟨vs, h⟩ := h
  exact ⟨vs, h.mono k⟩
theorem Wh.kept (h : Wh TW TE e w O g now last ls) (k : ∀ j, j < w.heap.size → O j → w'.heap[j]? = w.heap[j]?) : Wh TW TE e w' O g now last ls := by
  obtain ⟨vs, h⟩ := h
  exact ⟨vs, h.kept k⟩
theorem Wh.lt (h : Wh TW TE e w O g now last ls) : g < w.heap.size := by
  obtain ⟨vs, h⟩ := h
  exact h.lt
theorem WhV.len (h : WhV TW TE e w O g now last vs ls) {i : Nat} (hi : i < 64) : ∃ p c, vs i = .slice p (ls i).length c := by
  rcases (h.2.2.1 i hi).1.2 with ⟨hv, h0⟩ | ⟨b, cap, _, hv, _⟩
  · exact ⟨none, 0, by rw [hv, h0]⟩
  · exact ⟨_, cap, hv⟩
theorem WhV.len2 (h : WhV TW TE e w O g now last vs ls) {i : Nat} (hi : i < 64) : (vs i = .slice none 0 0 ∧ ls i = []) ∨ ∃ b c, vs i = .slice (some ⟨b, 0, none⟩) (ls i).length c := by
  rcases (h.2.2.1 i hi).1.2 with ⟨hv, h0⟩ | ⟨b, cap, _, hv, _⟩
  · exact .inl ⟨hv, List.length_eq_zero_iff.1 h0⟩
  · exact .inr ⟨b, cap, hv⟩
theorem WhV.range (h : WhV TW TE e w O g now last vs ls) : w.rangeAt g 2 (slotsL vs) := fun j v hv => by
  have hj : j < 64 := by have := (List.getElem?_eq_some_iff.1 hv).1; simpa [slotsL] using this
  rw [h.slot hj]
  rw [slotsL_at vs hj] at hv
  exact hv
end

/-- How many timers there are, up to a slot. -/
def count {X : Type} (ls : Nat → List (Tm X)) (n : Nat) : Nat := ((List.range n).map fun i => (ls i).length).sum
theorem count_succ {X : Type} (ls : Nat → List (Tm X)) (n : Nat) : count ls (n + 1) = count ls n + (ls n).length := by simp [count, List.range_succ]
theorem count_mono {X : Type} (ls : Nat → List (Tm X)) {n m : Nat} (h : n ≤ m) : count ls n ≤ count ls m := by
  induction m with
  | zero => obtain rfl : n = 0 := by omega
            exact Nat.le_refl _
  | succ m ih =>
    by_cases e : n = m + 1
    · rw [e]; exact Nat.le_refl _
    · rw [count_succ]; have := ih (by omega); omega

/-- 'a[i]' of an array of 64 that is a value. -/
theorem run_index_agg {P : Program} (t el : TypeId) (vs : Nat → Value) (k : Nat) (hk : k < 64) (w : World) (hp : P.underlying t = some (.array 64 el)) (hs : ∀ w, (sizeOf el).run P w = .ok 1 w) (ha : ∀ w, (isAgg el).run P w = .ok false w) :
    (Instr.index t (.agg (slotsL vs).toArray) (.int .i64 k)).run P w = .ok (vs k) w := by
  have hn : (0 : Int) ≤ (k : Int) ∧ (k : Int) < ((64 : Nat) : Int) := by omega
  have hg : (slotsL vs).toArray[k]? = some (vs k) := by rw [List.getElem?_toArray]; exact slotsL_at vs hk
  generalize (slotsL vs).toArray = A at hg ⊢
  simp [Instr.index, run_underlying hp, asIntOf, part, Sem.run_bind, hs, ha, go_sem, hk, hg]

/-- A pointer to no wheel that 'New' made: nil, or to a struct that names no maker. -/
def NoWh (w : World) (p : Option Addr) : Prop := p = none ∨ ∃ g, p = some ⟨g, 0, none⟩ ∧ w.cell? ⟨g, 66, none⟩ = some (.pointer none)

theorem neq_nil_ptr {P : Program} (w : World) {tp te : TypeId} (a : Addr) (hp : P.underlying tp = some (.pointer te)) :
    (binOp .neq tp (.pointer none) (.pointer (some a))).run P w = .ok (.bool true) w := by
  have h : ∀ d : Nat, (Op.equalIn (d + 1) tp (.pointer none) (.pointer (some a))).run P w = .ok false w := fun d => by
    simp [Op.equalIn, run_underlying hp, sizeOf, typeInfo]
  simp only [binOp]
  simp [Op.equal, Op.maxDepth, h 9999]

theorem info_whI : ∃ j, Try.prog.info? 75 = some j := Option.isSome_iff_exists.1 (by kernel_rfl)
abbrev WhI (w : World) (O : Nat → Prop) (g : Nat) (now last : Int) (ls : Nat → List (Tm Int)) : Prop := Wh 75 79 (Value.int .i64) w O g now last ls
abbrev WhVI (w : World) (O : Nat → Prop) (g : Nat) (now last : Int) (vs : Nat → Value) (ls : Nat → List (Tm Int)) : Prop := WhV 75 79 (Value.int .i64) w O g now last vs ls

set_option maxHeartbeats 400000 in
theorem none_yesI (w : World) (p : Option Addr) (hp : NoWh w p) :
    Calls Try.prog 35 #[.pointer p] w fun e w' => e = .returned (.bool true) ∧ w = w' := by
  rcases hp with rfl | ⟨g, rfl, hc⟩
  · go_enter Try.func35, Try.ntmps35
    go_wp2
    go_ret
    exact ⟨rfl, rfl⟩
  · have hq := neq_nil_ptr (P := Try.prog) w ⟨g, 0, none⟩ Try.underlying24
    go_enter Try.func35, Try.ntmps35
    go_wp2
    go_ret
    exact ⟨rfl, rfl⟩

set_option maxHeartbeats 400000 in
theorem none_noI {w : World} {O : Nat → Prop} {g : Nat} {now last : Int} {vs : Nat → Value} {ls : Nat → List (Tm Int)} (m : WhVI w O g now last vs ls) :
    Calls Try.prog 35 #[.pointer (some ⟨g, 0, none⟩)] w fun e w' => e = .returned (.bool false) ∧ w = w' := by
  have hm := m.made
  obtain ⟨j, hj⟩ := info_whI
  have hq := Lib.run_neq_ptr_same (P := Try.prog) (w := w) ⟨g, 0, none⟩ Try.underlying24 hj
  clear m hj
  go_enter Try.func35, Try.ntmps35
  go_wp2
  go_ret
  exact ⟨rfl, rfl⟩

set_option maxHeartbeats 400000 in
theorem now_noneI (w : World) (p : Option Addr) (hp : NoWh w p) :
    Calls Try.prog 20 #[.pointer p] w fun e w' => e = .returned (.int .i64 0) ∧ w = w' := by
  go_enter Try.func20, Try.ntmps20
  go_wp2_with (go_at_call 35; refine (none_yesI _ _ hp).mono ?_; rintro e w' ⟨rfl, rfl⟩)
  go_ret
  exact ⟨rfl, rfl⟩

set_option maxHeartbeats 400000 in
theorem now_okI {w : World} {O : Nat → Prop} {g : Nat} {now last : Int} {ls : Nat → List (Tm Int)} (h : WhI w O g now last ls) :
    Calls Try.prog 20 #[.pointer (some ⟨g, 0, none⟩)] w fun e w' => e = .returned (.int .i64 now) ∧ w = w' := by
  obtain ⟨vs, m⟩ := h
  have c0 := m.c0
  go_enter Try.func20, Try.ntmps20
  go_wp2_with (go_at_call 35; refine (none_noI m).mono ?_; rintro e w' ⟨rfl, rfl⟩)
  go_ret
  exact ⟨rfl, rfl⟩

set_option maxHeartbeats 400000 in
theorem len_noneI (w : World) (p : Option Addr) (hp : NoWh w p) :
    Calls Try.prog 21 #[.pointer p] w fun e w' => e = .returned (.int .i64 0) ∧ w = w' := by
  go_enter Try.func21, Try.ntmps21
  go_wp2_with (go_at_call 35; refine (none_yesI _ _ hp).mono ?_; rintro e w' ⟨rfl, rfl⟩)
  go_ret
  exact ⟨rfl, rfl⟩

set_option maxRecDepth 100000 in
set_option maxHeartbeats 400000 in
theorem len_okI {w : World} {O : Nat → Prop} {g : Nat} {now last : Int} {ls : Nat → List (Tm Int)} (h : WhI w O g now last ls) (hb : count ls 64 ≤ 1000000) :
    Calls Try.prog 21 #[.pointer (some ⟨g, 0, none⟩)] w fun e w' => e = .returned (.int .i64 (count ls 64)) ∧ w = w' := by
  obtain ⟨vs, m⟩ := h
  have hr := m.range
  have HX := Lib.hid (fun (k : Nat) (hk : k < 64) (w : World) => run_index_agg (P := Try.prog) 73 72 vs k hk w Try.underlying73 (fun _ => by kernel_rfl) (fun _ => by kernel_rfl))
  have HL := Lib.hid (fun (k : Nat) (hk : k < 64) => m.len hk)
  go_enter Try.func21, Try.ntmps21
  go_wp2_with (first | (go_at_call 35; refine (none_noI m).mono ?_; rintro e w' ⟨rfl, rfl⟩) | (refine wpList_load_mid rfl _ _ rfl g 2 rfl (slotsL vs) _ hr Try.underlying73 rfl (by rw [slotsL_len]; kernel_rfl) ?_))
  clear hr m
  go_loop [3, 12] (fun n i => ∃ k : Nat, k ≤ 64 ∧ i = .int .i64 k ∧ n = .int .i64 (count ls k)) (fun _ i => 64 - (intOf i).toNat)
  case atStart => exact ⟨0, by omega, rfl, rfl⟩
  case round =>
    obtain ⟨k, hk, rfl, rfl⟩ := hrel
    by_cases hlt : k < 64
    · have h1 := HX.out k hlt
      have hm := count_mono ls (n := k + 1) (m := 64) (by omega)
      have hs := count_succ ls k
      obtain ⟨p, c, hp⟩ := HL.out k hlt
      rw [hp] at h1
      have hd : decide ((k : Int) < 64) = true := by simp; omega
      have hb1 : (count ls k : Int) + ((ls k).length : Int) ≤ 1000000 := by omega
      have HS := Lib.hid hs
      clear hs hm hp
      go_wp2
      go_round
      case rel => exact ⟨k + 1, by omega, by go_num, by rw [HS.out]; go_num⟩
      case measure => simp [intOf]; omega
    · obtain rfl : k = 64 := by omega
      go_wp2
      go_ret
      exact ⟨rfl, rfl⟩
theorem info_whS : ∃ j, Try.prog.info? 109 = some j := Option.isSome_iff_exists.1 (by kernel_rfl)
abbrev WhS (w : World) (O : Nat → Prop) (g : Nat) (now last : Int) (ls : Nat → List (Tm ByteArray)) : Prop := Wh 109 111 Value.string w O g now last ls
abbrev WhVS (w : World) (O : Nat → Prop) (g : Nat) (now last : Int) (vs : Nat → Value) (ls : Nat → List (Tm ByteArray)) : Prop := WhV 109 111 Value.string w O g now last vs ls

set_option maxHeartbeats 400000 in
theorem none_yesS (w : World) (p : Option Addr) (hp : NoWh w p) :
    Calls Try.prog 52 #[.pointer p] w fun e w' => e = .returned (.bool true) ∧ w = w' := by
  rcases hp with rfl | ⟨g, rfl, hc⟩
  · go_enter Try.func52, Try.ntmps52
    go_wp2
    go_ret
    exact ⟨rfl, rfl⟩
  · have hq := neq_nil_ptr (P := Try.prog) w ⟨g, 0, none⟩ Try.underlying67
    go_enter Try.func52, Try.ntmps52
    go_wp2
    go_ret
    exact ⟨rfl, rfl⟩

set_option maxHeartbeats 400000 in
theorem none_noS {w : World} {O : Nat → Prop} {g : Nat} {now last : Int} {vs : Nat → Value} {ls : Nat → List (Tm ByteArray)} (m : WhVS w O g now last vs ls) :
    Calls Try.prog 52 #[.pointer (some ⟨g, 0, none⟩)] w fun e w' => e = .returned (.bool false) ∧ w = w' := by
  have hm := m.made
  obtain ⟨j, hj⟩ := info_whS
  have hq := Lib.run_neq_ptr_same (P := Try.prog) (w := w) ⟨g, 0, none⟩ Try.underlying67 hj
  clear m hj
  go_enter Try.func52, Try.ntmps52
  go_wp2
  go_ret
  exact ⟨rfl, rfl⟩



set_option maxHeartbeats 400000 in
theorem len_noneS (w : World) (p : Option Addr) (hp : NoWh w p) :
    Calls Try.prog 53 #[.pointer p] w fun e w' => e = .returned (.int .i64 0) ∧ w = w' := by
  go_enter Try.func53, Try.ntmps53
  go_wp2_with (go_at_call 52; refine (none_yesS _ _ hp).mono ?_; rintro e w' ⟨rfl, rfl⟩)
  go_ret
  exact ⟨rfl, rfl⟩

set_option maxRecDepth 100000 in
set_option maxHeartbeats 400000 in
theorem len_okS {w : World} {O : Nat → Prop} {g : Nat} {now last : Int} {ls : Nat → List (Tm ByteArray)} (h : WhS w O g now last ls) (hb : count ls 64 ≤ 1000000) :
    Calls Try.prog 53 #[.pointer (some ⟨g, 0, none⟩)] w fun e w' => e = .returned (.int .i64 (count ls 64)) ∧ w = w' := by
  obtain ⟨vs, m⟩ := h
  have hr := m.range
  have HX := Lib.hid (fun (k : Nat) (hk : k < 64) (w : World) => run_index_agg (P := Try.prog) 107 106 vs k hk w Try.underlying107 (fun _ => by kernel_rfl) (fun _ => by kernel_rfl))
  have HL := Lib.hid (fun (k : Nat) (hk : k < 64) => m.len hk)
  go_enter Try.func53, Try.ntmps53
  go_wp2_with (first | (go_at_call 52; refine (none_noS m).mono ?_; rintro e w' ⟨rfl, rfl⟩) | (refine wpList_load_mid rfl _ _ rfl g 2 rfl (slotsL vs) _ hr Try.underlying107 rfl (by rw [slotsL_len]; kernel_rfl) ?_))
  clear hr m
  go_loop [3, 12] (fun n i => ∃ k : Nat, k ≤ 64 ∧ i = .int .i64 k ∧ n = .int .i64 (count ls k)) (fun _ i => 64 - (intOf i).toNat)
  case atStart => exact ⟨0, by omega, rfl, rfl⟩
  case round =>
    obtain ⟨k, hk, rfl, rfl⟩ := hrel
    by_cases hlt : k < 64
    · have h1 := HX.out k hlt
      have hm := count_mono ls (n := k + 1) (m := 64) (by omega)
      have hs := count_succ ls k
      obtain ⟨p, c, hp⟩ := HL.out k hlt
      rw [hp] at h1
      have hd : decide ((k : Int) < 64) = true := by simp; omega
      have hb1 : (count ls k : Int) + ((ls k).length : Int) ≤ 1000000 := by omega
      have HS := Lib.hid hs
      clear hs hm hp
      go_wp2
      go_round
      case rel => exact ⟨k + 1, by omega, by go_num, by rw [HS.out]; go_num⟩
      case measure => simp [intOf]; omega
    · obtain rfl : k = 64 := by omega
      go_wp2
      go_ret
      exact ⟨rfl, rfl⟩

end Go.Proofs.Ytbbmfgeagdblcaa
