/-
  Layer 5: the sort of what is due. Conditions: as said.
-/
import Derived.Test.YtbbmfgeagdblcaaWhF
import Derived.Test.YtbbmfgeagdblcaaShelf
namespace Go.Proofs.Ytbbmfgeagdblcaa
open Go.RowKit Go.Sort Go.Shelf

/-- Which of two timers is told first. -/
def ltT {X : Type} (x y : Tm X) : Prop := x.due < y.due ∨ x.due = y.due ∧ x.id < y.id
theorem cmpT_lt {X : Type} (x y : Tm X) : ltOf (cmpT (X := X)) x y = true ↔ ltT x y := by
  unfold ltOf cmpT orI cmpI ltT
  by_cases h1 : x.due < y.due
  · simp [h1]
  · by_cases h2 : y.due < x.due
    · have h3 : ¬ x.due = y.due := by omega
      simp [h1, h2, h3]
    · have h3 : x.due = y.due := by omega
      by_cases h4 : x.id < y.id
      · simp [h3, h4]
      · by_cases h5 : y.id < x.id <;> simp [h3, h4, h5]
theorem cmpT_nlt {X : Type} (x y : Tm X) : ltOf (cmpT (X := X)) x y = false ↔ ¬ ltT x y := by rw [← cmpT_lt]; simp
theorem swoT {X : Type} : SWO (ltOf (cmpT (X := X))) where
  irrefl x := by rw [cmpT_nlt]; unfold ltT; omega
  trans x y z h1 h2 := by rw [cmpT_lt] at *; unfold ltT at *; omega
  ntrans x y z h1 h2 := by rw [cmpT_nlt] at *; unfold ltT at *; omega

instance {X : Type} [Inhabited X] : Inhabited (Tm X) := ⟨⟨0, 0, default⟩⟩
instance : Inhabited ByteArray := ⟨ByteArray.empty⟩

theorem encL_flat {X : Type} [Inhabited X] (e : X → Value) (l : List (Tm X)) (j : Nat) (hj : j < l.length * 3) : (encL e l)[j]? = some ((Tm.cells e l.toArray[j / 3]!)[j % 3]!) := by
  have h1 : j / 3 < l.length := by omega
  have h2 := encL_at e l (j / 3) (j % 3) h1 (by omega)
  rw [show j / 3 * 3 + j % 3 = j by omega] at h2
  have h3 : l.toArray[j / 3]! = l[j / 3] := by simp [h1]
  have hr : j % 3 < 3 := by omega
  rw [h2, h3]
  generalize j % 3 = r at hr
  match r, hr with
  | 0, _ => rfl
  | 1, _ => rfl
  | 2, _ => rfl

theorem holds_row {X : Type} [Inhabited X] {TE : TypeId} {e : X → Value} {w : World} {b n cap : Nat} {l : List (Tm X)} (h : Row TE e w (.slice (some ⟨b, 0, none⟩) n cap) l) : HoldsK (Tm.cells e) 3 w b 0 l.toArray := by
  intro j hj
  rw [size_flatK] at hj
  have hj' : j < l.length * 3 := by simpa using hj
  have hb : ∃ cur, w.heap[b]? = some (.cells cur TE (0, 0)) := by
    rcases h.2 with ⟨h1, _⟩ | ⟨g, cap', cur, h1, _, h2, _⟩
    · cases h1
    · injection h1 with h1; injection h1 with h1; injection h1 with h1; subst h1; exact ⟨cur, h2⟩
  obtain ⟨cur, hb⟩ := hb
  refine ⟨?_, frozen_of_cells hb⟩
  rw [get_flatK _ _ _ _ hj]
  have := h.cells (g := b) rfl j _ (encL_flat e l j hj')
  have ha : (⟨b, 0, none⟩ : Addr).add j = ⟨b, j, none⟩ := by unfold Addr.add; split <;> simp_all
  rw [ha] at this
  rw [Nat.zero_add]
  exact this

theorem put_row {X : Type} [Inhabited X] {TE : TypeId} {e : X → Value} {w : World} {b n cap : Nat} {l : List (Tm X)} (h : Row TE e w (.slice (some ⟨b, 0, none⟩) n cap) l) (d' : Array (Tm X)) (hd : d'.size = l.length) (m : Nat) (os : Array Obj) :
    Row TE e (sortWorldK (Tm.cells e) 3 w b 0 m d' os) (.slice (some ⟨b, 0, none⟩) n cap) d'.toList ∧ Turn w (sortWorldK (Tm.cells e) 3 w b 0 m d' os) (fun k => k = b) := by
  rcases h.2 with ⟨h1, _⟩ | ⟨g, cap', cur, h1, h0, h2, h3, h4, h5, h6⟩
  · cases h1
  injection h1 with h1 hn hc; injection h1 with h1; injection h1 with h1; subst h1 hn hc
  have hbl : b < w.heap.size := (Array.getElem?_eq_some_iff.1 h2).1
  have hm : (mapBlock (Sort.ahead w m) b (putCells id 0 (flatK (Tm.cells e) 3 d'))).heap[b]? = some (.cells (putCells id 0 (flatK (Tm.cells e) 3 d') cur) TE (0, 0)) := by
    show (w.heap.modify b _)[b]? = _
    rw [Array.getElem?_modify, if_pos rfl, h2]
    rfl
  have hsz : (mapBlock (Sort.ahead w m) b (putCells id 0 (flatK (Tm.cells e) 3 d'))).heap.size = w.heap.size := by show (w.heap.modify b _).size = _; simp
  have hb2 : (sortWorldK (Tm.cells e) 3 w b 0 m d' os).heap[b]? = some (.cells (putCells id 0 (flatK (Tm.cells e) 3 d') cur) TE (0, 0)) := by
    unfold sortWorldK
    rw [heap_grow_old _ _ (by show b < (mapBlock _ _ _).heap.size; rw [hsz]; exact hbl)]
    exact hm
  refine ⟨⟨by rw [encL_length], .inr ⟨b, cap, _, by rw [show d'.toList.length = l.length by rw [Array.length_toList, hd]], Nat.zero_le _, hb2, by rw [Array.length_toList, hd]; exact h3, h4, by simp [putCells]; exact h5, ?_⟩⟩, ⟨rfl, rfl, rfl, ?_, fun k hk hkb => ?_⟩⟩
  · apply List.ext_getElem?
    intro j
    rw [Array.length_toList]
    by_cases hj : j < d'.size * 3
    · rw [List.getElem?_take, if_pos hj, encL_flat e d'.toList j (by simpa using hj)]
      have hjc : j < cur.size := by rw [h5]; have := Nat.mul_le_mul_right 3 h3; omega
      have hg := get_flatK (Tm.cells e) 3 d' j hj
      simp only [putCells, Array.getElem?_toList, Array.getElem?_mapIdx, Array.getElem?_eq_getElem hjc, Option.map_some, size_flatK]
      rw [if_pos ⟨Nat.zero_le _, by omega⟩, Nat.sub_zero]
      simp only [id]
      rw [hg]
    · rw [List.getElem?_take, if_neg hj, List.getElem?_eq_none (by rw [encL_length]; simpa using hj)]
  · unfold sortWorldK
    simp only [size_grow]
    show w.heap.size ≤ (mapBlock _ _ _).heap.size + _
    rw [hsz]; omega
  · unfold sortWorldK
    rw [heap_grow_old _ _ (by show k < (mapBlock _ _ _).heap.size; rw [hsz]; exact hk)]
    show (w.heap.modify b _)[k]? = _
    rw [Array.getElem?_modify, if_neg (fun e => hkb e.symm)]

theorem enters_orderI : ∀ args w, (callFunc 41 args).run Try.prog w = .ok (.enter 41 args) w := enters_of Try.func41 (by kernel_rfl) rfl

theorem sort_okI (w : World) (D : Value) (l : List (Tm Int)) (h : Row 79 (Value.int .i64) w D l) (hl : l.length ≤ 1000000) :
    Calls Try.prog 40 #[D, .func (.func 41) #[] #[]] w fun e w' =>
      e = .returned (.tuple #[]) ∧ ∃ l', l'.Perm l ∧ l'.Pairwise (fun x y => ¬ ltT y x) ∧ Row 79 (Value.int .i64) w' D l' ∧ Turn w w' (fun k => D.ownBlock = some k) := by
  rcases h.2 with ⟨hD, h0⟩ | ⟨b, cap, cur, hD, _, hb, _⟩
  · subst hD
    obtain rfl := List.length_eq_zero_iff.1 h0
    exact (AnyF.slices_SortFunc_none Try.sortI none 0 _ w).mono fun e w' ⟨he, hw⟩ => ⟨he, [], List.Perm.refl _, List.Pairwise.nil, by subst hw; exact h, by subst hw; exact Turn.refl _ _⟩
  · subst hD
    have hcon := AnyQ.slices_SortFunc Try.sortI 3 Try.isAgg79 Try.sizeOf79 (Tm.cells (Value.int .i64)) (fun _ => rfl) (fun x v hv => by simp [Tm.cells] at hv; rcases hv with rfl | rfl | rfl <;> rfl) cmpT swoT 41 #[] b 0 cap l.toArray w enters_orderI (fun _ _ _ _ x y => inOrder_anyI x y _) (holds_row h) (Array.getElem?_eq_some_iff.1 hb).1 (by simp; omega)
    have hcon2 : Calls Try.prog 40 #[.slice (some ⟨b, 0, none⟩) l.length cap, .func (.func 41) #[] #[]] w _ := hcon
    refine hcon2.mono fun e w' ⟨he, d', n, os, hp, hs, hw⟩ => ?_
    obtain ⟨hsz, _, hperm⟩ := hp
    have hz : d'.size = l.length := by simpa using hsz
    subst hw
    obtain ⟨r1, r2⟩ := put_row h d' hz n os
    refine ⟨he, d'.toList, ?_, ?_, r1, r2.mono (fun j _ hj => by subst hj; rfl)⟩
    · have e1 : (d'.extract 0 l.toArray.size).toList = d'.toList := by simp; exact List.take_of_length_le (by rw [Array.length_toList]; omega)
      have e2 : (l.toArray.extract 0 l.toArray.size).toList = l := by simp
      rw [e1, e2] at hperm
      exact hperm
    · rw [List.pairwise_iff_getElem]
      intro i j hi hj hij
      have := hs i j (Nat.zero_le _) hij (by simpa [hz] using hj)
      rw [cmpT_nlt] at this
      have hi' : i < d'.size := by simpa using hi
      have hj' : j < d'.size := by simpa using hj
      simpa [hi', hj'] using this
theorem enters_orderS : ∀ args w, (callFunc 56 args).run Try.prog w = .ok (.enter 56 args) w := enters_of Try.func56 (by kernel_rfl) rfl

theorem sort_okS (w : World) (D : Value) (l : List (Tm ByteArray)) (h : Row 111 Value.string w D l) (hl : l.length ≤ 1000000) :
    Calls Try.prog 55 #[D, .func (.func 56) #[] #[]] w fun e w' =>
      e = .returned (.tuple #[]) ∧ ∃ l', l'.Perm l ∧ l'.Pairwise (fun x y => ¬ ltT y x) ∧ Row 111 Value.string w' D l' ∧ Turn w w' (fun k => D.ownBlock = some k) := by
  rcases h.2 with ⟨hD, h0⟩ | ⟨b, cap, cur, hD, _, hb, _⟩
  · subst hD
    obtain rfl := List.length_eq_zero_iff.1 h0
    exact (AnyF.slices_SortFunc_none Try.sortS none 0 _ w).mono fun e w' ⟨he, hw⟩ => ⟨he, [], List.Perm.refl _, List.Pairwise.nil, by subst hw; exact h, by subst hw; exact Turn.refl _ _⟩
  · subst hD
    have hcon := AnyQ.slices_SortFunc Try.sortS 3 Try.isAgg111 Try.sizeOf111 (Tm.cells Value.string) (fun _ => rfl) (fun x v hv => by simp [Tm.cells] at hv; rcases hv with rfl | rfl | rfl <;> rfl) cmpT swoT 56 #[] b 0 cap l.toArray w enters_orderS (fun _ _ _ _ x y => inOrder_anyS x y _) (holds_row h) (Array.getElem?_eq_some_iff.1 hb).1 (by simp; omega)
    have hcon2 : Calls Try.prog 55 #[.slice (some ⟨b, 0, none⟩) l.length cap, .func (.func 56) #[] #[]] w _ := hcon
    refine hcon2.mono fun e w' ⟨he, d', n, os, hp, hs, hw⟩ => ?_
    obtain ⟨hsz, _, hperm⟩ := hp
    have hz : d'.size = l.length := by simpa using hsz
    subst hw
    obtain ⟨r1, r2⟩ := put_row h d' hz n os
    refine ⟨he, d'.toList, ?_, ?_, r1, r2.mono (fun j _ hj => by subst hj; rfl)⟩
    · have e1 : (d'.extract 0 l.toArray.size).toList = d'.toList := by simp; exact List.take_of_length_le (by rw [Array.length_toList]; omega)
      have e2 : (l.toArray.extract 0 l.toArray.size).toList = l := by simp
      rw [e1, e2] at hperm
      exact hperm
    · rw [List.pairwise_iff_getElem]
      intro i j hi hj hij
      have := hs i j (Nat.zero_le _) hij (by simpa [hz] using hj)
      rw [cmpT_nlt] at this
      have hi' : i < d'.size := by simpa using hi
      have hj' : j < d'.size := by simpa using hj
      simpa [hi', hj'] using this

end Go.Proofs.Ytbbmfgeagdblcaa
