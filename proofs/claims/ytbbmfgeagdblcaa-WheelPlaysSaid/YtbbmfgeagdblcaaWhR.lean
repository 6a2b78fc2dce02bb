/-
  Layer 5: the document's wheel: Advance. Conditions: as said.
-/
import Derived.Test.YtbbmfgeagdblcaaWhQ
import Derived.BigQuiet
namespace Go.Proofs.Ytbbmfgeagdblcaa
open Go.RowKit Go.Sort Go.Shelf

section
variable {X : Type} {N : Int} {L : List (Tm X)} {b : Nat}
theorem nodup_ids {l : List (Tm X)} (h : l.Pairwise (fun x y => x.id < y.id)) : l.Nodup := h.imp (fun {a b} hab e => by rw [e] at hab; omega)
theorem told_step (hL : L.Pairwise (fun x y => x.id < y.id)) (hb : b < L.length) (hd : L[b].due ≤ N) (hmin : ∀ j (hj : j < L.length), L[j].due ≤ N → L[b].due < L[j].due ∨ (L[b].due = L[j].due ∧ b ≤ j)) : told N L = L[b] :: told N (without L[b].id L) := by
  have hm : ∀ t, t ∈ L[b] :: dues N (without L[b].id L) ↔ t ∈ dues N L := fun t => by
    rw [List.mem_cons, mem_dues, mem_dues, mem_without]
    constructor
    · rintro (rfl | h)
      · exact ⟨List.getElem_mem hb, hd⟩
      · exact ⟨h.1.1, h.2⟩
    · rintro ⟨h1, h2⟩
      by_cases e : t.id = L[b].id
      · exact .inl (ids_one hL h1 (List.getElem_mem hb) e)
      · exact .inr ⟨⟨h1, e⟩, h2⟩
  have hp : (L[b] :: dues N (without L[b].id L)).Perm (dues N L) := by
    refine (List.perm_ext_iff_of_nodup ?_ (nodup_ids (hL.filter _))).2 hm
    refine List.nodup_cons.2 ⟨fun h => ?_, nodup_ids ((hL.filter _).filter _)⟩
    have := (mem_without.1 (mem_dues.1 h).1).2
    exact this rfl
  refine sorted_one hL (fun t ht => (mem_dues.1 ht).1) (told_perm N L) ((List.Perm.cons _ (told_perm N _)).trans hp) (sortT_sorted _) ?_
  refine List.pairwise_cons.2 ⟨fun t ht hlt => ?_, sortT_sorted _⟩
  have h1 := mem_dues.1 ((told_perm N _).mem_iff.1 ht)
  obtain ⟨j, hj, rfl⟩ := List.getElem_of_mem (mem_without.1 h1.1).1
  have h2 := hmin j hj h1.2
  have h3 : b ≤ j → L[b].id ≤ L[j].id := fun h => by
    rcases Nat.lt_or_eq_of_le h with h | rfl
    · exact Int.le_of_lt (List.pairwise_iff_getElem.1 hL b j hb hj h)
    · exact Int.le_refl _
  unfold ltT at hlt
  omega
theorem rests_step (hL : L.Pairwise (fun x y => x.id < y.id)) (hb : b < L.length) (hd : L[b].due ≤ N) : rests N (without L[b].id L) = rests N L := by
  unfold rests without
  rw [List.filter_filter]
  refine List.filter_congr fun t ht => ?_
  by_cases e : t.id = L[b].id
  · obtain rfl := ids_one hL ht (List.getElem_mem hb) e
    simp [isDue, hd]
  · simp [e]
theorem told_end (h : ∀ j (hj : j < L.length), ¬ L[j].due ≤ N) : told N L = [] ∧ rests N L = L := by
  have h2 : dues N L = [] := by
    unfold dues
    rw [List.filter_eq_nil_iff]
    intro t ht hx
    obtain ⟨j, hj, rfl⟩ := List.getElem_of_mem ht
    exact h j hj (by simpa [isDue] using hx)
  refine ⟨by unfold told; rw [h2]; rfl, ?_⟩
  unfold rests
  rw [List.filter_eq_self]
  intro t ht
  obtain ⟨j, hj, rfl⟩ := List.getElem_of_mem ht
  simpa [isDue] using h j hj
/-- The best so far, among the first i. -/
def BestI (N : Int) (L : List (Tm X)) (i : Nat) (v : Value) : Prop :=
  (v = .int .i64 (-1) ∧ ∀ j (hj : j < L.length), j < i → ¬ L[j].due ≤ N) ∨
  ∃ (b : Nat) (hb : b < L.length), v = .int .i64 b ∧ b < i ∧ L[b].due ≤ N ∧ ∀ j (hj : j < L.length), j < i → L[j].due ≤ N → L[b].due < L[j].due ∨ (L[b].due = L[j].due ∧ b ≤ j)
theorem BestI.zero (N : Int) (L : List (Tm X)) : BestI N L 0 (.int .i64 (-1)) := .inl ⟨rfl, fun j _ h => by omega⟩
theorem BestI.late {i : Nat} {v : Value} (h : BestI N L i v) (hi : i < L.length) (hd : ¬ L[i].due ≤ N) : BestI N L (i + 1) v := by
  rcases h with ⟨h1, h2⟩ | ⟨b, hb, h1, h2, h3, h4⟩
  · refine .inl ⟨h1, fun j hj hji => ?_⟩
    by_cases e : j = i
    · subst e; exact hd
    · exact h2 j hj (by omega)
  · refine .inr ⟨b, hb, h1, by omega, h3, fun j hj hji hd2 => ?_⟩
    by_cases e : j = i
    · subst e; exact absurd hd2 hd
    · exact h4 j hj (by omega) hd2
theorem BestI.first {i : Nat} (h : ∀ j (hj : j < L.length), j < i → ¬ L[j].due ≤ N) (hi : i < L.length) (hd : L[i].due ≤ N) : BestI N L (i + 1) (.int .i64 i) := by
  refine .inr ⟨i, hi, rfl, by omega, hd, fun j hj hji hd2 => ?_⟩
  by_cases e : j = i
  · subst e; exact .inr ⟨rfl, Nat.le_refl _⟩
  · exact absurd hd2 (h j hj (by omega))
theorem BestI.better {i b : Nat} (hb : b < L.length) (h4 : ∀ j (hj : j < L.length), j < i → L[j].due ≤ N → L[b].due < L[j].due ∨ (L[b].due = L[j].due ∧ b ≤ j)) (hi : i < L.length) (hd : L[i].due ≤ N) (hlt : L[i].due < L[b].due) : BestI N L (i + 1) (.int .i64 i) := by
  refine .inr ⟨i, hi, rfl, by omega, hd, fun j hj hji hd2 => ?_⟩
  by_cases e : j = i
  · subst e; exact .inr ⟨rfl, Nat.le_refl _⟩
  · rcases h4 j hj (by omega) hd2 with h | h <;> left <;> omega
theorem BestI.worse {i b : Nat} (hb : b < L.length) (hbi : b < i) (h3 : L[b].due ≤ N) (h4 : ∀ j (hj : j < L.length), j < i → L[j].due ≤ N → L[b].due < L[j].due ∨ (L[b].due = L[j].due ∧ b ≤ j)) (hi : i < L.length) (hlt : ¬ L[i].due < L[b].due) : BestI N L (i + 1) (.int .i64 b) := by
  refine .inr ⟨b, hb, rfl, by omega, h3, fun j hj hji hd2 => ?_⟩
  by_cases e : j = i
  · subst e; omega
  · exact h4 j hj (by omega) hd2
end

end Go.Proofs.Ytbbmfgeagdblcaa
