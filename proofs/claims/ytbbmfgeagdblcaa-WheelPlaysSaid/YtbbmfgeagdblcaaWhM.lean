/-
  Layer 5: what a wheel holds, as one list by number: the mathematics (no walk). No conditions but those said.
-/
import Derived.Test.YtbbmfgeagdblcaaWhH
namespace Go.Proofs.Ytbbmfgeagdblcaa
open Go.RowKit

structure Rep {X : Type} (now : Int) (ls : Nat → List (Tm X)) (L : List (Tm X)) : Prop where
  slot : ∀ s, s < 64 → ∀ t ∈ ls s, (max t.due now).toNat % 64 = s
  rows : ∀ s, s < 64 → (ls s).Pairwise (fun x y => x.id < y.id)
  ids : L.Pairwise (fun x y => x.id < y.id)
  mem : ∀ t, t ∈ L ↔ ∃ s, s < 64 ∧ t ∈ ls s

theorem Tm.ext' {X : Type} {a b : Tm X} (h1 : a.id = b.id) (h2 : a.due = b.due) (h3 : a.x = b.x) : a = b := by cases a; cases b; simp_all
theorem ids_one {X : Type} : ∀ {L : List (Tm X)} (_ : L.Pairwise (fun x y => x.id < y.id)) {a b : Tm X}, a ∈ L → b ∈ L → a.id = b.id → a = b
  | [], _, _, _, h, _, _ => by cases h
  | t :: L, hp, a, b, ha, hb, e => by
    have h1 := List.pairwise_cons.1 hp
    rcases List.mem_cons.1 ha with rfl | ha
    · rcases List.mem_cons.1 hb with rfl | hb
      · rfl
      · have := h1.1 b hb; omega
    · rcases List.mem_cons.1 hb with hb0 | hb
      · have := h1.1 a ha; rw [← hb0, e] at this; omega
      · exact ids_one h1.2 ha hb e
theorem ids_nodup {X : Type} {L : List (Tm X)} (h : L.Pairwise (fun x y => x.id < y.id)) : L.Nodup := h.imp (fun {a b} hab e => by subst e; omega)

section
variable {X : Type} {now : Int} {ls : Nat → List (Tm X)} {L : List (Tm X)}
theorem Rep.empty (now : Int) : Rep (X := X) now (fun _ => []) [] := ⟨fun _ _ _ h => absurd h (List.not_mem_nil), fun _ _ => List.Pairwise.nil, List.Pairwise.nil, fun _ => ⟨fun h => absurd h (List.not_mem_nil), fun ⟨_, _, h⟩ => absurd h (List.not_mem_nil)⟩⟩
theorem Rep.nodup (h : Rep now ls L) : (upto ls 64).Nodup := by
  unfold upto List.Nodup
  rw [List.pairwise_flatMap]
  refine ⟨fun s hs => ids_nodup (h.rows s (List.mem_range.1 hs)), ?_⟩
  refine List.pairwise_lt_range.imp_of_mem (fun {a b} ha hb hab x hx y hy e => ?_)
  subst e
  have h1 := h.slot a (List.mem_range.1 ha) x hx
  have h2 := h.slot b (List.mem_range.1 hb) x hy
  omega
theorem Rep.perm (h : Rep now ls L) : (upto ls 64).Perm L := by
  rw [List.perm_ext_iff_of_nodup h.nodup (ids_nodup h.ids)]
  intro t
  rw [h.mem t]
  simp [upto]
theorem Rep.count (h : Rep now ls L) : count ls 64 = L.length := by rw [← upto_length, h.perm.length_eq]
theorem Rep.set (h : Rep now ls L) (t : Tm X) (hid : ∀ x ∈ L, x.id < t.id) (s : Nat) (hs : s = (max t.due now).toNat % 64) : Rep now (upd ls s (ls s ++ [t])) (L ++ [t]) := by
  have hs64 : s < 64 := by omega
  have hin : ∀ i, i < 64 → ∀ x ∈ ls i, x ∈ L := fun i hi x hx => (h.mem x).2 ⟨i, hi, hx⟩
  refine ⟨fun i hi x hx => ?_, fun i hi => ?_, ?_, fun x => ?_⟩
  · by_cases his : i = s
    · subst his
      rw [upd_same] at hx
      rcases List.mem_append.1 hx with hx | hx
      · exact h.slot i hi x hx
      · obtain rfl := List.mem_singleton.1 hx
        omega
    · rw [upd_other _ _ _ his] at hx
      exact h.slot i hi x hx
  · by_cases his : i = s
    · subst his
      rw [upd_same, List.pairwise_append]
      exact ⟨h.rows i hi, List.pairwise_singleton _ _, fun a ha b hb => by obtain rfl := List.mem_singleton.1 hb; exact hid a (hin i hi a ha)⟩
    · rw [upd_other _ _ _ his]
      exact h.rows i hi
  · rw [List.pairwise_append]
    exact ⟨h.ids, List.pairwise_singleton _ _, fun a ha b hb => by obtain rfl := List.mem_singleton.1 hb; exact hid a ha⟩
  · constructor
    · intro hx
      rcases List.mem_append.1 hx with hx | hx
      · obtain ⟨i, hi, hx⟩ := (h.mem x).1 hx
        by_cases his : i = s
        · subst his
          exact ⟨i, hi, by rw [upd_same]; exact List.mem_append_left _ hx⟩
        · exact ⟨i, hi, by rw [upd_other _ _ _ his]; exact hx⟩
      · exact ⟨s, hs64, by rw [upd_same]; exact List.mem_append_right _ hx⟩
    · rintro ⟨i, hi, hx⟩
      by_cases his : i = s
      · subst his
        rw [upd_same] at hx
        rcases List.mem_append.1 hx with hx | hx
        · exact List.mem_append_left _ (hin i hi x hx)
        · exact List.mem_append_right _ hx
      · rw [upd_other _ _ _ his] at hx
        exact List.mem_append_left _ (hin i hi x hx)

theorem vis_iff (n k s : Nat) : visT n k s = true ↔ ∃ i, i < k ∧ (n + i) % 64 = s := by simp [visT]
theorem vis_due (now N : Int) (hn : 0 ≤ now) (K : Nat) (hK : (K : Int) = min (N - now) 63 + 1) (d : Int) (hd : d ≤ N) (hN : now ≤ N) : visT now.toNat K ((max d now).toNat % 64) = true := by
  rw [vis_iff]
  by_cases h : N - now ≤ 63
  · exact ⟨(max d now - now).toNat, by omega, by omega⟩
  · obtain rfl : K = 64 := by omega
    exact ⟨((max d now).toNat % 64 + 64 - now.toNat % 64) % 64, by omega, by omega⟩
theorem mem_dues {N : Int} {l : List (Tm X)} {t : Tm X} : t ∈ dues N l ↔ t ∈ l ∧ t.due ≤ N := by simp [dues, isDue]
theorem mem_rests {N : Int} {l : List (Tm X)} {t : Tm X} : t ∈ rests N l ↔ t ∈ l ∧ N < t.due := by simp [rests, isDue]
theorem Rep.late (h : Rep now ls L) (hn : 0 ≤ now) {N : Int} (hN : now ≤ N) {K : Nat} (hK : (K : Int) = min (N - now) 63 + 1) {s : Nat} (hs : s < 64) {t : Tm X} : t ∈ advLs N now.toNat ls K s ↔ t ∈ ls s ∧ N < t.due := by
  unfold advLs
  by_cases hv : visT now.toNat K s = true
  · rw [if_pos hv, mem_rests]
  · rw [if_neg hv]
    refine ⟨fun ht => ⟨ht, ?_⟩, fun ht => ht.1⟩
    by_cases hd : t.due ≤ N
    · exfalso
      apply hv
      have := vis_due now N hn K hK t.due hd hN
      rw [h.slot s hs t ht] at this
      exact this
    · omega
theorem Rep.adv (h : Rep now ls L) (hn : 0 ≤ now) {N : Int} (hN : now ≤ N) {K : Nat} (hK : (K : Int) = min (N - now) 63 + 1) : Rep N (advLs N now.toNat ls K) (rests N L) := by
  refine ⟨fun s hs t ht => ?_, fun s hs => ?_, h.ids.filter _, fun t => ?_⟩
  · rw [h.late hn hN hK hs] at ht
    have := h.slot s hs t ht.1
    omega
  · unfold advLs
    split
    · exact (h.rows s hs).filter _
    · exact h.rows s hs
  · rw [mem_rests, h.mem]
    constructor
    · rintro ⟨⟨s, hs, ht⟩, hd⟩
      exact ⟨s, hs, (h.late hn hN hK hs).2 ⟨ht, hd⟩⟩
    · rintro ⟨s, hs, ht⟩
      have := (h.late hn hN hK hs).1 ht
      exact ⟨⟨s, hs, this.1⟩, this.2⟩
theorem Rep.acc (h : Rep now ls L) (hn : 0 ≤ now) {N : Int} (hN : now ≤ N) {K : Nat} (hK : (K : Int) = min (N - now) 63 + 1) : (accT N now.toNat ls K).Perm (dues N L) := by
  have hnd : (accT N now.toNat ls K).Nodup := by
    unfold accT List.Nodup
    rw [List.pairwise_flatMap]
    refine ⟨fun i _ => (ids_nodup (h.rows _ (by omega))).filter _, ?_⟩
    refine List.pairwise_lt_range.imp_of_mem (fun {a b} ha hb hab x hx y hy e => ?_)
    subst e
    have ha := List.mem_range.1 ha
    have hb := List.mem_range.1 hb
    have h1 := h.slot _ (by omega) x (mem_dues.1 hx).1
    have h2 := h.slot _ (by omega) x (mem_dues.1 hy).1
    omega
  refine (List.perm_ext_iff_of_nodup hnd (show (dues N L).Nodup from (ids_nodup h.ids).filter _)).2 ?_
  intro t
  rw [mem_dues, h.mem]
  unfold accT
  rw [List.mem_flatMap]
  constructor
  · rintro ⟨i, _, hi⟩
    have := mem_dues.1 hi
    exact ⟨⟨_, by omega, this.1⟩, this.2⟩
  · rintro ⟨⟨s, hs, ht⟩, hd⟩
    have hv := vis_due now N hn K hK t.due hd hN
    rw [h.slot s hs t ht, vis_iff] at hv
    obtain ⟨i, hi, e⟩ := hv
    exact ⟨i, List.mem_range.2 hi, mem_dues.2 ⟨by rw [e]; exact ht, hd⟩⟩
end

/-- Sorted by moments, and of one moment by numbers. -/
def ltB {X : Type} (x y : Tm X) : Bool := decide (x.due < y.due) || (decide (x.due = y.due) && decide (x.id < y.id))
theorem ltB_iff {X : Type} (x y : Tm X) : ltB x y = true ↔ ltT x y := by simp [ltB, ltT]
def insT {X : Type} (t : Tm X) : List (Tm X) → List (Tm X)
  | [] => [t]
  | x :: l => if ltB x t then x :: insT t l else t :: x :: l
def sortT {X : Type} : List (Tm X) → List (Tm X)
  | [] => []
  | t :: l => insT t (sortT l)
theorem insT_perm {X : Type} (t : Tm X) : ∀ l : List (Tm X), (insT t l).Perm (t :: l)
  | [] => List.Perm.refl _
  | x :: l => by
    unfold insT
    split
    · exact (List.Perm.cons x (insT_perm t l)).trans (List.Perm.swap t x l)
    · exact List.Perm.refl _
theorem sortT_perm {X : Type} : ∀ l : List (Tm X), (sortT l).Perm l
  | [] => List.Perm.refl _
  | t :: l => (insT_perm t _).trans (List.Perm.cons t (sortT_perm l))
theorem insT_sorted {X : Type} (t : Tm X) : ∀ l : List (Tm X), l.Pairwise (fun x y => ¬ ltT y x) → (insT t l).Pairwise (fun x y => ¬ ltT y x)
  | [], _ => List.pairwise_singleton _ _
  | x :: l, h => by
    have h1 := List.pairwise_cons.1 h
    unfold insT
    split
    · rename_i hlt
      rw [ltB_iff] at hlt
      refine List.pairwise_cons.2 ⟨fun y hy => ?_, insT_sorted t l h1.2⟩
      rcases List.mem_cons.1 ((insT_perm t l).mem_iff.1 hy) with rfl | hy
      · unfold ltT at *; omega
      · exact h1.1 y hy
    · rename_i hlt
      rw [ltB_iff] at hlt
      refine List.pairwise_cons.2 ⟨fun y hy => ?_, h⟩
      rcases List.mem_cons.1 hy with rfl | hy
      · exact hlt
      · have := h1.1 y hy
        unfold ltT at *; omega
theorem sortT_sorted {X : Type} : ∀ l : List (Tm X), (sortT l).Pairwise (fun x y => ¬ ltT y x)
  | [] => List.Pairwise.nil
  | _ :: l => insT_sorted _ _ (sortT_sorted l)
/-- What is told at N. -/
def told {X : Type} (N : Int) (L : List (Tm X)) : List (Tm X) := sortT (dues N L)
theorem sorted_one {X : Type} {l l' d : List (Tm X)} {L : List (Tm X)} (hL : L.Pairwise (fun x y => x.id < y.id)) (hd : ∀ t ∈ d, t ∈ L) (h1 : l.Perm d) (h2 : l'.Perm d) (s1 : l.Pairwise (fun x y => ¬ ltT y x)) (s2 : l'.Pairwise (fun x y => ¬ ltT y x)) : l = l' := by
  refine List.Perm.eq_of_pairwise (fun a b ha hb h3 h4 => ?_) s1 s2 (h1.trans h2.symm)
  refine ids_one hL (hd a (h1.mem_iff.1 ha)) (hd b (h2.mem_iff.1 hb)) ?_
  unfold ltT at *; omega
theorem told_eq {X : Type} {now : Int} {ls : Nat → List (Tm X)} {L l' : List (Tm X)} (h : Rep now ls L) (hn : 0 ≤ now) {N : Int} (hN : now ≤ N) {K : Nat} (hK : (K : Int) = min (N - now) 63 + 1)
    (hp : l'.Perm (accT N now.toNat ls K)) (hs : l'.Pairwise (fun x y => ¬ ltT y x)) : l' = told N L :=
  sorted_one h.ids (fun _ ht => (mem_dues.1 ht).1) (hp.trans (h.acc hn hN hK)) (sortT_perm _) hs (sortT_sorted _)
theorem told_perm {X : Type} (N : Int) (L : List (Tm X)) : (told N L).Perm (dues N L) := sortT_perm _

/-- The least moment hangs on the timers alone, not on their order. -/
theorem least_none {X : Type} {l : List (Tm X)} : least l = none ↔ l = [] := by
  rcases List.eq_nil_or_concat l with rfl | ⟨l', t, rfl⟩
  · simp [least]
  · rw [List.concat_eq_append, least_snoc]
    cases least l' <;> simp
theorem least_some {X : Type} : ∀ (n : Nat) (l : List (Tm X)) (m : Int), l.length = n → least l = some m → (∃ t ∈ l, t.due = m) ∧ ∀ t ∈ l, m ≤ t.due
  | 0, l, m, hl, h => by obtain rfl := List.length_eq_zero_iff.1 hl; cases h
  | n + 1, l, m, hl, h => by
    rcases List.eq_nil_or_concat l with rfl | ⟨l', t, rfl⟩
    · cases hl
    · rw [List.concat_eq_append] at *
      rw [least_snoc] at h
      have hl' : l'.length = n := by simpa using hl
      cases h1 : least l' with
      | none =>
        rw [h1] at h
        obtain rfl := least_none.1 h1
        injection h with h
        exact ⟨⟨t, by simp, h⟩, fun x hx => by simp at hx; subst hx; omega⟩
      | some d =>
        rw [h1] at h
        obtain ⟨⟨u, hu, e⟩, hm⟩ := least_some n l' d hl' h1
        injection h with h
        by_cases hd : t.due < d
        · rw [if_pos hd] at h
          exact ⟨⟨t, by simp, h⟩, fun x hx => by
            rcases List.mem_append.1 hx with hx | hx
            · have := hm x hx; omega
            · obtain rfl := List.mem_singleton.1 hx; omega⟩
        · rw [if_neg hd] at h
          exact ⟨⟨u, List.mem_append_left _ hu, by omega⟩, fun x hx => by
            rcases List.mem_append.1 hx with hx | hx
            · have := hm x hx; omega
            · obtain rfl := List.mem_singleton.1 hx; omega⟩
theorem least_perm {X : Type} {l l' : List (Tm X)} (h : l.Perm l') : least l = least l' := by
  cases h1 : least l with
  | none =>
    obtain rfl := least_none.1 h1
    obtain rfl := List.nil_perm.1 h
    rfl
  | some m =>
    cases h2 : least l' with
    | none =>
      obtain rfl := least_none.1 h2
      obtain rfl := List.perm_nil.1 h
      cases h1
    | some m' =>
      obtain ⟨⟨u, hu, e⟩, hm⟩ := least_some _ l m rfl h1
      obtain ⟨⟨u', hu', e'⟩, hm'⟩ := least_some _ l' m' rfl h2
      have a1 := hm u' (h.mem_iff.2 hu')
      have a2 := hm' u (h.mem_iff.1 hu)
      congr 1; omega

end Go.Proofs.Ytbbmfgeagdblcaa
