/-
  Layer 5: Cancel, in one list of timers. Conditions: as said.
-/
import Derived.Test.YtbbmfgeagdblcaaWhJ
namespace Go.Proofs.Ytbbmfgeagdblcaa
open Go.RowKit Go.Sort Go.Shelf

theorem mem_erase {X : Type} : ∀ {l : List (Tm X)} (_ : l.Pairwise (fun x y => x.id < y.id)) (i : Nat) (h : i < l.length) (t : Tm X), t ∈ l.eraseIdx i ↔ t ∈ l ∧ t.id ≠ l[i].id
  | x :: l, hp, 0, _, t => by
    have h1 := List.pairwise_cons.1 hp
    simp only [List.eraseIdx_cons_zero, List.getElem_cons_zero, List.mem_cons]
    constructor
    · intro ht
      exact ⟨.inr ht, fun e => by have := h1.1 t ht; omega⟩
    · rintro ⟨rfl | ht, hne⟩
      · exact absurd rfl hne
      · exact ht
  | x :: l, hp, i + 1, h, t => by
    have h1 := List.pairwise_cons.1 hp
    have hi : i < l.length := by simpa using h
    have ih := mem_erase h1.2 i hi t
    have hx := h1.1 l[i] (List.getElem_mem _)
    simp only [List.eraseIdx_cons_succ, List.getElem_cons_succ, List.mem_cons, ih]
    constructor
    · rintro (rfl | ⟨ht, hne⟩)
      · exact ⟨.inl rfl, by omega⟩
      · exact ⟨.inr ht, hne⟩
    · rintro ⟨rfl | ht, hne⟩
      · exact .inl rfl
      · exact .inr ⟨ht, hne⟩

/-- What is there without a number. -/
def without {X : Type} (id : Int) (L : List (Tm X)) : List (Tm X) := L.filter fun t => !decide (t.id = id)
def holdsId {X : Type} (id : Int) (L : List (Tm X)) : Bool := L.any fun t => decide (t.id = id)
theorem mem_without {X : Type} {id : Int} {L : List (Tm X)} {t : Tm X} : t ∈ without id L ↔ t ∈ L ∧ t.id ≠ id := by simp [without]
theorem Rep.cancel {X : Type} {now : Int} {ls ls' : Nat → List (Tm X)} {L : List (Tm X)} (h : Rep now ls L) {id : Int} {r : Bool} (hc : Cancelled id ls ls' r) : Rep now ls' (without id L) ∧ r = holdsId id L := by
  rcases hc with ⟨rfl, rfl, hno⟩ | ⟨rfl, s, i, hs, hi, hid, rfl⟩
  · have hn : ∀ t ∈ L, t.id ≠ id := fun t ht => by
      obtain ⟨s, hs, ht⟩ := (h.mem t).1 ht
      exact hno s hs t ht
    have he : without id L = L := List.filter_eq_self.2 (fun t ht => by simpa using hn t ht)
    refine ⟨by rw [he]; exact h, ?_⟩
    symm
    unfold holdsId
    rw [List.any_eq_false]
    exact fun t ht => by simpa using hn t ht
  · have hxL : (ls s)[i] ∈ L := (h.mem _).2 ⟨s, hs, List.getElem_mem _⟩
    have hme := mem_erase (h.rows s hs) i hi
    refine ⟨⟨fun k hk t ht => ?_, fun k hk => ?_, h.ids.filter _, fun t => ?_⟩, ?_⟩
    · by_cases hks : k = s
      · subst hks
        rw [upd_same] at ht
        exact h.slot k hk t ((hme t).1 ht).1
      · rw [upd_other _ _ _ hks] at ht
        exact h.slot k hk t ht
    · by_cases hks : k = s
      · subst hks
        rw [upd_same]
        exact (h.rows k hk).sublist (List.eraseIdx_sublist _ _)
      · rw [upd_other _ _ _ hks]
        exact h.rows k hk
    · rw [mem_without, h.mem]
      constructor
      · rintro ⟨⟨k, hk, ht⟩, hne⟩
        by_cases hks : k = s
        · subst hks
          exact ⟨k, hk, by rw [upd_same, hme, hid]; exact ⟨ht, hne⟩⟩
        · exact ⟨k, hk, by rw [upd_other _ _ _ hks]; exact ht⟩
      · rintro ⟨k, hk, ht⟩
        by_cases hks : k = s
        · subst hks
          rw [upd_same, hme, hid] at ht
          exact ⟨⟨k, hk, ht.1⟩, ht.2⟩
        · rw [upd_other _ _ _ hks] at ht
          refine ⟨⟨k, hk, ht⟩, fun e => hks ?_⟩
          have e2 := ids_one h.ids ((h.mem t).2 ⟨k, hk, ht⟩) hxL (e.trans hid.symm)
          subst e2
          have a1 := h.slot k hk _ ht
          have a2 := h.slot s hs _ (List.getElem_mem hi)
          omega
    · symm
      unfold holdsId
      rw [List.any_eq_true]
      exact ⟨_, hxL, by simpa using hid⟩

theorem bCancelI {w : World} {O : Nat → Prop} {g : Nat} {now last : Int} {L : List (Tm Int)} (h : IsWI w O g now last L) (id : Int) (hf : L.length ≤ 1000000) :
    Calls Try.prog 14 #[.pointer (some ⟨g, 0, none⟩), .int .i64 id] w fun e w' => e = .returned (.bool (holdsId id L)) ∧ IsWI w' O g now last (without id L) ∧ Turn w w' O := by
  obtain ⟨ls, h1, r, n0, n1, l0, hi⟩ := h
  refine (cancel_okI h1 id (by rw [r.count]; exact hf)).mono ?_
  rintro e w' ⟨b, ls', rfl, hc, hW, hT⟩
  obtain ⟨r', rfl⟩ := r.cancel hc
  exact ⟨rfl, ⟨ls', hW, r', n0, n1, l0, fun t ht => hi t (mem_without.1 ht).1⟩, hT⟩

theorem wSetI {w : World} {B : Nat} {g : Nat} {now last : Int} {L : List (Tm Int)} (h : IsWI w (fun k => B ≤ k) g now last L) (hB : B ≤ w.heap.size) (due : Int) (x : Int) (hd : 0 ≤ due) (hd1 : due ≤ 9223372036854775807) (hl : last ≤ 1000000) (hf : L.length < 256) (last' : Int) (hl' : last' = last + 1) :
    Calls Try.prog 12 #[.pointer (some ⟨g, 0, none⟩), .int .i64 due, (Value.int .i64) x] w fun e w' => e = .returned (.tuple #[.int .i64 last', .int .i64 0]) ∧ IsWI w' (fun k => B ≤ k) g now last' (L ++ [⟨last', due, x⟩]) ∧ Turn w w' (fun k => B ≤ k) := by
  subst hl'
  exact (bSetI h due x hd hd1 hl hf).mono fun e w' ⟨h1, h2, h3⟩ => ⟨h1, h2.mono (fun j _ hj => more_ge (fun _ h => h) hB j hj), h3⟩
theorem wAdvI {w : World} {B : Nat} {g : Nat} {now last : Int} {L : List (Tm Int)} (h : IsWI w (fun k => B ≤ k) g now last L) (hB : B ≤ w.heap.size) (to_ : Int) (ht1 : to_ ≤ 9223372036854775807) (hf : L.length ≤ 10000) (N : Int) (hN : N = max now to_) (T R : List (Tm Int)) (hT : told N L = T) (hR : rests N L = R) :
    Calls Try.prog 17 #[.pointer (some ⟨g, 0, none⟩), .int .i64 to_] w fun e w' => ∃ v : Value, e = .returned v ∧
      w'.ownsRow w.heap.size 3 1 v T.length (T.map fun t => (Value.int .i64) t.x) ∧ IsWI w' (fun k => B ≤ k) g N last R ∧ Turn w w' (fun k => B ≤ k) := by
  subst hT hR
  exact (bAdvI h to_ ht1 hf N hN).mono fun e w' ⟨v, h1, h2, h3, h4⟩ => ⟨v, h1, h2, h3.mono (fun j _ hj => more_ge (fun _ h => h) hB j hj), h4⟩

theorem wSetS {w : World} {B : Nat} {g : Nat} {now last : Int} {L : List (Tm ByteArray)} (h : IsWS w (fun k => B ≤ k) g now last L) (hB : B ≤ w.heap.size) (due : Int) (x : ByteArray) (hd : 0 ≤ due) (hd1 : due ≤ 9223372036854775807) (hl : last ≤ 1000000) (hf : L.length < 256) (last' : Int) (hl' : last' = last + 1) :
    Calls Try.prog 33 #[.pointer (some ⟨g, 0, none⟩), .int .i64 due, Value.string x] w fun e w' => e = .returned (.tuple #[.int .i64 last', .int .i64 0]) ∧ IsWS w' (fun k => B ≤ k) g now last' (L ++ [⟨last', due, x⟩]) ∧ Turn w w' (fun k => B ≤ k) := by
  subst hl'
  exact (bSetS h due x hd hd1 hl hf).mono fun e w' ⟨h1, h2, h3⟩ => ⟨h1, h2.mono (fun j _ hj => more_ge (fun _ h => h) hB j hj), h3⟩
theorem wAdvS {w : World} {B : Nat} {g : Nat} {now last : Int} {L : List (Tm ByteArray)} (h : IsWS w (fun k => B ≤ k) g now last L) (hB : B ≤ w.heap.size) (to_ : Int) (ht1 : to_ ≤ 9223372036854775807) (hf : L.length ≤ 10000) (N : Int) (hN : N = max now to_) (T R : List (Tm ByteArray)) (hT : told N L = T) (hR : rests N L = R) :
    Calls Try.prog 34 #[.pointer (some ⟨g, 0, none⟩), .int .i64 to_] w fun e w' => ∃ v : Value, e = .returned v ∧
      w'.ownsRow w.heap.size 9 1 v T.length (T.map fun t => Value.string t.x) ∧ IsWS w' (fun k => B ≤ k) g N last R ∧ Turn w w' (fun k => B ≤ k) := by
  subst hT hR
  exact (bAdvS h to_ ht1 hf N hN).mono fun e w' ⟨v, h1, h2, h3, h4⟩ => ⟨v, h1, h2, h3.mono (fun j _ hj => more_ge (fun _ h => h) hB j hj), h4⟩

end Go.Proofs.Ytbbmfgeagdblcaa
