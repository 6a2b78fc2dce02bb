/-
  The document's queue of layer 2 as a value: its chains in memory, and the contract of its free descriptors. Conditions: at most 64 entries; the lists are no longer than an int can tell.
-/
import Derived.Test.YtmlicejhkdkhnaaRefTwo
import Derived.WalkSmall
namespace Go.Proofs.Ytmlicejhkdkhnaa
open Go.RowKit Go.Sort

/-- The slice reads as these ints. -/
def IsInts (w : World) (v : Value) (l : List Int) : Prop :=
  ∃ (p : Option Addr) (cap : Nat), v = .slice p l.length cap ∧ l.length ≤ 1000 ∧ (0 < l.length → ∃ b o, p = some ⟨b, o, none⟩ ∧ ∀ (i : Nat) (h : i < l.length), w.cell? ⟨b, o + i, none⟩ = some (.int .i64 l[i]))

/-- A chain that is out. -/
structure Ch where
  head : Int
  of : List Int
  most : Int

/-- The chain's three cells lie from o on in block b. -/
def ChAt (w : World) (b o : Nat) (c : Ch) : Prop :=
  ∃ v, w.cell? ⟨b, o, none⟩ = some (.int .i64 c.head) ∧ w.cell? ⟨b, o + 1, none⟩ = some v ∧ w.cell? ⟨b, o + 2, none⟩ = some (.int .i64 c.most) ∧ IsInts w v c.of

/-- The slice reads as these chains. -/
def IsChs (w : World) (v : Value) (l : List Ch) : Prop :=
  ∃ (p : Option Addr) (cap : Nat), v = .slice p l.length cap ∧ l.length ≤ 1000 ∧ (0 < l.length → ∃ b o, p = some ⟨b, o, none⟩ ∧ ∀ (i : Nat) (h : i < l.length), ChAt w b (o + i * 3) l[i])

theorem IsInts.kept {w w' : World} {v : Value} {l : List Int} (h : IsInts w v l) (k : ∀ a, (w.cell? a).isSome → w'.cell? a = w.cell? a) : IsInts w' v l := by
  obtain ⟨p, cap, rfl, hl, hc⟩ := h
  refine ⟨p, cap, rfl, hl, fun hp => ?_⟩
  obtain ⟨b, o, rfl, hi⟩ := hc hp
  exact ⟨b, o, rfl, fun i h => by rw [k _ (by rw [hi i h]; rfl)]; exact hi i h⟩
theorem ChAt.kept {w w' : World} {b o : Nat} {c : Ch} (h : ChAt w b o c) (k : ∀ a, (w.cell? a).isSome → w'.cell? a = w.cell? a) : ChAt w' b o c := by
  obtain ⟨v, h1, h2, h3, h4⟩ := h
  exact ⟨v, by rw [k _ (by rw [h1]; rfl)]; exact h1, by rw [k _ (by rw [h2]; rfl)]; exact h2, by rw [k _ (by rw [h3]; rfl)]; exact h3, h4.kept k⟩
theorem IsChs.kept {w w' : World} {v : Value} {l : List Ch} (h : IsChs w v l) (k : ∀ a, (w.cell? a).isSome → w'.cell? a = w.cell? a) : IsChs w' v l := by
  obtain ⟨p, cap, rfl, hl, hc⟩ := h
  refine ⟨p, cap, rfl, hl, fun hp => ?_⟩
  obtain ⟨b, o, rfl, hi⟩ := hc hp
  exact ⟨b, o, rfl, fun i h => (hi i h).kept k⟩

theorem kept_grown {w w' : World} (k : w.grownBy w' none) : ∀ a, (w.cell? a).isSome → w'.cell? a = w.cell? a := fun a h => by
  obtain ⟨u, hu⟩ := Option.isSome_iff_exists.1 h
  exact World.cell?_of_block (k.block a.block (World.block_lt_of_cell? w a hu) (by simp))

/-- Is descriptor i taken? -/
def takenBy (l : List Ch) (i : Int) : Bool := l.any fun c => c.of.any (· == i)
/-- The free descriptors. -/
def freeL (l : List Ch) (n : Nat) : List Int := ((List.range n).filter fun (i : Nat) => !takenBy l i).map fun (i : Nat) => (i : Int)

theorem any_take_succ {α : Type} (l : List α) (p : α → Bool) (k : Nat) (a : α) (h : l[k]? = some a) : (l.take (k + 1)).any p = ((l.take k).any p || p a) := by
  rw [List.take_add_one, h]
  simp
theorem freeL_succ (l : List Ch) (n : Nat) : freeL l (n + 1) = freeL l n ++ if takenBy l n then [] else [(n : Int)] := by
  unfold freeL
  rw [List.range_succ, List.filter_append, List.map_append]
  cases h : takenBy l n <;> simp [h]
theorem freeL_le (l : List Ch) (n : Nat) : (freeL l n).length ≤ n := by
  unfold freeL
  rw [List.length_map]
  exact Nat.le_trans (List.length_filter_le _ _) (by simp)

/-- The document's queue as a value. -/
def queueV (base n : Int) (v : Value) (told back : Int) (broken : Bool) : Value := .agg #[.int .i64 base, .int .i64 n, v, .int .i64 told, .int .i64 back, .bool broken]

theorem info_int : (Try.prog.info? 3).map (fun i => (i.zero, i.size, i.bytes)) = some (some (.int .i64 0), 1, 8) := by kernel_rfl

theorem IsChs.at_ {w : World} {p : Option Addr} {cap : Nat} {l : List Ch} (h : IsChs w (.slice p l.length cap) l) (i : Nat) (hi : i < l.length) :
    ∃ b o c q m, p = some ⟨b, o, none⟩ ∧ l[i]? = some c ∧ w.cell? ⟨b, o + i * 3 + 1, none⟩ = some (.slice q c.of.length m) ∧ IsInts w (.slice q c.of.length m) c.of := by
  obtain ⟨p', cap', e, hl, hc⟩ := h
  injection e with e1 e2 e3
  subst e1
  obtain ⟨b, o, rfl, hi'⟩ := hc (by omega)
  obtain ⟨v, h1, h2, h3, h4⟩ := hi' i hi
  have h5 := h4
  obtain ⟨q, m, rfl, _⟩ := h5
  exact ⟨b, o, l[i], q, m, rfl, List.getElem?_eq_getElem hi, h2, h4⟩
theorem IsInts.at_ {w : World} {p : Option Addr} {cap : Nat} {l : List Int} (h : IsInts w (.slice p l.length cap) l) (i : Nat) (hi : i < l.length) :
    ∃ b o x, p = some ⟨b, o, none⟩ ∧ l[i]? = some x ∧ w.cell? ⟨b, o + i, none⟩ = some (.int .i64 x) := by
  obtain ⟨p', cap', e, hl, hc⟩ := h
  injection e with e1 e2 e3
  subst e1
  obtain ⟨b, o, rfl, hi'⟩ := hc (by omega)
  exact ⟨b, o, l[i], rfl, List.getElem?_eq_getElem hi, hi' i hi⟩
theorem IsInts.le {w : World} {v : Value} {l : List Int} (h : IsInts w v l) : l.length ≤ 1000 := by obtain ⟨_, _, _, h, _⟩ := h; exact h

theorem own_ge {w : World} {base : Nat} {e : TypeId} {size : Nat} {v : Value} {n : Nat} {xs : List Value} (h : w.ownsRow base e size v n xs) : ∀ j, v.ownBlock = some j → base ≤ j := by
  intro j hj
  rcases h.2 with ⟨rfl, _⟩ | ⟨g, cap, cur, rfl, hg, _⟩
  · simp [Value.ownBlock] at hj
  · have : g = j := by simpa [Value.ownBlock] using hj
    omega

theorem ints_of_own {w : World} {base : Nat} {e : TypeId} {v : Value} {l : List Int} (h : w.ownsRow base e 1 v l.length (l.map (Value.int .i64))) (hl : l.length ≤ 1000) : IsInts w v l := by
  rcases h.2 with ⟨rfl, h0⟩ | ⟨g, cap, cur, rfl, _⟩
  · exact ⟨none, 0, by rw [h0], hl, fun hp => absurd hp (by omega)⟩
  · refine ⟨some ⟨g, 0, none⟩, cap, rfl, hl, fun _ => ⟨g, 0, rfl, fun i hi => ?_⟩⟩
    rw [Nat.zero_add, h.cellAt i (by omega), List.getElem?_map, List.getElem?_eq_getElem hi]
    rfl



end Go.Proofs.Ytmlicejhkdkhnaa
