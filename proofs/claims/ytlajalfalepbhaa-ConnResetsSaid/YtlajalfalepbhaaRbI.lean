/-
  Layer 12: what comes of a stream's pieces, and of two texts at one place, as mathematics. Conditions: as said.
-/
import Derived.Test.YtlajalfalepbhaaRbG
namespace Go.Proofs.Ytlajalfalepbhaa
open Go.RowKit
set_option linter.unusedVariables false

theorem heldW_append (A B : List (Option UInt8)) : heldW (A ++ B) = heldW A + heldW B := by simp [heldW]
theorem heldW_nones (k : Nat) : heldW (List.replicate k none) = 0 := by simp [heldW]
theorem heldW_somes (c : List UInt8) : heldW (c.map some) = c.length := by
  induction c with
  | nil => rfl
  | cons x c ih => simp only [List.map_cons, heldW, List.filter_cons_of_pos (p := Option.isSome) (a := some x) rfl, List.length_cons] at ih ⊢; rw [ih]
theorem runW_somes (c : List UInt8) (k : Nat) : runW (c.map some ++ List.replicate k none) = c.length := by
  refine runW_spec _ _ (fun j hj => ?_) ?_ (by simp)
  · exact ⟨c[j], by rw [List.getElem?_append_left (by simpa using hj), List.getElem?_map, List.getElem?_eq_getElem hj]; rfl⟩
  · rw [List.getElem?_append_right (by simp), List.length_map, Nat.sub_self]
    cases k with
    | zero => exact .inr rfl
    | succ k => exact .inl rfl
theorem gotW_somes (c : List UInt8) (k : Nat) : gotW (c.map some ++ List.replicate k none) = c := by
  unfold gotW
  rw [runW_somes, List.take_left' (by simp), List.map_map]
  exact List.map_id'' (fun x => rfl) c
/-- k free places, these bytes, free places up to k + m. -/
def padW (k : Nat) (c : List UInt8) (m : Nat) : List (Option UInt8) := List.replicate k none ++ (c.map some ++ List.replicate (m - c.length) none)
theorem padW_len {k m : Nat} {c : List UInt8} (h : c.length ≤ m) : (padW k c m).length = k + m := by simp [padW]; omega
theorem padW_get {k m : Nat} {c : List UInt8} (h : c.length ≤ m) {j : Nat} (hj : j < k + m) : (padW k c m)[j]? = some (if j < k then none else c[j - k]?) := by
  unfold padW
  by_cases h1 : j < k
  · rw [List.getElem?_append_left (by simpa using h1), if_pos h1, List.getElem?_replicate, if_pos h1]
  · rw [List.getElem?_append_right (by simpa using h1), if_neg h1, List.length_replicate]
    by_cases h2 : j - k < c.length
    · rw [List.getElem?_append_left (by simpa using h2), List.getElem?_map, List.getElem?_eq_getElem h2]; rfl
    · rw [List.getElem?_append_right (by simpa using h2), List.length_map, List.getElem?_replicate, if_pos (by omega), List.getElem?_eq_none (by omega)]
theorem padW_held {k m : Nat} {c : List UInt8} : heldW (padW k c m) = c.length := by simp [padW, heldW_append, heldW_nones, heldW_somes]
theorem padW_run {k m : Nat} {c : List UInt8} (hk : 1 ≤ k) : runW (padW k c m) = 0 := by
  obtain ⟨k, rfl⟩ : ∃ i, k = i + 1 := ⟨k - 1, by omega⟩
  exact runW_gap _
theorem padW_got {k m : Nat} {c : List UInt8} (hk : 1 ≤ k) : gotW (padW k c m) = [] := by
  unfold gotW
  rw [padW_run hk]
  rfl
/-- What comes k behind next is held there, but where there is something. -/
theorem hold_pad {nx : Int} {k m : Nat} (h0 : 0 ≤ nx ∧ nx < 4294967296) (hk : k + m ≤ 300) {c b : List UInt8} (hc : c.length ≤ m) (hb : b.length ≤ 300) :
    holdW nx ((nx + k) % 4294967296) b (padW k c m) = padW k ((c ++ b.drop c.length).take m) m := by
  have hl : ((c ++ b.drop c.length).take m).length ≤ m := List.length_take_le _ _
  apply List.ext_getElem?
  intro j
  rw [holdW_get]
  by_cases hj : j < k + m
  · rw [padW_get hc hj, padW_get hl hj, Option.map_some]
    congr 1
    by_cases h1 : j < k
    · rw [if_pos h1, if_pos h1, Option.none_or]
      refine List.getElem?_eq_none ?_
      unfold idxN
      omega
    · rw [if_neg h1, if_neg h1, show idxN nx ((nx + k) % 4294967296) j = j - k by unfold idxN; omega, List.getElem?_take, if_pos (by omega)]
      by_cases h2 : j - k < c.length
      · rw [List.getElem?_append_left h2, List.getElem?_eq_getElem h2, Option.some_or]
      · rw [List.getElem?_append_right (by omega), List.getElem?_eq_none (l := c) (by omega), Option.none_or, List.getElem?_drop]
        congr 1
        omega
  · rw [List.getElem?_eq_none (l := padW k c m) (by rw [padW_len hc]; omega), List.getElem?_eq_none (l := padW k _ m) (by rw [padW_len hl]; omega)]
    rfl
theorem pad_none (n k : Nat) (h : k ≤ n) : List.replicate n (none : Option UInt8) = padW k [] (n - k) := by
  unfold padW
  simp only [List.map_nil, List.nil_append, List.length_nil, Nat.sub_zero, List.replicate_append_replicate]
  congr 1
  omega
theorem hold_fill {nx : Int} {k m : Nat} (h0 : 0 ≤ nx ∧ nx < 4294967296) (hk : k + m ≤ 300) {c : List UInt8} (hc : c.length ≤ m) :
    holdW nx nx (List.replicate k 0) (padW k c m) = (List.replicate k 0 ++ c).map some ++ List.replicate (m - c.length) none := by
  apply List.ext_getElem?
  intro j
  rw [holdW_get]
  by_cases hj : j < k + m
  · rw [padW_get hc hj, Option.map_some, show idxN nx nx j = j by unfold idxN; omega, List.getElem?_replicate]
    by_cases h1 : j < k
    · rw [if_pos h1, if_pos h1, Option.none_or, List.getElem?_append_left (by simp; omega), List.getElem?_map, List.getElem?_append_left (by simpa using h1), List.getElem?_replicate, if_pos h1]
      rfl
    · rw [if_neg h1, if_neg h1, Option.or_none]
      by_cases h2 : j - k < c.length
      · rw [List.getElem?_append_left (by simp; omega), List.getElem?_map, List.getElem?_append_right (by simpa using h1), List.length_replicate, List.getElem?_eq_getElem h2]
        rfl
      · rw [List.getElem?_append_right (by simp; omega), List.getElem?_replicate, if_pos (by simp; omega), List.getElem?_eq_none (by omega)]
  · rw [List.getElem?_eq_none (l := padW k c m) (by rw [padW_len hc]; omega)]
    exact (List.getElem?_eq_none (by simp; omega)).symm

/-- What has been read of a stream and what a buffer has of it: the first g bytes are read. -/
structure Stm (S : List UInt8) (nx0 : Int) (n g : Nat) (nx : Int) (R : List UInt8) (W : List (Option UInt8)) : Prop where
  nx : nx = (nx0 + ((g + R.length : Nat) : Int)) % 4294967296
  rd : R = (S.drop g).take R.length
  le : g + R.length ≤ S.length
  wd : ∀ (j : Nat) (x : UInt8), W[j]? = some (some x) → S[g + R.length + j]? = some x
  ln : R.length + W.length = n
section
variable {S : List UInt8} {nx0 : Int} {n g : Nat} {nx : Int} {R : List UInt8} {W : List (Option UInt8)}
theorem Stm.start (S : List UInt8) (nx0 : Int) (n : Nat) (h : 0 ≤ nx0 ∧ nx0 < 4294967296) : Stm S nx0 n 0 nx0 [] (List.replicate n none) :=
  ⟨by simp; omega, rfl, Nat.zero_le _, fun j x hx => by rw [List.getElem?_replicate] at hx; split at hx <;> simp at hx, by simp⟩
/-- Where a window that holds what the stream has is settled. -/
theorem Stm.settled (h : Stm S nx0 n g nx R W) {V : List (Option UInt8)} (hv : V.length = W.length) (hw : ∀ (j : Nat) (x : UInt8), V[j]? = some (some x) → S[g + R.length + j]? = some x) :
    Stm S nx0 n g ((nx + runW V) % 4294967296) (R ++ gotW V) (V.drop (runW V)) := by
  have hr := runW_le V
  have hg := gotW_len V
  have hgx : ∀ j, j < runW V → S[g + R.length + j]? = (gotW V)[j]? := fun j hj => by
    obtain ⟨x, hx⟩ := runW_some V j hj
    rw [hw j x hx]
    unfold gotW
    rw [List.getElem?_map, List.getElem?_take, if_pos hj, hx]
    rfl
  have hle := h.le
  have hln := h.ln
  have hle2 : g + R.length + runW V ≤ S.length := by
    by_cases h0 : runW V = 0
    · omega
    · obtain ⟨x, hx⟩ := runW_some V (runW V - 1) (by omega)
      have := (List.getElem?_eq_some_iff.1 (hw _ x hx)).1
      omega
  refine ⟨?_, ?_, by rw [List.length_append, hg]; omega, fun j x hx => ?_, by rw [List.length_append, hg, List.length_drop]; omega⟩
  · rw [h.nx, List.length_append, hg]
    omega
  · rw [List.length_append, hg]
    apply List.ext_getElem?
    intro j
    rw [List.getElem?_take, List.getElem?_drop]
    by_cases h1 : j < R.length
    · rw [List.getElem?_append_left h1, if_pos (by omega)]
      have := congrArg (fun l => l[j]?) h.rd
      simp only [List.getElem?_take, List.getElem?_drop] at this
      rw [this, if_pos h1]
    · rw [List.getElem?_append_right (by omega)]
      by_cases h2 : j < R.length + runW V
      · rw [if_pos h2, ← hgx _ (by omega)]
        congr 1
        omega
      · rw [if_neg h2, List.getElem?_eq_none (by rw [hg]; omega)]
  · rw [List.getElem?_drop] at hx
    rw [List.length_append, hg]
    have := hw _ x hx
    rw [← this]
    congr 1
    omega
/-- A piece of the stream is put. -/
theorem Stm.put (h : Stm S nx0 n g nx R W) (h0 : 0 ≤ nx0 ∧ nx0 < 4294967296) (hS : S.length ≤ 3000) (hn : n ≤ 300) {a k : Nat} (ha : a ≤ S.length) (V : List (Option UInt8)) (hV : V = holdW nx ((nx0 + a) % 4294967296) ((S.drop a).take k) W) :
    V.length = W.length ∧ ∀ (j : Nat) (x : UInt8), V[j]? = some (some x) → S[g + R.length + j]? = some x := by
  subst hV
  refine ⟨holdW_len _ _ _ _, fun j x hx => ?_⟩
  have hj : j < W.length := by have := (List.getElem?_eq_some_iff.1 hx).1; rwa [holdW_len] at this
  have hle := h.le
  have hln := h.ln
  rw [holdW_get, List.getElem?_eq_getElem hj, Option.map_some] at hx
  injection hx with hx
  cases hw : W[j] with
  | some y =>
    rw [hw, Option.some_or] at hx
    rw [← hx]
    exact h.wd j y (by rw [List.getElem?_eq_getElem hj, hw])
  | none =>
    rw [hw, Option.none_or, List.getElem?_take] at hx
    by_cases hk : idxN nx ((nx0 + a) % 4294967296) j < k
    · rw [if_pos hk, List.getElem?_drop] at hx
      have hlt := (List.getElem?_eq_some_iff.1 hx).1
      rw [← hx]
      congr 1
      have hx2 := h.nx
      unfold idxN at hlt ⊢
      omega
    · rw [if_neg hk] at hx
      cases hx
/-- The piece from what lacks on: something becomes ready, if there is room. -/
theorem Stm.more (h : Stm S nx0 n g nx R W) (h0 : 0 ≤ nx0 ∧ nx0 < 4294967296) (hW : 0 < W.length) (hl : g + R.length < S.length) (V : List (Option UInt8)) (hV : V = holdW nx ((nx0 + ((g + R.length : Nat) : Int)) % 4294967296) (S.drop (g + R.length)) W) : 1 ≤ runW V := by
  subst hV
  have e : idxN nx ((nx0 + ((g + R.length : Nat) : Int)) % 4294967296) 0 = 0 := by
    have hx2 := h.nx
    unfold idxN
    omega
  have h1 : (holdW nx ((nx0 + ((g + R.length : Nat) : Int)) % 4294967296) (S.drop (g + R.length)) W)[0]? = some (some ((W[0]).getD S[g + R.length])) := by
    rw [holdW_get, List.getElem?_eq_getElem hW, Option.map_some, e, List.getElem?_drop, Nat.add_zero, List.getElem?_eq_getElem hl]
    cases W[0] <;> rfl
  rcases Nat.eq_zero_or_pos (runW (holdW nx ((nx0 + ((g + R.length : Nat) : Int)) % 4294967296) (S.drop (g + R.length)) W)) with h2 | h2
  · rcases runW_end (holdW nx ((nx0 + ((g + R.length : Nat) : Int)) % 4294967296) (S.drop (g + R.length)) W) with h3 | h3 <;> rw [h2, h1] at h3 <;> simp at h3
  · exact h2
/-- What is ready is read. -/
theorem Stm.read (h : Stm S nx0 n g nx R W) {K : Nat} (hK : K ≤ R.length) : Stm S nx0 n (g + K) nx (R.drop K) (W ++ List.replicate K none) := by
  have hle := h.le
  have hln := h.ln
  have e : g + K + (R.length - K) = g + R.length := by omega
  refine ⟨?_, ?_, by rw [List.length_drop]; omega, fun j x hx => ?_, by simp; omega⟩
  · rw [List.length_drop, e]; exact h.nx
  · conv => lhs; rw [h.rd]
    rw [List.drop_take, List.drop_drop, List.length_drop]
  · rw [List.length_drop, e]
    by_cases hj : j < W.length
    · rw [List.getElem?_append_left hj] at hx
      exact h.wd j x hx
    · rw [List.getElem?_append_right (by omega), List.getElem?_replicate] at hx
      split at hx <;> simp at hx
theorem Stm.got (h : Stm S nx0 n g nx R W) {K : Nat} (hK : K ≤ R.length) : S.take g ++ R.take K = S.take (g + K) := by
  have hle := h.le
  rw [h.rd, List.take_take, Nat.min_eq_left hK, List.take_add]
/-- All of it is read: nothing is held. -/
theorem Stm.all (h : Stm S nx0 n S.length nx [] W) : heldW W = 0 := by
  unfold heldW
  rw [List.length_eq_zero_iff, List.filter_eq_nil_iff]
  intro o ho hs
  obtain ⟨j, hj, rfl⟩ := List.getElem_of_mem ho
  cases hw : W[j] with
  | none => rw [hw] at hs; cases hs
  | some x =>
    have := h.wd j x (by rw [List.getElem?_eq_getElem hj, hw])
    rw [List.getElem?_eq_none (by simp)] at this
    cases this
end
end Go.Proofs.Ytlajalfalepbhaa
