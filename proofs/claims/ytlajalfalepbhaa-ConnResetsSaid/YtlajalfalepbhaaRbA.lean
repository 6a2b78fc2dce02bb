/-
  Layer 12, what came of a stream, as mathematics: a buffer's places behind those that are ready, what data makes of them, how many become ready; the bytes that a document's buffer holds, by their numbers. Conditions: as said.
-/
import Derived.Test.YtlajalfalepbhaaSqA
import Derived.Test.YtlajalfalepbhaaRowsA
namespace Go.Proofs.Ytlajalfalepbhaa
open Go.RowKit
set_option linter.unusedVariables false

/-- How far from the number s on the number stands that is j behind nx. -/
def idxN (nx s : Int) (j : Nat) : Nat := ((nx + j - s) % 4294967296).toNat
/-- The places of a window that begins at nx, behind data whose first byte has the number s. -/
def holdW (nx s : Int) (d : List UInt8) (W : List (Option UInt8)) : List (Option UInt8) := W.mapIdx fun j o => o.or d[idxN nx s j]?
theorem holdW_len (nx s : Int) (d : List UInt8) (W : List (Option UInt8)) : (holdW nx s d W).length = W.length := by simp [holdW]
theorem holdW_get (nx s : Int) (d : List UInt8) (W : List (Option UInt8)) (j : Nat) : (holdW nx s d W)[j]? = W[j]?.map fun o => o.or d[idxN nx s j]? := by simp [holdW, List.getElem?_mapIdx]
theorem holdW_nil (nx s : Int) (W : List (Option UInt8)) : holdW nx s [] W = W := by
  apply List.ext_getElem?
  intro j
  rw [holdW_get]
  cases W[j]? with
  | none => rfl
  | some o => cases o <;> rfl
section
variable {nx s : Int} {d : List UInt8} {W : List (Option UInt8)} {k : Nat}
theorem idxN_eq (hk : k < 4294967296) {j : Nat} (hj : j < 4294967296) : idxN nx s j = k ↔ ahN nx ((s + k) % 4294967296) = j := by
  unfold idxN ahN
  omega
theorem take_get_ne {d : List UInt8} {k i : Nat} (h : i ≠ k) : (d.take (k + 1))[i]? = (d.take k)[i]? := by
  rw [List.getElem?_take, List.getElem?_take]
  by_cases h1 : i < k
  · rw [if_pos h1, if_pos (by omega)]
  · rw [if_neg h1, if_neg (by omega)]
/-- One byte more, outside of the window. -/
theorem holdW_out (hk : k < 65536) (hW : W.length ≤ 4294967296) (h : ¬ ahN nx ((s + k) % 4294967296) < W.length) : holdW nx s (d.take (k + 1)) W = holdW nx s (d.take k) W := by
  apply List.ext_getElem?
  intro j
  rw [holdW_get, holdW_get]
  by_cases hj : j < W.length
  · rw [take_get_ne (fun e => h (by rw [(idxN_eq (by omega) (by omega)).1 e]; omega))]
  · rw [List.getElem?_eq_none (l := W) (by omega)]
    rfl
/-- One byte more, whose place holds one already. -/
theorem holdW_there {j : Nat} {x : UInt8} (hk : k < 65536) (hW : W.length ≤ 4294967296) (he : ahN nx ((s + k) % 4294967296) = j) (hj : (holdW nx s (d.take k) W)[j]? = some (some x)) : holdW nx s (d.take (k + 1)) W = holdW nx s (d.take k) W := by
  have hjl : j < W.length := by have := (List.getElem?_eq_some_iff.1 hj).1; rwa [holdW_len] at this
  have hi : idxN nx s j = k := (idxN_eq (by omega) (by omega)).2 he
  apply List.ext_getElem?
  intro i
  by_cases hil : i < W.length
  · by_cases e : i = j
    · subst e
      rw [hj, holdW_get]
      rw [holdW_get] at hj
      rw [List.getElem?_eq_getElem hil] at hj ⊢
      rw [hi, List.getElem?_take, if_neg (by omega), Option.map_some, Option.or_none] at hj
      rw [Option.map_some]
      injection hj with hj
      rw [hj, Option.some_or]
    · rw [holdW_get, holdW_get, take_get_ne (fun e2 => e (by have := (idxN_eq (s := s) (nx := nx) (by omega) (by omega)).1 e2; omega))]
  · rw [holdW_get, holdW_get, List.getElem?_eq_none (l := W) (by omega)]
    rfl
/-- One byte more, whose place is free. -/
theorem holdW_new {j : Nat} {x : UInt8} (hk : k < 65536) (hW : W.length ≤ 4294967296) (hx : d[k]? = some x) (he : ahN nx ((s + k) % 4294967296) = j) (hj : (holdW nx s (d.take k) W)[j]? = some none) : holdW nx s (d.take (k + 1)) W = (holdW nx s (d.take k) W).set j (some x) := by
  have hjl : j < W.length := by have := (List.getElem?_eq_some_iff.1 hj).1; rwa [holdW_len] at this
  have hi : idxN nx s j = k := (idxN_eq (by omega) (by omega)).2 he
  apply List.ext_getElem?
  intro i
  by_cases hil : i < W.length
  · by_cases e : i = j
    · subst e
      rw [List.getElem?_set_self (by rw [holdW_len]; omega), holdW_get]
      rw [holdW_get] at hj
      rw [List.getElem?_eq_getElem hil] at hj ⊢
      rw [hi, List.getElem?_take, if_neg (by omega), Option.map_some, Option.or_none] at hj
      rw [Option.map_some]
      injection hj with hj
      rw [hj, Option.none_or, hi, List.getElem?_take, if_pos (by omega), hx]
    · rw [List.getElem?_set_ne (fun e2 => e e2.symm), holdW_get, holdW_get, take_get_ne (fun e2 => e (by have := (idxN_eq (s := s) (nx := nx) (by omega) (by omega)).1 e2; omega))]
  · rw [List.getElem?_eq_none (by rw [holdW_len]; omega), List.getElem?_eq_none (by rw [List.length_set, holdW_len]; omega)]
end

/-- How many bytes stand without a gap at the window's beginning; which they are; how many are held. -/
def runW (W : List (Option UInt8)) : Nat := (W.takeWhile Option.isSome).length
def gotW (W : List (Option UInt8)) : List UInt8 := (W.take (runW W)).map fun o => o.getD 0
def heldW (W : List (Option UInt8)) : Nat := (W.filter Option.isSome).length
theorem runW_le : ∀ W : List (Option UInt8), runW W ≤ W.length
  | [] => Nat.le_refl _
  | o :: W => by
    have := runW_le W
    unfold runW at this ⊢
    cases o with
    | none => simp
    | some x => simpa using this
theorem runW_cons (x : UInt8) (W : List (Option UInt8)) : runW (some x :: W) = runW W + 1 := by simp [runW]
theorem runW_gap (W : List (Option UInt8)) : runW (none :: W) = 0 := by simp [runW]
/-- What has k bytes at its beginning, and a gap or nothing behind them. -/
theorem runW_spec : ∀ (W : List (Option UInt8)) (k : Nat), (∀ j, j < k → ∃ x, W[j]? = some (some x)) → (W[k]? = some none ∨ W[k]? = none) → k ≤ W.length → runW W = k
  | [], k, _, _, hk => by simp at hk; subst hk; rfl
  | o :: W, 0, _, h2, _ => by
    rcases h2 with h2 | h2
    · simp at h2; subst h2; exact runW_gap W
    · simp at h2
  | o :: W, k + 1, h1, h2, hk => by
    obtain ⟨x, hx⟩ := h1 0 (by omega)
    simp at hx
    subst hx
    rw [runW_cons, runW_spec W k (fun j hj => by simpa using h1 (j + 1) (by omega)) (by simpa using h2) (by simpa using hk)]
theorem runW_some : ∀ (W : List (Option UInt8)) (j : Nat), j < runW W → ∃ x, W[j]? = some (some x)
  | [], j, h => by simp [runW] at h
  | none :: W, j, h => by rw [runW_gap] at h; omega
  | some x :: W, 0, _ => ⟨x, rfl⟩
  | some x :: W, j + 1, h => by
    rw [runW_cons] at h
    simpa using runW_some W j (by omega)
theorem runW_end (W : List (Option UInt8)) : W[runW W]? = some none ∨ W[runW W]? = none := by
  induction W with
  | nil => exact .inr rfl
  | cons o W ih =>
    cases o with
    | none => left; rw [runW_gap]; rfl
    | some x => rw [runW_cons]; simpa using ih
theorem gotW_len (W : List (Option UInt8)) : (gotW W).length = runW W := by have := runW_le W; simp [gotW]; omega
theorem gotW_some (W : List (Option UInt8)) : (gotW W).map some = W.take (runW W) := by
  unfold gotW
  rw [List.map_map]
  apply List.ext_getElem?
  intro j
  rw [List.getElem?_map, List.getElem?_take]
  by_cases hj : j < runW W
  · rw [if_pos hj]
    obtain ⟨x, hx⟩ := runW_some W j hj
    rw [hx]
    rfl
  · rw [if_neg hj]
    rfl
/-- All places, ready ones first: those that became ready stay where they are. -/
theorem got_places (R : List UInt8) (W : List (Option UInt8)) : (R ++ gotW W).map some ++ W.drop (runW W) = R.map some ++ W := by
  rw [List.map_append, gotW_some, List.append_assoc, List.take_append_drop]
theorem got_k {W : List (Option UInt8)} {k : Nat} (hk : k ≤ runW W) : ((gotW W).take k).map some = W.take k := by
  rw [List.map_take, gotW_some, List.take_take, Nat.min_eq_left hk]
theorem gotW_cons (x : UInt8) (W : List (Option UInt8)) : gotW (some x :: W) = x :: gotW W := by simp [gotW, runW_cons]
theorem gotW_gap (W : List (Option UInt8)) : gotW (none :: W) = [] := by simp [gotW, runW_gap]
theorem heldW_le (W : List (Option UInt8)) : heldW W ≤ W.length := List.length_filter_le _ _
theorem heldW_take {W : List (Option UInt8)} {k : Nat} (hk : k < W.length) : heldW (W.take (k + 1)) = heldW (W.take k) + (if W[k].isSome then 1 else 0) := by
  unfold heldW
  rw [List.take_succ_eq_append_getElem hk, List.filter_append, List.length_append]
  congr 1
  by_cases h : W[k].isSome = true
  · rw [List.filter_cons_of_pos h, if_pos h]; rfl
  · rw [List.filter_cons_of_neg h, if_neg h]; rfl

/- The bytes that a window holds, by their numbers. -/
structure Hb where
  at_ : Int
  x : UInt8
  deriving DecidableEq
def encB (y : Hb) : List Value := [.int .u32 y.at_, .int .u8 (y.x.toNat : Int)]
theorem encB_len (y : Hb) : (encB y).length = 2 := rfl
theorem encB_one (y : Hb) : ∀ u ∈ encB y, u.oneCell' = true := by
  intro u hu
  simp only [encB, List.mem_cons, List.not_mem_nil, or_false] at hu
  rcases hu with rfl | rfl <;> rfl
def numsW (nx : Int) : List (Option UInt8) → List Hb
  | [] => []
  | none :: W => numsW ((nx + 1) % 4294967296) W
  | some x :: W => ⟨nx, x⟩ :: numsW ((nx + 1) % 4294967296) W
theorem numsW_len (nx : Int) (W : List (Option UInt8)) : (numsW nx W).length = heldW W := by
  induction W generalizing nx with
  | nil => rfl
  | cons o W ih =>
    cases o with
    | none => simp only [numsW, ih]; simp [heldW]
    | some x => simp only [numsW, List.length_cons, ih]; simp [heldW]
/-- A number is held just where its place holds a byte. -/
theorem mem_numsW {nx : Int} (h0 : 0 ≤ nx) (h1 : nx < 4294967296) {W : List (Option UInt8)} (hW : W.length ≤ 4294967296) (a : Int) (x : UInt8) (ha : 0 ≤ a ∧ a < 4294967296) :
    (⟨a, x⟩ : Hb) ∈ numsW nx W ↔ ∃ j : Nat, ahN nx a = j ∧ W[j]? = some (some x) := by
  induction W generalizing nx with
  | nil => simp [numsW]
  | cons o W ih =>
    have hW' : W.length < 4294967296 := by simp at hW; omega
    have ih' := ih (nx := (nx + 1) % 4294967296) (by omega) (by omega) (by omega)
    have tail : (∃ j : Nat, ahN ((nx + 1) % 4294967296) a = j ∧ W[j]? = some (some x)) ↔ ∃ j : Nat, ahN nx a = (j + 1 : Nat) ∧ (o :: W)[j + 1]? = some (some x) := by
      constructor
      · rintro ⟨j, h2, h3⟩
        have hj : j < W.length := (List.getElem?_eq_some_iff.1 h3).1
        refine ⟨j, ?_, by simpa using h3⟩
        unfold ahN at h2 ⊢
        omega
      · rintro ⟨j, h2, h3⟩
        refine ⟨j, ?_, by simpa using h3⟩
        unfold ahN at h2 ⊢
        omega
    have both : (∃ j : Nat, ahN nx a = j ∧ (o :: W)[j]? = some (some x)) ↔ (a = nx ∧ o = some x) ∨ ∃ j : Nat, ahN nx a = (j + 1 : Nat) ∧ (o :: W)[j + 1]? = some (some x) := by
      constructor
      · rintro ⟨j, h2, h3⟩
        cases j with
        | zero =>
          left
          unfold ahN at h2
          exact ⟨by omega, by simpa using h3⟩
        | succ j => exact .inr ⟨j, h2, h3⟩
      · rintro (⟨rfl, rfl⟩ | ⟨j, h2, h3⟩)
        · exact ⟨0, by unfold ahN; omega, rfl⟩
        · exact ⟨j + 1, h2, h3⟩
    rw [both, ← tail, ← ih']
    cases o with
    | none => simp [numsW]
    | some y => simp [numsW, Hb.mk.injEq, eq_comm]
/-- One byte more is held. -/
theorem numsW_set {nx : Int} (h0 : 0 ≤ nx) (h1 : nx < 4294967296) {W : List (Option UInt8)} (hW : W.length ≤ 4294967296) (a : Int) (x : UInt8) (ha : 0 ≤ a ∧ a < 4294967296) {j : Nat} (hj : ahN nx a = j) (hn : W[j]? = some none) :
    (numsW nx (W.set j (some x))).Perm (numsW nx W ++ [⟨a, x⟩]) := by
  induction W generalizing nx j with
  | nil => simp at hn
  | cons o W ih =>
    have hW' : W.length < 4294967296 := by simp at hW; omega
    cases j with
    | zero =>
      simp at hn
      subst hn
      have e : a = nx := by unfold ahN at hj; omega
      subst e
      simp only [List.set_cons_zero, numsW]
      exact (List.perm_append_singleton _ _).symm
    | succ j =>
      have hn' : W[j]? = some none := by simpa using hn
      have hjl : j < W.length := (List.getElem?_eq_some_iff.1 hn').1
      have ih' := ih (nx := (nx + 1) % 4294967296) (by omega) (by omega) (by omega) (j := j) (by unfold ahN at hj ⊢; omega) hn'
      rw [List.set_cons_succ]
      cases o with
      | none => simpa only [numsW] using ih'
      | some y => simpa only [numsW, List.cons_append] using ih'.cons _
/-- What a document's buffer holds is what the window holds, in whatever order. -/
def Dp (nx : Int) (W : List (Option UInt8)) (D : List Hb) : Prop := D.Perm (numsW nx W)
section
variable {nx : Int} {W : List (Option UInt8)} {D : List Hb}
theorem Dp.len (h : Dp nx W D) : D.length = heldW W := by rw [List.Perm.length_eq h, numsW_len]
theorem Dp.none_ (h : Dp nx W D) (h0 : 0 ≤ nx) (h1 : nx < 4294967296) (hW : W.length ≤ 4294967296) {a : Int} (ha : 0 ≤ a ∧ a < 4294967296) {j : Nat} (hj : ahN nx a = j) (hn : W[j]? = some none ∨ W[j]? = none) : ∀ y ∈ D, y.at_ ≠ a := by
  rintro ⟨b, x⟩ hy he
  obtain rfl : b = a := he
  obtain ⟨i, h2, h3⟩ := (mem_numsW h0 h1 hW b x ha).1 (h.mem_iff.1 hy)
  have : i = j := by omega
  subst this
  rcases hn with hn | hn <;> rw [hn] at h3 <;> cases h3
theorem Dp.some_ (h : Dp nx W D) (h0 : 0 ≤ nx) (h1 : nx < 4294967296) (hW : W.length ≤ 4294967296) {a : Int} (ha : 0 ≤ a ∧ a < 4294967296) {j : Nat} (hj : ahN nx a = j) {x : UInt8} (hx : W[j]? = some (some x)) : (⟨a, x⟩ : Hb) ∈ D :=
  h.mem_iff.2 ((mem_numsW h0 h1 hW a x ha).2 ⟨j, hj, hx⟩)
theorem Dp.val (h : Dp nx W D) (h0 : 0 ≤ nx) (h1 : nx < 4294967296) (hW : W.length ≤ 4294967296) {a : Int} (ha : 0 ≤ a ∧ a < 4294967296) {j : Nat} (hj : ahN nx a = j) {x : UInt8} (hx : W[j]? = some (some x)) {y : Hb} (hy : y ∈ D) (he : y.at_ = a) : y = ⟨a, x⟩ := by
  obtain ⟨b, z⟩ := y
  obtain rfl : b = a := he
  obtain ⟨i, h2, h3⟩ := (mem_numsW h0 h1 hW b z ha).1 (h.mem_iff.1 hy)
  have hij : i = j := by omega
  subst hij
  rw [hx] at h3
  injection h3 with h3
  injection h3 with h3
  rw [h3]
theorem Dp.push (h : Dp nx W D) (h0 : 0 ≤ nx) (h1 : nx < 4294967296) (hW : W.length ≤ 4294967296) {a : Int} (ha : 0 ≤ a ∧ a < 4294967296) {j : Nat} (hj : ahN nx a = j) (hn : W[j]? = some none) (x : UInt8) : Dp nx (W.set j (some x)) (D ++ [⟨a, x⟩]) :=
  (List.Perm.append_right _ h).trans (numsW_set h0 h1 hW a x ha hj hn).symm
theorem Dp.pop {x : UInt8} (h : Dp nx (some x :: W) D) {i : Nat} (hi : i < D.length) (he : D[i] = ⟨nx, x⟩) : Dp ((nx + 1) % 4294967296) W (D.take i ++ D.drop (i + 1)) := by
  have e : D = D.take i ++ (⟨nx, x⟩ :: D.drop (i + 1)) := by rw [← he, List.getElem_cons_drop, List.take_append_drop]
  have h' : D.Perm (⟨nx, x⟩ :: numsW ((nx + 1) % 4294967296) W) := h
  have p : D.Perm (⟨nx, x⟩ :: (D.take i ++ D.drop (i + 1))) := by
    conv => lhs; rw [e]
    exact List.perm_middle
  exact (p.symm.trans h').cons_inv
end
end Go.Proofs.Ytlajalfalepbhaa
