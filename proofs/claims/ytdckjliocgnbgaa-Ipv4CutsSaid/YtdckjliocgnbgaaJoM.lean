/-
  Layer 8: a datagram that is cut into pieces, and what Put tells of them in whatever order they come: mathematics. Conditions: as said.
-/
import Derived.Test.YtdckjliocgnbgaaJoL
namespace Go.Proofs.Ytdckjliocgnbgaa
open Go.RowKit
set_option linter.unusedVariables false

/-- The sum of f at the numbers below m. -/
def sumTo : Nat → (Nat → Nat) → Nat
  | 0, _ => 0
  | m + 1, f => sumTo m f + f m
theorem sumTo_congr : ∀ {m : Nat} {f h : Nat → Nat}, (∀ i, i < m → f i = h i) → sumTo m f = sumTo m h
  | 0, _, _, _ => rfl
  | m + 1, f, h, e => by
    show sumTo m f + f m = sumTo m h + h m
    rw [sumTo_congr (fun i hi => e i (by omega)), e m (by omega)]
theorem sumTo_one : ∀ (m k : Nat) (f : Nat → Nat), k < m → sumTo m (fun i => if i = k then f i else 0) = f k
  | m + 1, k, f, h => by
    show sumTo m _ + (if m = k then f m else 0) = f k
    by_cases e : m = k
    · subst e
      rw [if_pos rfl, sumTo_congr (h := fun _ => 0) (fun i hi => if_neg (by omega))]
      have : ∀ m, sumTo m (fun _ => 0) = 0 := fun m => by
        induction m with
        | zero => rfl
        | succ m ih => exact ih
      rw [this]; omega
    · rw [if_neg e, sumTo_one m k f (by omega)]; omega
theorem sumTo_add : ∀ (m : Nat) (f h : Nat → Nat), sumTo m (fun i => f i + h i) = sumTo m f + sumTo m h
  | 0, _, _ => rfl
  | m + 1, f, h => by
    show sumTo m (fun i => f i + h i) + (f m + h m) = sumTo m f + f m + (sumTo m h + h m)
    rw [sumTo_add m f h]; omega
theorem sumTo_keys (m : Nat) (f : Nat → Nat) : ∀ (ks : List Nat), ks.Nodup → (∀ k ∈ ks, k < m) → sumTo m (fun i => if i ∈ ks then f i else 0) = (ks.map f).sum
  | [], _, _ => by
    rw [sumTo_congr (h := fun _ => 0) (fun i _ => if_neg (by simp))]
    have : ∀ m, sumTo m (fun _ => 0) = 0 := fun m => by
      induction m with
      | zero => rfl
      | succ m ih => exact ih
    rw [this]; rfl
  | k :: ks, hn, hk => by
    obtain ⟨h1, h2⟩ := List.nodup_cons.1 hn
    have ih := sumTo_keys m f ks h2 (fun x hx => hk x (.tail _ hx))
    rw [List.map_cons, List.sum_cons, ← ih, ← sumTo_one m k f (hk k (.head _)), ← sumTo_add]
    refine sumTo_congr (fun i hi => ?_)
    by_cases e : i = k
    · subst e
      rw [if_pos (.head _), if_pos rfl, if_neg h1]; rfl
    · rw [if_neg e]
      by_cases e2 : i ∈ ks
      · rw [if_pos (.tail _ e2), if_pos e2]; omega
      · rw [if_neg (by intro h; rcases List.mem_cons.1 h with h | h; exact e h; exact e2 h), if_neg e2]
theorem sumTo_le : ∀ (m : Nat) (f h : Nat → Nat), (∀ i, i < m → f i ≤ h i) → sumTo m f ≤ sumTo m h
  | 0, _, _, _ => Nat.le_refl _
  | m + 1, f, h, e => Nat.add_le_add (sumTo_le m f h (fun i hi => e i (by omega))) (e m (by omega))
theorem sumTo_lt : ∀ (m : Nat) (f h : Nat → Nat), (∀ i, i < m → f i ≤ h i) → (∃ i, i < m ∧ f i < h i) → sumTo m f < sumTo m h
  | m + 1, f, h, e, ⟨i, hi, hl⟩ => by
    show sumTo m f + f m < sumTo m h + h m
    by_cases e2 : i = m
    · subst e2
      have := sumTo_le i f h (fun j hj => e j (by omega)); omega
    · have := sumTo_lt m f h (fun j hj => e j (by omega)) ⟨i, by omega, hl⟩
      have := e m (by omega); omega
theorem sumTo_ones (m : Nat) : sumTo m (fun _ => 1) = m := by
  induction m with
  | zero => rfl
  | succ m ih => show sumTo m (fun _ => 1) + 1 = m + 1; rw [ih]
/-- Fewer numbers than m: one lacks. -/
theorem key_lacks {m : Nat} {ks : List Nat} (hn : ks.Nodup) (hk : ∀ k ∈ ks, k < m) (hl : ks.length < m) : ∃ i, i < m ∧ i ∉ ks := by
  refine Classical.byContradiction fun hno => ?_
  have hall : ∀ i, i < m → i ∈ ks := fun i hi => Classical.byContradiction fun h => hno ⟨i, hi, h⟩
  have h1 := sumTo_keys m (fun _ => 1) ks hn hk
  rw [sumTo_congr (h := fun _ => 1) (fun i hi => if_pos (hall i hi)), sumTo_ones] at h1
  have : (ks.map fun _ => 1).sum = ks.length := by
    clear h1 hall hno hk hn hl
    induction ks with
    | nil => rfl
    | cons k ks ih => rw [List.map_cons, List.sum_cons, ih, List.length_cons]; omega
  omega
theorem keys_full {m : Nat} {ks : List Nat} (hn : ks.Nodup) (hk : ∀ k ∈ ks, k < m) (hl : ks.length = m) : ∀ i, i < m → i ∈ ks := fun i hi => Classical.byContradiction fun h => by
  have h1 := sumTo_keys m (fun _ => 1) ks hn hk
  have h2 : sumTo m (fun i => if i ∈ ks then 1 else 0) < sumTo m (fun _ => 1) := sumTo_lt _ _ _ (fun j _ => by split <;> omega) ⟨i, hi, by rw [if_neg h]; decide⟩
  have : (ks.map fun _ => 1).sum = ks.length := by
    clear h1 h2 h hk hn hl
    induction ks with
    | nil => rfl
    | cons k ks ih => rw [List.map_cons, List.sum_cons, ih, List.length_cons]; omega
  rw [h1, sumTo_ones] at h2
  omega

/-- A text that is cut into m pieces, of which the ith begins at off i. -/
structure CutOk (D : ByteArray) (m : Nat) (off : Nat → Nat) : Prop where
  pos : 0 < m
  zero : off 0 = 0
  last : off m = D.size
  lt : ∀ i, i < m → 1 < m → off i < off (i + 1)
  eight : ∀ i, i < m → off i % 8 = 0
  small : D.size ≤ 1200
def cutP (D : ByteArray) (m : Nat) (off : Nat → Nat) (i : Nat) : Pc := ⟨(off i : Int), D.extract (off i) (off (i + 1)), decide (i + 1 < m)⟩
def cutD (base : Pd) (D : ByteArray) (m : Nat) (off : Nat → Nat) (i : Nat) : Pd := ⟨base.id, base.sr, base.ds, base.pr, base.tl, (off i : Int), decide (i + 1 < m), D.extract (off i) (off (i + 1))⟩
section
variable {D : ByteArray} {m : Nat} {off : Nat → Nat}
theorem CutOk.mono (h : CutOk D m off) (h2 : 1 < m) : ∀ (j i : Nat), i ≤ j → j ≤ m → off i + (j - i) ≤ off j
  | 0, i, hi, _ => by
    have e : i = 0 := by omega
    subst e
    exact Nat.le_refl _
  | j + 1, i, hi, hj => by
    by_cases e : i = j + 1
    · subst e; omega
    · have h1 := h.mono h2 j i (by omega) (by omega)
      have := h.lt j (by omega) h2
      omega
theorem CutOk.le (h : CutOk D m off) (h2 : 1 < m) {i : Nat} (hi : i ≤ m) : off i ≤ D.size := by
  have := h.mono h2 m i hi (Nat.le_refl _)
  rw [h.last] at this; omega
theorem cut_size (h : CutOk D m off) (h2 : 1 < m) {i : Nat} (hi : i < m) : (cutP D m off i).da.size = off (i + 1) - off i := by
  show (D.extract (off i) (off (i + 1))).size = _
  rw [ByteArray.size_extract]
  have := h.le h2 (i := i + 1) (by omega)
  omega
theorem cut_end (h : CutOk D m off) (h2 : 1 < m) {i : Nat} (hi : i < m) : pEnd (cutP D m off i) = (off (i + 1) : Int) := by
  unfold pEnd
  rw [cut_size h h2 hi]
  have := h.lt i hi h2
  show (off i : Int) + _ = _
  omega
theorem cut_clash (h : CutOk D m off) (h2 : 1 < m) {i j : Nat} (hi : i < m) (hj : j < m) (hn : i ≠ j) : clashP (cutP D m off i) (cutP D m off j) = false := by
  have ei := cut_end h h2 hi
  have ej := cut_end h h2 hj
  have hs : decide (max (off i : Int) (off j : Int) < min (off (i + 1) : Int) (off (j + 1) : Int)) = false := by
    refine decide_eq_false ?_
    rcases Nat.lt_or_gt_of_ne hn with hlt | hlt
    · have := h.mono h2 j (i + 1) (by omega) (by omega); omega
    · have := h.mono h2 i (j + 1) (by omega) (by omega); omega
  have hle := h.mono h2 m (i + 1) (by omega) (by omega)
  have hle2 := h.mono h2 m (j + 1) (by omega) (by omega)
  unfold clashP aboveP
  rw [ei, ej]
  show (decide (max (off i : Int) (off j : Int) < min (off (i + 1) : Int) (off (j + 1) : Int)) || (!decide (i + 1 < m) && !decide (j + 1 < m)) || (!decide (j + 1 < m) && decide ((off (j + 1) : Int) < (off (i + 1) : Int))) || (!decide (i + 1 < m) && decide ((off (i + 1) : Int) < (off (j + 1) : Int)))) = false
  rw [hs]
  by_cases a : i + 1 < m <;> by_cases b : j + 1 < m
  · simp [a, b]
  · obtain rfl : j + 1 = m := by omega
    have : ¬ ((off (j + 1) : Int) < (off (i + 1) : Int)) := by omega
    simp [a, this]
  · obtain rfl : i + 1 = m := by omega
    have : ¬ ((off (i + 1) : Int) < (off (j + 1) : Int)) := by omega
    simp [b, this]
  · omega
theorem cut_inj (h : CutOk D m off) (h2 : 1 < m) {i j : Nat} (hi : i < m) (hj : j < m) (e : cutP D m off i = cutP D m off j) : i = j := by
  have e1 : (off i : Int) = (off j : Int) := congrArg Pc.o e
  rcases Nat.lt_trichotomy i j with hlt | hlt | hlt
  · have := h.mono h2 j i (by omega) (by omega); omega
  · exact hlt
  · have := h.mono h2 i j (by omega) (by omega); omega
theorem cut_mem (h : CutOk D m off) (h2 : 1 < m) {ks : List Nat} (hk : ∀ k ∈ ks, k < m) {i : Nat} (hi : i < m) : cutP D m off i ∈ ks.map (cutP D m off) ↔ i ∈ ks := by
  rw [List.mem_map]
  exact ⟨fun ⟨j, hj, e⟩ => by rw [← cut_inj h h2 (hk j hj) hi e]; exact hj, fun h => ⟨i, h, rfl⟩⟩
theorem cut_sum (h : CutOk D m off) (h2 : 1 < m) {ks : List Nat} (hn : ks.Nodup) (hk : ∀ k ∈ ks, k < m) : sumP (ks.map (cutP D m off)) = sumTo m (fun i => if i ∈ ks then off (i + 1) - off i else 0) := by
  rw [sumTo_keys m (fun i => off (i + 1) - off i) ks hn hk]
  unfold sumP
  rw [List.map_map]
  congr 1
  exact List.map_congr_left (fun k hkk => cut_size h h2 (hk k hkk))
theorem cut_all (h : CutOk D m off) (h2 : 1 < m) : sumTo m (fun i => off (i + 1) - off i) = D.size := by
  have : ∀ j, j ≤ m → sumTo j (fun i => off (i + 1) - off i) = off j := fun j => by
    induction j with
    | zero => intro _; exact h.zero.symm
    | succ j ih =>
      intro hj
      show sumTo j _ + (off (j + 1) - off j) = off (j + 1)
      rw [ih (by omega)]
      have := h.lt j (by omega) h2
      omega
  rw [this m (Nat.le_refl _), h.last]
theorem cut_endP (h : CutOk D m off) (h2 : 1 < m) : ∀ (ks : List Nat) (e : Int), (∀ k ∈ ks, k < m) → (ks.map (cutP D m off)).foldl (fun e x => if x.mo then e else pEnd x) e = if m - 1 ∈ ks then (D.size : Int) else e
  | [], e, _ => by simp
  | k :: ks, e, hk => by
    rw [List.map_cons, List.foldl_cons, cut_endP h h2 ks _ (fun x hx => hk x (.tail _ hx))]
    by_cases a : m - 1 ∈ ks
    · rw [if_pos a, if_pos (.tail _ a)]
    · rw [if_neg a]
      have hkm := hk k (.head _)
      by_cases b : k + 1 < m
      · rw [if_pos (by show decide (k + 1 < m) = true; simpa using b), if_neg (by intro c; rcases List.mem_cons.1 c with c | c; omega; exact a c)]
      · obtain rfl : k = m - 1 := by omega
        rw [if_neg (by show ¬ decide (m - 1 + 1 < m) = true; simpa using b), if_pos (.head _), cut_end h h2 hkm, show m - 1 + 1 = m by omega, h.last]
/-- All bytes are there just when all pieces are. -/
theorem cut_whole (h : CutOk D m off) (h2 : 1 < m) {ks : List Nat} (hn : ks.Nodup) (hk : ∀ k ∈ ks, k < m) (hl : ks.length ≤ m) : wholeP (ks.map (cutP D m off)) = decide (ks.length = m) := by
  have e1 := cut_sum h h2 hn hk
  have e2 := cut_endP h h2 ks (-1) hk
  unfold wholeP
  rw [show endP (ks.map (cutP D m off)) = _ from e2, e1, Bool.eq_iff_iff, decide_eq_true_iff, decide_eq_true_iff]
  by_cases hf : ks.length = m
  · have hall := keys_full hn hk hf
    rw [if_pos (hall (m - 1) (by omega)), sumTo_congr (h := fun i => off (i + 1) - off i) (fun i hi => if_pos (hall i hi)), cut_all h h2]
    exact ⟨fun _ => hf, fun _ => rfl⟩
  · refine ⟨fun he => ?_, fun he => absurd he hf⟩
    obtain ⟨i, hi, hni⟩ := key_lacks hn hk (by omega)
    have hlt : sumTo m (fun i => if i ∈ ks then off (i + 1) - off i else 0) < sumTo m (fun i => off (i + 1) - off i) := sumTo_lt _ _ _ (fun j _ => by split <;> omega) ⟨i, hi, by rw [if_neg hni]; have := h.lt i hi h2; omega⟩
    rw [cut_all h h2] at hlt
    split at he <;> omega
theorem lay_get {a s : List UInt8} {k j : Nat} (h : k + s.length ≤ a.length) : (lay a k s)[j]? = if k ≤ j ∧ j < k + s.length then s[j - k]? else a[j]? := by
  unfold lay
  by_cases c1 : j < k
  · rw [if_neg (by omega), List.getElem?_append_left (by rw [List.length_take]; omega), List.getElem?_take, if_pos c1]
  · rw [List.getElem?_append_right (by rw [List.length_take]; omega), List.length_take]
    by_cases c2 : j < k + s.length
    · rw [if_pos ⟨by omega, c2⟩, List.getElem?_append_left (by omega)]
      congr 1; omega
    · rw [if_neg (by omega), List.getElem?_append_right (by omega), List.getElem?_drop]
      congr 1; omega
theorem cut_fill (h : CutOk D m off) (h2 : 1 < m) : ∀ (ks : List Nat) (a : List UInt8), a.length = 1200 → (∀ k ∈ ks, k < m) → ∀ j, j < D.size → ((∃ k ∈ ks, off k ≤ j ∧ j < off (k + 1)) ∨ a[j]? = D.data.toList[j]?) → ((ks.map (cutP D m off)).foldl (fun a x => lay a x.o.toNat x.da.data.toList) a)[j]? = D.data.toList[j]?
  | [], a, _, _, j, _, hj => hj.resolve_left (fun ⟨k, hk, _⟩ => by cases hk)
  | k :: ks, a, ha, hk, j, hjD, hj => by
    have hkm := hk k (.head _)
    have hlt := h.lt k hkm h2
    have hle := h.le h2 (i := k + 1) (by omega)
    have hsm := h.small
    have hsz : (D.extract (off k) (off (k + 1))).data.toList.length = off (k + 1) - off k := by
      rw [Array.length_toList]; exact cut_size h h2 hkm
    have hlen : (lay a (off k) (D.extract (off k) (off (k + 1))).data.toList).length = 1200 := (lay_len (by rw [hsz]; omega)).trans ha
    rw [List.map_cons, List.foldl_cons]
    refine cut_fill h h2 ks _ hlen (fun x hx => hk x (.tail _ hx)) j hjD ?_
    show _ ∨ (lay a (off k) (D.extract (off k) (off (k + 1))).data.toList)[j]? = _
    have hg := lay_get (a := a) (s := (D.extract (off k) (off (k + 1))).data.toList) (k := off k) (j := j) (by rw [hsz]; omega)
    rw [hsz, show off k + (off (k + 1) - off k) = off (k + 1) by omega] at hg
    by_cases c : off k ≤ j ∧ j < off (k + 1)
    · refine .inr ?_
      rw [hg, if_pos c]
      have : (D.extract (off k) (off (k + 1))).data.toList = (D.data.toList.drop (off k)).take (off (k + 1) - off k) := by
        rw [ByteArray.data_extract, Array.toList_extract, List.extract_eq_take_drop]
      rw [this, List.getElem?_take, if_pos (by omega), List.getElem?_drop]
      congr 1; omega
    · rcases hj with ⟨i, hi, hi2⟩ | hj
      · rcases List.mem_cons.1 hi with rfl | hi
        · exact absurd hi2 c
        · exact .inl ⟨i, hi, hi2⟩
      · exact .inr (by rw [hg, if_neg c]; exact hj)
theorem cut_cover (h : CutOk D m off) (h2 : 1 < m) {j : Nat} (hj : j < D.size) : ∃ k, k < m ∧ off k ≤ j ∧ j < off (k + 1) := by
  have : ∀ n, n ≤ m → j < off n → ∃ k, k < n ∧ off k ≤ j ∧ j < off (k + 1) := fun n => by
    induction n with
    | zero => intro _ hh; rw [h.zero] at hh; omega
    | succ n ih =>
      intro hn hh
      by_cases c : off n ≤ j
      · exact ⟨n, by omega, c, hh⟩
      · obtain ⟨k, k1, k2⟩ := ih (by omega) (by omega)
        exact ⟨k, by omega, k2⟩
  obtain ⟨k, k1, k2⟩ := this m (Nat.le_refl _) (by rw [h.last]; exact hj)
  exact ⟨k, k1, k2⟩
theorem cut_bytes (h : CutOk D m off) (h2 : 1 < m) {ks : List Nat} (hn : ks.Nodup) (hk : ∀ k ∈ ks, k < m) (hl : ks.length = m) : (⟨((fillP (ks.map (cutP D m off))).take (sumP (ks.map (cutP D m off)))).toArray⟩ : ByteArray) = D := by
  have hall := keys_full hn hk hl
  have hs : sumP (ks.map (cutP D m off)) = D.size := by
    rw [cut_sum h h2 hn hk, sumTo_congr (h := fun i => off (i + 1) - off i) (fun i hi => if_pos (hall i hi)), cut_all h h2]
  rw [hs]
  apply ByteArray.ext
  apply Array.toList_inj.1
  show ((fillP (ks.map (cutP D m off))).take D.size) = D.data.toList
  apply List.ext_getElem?
  intro j
  rw [List.getElem?_take]
  by_cases c : j < D.size
  · rw [if_pos c]
    obtain ⟨k, k1, k2⟩ := cut_cover h h2 c
    exact cut_fill h h2 ks (List.replicate 1200 0) List.length_replicate hk j c (.inl ⟨k, hall k k1, k2⟩)
  · rw [if_neg c, List.getElem?_eq_none (by rw [Array.length_toList]; show D.size ≤ j; omega)]
/-- What is there when these pieces have come, in this order. -/
def LQ (base : Pd) (D : ByteArray) (m : Nat) (off : Nat → Nat) (ks : List Nat) : List Da := if ks = [] then [] else [⟨nmOf base, 0, if 0 ∈ ks then base.tl else 0, ks.map (cutP D m off)⟩]
def wholeB (base : Pd) (D : ByteArray) : Pd := ⟨base.id, base.sr, base.ds, base.pr, base.tl, 0, false, D⟩
theorem off_nought (h : CutOk D m off) (h2 : 1 < m) {k : Nat} (hk : k < m) : ((off k : Int) = 0) ↔ k = 0 := by
  constructor
  · intro e
    have := h.mono h2 k 0 (by omega) (by omega)
    rw [h.zero] at this; omega
  · rintro rfl; rw [h.zero]; rfl
theorem cut_may (h : CutOk D m off) (h2 : 1 < m) {base : Pd} (hb : mayB base = true) {k : Nat} (hk : k < m) : mayB (cutD base D m off k) = true := by
  obtain ⟨b1, b2, b3, b4, b5, b6, _⟩ := mayB_all hb
  have hs : (D.extract (off k) (off (k + 1))).size = off (k + 1) - off k := cut_size h h2 hk
  have hle := h.le h2 (i := k + 1) (by omega)
  have hlt := h.lt k hk h2
  have h8 := h.eight k hk
  have hsm := h.small
  refine decide_eq_true ⟨b1, b2, b3, b4, b5, b6, by show (off k : Int) % 8 = 0; omega, by show (0 : Int) ≤ off k; omega, by show (off k : Int) ≤ 65528; omega, ?_, ?_⟩
  · show (off k : Int) + ((D.extract (off k) (off (k + 1))).size : Int) ≤ 65515
    rw [hs]; omega
  · show decide (k + 1 < m) = false ∨ 0 < (D.extract (off k) (off (k + 1))).size ∧ (D.extract (off k) (off (k + 1))).size % 8 = 0
    by_cases c : k + 1 < m
    · have h9 := h.eight (k + 1) c
      exact .inr (by rw [hs]; omega)
    · exact .inl (by simpa using c)
theorem cut_step (h : CutOk D m off) (h2 : 1 < m) {base : Pd} (hb : mayB base = true) {ks : List Nat} (hn : ks.Nodup) (hks : ∀ k ∈ ks, k < m) (hl : ks.length < m) {k : Nat} (hk : k < m) :
    putA (cutD base D m off k) (LQ base D m off ks) = if k ∈ ks then (pdZ, false, LQ base D m off ks) else if ks.length + 1 = m then (wholeB base D, true, []) else (pdZ, false, LQ base D m off (ks ++ [k])) := by
  have hm := cut_may h h2 hb hk
  have h0 := off_nought h h2 hk
  have hnm : nmOf (cutD base D m off k) = nmOf base := rfl
  have hpc : pcOf (cutD base D m off k) = cutP D m off k := rfl
  have hbg : begA (nmOf base) (LQ base D m off ks) = ([⟨nmOf base, 0, if 0 ∈ ks then base.tl else 0, ks.map (cutP D m off)⟩], 0) := by
    unfold LQ
    by_cases c : ks = []
    · subst c; rfl
    · rw [if_neg c]
      unfold begA
      simp
  unfold putA
  rw [if_neg (by rw [hm]; decide), if_neg (by
    rintro ⟨e1, e2⟩
    have e3 : k = 0 := h0.1 e1
    subst e3
    have e4 : decide (0 + 1 < m) = false := e2
    rw [decide_eq_false_iff_not] at e4
    omega), hnm, hbg]
  show putI _ _ _ _ = _
  unfold putI
  rw [hpc]
  by_cases c : k ∈ ks
  · rw [if_pos ((cut_mem h h2 hks hk).2 c), if_pos c, show LQ base D m off ks = [⟨nmOf base, 0, if 0 ∈ ks then base.tl else 0, ks.map (cutP D m off)⟩] from if_neg (by rintro rfl; cases c)]
  · rw [if_neg (fun hh => c ((cut_mem h h2 hks hk).1 hh)), if_neg c]
    have hmay : mayP (ks.map (cutP D m off)) (cutP D m off k) = true := by
      unfold mayP
      rw [Bool.and_eq_true]
      refine ⟨decide_eq_true ?_, ?_⟩
      · rw [cut_end h h2 hk]
        have := h.le h2 (i := k + 1) (by omega)
        have := h.small
        omega
      · rw [Bool.not_eq_true', List.any_eq_false]
        intro x hx
        obtain ⟨j, hj, rfl⟩ := List.mem_map.1 hx
        rw [cut_clash h h2 hk (hks j hj) (fun e => c (by rw [e]; exact hj))]
        decide
    rw [if_neg (by show ¬ mayP (ks.map (cutP D m off)) (cutP D m off k) = false; rw [hmay]; decide)]
    have hn2 : (ks ++ [k]).Nodup := by
      rw [List.nodup_append]
      exact ⟨hn, List.nodup_cons.2 ⟨by simp, List.nodup_nil⟩, fun a ha b hb2 => by rw [List.mem_singleton] at hb2; subst hb2; intro e; subst e; exact c ha⟩
    have hk2 : ∀ x ∈ ks ++ [k], x < m := fun x hx => by
      rcases List.mem_append.1 hx with hx | hx
      · exact hks x hx
      · rw [List.mem_singleton] at hx; subst hx; exact hk
    have hmap : ks.map (cutP D m off) ++ [cutP D m off k] = (ks ++ [k]).map (cutP D m off) := by simp
    have hlen : (ks ++ [k]).length = ks.length + 1 := by simp
    have hw := cut_whole h h2 hn2 hk2 (by rw [hlen]; omega)
    rw [hlen] at hw
    have ht : (if (cutD base D m off k).ps = 0 then (cutD base D m off k).tl else if 0 ∈ ks then base.tl else 0) = if 0 ∈ ks ++ [k] then base.tl else 0 := by
      show (if (off k : Int) = 0 then base.tl else if 0 ∈ ks then base.tl else 0) = _
      by_cases e : k = 0
      · subst e
        rw [if_pos (h0.2 rfl), if_pos (by simp)]
      · rw [if_neg (fun hh => e (h0.1 hh))]
        by_cases e2 : 0 ∈ ks
        · rw [if_pos e2, if_pos (List.mem_append_left _ e2)]
        · rw [if_neg e2, if_neg (by
            intro hh
            rcases List.mem_append.1 hh with hh | hh
            · exact e2 hh
            · rw [List.mem_singleton] at hh; exact e hh.symm)]
    simp only [hmap, ht, hw]
    by_cases cm : ks.length + 1 = m
    · rw [if_pos (decide_eq_true cm), if_pos cm]
      have hall := keys_full hn2 hk2 (by rw [hlen]; exact cm)
      refine Prod.ext ?_ rfl
      unfold wholeD wholeB
      show (⟨_, _, _, _, _, _, _, _⟩ : Pd) = _
      rw [if_pos (hall 0 (by omega)), cut_bytes h h2 hn2 hk2 (by rw [hlen]; exact cm), ← nmOf_id hb, ← nmOf_pr hb]
      rfl
    · rw [if_neg (by rw [decide_eq_false cm]; decide), if_neg cm, show LQ base D m off (ks ++ [k]) = [⟨nmOf base, 0, if 0 ∈ ks ++ [k] then base.tl else 0, (ks ++ [k]).map (cutP D m off)⟩] from if_neg (by simp)]
      rfl
end

end Go.Proofs.Ytdckjliocgnbgaa
