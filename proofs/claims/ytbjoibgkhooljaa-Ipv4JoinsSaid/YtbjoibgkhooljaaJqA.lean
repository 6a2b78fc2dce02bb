/-
  Layer 8: what the walk over cuts wants: a key that is put again; a block beside a joiner that is written; a row of packets; one more piece, however many there are. Conditions: as said.
-/
import Derived.Test.YtbjoibgkhooljaaJoL
import Derived.BigQuiet
import Derived.Test.YtbjoibgkhooljaaRowsA
import Derived.Maps.RangeWalk
import Derived.KernelRfl
import Derived.ProofKit
import Derived.Deep.Slices
import Derived.Deep.Fields
import Derived.ChangeSame
import Derived.ChangeSlices
namespace Go.Proofs.Ytbjoibgkhooljaa
open Go.RowKit
set_option linter.unusedVariables false

/-- The sum of f at the numbers below m. -/
def sumTo : Nat → (Nat → Nat) → Nat
  | 0, _ => 0
  | m + 1, f => sumTo m f + f m
theorem sumTo_congr : ∀ {m : Nat} {f h : Nat → Nat}, (∀ i, i < m → f i = h i) → sumTo m f = sumTo m h
  | 0, _, _, _ => rfl
  | m + 1, f, h, e => by
    show sumTo m f + f m = sumTo m h + h m
    rw [sumTo_congr (fun i hi => e i (by omega)), e m (by omega)]
theorem sumTo_one : ∀ (m k : Nat) (f : Nat → Nat), k < m → sumTo m (fun i => if i = k then f i else 0) = f k
  | m + 1, k, f, h => by
    show sumTo m _ + (if m = k then f m else 0) = f k
    by_cases e : m = k
    · subst e
      rw [if_pos rfl, sumTo_congr (h := fun _ => 0) (fun i hi => if_neg (by omega))]
      have : ∀ m, sumTo m (fun _ => 0) = 0 := fun m => by
        induction m with
        | zero => rfl
        | succ m ih => exact ih
      rw [this]; omega
    · rw [if_neg e, sumTo_one m k f (by omega)]; omega
theorem sumTo_add : ∀ (m : Nat) (f h : Nat → Nat), sumTo m (fun i => f i + h i) = sumTo m f + sumTo m h
  | 0, _, _ => rfl
  | m + 1, f, h => by
    show sumTo m (fun i => f i + h i) + (f m + h m) = sumTo m f + f m + (sumTo m h + h m)
    rw [sumTo_add m f h]; omega
theorem sumTo_keys (m : Nat) (f : Nat → Nat) : ∀ (ks : List Nat), ks.Nodup → (∀ k ∈ ks, k < m) → sumTo m (fun i => if i ∈ ks then f i else 0) = (ks.map f).sum
  | [], _, _ => by
    rw [sumTo_congr (h := fun _ => 0) (fun i _ => if_neg (by simp))]
    have : ∀ m, sumTo m (fun _ => 0) = 0 := fun m => by
      induction m with
      | zero => rfl
      | succ m ih => exact ih
    rw [this]; rfl
  | k :: ks, hn, hk => by
    obtain ⟨h1, h2⟩ := List.nodup_cons.1 hn
    have ih := sumTo_keys m f ks h2 (fun x hx => hk x (.tail _ hx))
    rw [List.map_cons, List.sum_cons, ← ih, ← sumTo_one m k f (hk k (.head _)), ← sumTo_add]
    refine sumTo_congr (fun i hi => ?_)
    by_cases e : i = k
    · subst e
      rw [if_pos (.head _), if_pos rfl, if_neg h1]; rfl
    · rw [if_neg e]
      by_cases e2 : i ∈ ks
      · rw [if_pos (.tail _ e2), if_pos e2]; omega
      · rw [if_neg (by intro h; rcases List.mem_cons.1 h with h | h; exact e h; exact e2 h), if_neg e2]
theorem sumTo_le : ∀ (m : Nat) (f h : Nat → Nat), (∀ i, i < m → f i ≤ h i) → sumTo m f ≤ sumTo m h
  | 0, _, _, _ => Nat.le_refl _
  | m + 1, f, h, e => Nat.add_le_add (sumTo_le m f h (fun i hi => e i (by omega))) (e m (by omega))
theorem sumTo_lt : ∀ (m : Nat) (f h : Nat → Nat), (∀ i, i < m → f i ≤ h i) → (∃ i, i < m ∧ f i < h i) → sumTo m f < sumTo m h
  | m + 1, f, h, e, ⟨i, hi, hl⟩ => by
    show sumTo m f + f m < sumTo m h + h m
    by_cases e2 : i = m
    · subst e2
      have := sumTo_le i f h (fun j hj => e j (by omega)); omega
    · have := sumTo_lt m f h (fun j hj => e j (by omega)) ⟨i, by omega, hl⟩
      have := e m (by omega); omega
theorem sumTo_ones (m : Nat) : sumTo m (fun _ => 1) = m := by
  induction m with
  | zero => rfl
  | succ m ih => show sumTo m (fun _ => 1) + 1 = m + 1; rw [ih]
/-- Fewer numbers than m: one lacks. -/
theorem key_lacks {m : Nat} {ks : List Nat} (hn : ks.Nodup) (hk : ∀ k ∈ ks, k < m) (hl : ks.length < m) : ∃ i, i < m ∧ i ∉ ks := by
  refine Classical.byContradiction fun hno => ?_
  have hall : ∀ i, i < m → i ∈ ks := fun i hi => Classical.byContradiction fun h => hno ⟨i, hi, h⟩
  have h1 := sumTo_keys m (fun _ => 1) ks hn hk
  rw [sumTo_congr (h := fun _ => 1) (fun i hi => if_pos (hall i hi)), sumTo_ones] at h1
  have : (ks.map fun _ => 1).sum = ks.length := by
    clear h1 hall hno hk hn hl
    induction ks with
    | nil => rfl
    | cons k ks ih => rw [List.map_cons, List.sum_cons, ih, List.length_cons]; omega
  omega
theorem keys_full {m : Nat} {ks : List Nat} (hn : ks.Nodup) (hk : ∀ k ∈ ks, k < m) (hl : ks.length = m) : ∀ i, i < m → i ∈ ks := fun i hi => Classical.byContradiction fun h => by
  have h1 := sumTo_keys m (fun _ => 1) ks hn hk
  have h2 : sumTo m (fun i => if i ∈ ks then 1 else 0) < sumTo m (fun _ => 1) := sumTo_lt _ _ _ (fun j _ => by split <;> omega) ⟨i, hi, by rw [if_neg h]; decide⟩
  have : (ks.map fun _ => 1).sum = ks.length := by
    clear h1 h2 h hk hn hl
    induction ks with
    | nil => rfl
    | cons k ks ih => rw [List.map_cons, List.sum_cons, ih, List.length_cons]; omega
  rw [h1, sumTo_ones] at h2
  omega

/-- A text that is cut into m pieces, of which the ith begins at off i. -/
structure CutOk (D : ByteArray) (m : Nat) (off : Nat → Nat) : Prop where
  pos : 0 < m
  zero : off 0 = 0
  last : off m = D.size
  lt : ∀ i, i < m → 1 < m → off i < off (i + 1)
  eight : ∀ i, i < m → off i % 8 = 0
  small : D.size ≤ 1200
def cutP (D : ByteArray) (m : Nat) (off : Nat → Nat) (i : Nat) : Pc := ⟨(off i : Int), D.extract (off i) (off (i + 1)), decide (i + 1 < m)⟩
def cutD (base : Pd) (D : ByteArray) (m : Nat) (off : Nat → Nat) (i : Nat) : Pd := ⟨base.id, base.sr, base.ds, base.pr, base.tl, (off i : Int), decide (i + 1 < m), D.extract (off i) (off (i + 1))⟩
section
variable {D : ByteArray} {m : Nat} {off : Nat → Nat}
theorem CutOk.mono (h : CutOk D m off) (h2 : 1 < m) : ∀ (j i : Nat), i ≤ j → j ≤ m → off i + (j - i) ≤ off j
  | 0, i, hi, _ => by
    have e : i = 0 := by omega
    subst e
    exact Nat.le_refl _
  | j + 1, i, hi, hj => by
    by_cases e : i = j + 1
    · subst e; omega
    · have h1 := h.mono h2 j i (by omega) (by omega)
      have := h.lt j (by omega) h2
      omega
theorem CutOk.le (h : CutOk D m off) (h2 : 1 < m) {i : Nat} (hi : i ≤ m) : off i ≤ D.size := by
  have := h.mono h2 m i hi (Nat.le_refl _)
  rw [h.last] at this; omega
theorem cut_size (h : CutOk D m off) (h2 : 1 < m) {i : Nat} (hi : i < m) : (cutP D m off i).da.size = off (i + 1) - off i := by
  show (D.extract (off i) (off (i + 1))).size = _
  rw [ByteArray.size_extract]
  have := h.le h2 (i := i + 1) (by omega)
  omega
theorem cut_end (h : CutOk D m off) (h2 : 1 < m) {i : Nat} (hi : i < m) : pEnd (cutP D m off i) = (off (i + 1) : Int) := by
  unfold pEnd
  rw [cut_size h h2 hi]
  have := h.lt i hi h2
  show (off i : Int) + _ = _
  omega
theorem cut_clash (h : CutOk D m off) (h2 : 1 < m) {i j : Nat} (hi : i < m) (hj : j < m) (hn : i ≠ j) : clashP (cutP D m off i) (cutP D m off j) = false := by
  have ei := cut_end h h2 hi
  have ej := cut_end h h2 hj
  have hs : decide (max (off i : Int) (off j : Int) < min (off (i + 1) : Int) (off (j + 1) : Int)) = false := by
    refine decide_eq_false ?_
    rcases Nat.lt_or_gt_of_ne hn with hlt | hlt
    · have := h.mono h2 j (i + 1) (by omega) (by omega); omega
    · have := h.mono h2 i (j + 1) (by omega) (by omega); omega
  have hle := h.mono h2 m (i + 1) (by omega) (by omega)
  have hle2 := h.mono h2 m (j + 1) (by omega) (by omega)
  unfold clashP aboveP
  rw [ei, ej]
  show (decide (max (off i : Int) (off j : Int) < min (off (i + 1) : Int) (off (j + 1) : Int)) || (!decide (i + 1 < m) && !decide (j + 1 < m)) || (!decide (j + 1 < m) && decide ((off (j + 1) : Int) < (off (i + 1) : Int))) || (!decide (i + 1 < m) && decide ((off (i + 1) : Int) < (off (j + 1) : Int)))) = false
  rw [hs]
  by_cases a : i + 1 < m <;> by_cases b : j + 1 < m
  · simp [a, b]
  · obtain rfl : j + 1 = m := by omega
    have : ¬ ((off (j + 1) : Int) < (off (i + 1) : Int)) := by omega
    simp [a, this]
  · obtain rfl : i + 1 = m := by omega
    have : ¬ ((off (i + 1) : Int) < (off (j + 1) : Int)) := by omega
    simp [b, this]
  · omega
theorem cut_inj (h : CutOk D m off) (h2 : 1 < m) {i j : Nat} (hi : i < m) (hj : j < m) (e : cutP D m off i = cutP D m off j) : i = j := by
  have e1 : (off i : Int) = (off j : Int) := congrArg Pc.o e
  rcases Nat.lt_trichotomy i j with hlt | hlt | hlt
  · have := h.mono h2 j i (by omega) (by omega); omega
  · exact hlt
  · have := h.mono h2 i j (by omega) (by omega); omega
theorem cut_mem (h : CutOk D m off) (h2 : 1 < m) {ks : List Nat} (hk : ∀ k ∈ ks, k < m) {i : Nat} (hi : i < m) : cutP D m off i ∈ ks.map (cutP D m off) ↔ i ∈ ks := by
  rw [List.mem_map]
  exact ⟨fun ⟨j, hj, e⟩ => by rw [← cut_inj h h2 (hk j hj) hi e]; exact hj, fun h => ⟨i, h, rfl⟩⟩
theorem cut_sum (h : CutOk D m off) (h2 : 1 < m) {ks : List Nat} (hn : ks.Nodup) (hk : ∀ k ∈ ks, k < m) : sumP (ks.map (cutP D m off)) = sumTo m (fun i => if i ∈ ks then off (i + 1) - off i else 0) := by
  rw [sumTo_keys m (fun i => off (i + 1) - off i) ks hn hk]
  unfold sumP
  rw [List.map_map]
  congr 1
  exact List.map_congr_left (fun k hkk => cut_size h h2 (hk k hkk))
theorem cut_all (h : CutOk D m off) (h2 : 1 < m) : sumTo m (fun i => off (i + 1) - off i) = D.size := by
  have : ∀ j, j ≤ m → sumTo j (fun i => off (i + 1) - off i) = off j := fun j => by
    induction j with
    | zero => intro _; exact h.zero.symm
    | succ j ih =>
      intro hj
      show sumTo j _ + (off (j + 1) - off j) = off (j + 1)
      rw [ih (by omega)]
      have := h.lt j (by omega) h2
      omega
  rw [this m (Nat.le_refl _), h.last]
theorem cut_endP (h : CutOk D m off) (h2 : 1 < m) : ∀ (ks : List Nat) (e : Int), (∀ k ∈ ks, k < m) → (ks.map (cutP D m off)).foldl (fun e x => if x.mo then e else pEnd x) e = if m - 1 ∈ ks then (D.size : Int) else e
  | [], e, _ => by simp
  | k :: ks, e, hk => by
    rw [List.map_cons, List.foldl_cons, cut_endP h h2 ks _ (fun x hx => hk x (.tail _ hx))]
    by_cases a : m - 1 ∈ ks
    · rw [if_pos a, if_pos (.tail _ a)]
    · rw [if_neg a]
      have hkm := hk k (.head _)
      by_cases b : k + 1 < m
      · rw [if_pos (by show decide (k + 1 < m) = true; simpa using b), if_neg (by intro c; rcases List.mem_cons.1 c with c | c; omega; exact a c)]
      · obtain rfl : k = m - 1 := by omega
        rw [if_neg (by show ¬ decide (m - 1 + 1 < m) = true; simpa using b), if_pos (.head _), cut_end h h2 hkm, show m - 1 + 1 = m by omega, h.last]
/-- All bytes are there just when all pieces are. -/
theorem cut_whole (h : CutOk D m off) (h2 : 1 < m) {ks : List Nat} (hn : ks.Nodup) (hk : ∀ k ∈ ks, k < m) (hl : ks.length ≤ m) : wholeP (ks.map (cutP D m off)) = decide (ks.length = m) := by
  have e1 := cut_sum h h2 hn hk
  have e2 := cut_endP h h2 ks (-1) hk
  unfold wholeP
  rw [show endP (ks.map (cutP D m off)) = _ from e2, e1, Bool.eq_iff_iff, decide_eq_true_iff, decide_eq_true_iff]
  by_cases hf : ks.length = m
  · have hall := keys_full hn hk hf
    rw [if_pos (hall (m - 1) (by omega)), sumTo_congr (h := fun i => off (i + 1) - off i) (fun i hi => if_pos (hall i hi)), cut_all h h2]
    exact ⟨fun _ => hf, fun _ => rfl⟩
  · refine ⟨fun he => ?_, fun he => absurd he hf⟩
    obtain ⟨i, hi, hni⟩ := key_lacks hn hk (by omega)
    have hlt : sumTo m (fun i => if i ∈ ks then off (i + 1) - off i else 0) < sumTo m (fun i => off (i + 1) - off i) := sumTo_lt _ _ _ (fun j _ => by split <;> omega) ⟨i, hi, by rw [if_neg hni]; have := h.lt i hi h2; omega⟩
    rw [cut_all h h2] at hlt
    split at he <;> omega
theorem lay_get {a s : List UInt8} {k j : Nat} (h : k + s.length ≤ a.length) : (lay a k s)[j]? = if k ≤ j ∧ j < k + s.length then s[j - k]? else a[j]? := by
  unfold lay
  by_cases c1 : j < k
  · rw [if_neg (by omega), List.getElem?_append_left (by rw [List.length_take]; omega), List.getElem?_take, if_pos c1]
  · rw [List.getElem?_append_right (by rw [List.length_take]; omega), List.length_take]
    by_cases c2 : j < k + s.length
    · rw [if_pos ⟨by omega, c2⟩, List.getElem?_append_left (by omega)]
      congr 1; omega
    · rw [if_neg (by omega), List.getElem?_append_right (by omega), List.getElem?_drop]
      congr 1; omega
theorem cut_fill (h : CutOk D m off) (h2 : 1 < m) : ∀ (ks : List Nat) (a : List UInt8), a.length = 1200 → (∀ k ∈ ks, k < m) → ∀ j, j < D.size → ((∃ k ∈ ks, off k ≤ j ∧ j < off (k + 1)) ∨ a[j]? = D.data.toList[j]?) → ((ks.map (cutP D m off)).foldl (fun a x => lay a x.o.toNat x.da.data.toList) a)[j]? = D.data.toList[j]?
  | [], a, _, _, j, _, hj => hj.resolve_left (fun ⟨k, hk, _⟩ => by cases hk)
  | k :: ks, a, ha, hk, j, hjD, hj => by
    have hkm := hk k (.head _)
    have hlt := h.lt k hkm h2
    have hle := h.le h2 (i := k + 1) (by omega)
    have hsm := h.small
    have hsz : (D.extract (off k) (off (k + 1))).data.toList.length = off (k + 1) - off k := by
      rw [Array.length_toList]; exact cut_size h h2 hkm
    have hlen : (lay a (off k) (D.extract (off k) (off (k + 1))).data.toList).length = 1200 := (lay_len (by rw [hsz]; omega)).trans ha
    rw [List.map_cons, List.foldl_cons]
    refine cut_fill h h2 ks _ hlen (fun x hx => hk x (.tail _ hx)) j hjD ?_
    show _ ∨ (lay a (off k) (D.extract (off k) (off (k + 1))).data.toList)[j]? = _
    have hg := lay_get (a := a) (s := (D.extract (off k) (off (k + 1))).data.toList) (k := off k) (j := j) (by rw [hsz]; omega)
    rw [hsz, show off k + (off (k + 1) - off k) = off (k + 1) by omega] at hg
    by_cases c : off k ≤ j ∧ j < off (k + 1)
    · refine .inr ?_
      rw [hg, if_pos c]
      have : (D.extract (off k) (off (k + 1))).data.toList = (D.data.toList.drop (off k)).take (off (k + 1) - off k) := by
        rw [ByteArray.data_extract, Array.toList_extract, List.extract_eq_take_drop]
      rw [this, List.getElem?_take, if_pos (by omega), List.getElem?_drop]
      congr 1; omega
    · rcases hj with ⟨i, hi, hi2⟩ | hj
      · rcases List.mem_cons.1 hi with rfl | hi
        · exact absurd hi2 c
        · exact .inl ⟨i, hi, hi2⟩
      · exact .inr (by rw [hg, if_neg c]; exact hj)
theorem cut_cover (h : CutOk D m off) (h2 : 1 < m) {j : Nat} (hj : j < D.size) : ∃ k, k < m ∧ off k ≤ j ∧ j < off (k + 1) := by
  have : ∀ n, n ≤ m → j < off n → ∃ k, k < n ∧ off k ≤ j ∧ j < off (k + 1) := fun n => by
    induction n with
    | zero => intro _ hh; rw [h.zero] at hh; omega
    | succ n ih =>
      intro hn hh
      by_cases c : off n ≤ j
      · exact ⟨n, by omega, c, hh⟩
      · obtain ⟨k, k1, k2⟩ := ih (by omega) (by omega)
        exact ⟨k, by omega, k2⟩
  obtain ⟨k, k1, k2⟩ := this m (Nat.le_refl _) (by rw [h.last]; exact hj)
  exact ⟨k, k1, k2⟩
theorem cut_bytes (h : CutOk D m off) (h2 : 1 < m) {ks : List Nat} (hn : ks.Nodup) (hk : ∀ k ∈ ks, k < m) (hl : ks.length = m) : (⟨((fillP (ks.map (cutP D m off))).take (sumP (ks.map (cutP D m off)))).toArray⟩ : ByteArray) = D := by
  have hall := keys_full hn hk hl
  have hs : sumP (ks.map (cutP D m off)) = D.size := by
    rw [cut_sum h h2 hn hk, sumTo_congr (h := fun i => off (i + 1) - off i) (fun i hi => if_pos (hall i hi)), cut_all h h2]
  rw [hs]
  apply ByteArray.ext
  apply Array.toList_inj.1
  show ((fillP (ks.map (cutP D m off))).take D.size) = D.data.toList
  apply List.ext_getElem?
  intro j
  rw [List.getElem?_take]
  by_cases c : j < D.size
  · rw [if_pos c]
    obtain ⟨k, k1, k2⟩ := cut_cover h h2 c
    exact cut_fill h h2 ks (List.replicate 1200 0) List.length_replicate hk j c (.inl ⟨k, hall k k1, k2⟩)
  · rw [if_neg c, List.getElem?_eq_none (by rw [Array.length_toList]; show D.size ≤ j; omega)]
/-- What is there when these pieces have come, in this order. -/
def LQ (base : Pd) (D : ByteArray) (m : Nat) (off : Nat → Nat) (ks : List Nat) : List Da := if ks = [] then [] else [⟨nmOf base, 0, if 0 ∈ ks then base.tl else 0, ks.map (cutP D m off)⟩]
def wholeB (base : Pd) (D : ByteArray) : Pd := ⟨base.id, base.sr, base.ds, base.pr, base.tl, 0, false, D⟩
theorem off_nought (h : CutOk D m off) (h2 : 1 < m) {k : Nat} (hk : k < m) : ((off k : Int) = 0) ↔ k = 0 := by
  constructor
  · intro e
    have := h.mono h2 k 0 (by omega) (by omega)
    rw [h.zero] at this; omega
  · rintro rfl; rw [h.zero]; rfl
theorem cut_may (h : CutOk D m off) (h2 : 1 < m) {base : Pd} (hb : mayB base = true) {k : Nat} (hk : k < m) : mayB (cutD base D m off k) = true := by
  obtain ⟨b1, b2, b3, b4, b5, b6, _⟩ := mayB_all hb
  have hs : (D.extract (off k) (off (k + 1))).size = off (k + 1) - off k := cut_size h h2 hk
  have hle := h.le h2 (i := k + 1) (by omega)
  have hlt := h.lt k hk h2
  have h8 := h.eight k hk
  have hsm := h.small
  refine decide_eq_true ⟨b1, b2, b3, b4, b5, b6, by show (off k : Int) % 8 = 0; omega, by show (0 : Int) ≤ off k; omega, by show (off k : Int) ≤ 65528; omega, ?_, ?_⟩
  · show (off k : Int) + ((D.extract (off k) (off (k + 1))).size : Int) ≤ 65515
    rw [hs]; omega
  · show decide (k + 1 < m) = false ∨ 0 < (D.extract (off k) (off (k + 1))).size ∧ (D.extract (off k) (off (k + 1))).size % 8 = 0
    by_cases c : k + 1 < m
    · have h9 := h.eight (k + 1) c
      exact .inr (by rw [hs]; omega)
    · exact .inl (by simpa using c)
theorem cut_step (h : CutOk D m off) (h2 : 1 < m) {base : Pd} (hb : mayB base = true) {ks : List Nat} (hn : ks.Nodup) (hks : ∀ k ∈ ks, k < m) (hl : ks.length < m) {k : Nat} (hk : k < m) :
    putA (cutD base D m off k) (LQ base D m off ks) = if k ∈ ks then (pdZ, false, LQ base D m off ks) else if ks.length + 1 = m then (wholeB base D, true, []) else (pdZ, false, LQ base D m off (ks ++ [k])) := by
  have hm := cut_may h h2 hb hk
  have h0 := off_nought h h2 hk
  have hnm : nmOf (cutD base D m off k) = nmOf base := rfl
  have hpc : pcOf (cutD base D m off k) = cutP D m off k := rfl
  have hbg : begA (nmOf base) (LQ base D m off ks) = ([⟨nmOf base, 0, if 0 ∈ ks then base.tl else 0, ks.map (cutP D m off)⟩], 0) := by
    unfold LQ
    by_cases c : ks = []
    · subst c; rfl
    · rw [if_neg c]
      unfold begA
      simp
  unfold putA
  rw [if_neg (by rw [hm]; decide), if_neg (by
    rintro ⟨e1, e2⟩
    have e3 : k = 0 := h0.1 e1
    subst e3
    have e4 : decide (0 + 1 < m) = false := e2
    rw [decide_eq_false_iff_not] at e4
    omega), hnm, hbg]
  show putI _ _ _ _ = _
  unfold putI
  rw [hpc]
  by_cases c : k ∈ ks
  · rw [if_pos ((cut_mem h h2 hks hk).2 c), if_pos c, show LQ base D m off ks = [⟨nmOf base, 0, if 0 ∈ ks then base.tl else 0, ks.map (cutP D m off)⟩] from if_neg (by rintro rfl; cases c)]
  · rw [if_neg (fun hh => c ((cut_mem h h2 hks hk).1 hh)), if_neg c]
    have hmay : mayP (ks.map (cutP D m off)) (cutP D m off k) = true := by
      unfold mayP
      rw [Bool.and_eq_true]
      refine ⟨decide_eq_true ?_, ?_⟩
      · rw [cut_end h h2 hk]
        have := h.le h2 (i := k + 1) (by omega)
        have := h.small
        omega
      · rw [Bool.not_eq_true', List.any_eq_false]
        intro x hx
        obtain ⟨j, hj, rfl⟩ := List.mem_map.1 hx
        rw [cut_clash h h2 hk (hks j hj) (fun e => c (by rw [e]; exact hj))]
        decide
    rw [if_neg (by show ¬ mayP (ks.map (cutP D m off)) (cutP D m off k) = false; rw [hmay]; decide)]
    have hn2 : (ks ++ [k]).Nodup := by
      rw [List.nodup_append]
      exact ⟨hn, List.nodup_cons.2 ⟨by simp, List.nodup_nil⟩, fun a ha b hb2 => by rw [List.mem_singleton] at hb2; subst hb2; intro e; subst e; exact c ha⟩
    have hk2 : ∀ x ∈ ks ++ [k], x < m := fun x hx => by
      rcases List.mem_append.1 hx with hx | hx
      · exact hks x hx
      · rw [List.mem_singleton] at hx; subst hx; exact hk
    have hmap : ks.map (cutP D m off) ++ [cutP D m off k] = (ks ++ [k]).map (cutP D m off) := by simp
    have hlen : (ks ++ [k]).length = ks.length + 1 := by simp
    have hw := cut_whole h h2 hn2 hk2 (by rw [hlen]; omega)
    rw [hlen] at hw
    have ht : (if (cutD base D m off k).ps = 0 then (cutD base D m off k).tl else if 0 ∈ ks then base.tl else 0) = if 0 ∈ ks ++ [k] then base.tl else 0 := by
      show (if (off k : Int) = 0 then base.tl else if 0 ∈ ks then base.tl else 0) = _
      by_cases e : k = 0
      · subst e
        rw [if_pos (h0.2 rfl), if_pos (by simp)]
      · rw [if_neg (fun hh => e (h0.1 hh))]
        by_cases e2 : 0 ∈ ks
        · rw [if_pos e2, if_pos (List.mem_append_left _ e2)]
        · rw [if_neg e2, if_neg (by
            intro hh
            rcases List.mem_append.1 hh with hh | hh
            · exact e2 hh
            · rw [List.mem_singleton] at hh; exact e hh.symm)]
    simp only [hmap, ht, hw]
    by_cases cm : ks.length + 1 = m
    · rw [if_pos (decide_eq_true cm), if_pos cm]
      have hall := keys_full hn2 hk2 (by rw [hlen]; exact cm)
      refine Prod.ext ?_ rfl
      unfold wholeD wholeB
      show (⟨_, _, _, _, _, _, _, _⟩ : Pd) = _
      rw [if_pos (hall 0 (by omega)), cut_bytes h h2 hn2 hk2 (by rw [hlen]; exact cm), ← nmOf_id hb, ← nmOf_pr hb]
      rfl
    · rw [if_neg (by rw [decide_eq_false cm]; decide), if_neg cm, show LQ base D m off (ks ++ [k]) = [⟨nmOf base, 0, if 0 ∈ ks ++ [k] then base.tl else 0, (ks ++ [k]).map (cutP D m off)⟩] from if_neg (by simp)]
      rfl
end

end Go.Proofs.Ytbjoibgkhooljaa

namespace Go.Proofs.Ytbjoibgkhooljaa
open Go.RowKit Go.Sort Go.Shelf
set_option linter.unusedVariables false

/-- What Tick's closure reads. -/
structure TkS (n1 g : Nat) (lim : Int) (w : World) : Prop where
  box : w.cell? ⟨n1, 0, none⟩ = some (.pointer (some ⟨g, 0, none⟩))
  lim0 : w.cell? ⟨g, 0, none⟩ = some (.int .i64 lim)
  l1 : n1 < w.heap.size
  lg : g < w.heap.size
theorem TkS.grow {n1 g : Nat} {lim : Int} {w w' : World} (h : TkS n1 g lim w) (b : Below w.heap.size w w') : TkS n1 g lim w' :=
  ⟨(b.cell (p := ⟨n1, 0, none⟩) h.l1).trans h.box, (b.cell (p := ⟨g, 0, none⟩) h.lg).trans h.lim0, Nat.lt_of_lt_of_le h.l1 b.size, Nat.lt_of_lt_of_le h.lg b.size⟩
theorem TkS.turn {n1 g : Nat} {lim : Int} {w w' : World} {O : Nat → Prop} (h : TkS n1 g lim w) (t : Turn w w' O) (h1 : ¬ O n1) (h2 : ¬ O g) : TkS n1 g lim w' :=
  ⟨(cell_turn t h.l1 h1).trans h.box, (cell_turn t h.lg h2).trans h.lim0, Nat.lt_of_lt_of_le h.l1 t.size, Nat.lt_of_lt_of_le h.lg t.size⟩

theorem enters_tick : ∀ args w, (callFunc 45 args).run Try.prog w = .ok (.enter 45 args) w := enters_of Try.func45 (by kernel_rfl) rfl
set_option maxRecDepth 100000 in
set_option maxHeartbeats 2000000 in
theorem tick1_ok {n1 g : Nat} {lim : Int} {W : World} (h : TkS n1 g lim W) (x : Dg) :
    Calls Try.prog 45 #[.agg #[.int .u8 (x.nm.sr.a.toNat : Int), .int .u8 (x.nm.sr.b.toNat : Int), .int .u8 (x.nm.sr.c.toNat : Int), .int .u8 (x.nm.sr.d.toNat : Int), .int .u8 (x.nm.ds.a.toNat : Int), .int .u8 (x.nm.ds.b.toNat : Int), .int .u8 (x.nm.ds.c.toNat : Int), .int .u8 (x.nm.ds.d.toNat : Int), .int .i64 (x.nm.pr.toNat : Int), .int .i64 (x.nm.id.toNat : Int), .int .i64 x.age, .int .i64 x.ttl, .slice x.pp x.ps.length x.pc], .pointer (some ⟨n1, 0, none⟩)] W fun e w' => e = .returned (.bool (decide (lim ≤ x.age))) ∧ Below W.heap.size W w' := by
  have bl : Below W.heap.size W (W.alloc (.cells #[.int .u8 (x.nm.sr.a.toNat : Int), .int .u8 (x.nm.sr.b.toNat : Int), .int .u8 (x.nm.sr.c.toNat : Int), .int .u8 (x.nm.sr.d.toNat : Int), .int .u8 (x.nm.ds.a.toNat : Int), .int .u8 (x.nm.ds.b.toNat : Int), .int .u8 (x.nm.ds.c.toNat : Int), .int .u8 (x.nm.ds.d.toNat : Int), .int .i64 (x.nm.pr.toNat : Int), .int .i64 (x.nm.id.toNat : Int), .int .i64 x.age, .int .i64 x.ttl, .slice x.pp x.ps.length x.pc] 87)) := (Below.refl _ _).alloc (Nat.le_refl _) _
  have k := h.grow bl
  have k1 := k.box
  have k2 := k.lim0
  have cA : (W.alloc (.cells #[.int .u8 (x.nm.sr.a.toNat : Int), .int .u8 (x.nm.sr.b.toNat : Int), .int .u8 (x.nm.sr.c.toNat : Int), .int .u8 (x.nm.sr.d.toNat : Int), .int .u8 (x.nm.ds.a.toNat : Int), .int .u8 (x.nm.ds.b.toNat : Int), .int .u8 (x.nm.ds.c.toNat : Int), .int .u8 (x.nm.ds.d.toNat : Int), .int .i64 (x.nm.pr.toNat : Int), .int .i64 (x.nm.id.toNat : Int), .int .i64 x.age, .int .i64 x.ttl, .slice x.pp x.ps.length x.pc] 87)).cell? ⟨W.heap.size, 10, none⟩ = some (.int .i64 x.age) := by rw [cell_of_block (heap_alloc_new W _)]; rfl
  have BL := Lib.hid bl
  clear bl k h
  go_enter Try.func45, Try.ntmps45
  go_upto_region 1 with fail
  obtain ⟨n, hn⟩ : ∃ n, n = W.heap.size := ⟨_, rfl⟩
  have HN := Lib.hid hn
  generalize W.alloc _ = W1 at k1 k2 cA BL ⊢
  rw [← hn] at cA ⊢
  clear hn
  go_quiet (fail)
  go_wp2
  go_ret
  exact ⟨rfl, below_drewN BL.out _⟩
theorem tick1_pred {n1 g : Nat} {lim : Int} {W : World} (h : TkS n1 g lim W) : PredBelow Try.prog 45 #[.pointer (some ⟨n1, 0, none⟩)] (fun x => .agg (dgE x).toArray) (fun x : Dg => decide (lim ≤ x.age)) W := fun V x hb => by
  have := (tick1_ok (h.grow hb) x).mono (fun e w' ⟨h1, h2⟩ => (⟨h1, hb.trans (h2.mono hb.size)⟩ : e = Ending.returned (.bool (decide (lim ≤ x.age))) ∧ Below W.heap.size W w'))
  exact this

theorem upon_store_at {P : Program} {o : Oper} {a : Act} {w w' : World} {K : Act → World → Prop} {Q : Exit → Act → World → Prop} (t : TypeId) (p x : Operand) (ho : o.op = .store t p x) (hd : o.dst = none) (v : Value) (g i : Nat) (hp : a.eval p = .pointer (some ⟨g, i, none⟩)) (hx : a.eval x = v)
    (hr : (storeVar t ⟨g, i, none⟩ v).run P w = .ok () w') (h : K a w') : o.wp P a w K Q := by
  unfold Oper.wp execOp
  simp only [ho, hp, hx, Instr.storeAt, Instr.sureAddr, Sem.run_bind, Sem.run_pure, Result.andThen_ok, hr]
  show K (a.put o.dst undef) w'
  rw [hd]
  exact h
theorem wpList_storeAt {P : Program} {ops : Array Oper} {rest : List Oper} {o : Oper} {a : Act} {w w' : World} {Q : Exit → Act → World → Prop} (t : TypeId) (p x : Operand) (hgd : o.guard = none) (ho : o.op = .store t p x) (hd : o.dst = none) (v : Value) (g i : Nat) (hp : a.eval p = .pointer (some ⟨g, i, none⟩)) (hx : a.eval x = v)
    (hr : (storeVar t ⟨g, i, none⟩ v).run P w = .ok () w') (h : wpList P ops Q rest a w') : wpList P ops Q (o :: rest) a w :=
  wpList_plain hgd fun _ hK => upon_store_at t p x ho hd v g i hp hx hr (hK _ _ h)

/-- An entry is written in its place, of any row. -/
theorem DgRow.put {w : World} {l : List Dg} {b cap : Nat} (h : DgRow w (.slice (some ⟨b, 0, none⟩) l.length cap) l) {j : Nat} (hj : j < l.length) (y : Dg) :
    ∃ W, (storeVar 87 ⟨b, j * 13, none⟩ (.agg #[.int .u8 (y.nm.sr.a.toNat : Int), .int .u8 (y.nm.sr.b.toNat : Int), .int .u8 (y.nm.sr.c.toNat : Int), .int .u8 (y.nm.sr.d.toNat : Int), .int .u8 (y.nm.ds.a.toNat : Int), .int .u8 (y.nm.ds.b.toNat : Int), .int .u8 (y.nm.ds.c.toNat : Int), .int .u8 (y.nm.ds.d.toNat : Int), .int .i64 (y.nm.pr.toNat : Int), .int .i64 (y.nm.id.toNat : Int), .int .i64 y.age, .int .i64 y.ttl, .slice y.pp y.ps.length y.pc])).run Try.prog w = .ok () W ∧ DgRow W (.slice (some ⟨b, 0, none⟩) l.length cap) (l.set j y) ∧ Turn w W (fun k => k = b) := by
  obtain ⟨b', cap', cur, hv, h1, h2, h3, h4, h5⟩ := h.block (by omega)
  injection hv with hv _ hc; injection hv with hv; injection hv with hv
  subst hv hc
  have hfit : j * 13 + (dgE y).length ≤ cur.size := by rw [dgE_len, h4]; omega
  have hst := run_storeCells_at Try.prog b (j * 13) 87 (dgE y) 0 cur w h1 (by simpa using hfit) (dgE_one y)
  simp only [Nat.add_zero] at hst
  rw [dgE_len] at hst
  have hi : (Try.prog.info? 87).map (·.size) = some 13 := by kernel_rfl
  refine ⟨w.setRow b (cur.toList.take (j * 13) ++ dgE y ++ cur.toList.drop (j * 13 + 13)).toArray, ?_, ?_, Turn.setRow (O := fun k => k = b) (Turn.refl _ _) rfl _⟩
  · cases hq : Try.prog.info? 87 with
    | none => simp [hq] at hi
    | some q =>
      have hs : q.size = 13 := by simpa [hq] using hi
      have hst2 : Sem.run Try.prog (storeCells ⟨b, j * 13, none⟩ [.int .u8 (y.nm.sr.a.toNat : Int), .int .u8 (y.nm.sr.b.toNat : Int), .int .u8 (y.nm.sr.c.toNat : Int), .int .u8 (y.nm.sr.d.toNat : Int), .int .u8 (y.nm.ds.a.toNat : Int), .int .u8 (y.nm.ds.b.toNat : Int), .int .u8 (y.nm.ds.c.toNat : Int), .int .u8 (y.nm.ds.d.toNat : Int), .int .i64 (y.nm.pr.toNat : Int), .int .i64 (y.nm.id.toNat : Int), .int .i64 y.age, .int .i64 y.ttl, .slice y.pp y.ps.length y.pc]) w = .ok () (w.setRow b (cur.toList.take (j * 13) ++ dgE y ++ cur.toList.drop (j * 13 + 13)).toArray) := hst
      simp [storeVar, sizeOf, typeInfo, hq, Value.cells, hs, hst2]
  · refine RowA.put dgE_len (cur' := (cur.toList.take (j * 13) ++ dgE y ++ cur.toList.drop (j * 13 + 13)).toArray) h hj y (fun cur2 hc2 => ?_)
    rw [h1] at hc2
    injection hc2 with hc2; injection hc2 with hc2
    subst hc2
    exact ⟨setRow_heap w b cur _ _ _ h1, rfl⟩

/-- How the row stands while the entries that stay are moved together. -/
structure DelS (l m : List Dg) (q : Dg → Bool) (a c : Nat) : Prop where
  len : m.length = l.length
  ac : a < c
  cl : c ≤ l.length
  al : a = ((l.take c).filter q).length
  done : m.take a = (l.take c).filter q
  rest : m.drop c = l.drop c
theorem take_succ_get {l : List Dg} {c : Nat} (hc : c < l.length) : l.take (c + 1) = l.take c ++ [l[c]] := by
  rw [List.take_add_one, List.getElem?_eq_getElem hc]
  rfl
theorem DelS.get {l m : List Dg} {q : Dg → Bool} {a c : Nat} (h : DelS l m q a c) (hc : c < l.length) : m[c]'(by rw [h.len]; exact hc) = l[c] := by
  have e := congrArg (fun x => x[0]?) h.rest
  simp only [List.getElem?_drop, Nat.add_zero] at e
  rw [List.getElem?_eq_getElem hc, List.getElem?_eq_getElem (by rw [h.len]; exact hc)] at e
  injection e
theorem DelS.out {l m : List Dg} {q : Dg → Bool} {a c : Nat} (h : DelS l m q a c) (hc : c < l.length) (hq : q l[c] = false) : DelS l m q a (c + 1) := by
  have e := take_succ_get hc
  have f : (l.take (c + 1)).filter q = (l.take c).filter q := by rw [e, List.filter_append]; simp [hq]
  refine ⟨h.len, by have := h.ac; omega, hc, by rw [f]; exact h.al, by rw [f]; exact h.done, ?_⟩
  rw [← List.drop_drop, ← List.drop_drop, h.rest]
theorem DelS.stay {l m : List Dg} {q : Dg → Bool} {a c : Nat} (h : DelS l m q a c) (hc : c < l.length) (hq : q l[c] = true) : DelS l (m.set a l[c]) q (a + 1) (c + 1) := by
  have e := take_succ_get hc
  have f : (l.take (c + 1)).filter q = (l.take c).filter q ++ [l[c]] := by rw [e, List.filter_append]; simp [hq]
  have hac := h.ac
  have ham : a < m.length := by rw [h.len]; omega
  refine ⟨by rw [List.length_set]; exact h.len, by omega, hc, by rw [f, List.length_append, ← h.al]; rfl, ?_, ?_⟩
  · rw [f, ← h.done, List.take_add_one, List.take_set_of_le (Nat.le_refl a), List.getElem?_set_self ham]
    rfl
  · rw [List.drop_set_of_lt (by omega), ← List.drop_drop, ← List.drop_drop, h.rest]

theorem filter_len_le (q : Dg → Bool) (l : List Dg) : (l.filter q).length ≤ l.length := List.length_filter_le _ _
set_option maxRecDepth 100000 in
set_option maxHeartbeats 4000000 in
theorem delfunc_ok {w : World} {n1 g : Nat} {lim : Int} {p : Option Addr} {c : Nat} {l : List Dg} (h : DgRow w (.slice p l.length c) l) (hl : l.length ≤ 1000000) (hb : TkS n1 g lim w) (hne : ∀ k, (Value.slice p l.length c).ownBlock = some k → k ≠ n1 ∧ k ≠ g) (q : Dg → Bool) (hq : q = fun x => !decide (lim ≤ x.age)) :
    Calls Try.prog 44 #[.slice p l.length c, .func (.func 45) #[] #[.pointer (some ⟨n1, 0, none⟩)]] w fun e w' =>
      e = .returned (.slice p (l.filter q).length c) ∧ DgRow w' (.slice p (l.filter q).length c) (l.filter q) ∧ Turn w w' (fun k => (Value.slice p l.length c).ownBlock = some k) := by
  have HX := Lib.hid (idx_dg (fun x : Dg => decide (lim ≤ x.age)) 45 #[.pointer (some ⟨n1, 0, none⟩)] enters_tick w (.slice p l.length c) l h hl (tick1_pred hb))
  have HB := Lib.hid hb
  have HR := Lib.hid h
  have HNE := Lib.hid hne
  clear hb h hne
  go_enter Try.func44, Try.ntmps44
  go_upto_region 2 with (go_at_call 72; refine HX.out.mono ?_; rintro e w2 ⟨r, rfl, q1, q2⟩; have Q1 := Lib.hid q1; have Q2 := Lib.hid q2; clear q1 q2)
  have HR2 : Hid (DgRow w2 (.slice p l.length c) l) := Lib.hid (HR.out.kept Q2.out.size (fun b hb => Q2.out.block b (HR.out.lt b hb).2))
  have HB2 := Lib.hid (HB.out.grow Q2.out)
  rcases Q1.out with ⟨rfl, hno⟩ | ⟨j, hj, rfl, hpj, hf⟩
  · have hfl : l.filter (fun x => !decide (lim ≤ x.age)) = l := List.filter_eq_self.2 (fun x hx => by rw [hno x hx]; rfl)
    have HFL := Lib.hid hfl
    clear hfl hno
    go_wp2_with fail
    go_ret
    rw [HFL.out]
    exact ⟨rfl, HR2.out, Turn.of_below Q2.out⟩
  · obtain ⟨b, cap, hv, hcap, hcm, hbl, hfz, _⟩ := RowA.elem dgE_len HR2.out (by omega)
    injection hv with hv _ hc
    subst hv hc
    have hnb := HNE.out b rfl
    have HQ := Lib.hid hq
    have hjn : ((j : Int) == -1) = false := by simp <;> omega
    unfold maxLen at hcm
    have D0 : Hid (DelS l l q j (j + 1)) := Lib.hid (by
      have e := take_succ_get hj
      have f0 : (l.take j).filter q = l.take j := List.filter_eq_self.2 (fun x hx => by rw [hq]; simp [hf x hx])
      have f : (l.take (j + 1)).filter q = l.take j := by rw [e, List.filter_append, f0]; simp [hq, hpj]
      exact ⟨rfl, Nat.lt_succ_self _, hj, by rw [f, List.length_take]; omega, by rw [f], rfl⟩)
    have T0 : Hid (Turn w w2 (fun k => k = b)) := Lib.hid (Turn.of_below Q2.out)
    clear hpj hf hq hfz Q1 Q2 HX
    go_wp2_with fail
    clear hjn
    go_loopw [5, 6] (fun i5 i6 wr => ∃ (a c6 : Nat) (m : List Dg), i5 = .int .i64 a ∧ i6 = .int .i64 c6 ∧ Hid (DelS l m q a c6) ∧ Hid (DgRow wr (.slice (some ⟨b, 0, none⟩) l.length c) m) ∧ Hid (Turn w wr (fun k => k = b)) ∧ Hid (TkS n1 g lim wr)) (fun _ i6 _ => l.length - (intOf i6).toNat)
    case atStart => exact ⟨j, j + 1, l, rfl, by go_num, D0, HR2, T0, HB2⟩
    case round =>
      obtain ⟨a, c6, m, rfl, rfl, D, R, T, S⟩ := hrel
      have hac := D.out.ac
      have hcl := D.out.cl
      have hml := D.out.len
      by_cases hlt : c6 < l.length
      · have R' : Hid (DgRow wr (.slice (some ⟨b, 0, none⟩) m.length c) m) := Lib.hid (by rw [hml]; exact R.out)
        have hE : Hid (wr.rangeAt b (c6 * 13) (dgE l[c6])) := Lib.hid (by
          obtain ⟨b', cap', hv', _, _, _, _, hE⟩ := RowA.elem dgE_len R'.out (by omega)
          injection hv' with hv' _ _; injection hv' with hv'; injection hv' with hv'
          subst hv'
          rw [← D.out.get hlt]
          exact hE c6 (by omega))
        have D1 : Hid (q l[c6] = false → DelS l m q a (c6 + 1)) := Lib.hid (fun hq => D.out.out hlt hq)
        have D2 : Hid (q l[c6] = true → DelS l (m.set a l[c6]) q (a + 1) (c6 + 1)) := Lib.hid (fun hq => D.out.stay hlt hq)
        have hml2 : a < m.length := by omega
        generalize l[c6] = x at hE D1 D2
        have hj1 : decide ((c6 : Int) < (l.length : Int)) = true := by simp; omega
        have hw6 : IntKind.i64.wrap ((c6 : Int) + 1) = (c6 : Int) + 1 := IntWalk.i64_in _ (by omega)
        go_upto_region 8 with (refine wpList_load_mid rfl 87 _ rfl b (c6 * 13) rfl [.int .u8 (x.nm.sr.a.toNat : Int), .int .u8 (x.nm.sr.b.toNat : Int), .int .u8 (x.nm.sr.c.toNat : Int), .int .u8 (x.nm.sr.d.toNat : Int), .int .u8 (x.nm.ds.a.toNat : Int), .int .u8 (x.nm.ds.b.toNat : Int), .int .u8 (x.nm.ds.c.toNat : Int), .int .u8 (x.nm.ds.d.toNat : Int), .int .i64 (x.nm.pr.toNat : Int), .int .i64 (x.nm.id.toNat : Int), .int .i64 x.age, .int .i64 x.ttl, .slice x.pp x.ps.length x.pc] _ hE.out Try.underlying87 rfl (by kernel_rfl) ?_)
        have B2 : Hid (Below wr.heap.size wr (wr.alloc (.cells #[.int .u8 (x.nm.sr.a.toNat : Int), .int .u8 (x.nm.sr.b.toNat : Int), .int .u8 (x.nm.sr.c.toNat : Int), .int .u8 (x.nm.sr.d.toNat : Int), .int .u8 (x.nm.ds.a.toNat : Int), .int .u8 (x.nm.ds.b.toNat : Int), .int .u8 (x.nm.ds.c.toNat : Int), .int .u8 (x.nm.ds.d.toNat : Int), .int .i64 (x.nm.pr.toNat : Int), .int .i64 (x.nm.id.toNat : Int), .int .i64 x.age, .int .i64 x.ttl, .slice x.pp x.ps.length x.pc] 87))) := Lib.hid ((Below.refl _ _).alloc (Nat.le_refl _) _)
        have hX : Hid ((wr.alloc (.cells #[.int .u8 (x.nm.sr.a.toNat : Int), .int .u8 (x.nm.sr.b.toNat : Int), .int .u8 (x.nm.sr.c.toNat : Int), .int .u8 (x.nm.sr.d.toNat : Int), .int .u8 (x.nm.ds.a.toNat : Int), .int .u8 (x.nm.ds.b.toNat : Int), .int .u8 (x.nm.ds.c.toNat : Int), .int .u8 (x.nm.ds.d.toNat : Int), .int .i64 (x.nm.pr.toNat : Int), .int .i64 (x.nm.id.toNat : Int), .int .i64 x.age, .int .i64 x.ttl, .slice x.pp x.ps.length x.pc] 87)).rangeAt wr.heap.size 0 [.int .u8 (x.nm.sr.a.toNat : Int), .int .u8 (x.nm.sr.b.toNat : Int), .int .u8 (x.nm.sr.c.toNat : Int), .int .u8 (x.nm.sr.d.toNat : Int), .int .u8 (x.nm.ds.a.toNat : Int), .int .u8 (x.nm.ds.b.toNat : Int), .int .u8 (x.nm.ds.c.toNat : Int), .int .u8 (x.nm.ds.d.toNat : Int), .int .i64 (x.nm.pr.toNat : Int), .int .i64 (x.nm.id.toNat : Int), .int .i64 x.age, .int .i64 x.ttl, .slice x.pp x.ps.length x.pc]) := Lib.hid (fun i u hu => by
          have := dg_new wr x i u hu
          rw [add_off] at this
          exact this)
        obtain ⟨n7, hn7⟩ : ∃ n, n = wr.heap.size := ⟨_, rfl⟩
        have h7 : n7 < (wr.alloc (.cells #[.int .u8 (x.nm.sr.a.toNat : Int), .int .u8 (x.nm.sr.b.toNat : Int), .int .u8 (x.nm.sr.c.toNat : Int), .int .u8 (x.nm.sr.d.toNat : Int), .int .u8 (x.nm.ds.a.toNat : Int), .int .u8 (x.nm.ds.b.toNat : Int), .int .u8 (x.nm.ds.c.toNat : Int), .int .u8 (x.nm.ds.d.toNat : Int), .int .i64 (x.nm.pr.toNat : Int), .int .i64 (x.nm.id.toNat : Int), .int .i64 x.age, .int .i64 x.ttl, .slice x.pp x.ps.length x.pc] 87)).heap.size := by rw [hn7]; simp
        have hb7 : n7 ≠ b := by
          have := (R.out.lt b rfl).2
          omega
        generalize wr.alloc _ = W5 at B2 hX h7 ⊢
        rw [← hn7] at hX ⊢
        clear hn7
        have S5 := Lib.hid (S.out.grow B2.out)
        have T5 : Hid (Turn w W5 (fun k => k = b)) := Lib.hid (T.out.trans (Turn.of_below B2.out))
        have R5 : Hid (DgRow W5 (.slice (some ⟨b, 0, none⟩) m.length c) m) := Lib.hid (R'.out.kept B2.out.size (fun k hk => B2.out.block k (R'.out.lt k hk).2))
        have HC : Hid (Calls Try.prog 45 #[.agg #[.int .u8 (x.nm.sr.a.toNat : Int), .int .u8 (x.nm.sr.b.toNat : Int), .int .u8 (x.nm.sr.c.toNat : Int), .int .u8 (x.nm.sr.d.toNat : Int), .int .u8 (x.nm.ds.a.toNat : Int), .int .u8 (x.nm.ds.b.toNat : Int), .int .u8 (x.nm.ds.c.toNat : Int), .int .u8 (x.nm.ds.d.toNat : Int), .int .i64 (x.nm.pr.toNat : Int), .int .i64 (x.nm.id.toNat : Int), .int .i64 x.age, .int .i64 x.ttl, .slice x.pp x.ps.length x.pc], .pointer (some ⟨n1, 0, none⟩)] W5 fun e w' => e = .returned (.bool (decide (lim ≤ x.age))) ∧ Hid (w'.rangeAt n7 0 [.int .u8 (x.nm.sr.a.toNat : Int), .int .u8 (x.nm.sr.b.toNat : Int), .int .u8 (x.nm.sr.c.toNat : Int), .int .u8 (x.nm.sr.d.toNat : Int), .int .u8 (x.nm.ds.a.toNat : Int), .int .u8 (x.nm.ds.b.toNat : Int), .int .u8 (x.nm.ds.c.toNat : Int), .int .u8 (x.nm.ds.d.toNat : Int), .int .i64 (x.nm.pr.toNat : Int), .int .i64 (x.nm.id.toNat : Int), .int .i64 x.age, .int .i64 x.ttl, .slice x.pp x.ps.length x.pc]) ∧ Hid (Turn w w' (fun k => k = b)) ∧ Hid (TkS n1 g lim w') ∧ Hid (DgRow w' (.slice (some ⟨b, 0, none⟩) m.length c) m)) := Lib.hid ((tick1_ok S5.out x).mono (fun e w' ⟨h1, h2⟩ => ⟨h1, Lib.hid (fun i u hu => by rw [h2.cell (p := ⟨n7, 0 + i, none⟩) h7]; exact hX.out i u hu), Lib.hid (T5.out.trans (Turn.of_below h2)), Lib.hid (S5.out.grow h2), Lib.hid (R5.out.kept h2.size (fun k hk => h2.block k (R5.out.lt k hk).2))⟩))
        clear hE B2 h7 S T R R5 S5 T5 R'
        by_cases hage : lim ≤ x.age
        · have d1 : decide (lim ≤ x.age) = true := by simpa using hage
          have hqx : q x = false := by rw [HQ.out]; simp [d1]
          go_wp2_with (first | (refine wpList_load_mid rfl 87 _ rfl n7 0 rfl [.int .u8 (x.nm.sr.a.toNat : Int), .int .u8 (x.nm.sr.b.toNat : Int), .int .u8 (x.nm.sr.c.toNat : Int), .int .u8 (x.nm.sr.d.toNat : Int), .int .u8 (x.nm.ds.a.toNat : Int), .int .u8 (x.nm.ds.b.toNat : Int), .int .u8 (x.nm.ds.c.toNat : Int), .int .u8 (x.nm.ds.d.toNat : Int), .int .i64 (x.nm.pr.toNat : Int), .int .i64 (x.nm.id.toNat : Int), .int .i64 x.age, .int .i64 x.ttl, .slice x.pp x.ps.length x.pc] _ hX.out Try.underlying87 rfl (by kernel_rfl) ?_) | (go_at_call 45; refine HC.out.mono ?_; rintro e W6 ⟨rfl, X6, T6, S6, R6⟩))
          go_roundw
          case rel => exact ⟨a, c6 + 1, m, rfl, by go_num, Lib.hid (D1.out hqx), Lib.hid (by rw [← hml]; exact R6.out), T6, S6⟩
          case measure => simp [intOf]; omega
        · have d1 : decide (lim ≤ x.age) = false := by simpa using hage
          have hqx : q x = true := by rw [HQ.out]; simp [d1]
          have hwa : IntKind.i64.wrap ((a : Int) + 1) = (a : Int) + 1 := IntWalk.i64_in _ (by omega)
          have HP : Hid (∀ w', DgRow w' (.slice (some ⟨b, 0, none⟩) m.length c) m → Turn w w' (fun k => k = b) → TkS n1 g lim w' → ∃ W, (storeVar 87 ⟨b, a * 13, none⟩ (.agg #[.int .u8 (x.nm.sr.a.toNat : Int), .int .u8 (x.nm.sr.b.toNat : Int), .int .u8 (x.nm.sr.c.toNat : Int), .int .u8 (x.nm.sr.d.toNat : Int), .int .u8 (x.nm.ds.a.toNat : Int), .int .u8 (x.nm.ds.b.toNat : Int), .int .u8 (x.nm.ds.c.toNat : Int), .int .u8 (x.nm.ds.d.toNat : Int), .int .i64 (x.nm.pr.toNat : Int), .int .i64 (x.nm.id.toNat : Int), .int .i64 x.age, .int .i64 x.ttl, .slice x.pp x.ps.length x.pc])).run Try.prog w' = .ok () W ∧ DgRow W (.slice (some ⟨b, 0, none⟩) l.length c) (m.set a x) ∧ Turn w W (fun k => k = b) ∧ TkS n1 g lim W) := Lib.hid (fun w' r t s => by
            obtain ⟨W, e1, e2, e3⟩ := DgRow.put r hml2 x
            exact ⟨W, e1, by rw [← hml]; exact e2, t.trans e3, s.turn e3 (Ne.symm hnb.1) (Ne.symm hnb.2)⟩)
          have q1 : (0 : Int) ≤ (a : Int) := by omega
          have q2 : (a : Int) < (l.length : Int) := by omega
          have q3 : decide ((a : Int) < (l.length : Int)) = true := by simp; omega
          go_upto_region 9 with (first | (refine wpList_load_mid rfl 87 _ rfl n7 0 rfl [.int .u8 (x.nm.sr.a.toNat : Int), .int .u8 (x.nm.sr.b.toNat : Int), .int .u8 (x.nm.sr.c.toNat : Int), .int .u8 (x.nm.sr.d.toNat : Int), .int .u8 (x.nm.ds.a.toNat : Int), .int .u8 (x.nm.ds.b.toNat : Int), .int .u8 (x.nm.ds.c.toNat : Int), .int .u8 (x.nm.ds.d.toNat : Int), .int .i64 (x.nm.pr.toNat : Int), .int .i64 (x.nm.id.toNat : Int), .int .i64 x.age, .int .i64 x.ttl, .slice x.pp x.ps.length x.pc] _ hX.out Try.underlying87 rfl (by kernel_rfl) ?_) | (go_at_call 45; refine HC.out.mono ?_; rintro e W6 ⟨rfl, X6, T6, S6, R6⟩))
          obtain ⟨W, e1, e2, e3, e4⟩ := HP.out W6 R6.out T6.out S6.out
          have E2 := Lib.hid e2
          have E3 := Lib.hid e3
          have E4 := Lib.hid e4
          clear e2 e3 e4
          go_wp2_with (first | (refine wpList_load_mid rfl 87 _ rfl n7 0 rfl [.int .u8 (x.nm.sr.a.toNat : Int), .int .u8 (x.nm.sr.b.toNat : Int), .int .u8 (x.nm.sr.c.toNat : Int), .int .u8 (x.nm.sr.d.toNat : Int), .int .u8 (x.nm.ds.a.toNat : Int), .int .u8 (x.nm.ds.b.toNat : Int), .int .u8 (x.nm.ds.c.toNat : Int), .int .u8 (x.nm.ds.d.toNat : Int), .int .i64 (x.nm.pr.toNat : Int), .int .i64 (x.nm.id.toNat : Int), .int .i64 x.age, .int .i64 x.ttl, .slice x.pp x.ps.length x.pc] _ X6.out Try.underlying87 rfl (by kernel_rfl) ?_) | (refine wpList_storeAt 87 _ _ rfl rfl rfl _ b (a * 13) rfl rfl e1 ?_))
          go_roundw
          case rel => exact ⟨a + 1, c6 + 1, _, by go_num, by go_num, Lib.hid (D2.out hqx), E2, E3, E4⟩
          case measure => simp [intOf]; omega
      · obtain rfl : c6 = l.length := by omega
        have hj1 : decide ((l.length : Int) < (l.length : Int)) = false := by simp
        have hal := D.out.al
        have hdone := D.out.done
        rw [List.take_length] at hal hdone
        have R' : DgRow wr (.slice (some ⟨b, 0, none⟩) m.length c) m := by rw [hml]; exact R.out
        obtain ⟨b', cap', cur, hv', z1, z2, z3, z4, z5⟩ := R'.block (by omega)
        injection hv' with hv' _ hc'; injection hv' with hv'; injection hv' with hv'
        subst hv' hc'
        obtain ⟨W2, hW2, zs, hzl, hW2e⟩ := run_clear_row (P := Try.prog) wr 71 87 _ Try.underlying71 Try.zeroValue87 b (a * 13) (l.length - a) (c - a) cur z1 (by omega) 13 (by omega) rfl (by omega) (by kernel_rfl)
        have hfit : (l.filter q).length * 13 + (l.length - a) * 13 ≤ cur.toList.length := by
          have e : cur.toList.length = cur.size := Array.length_toList
          rw [← hal, e, z4]
          omega
        have HF : Hid (DgRow W2 (.slice (some ⟨b, 0, none⟩) (l.filter q).length c) (l.filter q) ∧ Turn w W2 (fun k => k = b)) := Lib.hid (by
          have r1 := RowA.fewer dgE_len R' (by omega) (show a ≤ m.length by omega)
          rw [hdone] at r1
          have r2 := RowA.tail (zs := zs) (m := (l.length - a) * 13) dgE_len (cur := cur.toList) (by simpa using z1) r1 hzl hfit
          rw [← hal] at r2 ⊢
          refine ⟨by rw [hW2e]; exact r2, ?_⟩
          rw [hW2e]
          exact T.out.setRow rfl _)
        have hca : (a : Int) ≤ (l.length : Int) := by omega
        have hca2 : (a : Int) ≤ (c : Int) := by omega
        have hlc : (l.length : Int) ≤ (c : Int) := by omega
        have hnz : ¬ (c = a) := by omega
        have HAL := Lib.hid hal
        clear hfit z1 z2 z3 z4 z5 hW2e hzl hdone hal R' D R T S
        go_wp2_with fail
        go_ret
        exact ⟨by rw [← HAL.out]; rfl, HF.out.1, HF.out.2.mono (fun k _ e => by rw [e]; rfl)⟩

end Go.Proofs.Ytbjoibgkhooljaa

namespace Go.Proofs.Ytbjoibgkhooljaa
open Go.RowKit Go.Sort Go.Shelf
set_option linter.unusedVariables false

/-- The row of datagrams is written anew, and the field: each of them has the pieces of one that was there. -/
theorem Jo.rerow2 {w w2 : World} {g : Nat} {lim : Int} {v v' : Value} {l l' : List Dg} (h : Jo w g lim v l) (t : Turn w w2 (fun k => v.ownBlock = some k)) (hr : DgRow w2 v' l') (hb : ∀ k, v'.ownBlock = some k → v.ownBlock = some k)
    (hm : ∀ x ∈ l', ∃ y ∈ l, x.pv = y.pv ∧ x.ps = y.ps) (ha : l'.Pairwise fun x y => ∀ k, x.pv.ownBlock = some k → y.pv.ownBlock ≠ some k) :
    JoT w (w2.setCell ⟨g, 1, none⟩ v') g lim v l v' l' := by
  have hg : w2.heap[g]? = w.heap[g]? := t.block g h.lt (fun e => h.ne g e rfl)
  have hne : ∀ k, v'.ownBlock = some k → k ≠ g := fun k hk => h.ne k (hb k hk)
  have hset : ∀ k, k ≠ g → (w2.setCell ⟨g, 1, none⟩ v').heap[k]? = w2.heap[k]? := fun k hk => Below.heap_setCell _ _ _ _ hk
  refine ⟨⟨?_, hr.kept (by simp [World.setCell]) (fun b hb => hset b (hne b hb)), hne, fun x hx => ?_, ha⟩, ?_, fun k hk => ?_⟩
  · have := set_cells (hg.trans h.at_) v' (i := 1) (by show 1 < 3; decide)
    rw [this]
    rfl
  · obtain ⟨y, hy, e1, e2⟩ := hm x hx
    obtain ⟨p1, p2⟩ := h.ps y hy
    rw [e1, e2]
    refine ⟨p1.kept (by rw [show (w2.setCell ⟨g, 1, none⟩ v').heap.size = w2.heap.size by simp [World.setCell]]; exact t.size) (fun b hb => by
      rw [hset b (p2 b hb).1]
      exact t.block b (p1.lt b hb).2 (p2 b hb).2), fun k hk => ⟨(p2 k hk).1, fun e => (p2 k hk).2 (hb k e)⟩⟩
  · exact Turn.setCell (O := JoO g v l) (t.mono (fun j _ e => .inr (.inl e))) (.inl rfl) _ _
  · rcases hk with rfl | hk | ⟨x, hx, hk⟩
    · exact .inl (.inl rfl)
    · exact .inl (.inr (.inl (hb k hk)))
    · obtain ⟨y, hy, e1, e2⟩ := hm x hx
      exact .inl (.inr (.inr ⟨y, hy, by rw [← e1]; exact hk⟩))

def age1 (x : Dg) : Dg := ⟨x.nm, x.age + 1, x.ttl, x.pp, x.pc, x.ps⟩
/-- The first k entries are one older. -/
def agedU (k : Nat) (l : List Dg) : List Dg := (l.take k).map age1 ++ l.drop k
theorem agedU_len (k : Nat) (l : List Dg) : (agedU k l).length = l.length := by
  unfold agedU
  rw [List.length_append, List.length_map, List.length_take, List.length_drop]
  omega
theorem agedU_get {k : Nat} {l : List Dg} (h : k < l.length) : (agedU k l)[k]'(by rw [agedU_len]; exact h) = l[k] := by
  have e : (agedU k l)[k]? = l[k]? := by
    unfold agedU
    rw [List.getElem?_append_right (by rw [List.length_map, List.length_take]; omega), List.getElem?_drop]
    congr 1
    rw [List.length_map, List.length_take]
    omega
  rw [List.getElem?_eq_getElem h, List.getElem?_eq_getElem (by rw [agedU_len]; exact h)] at e
  injection e
theorem agedU_succ {k : Nat} {l : List Dg} (h : k < l.length) : (agedU k l).set k (age1 l[k]) = agedU (k + 1) l := by
  have e := take_succ_get h
  have hl : ((l.take k).map age1).length = k := by rw [List.length_map, List.length_take]; omega
  unfold agedU
  rw [e, List.map_append, List.set_append, if_neg (by rw [hl]; omega), hl, Nat.sub_self, List.drop_eq_getElem_cons h, List.append_assoc]
  rfl
theorem agedU_all (l : List Dg) : agedU l.length l = l.map age1 := by simp [agedU]
/-- What Tick leaves. -/
def tickL (lim : Int) (l : List Dg) : List Dg := (l.map age1).filter fun x => !decide (lim ≤ x.age)

theorem tick_from (lim : Int) (l : List Dg) : ∀ x ∈ tickL lim l, ∃ y ∈ l, x.pv = y.pv ∧ x.ps = y.ps := fun x hx => by
  obtain ⟨y, hy, rfl⟩ := List.mem_map.1 (List.mem_filter.1 hx).1
  exact ⟨y, hy, rfl, rfl⟩
theorem tick_apart (lim : Int) {l : List Dg} (h : l.Pairwise fun x y => ∀ k, x.pv.ownBlock = some k → y.pv.ownBlock ≠ some k) : (tickL lim l).Pairwise fun x y => ∀ k, x.pv.ownBlock = some k → y.pv.ownBlock ≠ some k := by
  unfold tickL
  exact List.Pairwise.filter _ (List.pairwise_map.2 h)
/-- What Tick leaves, by lists. -/
def tickA (lim : Int) (L : List Da) : List Da := (L.map fun x => (⟨x.nm, x.age + 1, x.ttl, x.ps⟩ : Da)).filter fun x => !decide (lim ≤ x.age)
theorem tickA_of (lim : Int) (l : List Dg) : (tickL lim l).map Dg.da = tickA lim (l.map Dg.da) := by
  unfold tickL tickA
  rw [List.map_map, List.filter_map, List.filter_map, List.map_map]
  rfl
def TickPost (w w' : World) (g : Nat) (lim : Int) (v : Value) (l : List Dg) : Prop := ∃ v', JoT w w' g lim v l v' (tickL lim l)

set_option maxRecDepth 100000 in
set_option maxHeartbeats 4000000 in
theorem jtick_ok {w : World} {g : Nat} {lim : Int} {v : Value} {l : List Dg} (h : Jo w g lim v l) (hl : l.length ≤ 1000000) (ha : ∀ x ∈ l, 0 ≤ x.age ∧ x.age ≤ 1048576) :
    Calls Try.prog 15 #[.pointer (some ⟨g, 0, none⟩)] w fun e w' => e = .returned (.tuple #[]) ∧ TickPost w w' g lim v l := by
  have bl : Below w.heap.size w (w.alloc (.cells #[.pointer (some ⟨g, 0, none⟩)] 25)) := (Below.refl _ _).alloc (Nat.le_refl _) _
  have FC : Hid (Jo (w.alloc (.cells #[.pointer (some ⟨g, 0, none⟩)] 25)) g lim v l) := Lib.hid (h.grow bl)
  have FB : Hid (Below w.heap.size w (w.alloc (.cells #[.pointer (some ⟨g, 0, none⟩)] 25))) := Lib.hid bl
  have FX : Hid ((w.alloc (.cells #[.pointer (some ⟨g, 0, none⟩)] 25)).heap[w.heap.size]? = some (.cells #[.pointer (some ⟨g, 0, none⟩)] 25 (0, 0))) := Lib.hid (heap_alloc_new w _)
  have HR := Lib.hid h.row
  have HG := Lib.hid h.lt
  have HA := Lib.hid ha
  obtain ⟨p, c, hv⟩ := h.row.shape
  have HV := Lib.hid hv
  have H0 := Lib.hid h
  clear bl h ha hv
  go_enter Try.func15, Try.ntmps15
  go_upto_region 1 with fail
  generalize w.alloc _ = W1 at FC FB FX ⊢
  obtain ⟨n1, h1⟩ : ∃ n, n = w.heap.size := ⟨_, rfl⟩
  rw [← h1] at FX ⊢
  have HN1 := Lib.hid h1
  clear h1
  have b0 : W1.cell? ⟨n1, 0, none⟩ = some (.pointer (some ⟨g, 0, none⟩)) := by rw [cell_of_block FX.out]; rfl
  have c1 := FC.out.c1
  rw [HV.out] at c1
  go_wp2_with (go_at_call 36; refine (jnone_no FC.out).mono ?_; rintro e w' ⟨rfl, rfl⟩)
  clear b0 c1
  have A0 : Hid (DgRow W1 v (agedU 0 l)) := Lib.hid FC.out.row
  have HLT := Lib.hid (Nat.lt_of_lt_of_le FC.out.lt (Nat.le_refl _))
  have HNE : Hid (∀ k, v.ownBlock = some k → k ≠ n1 ∧ k ≠ g) := Lib.hid (fun k hk => ⟨by have := (HR.out.lt k hk).2; have := HN1.out; omega, FC.out.ne k hk⟩)
  go_loopw [10] (fun i wr => ∃ k : Nat, k ≤ l.length ∧ i = .int .i64 k ∧ Hid (DgRow wr v (agedU k l)) ∧ Hid (Turn W1 wr (fun j => v.ownBlock = some j))) (fun i _ => l.length - (intOf i).toNat)
  case atStart => exact ⟨0, by omega, rfl, A0, Lib.hid (Turn.refl _ _)⟩
  case round =>
    obtain ⟨k, hk, rfl, R, T⟩ := hrel
    have b0 : wr.cell? ⟨n1, 0, none⟩ = some (.pointer (some ⟨g, 0, none⟩)) := (cell_turn T.out (lt_of_block FX.out) (fun e => (HNE.out _ e).1 rfl)).trans (by rw [cell_of_block FX.out]; rfl)
    have c1 : wr.cell? ⟨g, 1, none⟩ = some v := (cell_turn T.out FC.out.lt (fun e => (HNE.out _ e).2 rfl)).trans FC.out.c1
    rw [HV.out] at c1
    by_cases hlt : k < l.length
    · obtain ⟨b, cap, hv, hcap, hcm, hbl, hfz, hE0⟩ := RowA.elem dgE_len R.out (by rw [agedU_len]; omega)
      rw [HV.out, agedU_len] at hv
      injection hv with hv _ hc
      subst hv hc
      have hE := hE0 k (by rw [agedU_len]; exact hlt)
      rw [agedU_get hlt] at hE
      have cA : wr.cell? ⟨b, k * 13 + 10, none⟩ = some (.int .i64 l[k].age) := hE 10 _ rfl
      have fA : wr.frozen? ⟨b, k * 13 + 10, none⟩ = false := hfz _
      have hag := HA.out l[k] (List.getElem_mem hlt)
      have hw : IntKind.i64.wrap (l[k].age + 1) = l[k].age + 1 := IntWalk.i64_in _ (by omega)
      have hwk : IntKind.i64.wrap ((k : Int) + 1) = (k : Int) + 1 := IntWalk.i64_in _ (by omega)
      have hj1 : decide ((k : Int) < (l.length : Int)) = true := by simp; omega
      have q1 : (0 : Int) ≤ (k : Int) := by omega
      have q2 : (k : Int) < (l.length : Int) := by omega
      have HS : Hid (DgRow (wr.setCell ⟨b, k * 13 + 10, none⟩ (.int .i64 (l[k].age + 1))) v (agedU (k + 1) l) ∧ Turn W1 (wr.setCell ⟨b, k * 13 + 10, none⟩ (.int .i64 (l[k].age + 1))) (fun j => v.ownBlock = some j)) := Lib.hid (by
        have R' : DgRow wr (.slice (some ⟨b, 0, none⟩) (agedU k l).length c) (agedU k l) := by have := R.out; rw [HV.out] at this; rw [agedU_len]; exact this
        have h1 := RowA.set1 dgE_len (i := k) (j := 10) R' (by rw [agedU_len]; exact hlt) (by decide) (age1 l[k]) (.int .i64 (l[k].age + 1)) (by rw [agedU_get hlt]; rfl)
        rw [agedU_succ hlt, agedU_len] at h1
        exact ⟨by rw [HV.out]; exact h1, T.out.setCell (by rw [HV.out]; rfl) _ _⟩)
      generalize l[k] = x at cA hag hw HS
      clear hE hE0 hfz R T hcap hcm hbl
      go_wp2_with fail
      go_roundw
      case rel => exact ⟨k + 1, by omega, by go_num, Lib.hid HS.out.1, Lib.hid HS.out.2⟩
      case measure => simp [intOf]; omega
    · obtain rfl : k = l.length := by omega
      have hj1 : decide ((l.length : Int) < (l.length : Int)) = false := by simp
      have f1 : wr.frozen? ⟨g, 1, none⟩ = false := (frozen_turn T.out FC.out.lt (fun e => (HNE.out _ e).2 rfl)).trans (FC.out.f 1)
      have hmm : (l.map age1).length = l.length := List.length_map ..
      have HD : Hid (Calls Try.prog 44 #[.slice p l.length c, .func (.func 45) #[] #[.pointer (some ⟨n1, 0, none⟩)]] wr.drew fun e w' =>
          ∃ n' : Nat, e = .returned (.slice p n' c) ∧ w'.cell? ⟨n1, 0, none⟩ = some (.pointer (some ⟨g, 0, none⟩)) ∧ w'.cell? ⟨g, 1, none⟩ = some (.slice p l.length c) ∧ w'.frozen? ⟨g, 1, none⟩ = false ∧ Hid (TickPost w (w'.setCell ⟨g, 1, none⟩ (.slice p n' c)) g lim v l)) := Lib.hid (by
        have hd : Below wr.heap.size wr wr.drew := (Below.refl _ _).drew
        have r0 : DgRow wr.drew (.slice p (l.map age1).length c) (l.map age1) := by
          have := R.out
          rw [agedU_all, HV.out] at this
          rw [hmm]
          exact this.kept hd.size (fun k hk => hd.block k (this.lt k hk).2)
        have ts : TkS n1 g lim wr.drew := ⟨b0, (cell_turn T.out FC.out.lt (fun e => (HNE.out _ e).2 rfl)).trans FC.out.c0, Nat.lt_of_lt_of_le (lt_of_block FX.out) T.out.size, Nat.lt_of_lt_of_le FC.out.lt T.out.size⟩
        have hb1 : ∀ k, (Value.slice p (l.map age1).length c).ownBlock = some k → v.ownBlock = some k := fun k hk => by rw [HV.out]; cases p <;> exact hk
        have hcall := delfunc_ok r0 (by rw [hmm]; exact hl) ts (fun k hk => HNE.out k (hb1 k hk)) _ rfl
        rw [hmm] at hcall
        refine hcall.mono ?_
        rintro e w' ⟨e1, e2, e3⟩
        have e3' : Turn wr w' (fun k => v.ownBlock = some k) := ⟨e3.os, e3.tape, e3.output, e3.size, fun k hk ho => e3.block k hk (fun x => ho (hb1 k (by rw [hmm]; exact x)))⟩
        have t2 : Turn W1 w' (fun k => v.ownBlock = some k) := T.out.trans e3'
        have g1 := (t2.block g FC.out.lt (fun e => (HNE.out _ e).2 rfl)).trans FC.out.at_
        have n0 := (t2.block n1 (lt_of_block FX.out) (fun e => (HNE.out _ e).1 rfl)).trans FX.out
        have hn3 : ∀ m, (Value.slice p m c).ownBlock = v.ownBlock := fun m => by rw [HV.out]; cases p <;> rfl
        refine ⟨_, e1, by rw [cell_of_block n0]; rfl, by rw [cell_of_block g1, ← HV.out]; rfl, by simp [World.frozen?, g1], Lib.hid ?_⟩
        exact ⟨_, JoT.from FB.out H0.out (FC.out.rerow2 t2 e2 (fun k hk => by rw [hn3] at hk; exact hk) (tick_from lim l) (tick_apart lim FC.out.ap))⟩)
      clear R T
      go_upto_region 7 with fail
      go_region_with ((go_at_call 44; refine HD.out.mono ?_; rintro e w4 ⟨n', rfl, k0, k1, k2, K4⟩))
      all_goals
        go_wp2_with fail
        go_end0
        exact ⟨rfl, K4.out⟩

theorem tickL_age {lim : Int} {l : List Dg} (ha : ∀ x ∈ l, 0 ≤ x.age ∧ x.age ≤ 1048576) (hlim : lim ≤ 1048576) : ∀ x ∈ tickL lim l, 0 ≤ x.age ∧ x.age ≤ 1048576 := by
  intro x hx
  obtain ⟨hx, hq⟩ := List.mem_filter.1 hx
  obtain ⟨y, hy, rfl⟩ := List.mem_map.1 hx
  have h1 := (ha y hy).1
  have hq2 : ¬ lim ≤ y.age + 1 := fun h => by
    have : decide (lim ≤ (age1 y).age) = true := decide_eq_true h
    rw [this] at hq
    cases hq
  show 0 ≤ y.age + 1 ∧ y.age + 1 ≤ 1048576
  constructor <;> omega
theorem tickL_len {lim : Int} {l : List Dg} : (tickL lim l).length ≤ l.length := Nat.le_trans (List.length_filter_le _ _) (by rw [List.length_map]; exact Nat.le_refl _)

theorem tickS {w W : World} {F : List (Nat × Obj)} {g : Nat} {lim : Int} {L : List Da} (h : JoS w W F g lim L) (hl : L.length ≤ 4) (ha : ∀ x ∈ L, 0 ≤ x.age ∧ x.age ≤ 1048576) :
    Calls Try.prog 15 #[.pointer (some ⟨g, 0, none⟩)] W fun e w' => e = .returned (.tuple #[]) ∧ JoS w w' F g lim (tickA lim L) := by
  obtain ⟨v, l, h1, h2, h3, h4, h5⟩ := h
  subst h2
  refine (jtick_ok h1 (by rw [List.length_map] at hl; omega) (fun x hx => ha x.da (List.mem_map_of_mem hx))).mono ?_
  rintro e w' ⟨e1, v', e2⟩
  exact ⟨e1, JoS.turn h3 h4 h5 e2 (tickA_of lim l)⟩

end Go.Proofs.Ytbjoibgkhooljaa

namespace Go.Proofs.Ytbjoibgkhooljaa
open Go.RowKit Go.Sort Go.Shelf
set_option linter.unusedVariables false

def sameB (x y : Pd) : Bool := decide (x.sr = y.sr) && decide (x.ds = y.ds) && (x.pr == y.pr) && (x.id == y.id)
structure Pd2 (w W : World) (n m : Nat) (x y : Pd) : Prop where
  a : PdAt W n x
  b : PdAt W m y
  bl : Below w.heap.size w W
theorem pd2_new (w : World) (x y : Pd) : Pd2 w ((w.alloc (.cells (pdC x) 35)).alloc (.cells (pdC y) 35)) w.heap.size (w.heap.size + 1) x y :=
  ⟨(pd_new w _ x rfl).grow ((Below.refl _ _).alloc (Nat.le_refl _) _), pd_new _ _ y (by simp), ((Below.refl _ _).alloc (Nat.le_refl _) _).alloc (by simp) _⟩
theorem PdAt.ips {w : World} {n : Nat} {f : Pd} (h : PdAt w n f) : (w.cell? ⟨n, 1, none⟩ = some (.int .u8 (f.sr.a.toNat : Int)) ∧ w.cell? ⟨n, 2, none⟩ = some (.int .u8 (f.sr.b.toNat : Int)) ∧ w.cell? ⟨n, 3, none⟩ = some (.int .u8 (f.sr.c.toNat : Int)) ∧ w.cell? ⟨n, 4, none⟩ = some (.int .u8 (f.sr.d.toNat : Int))) ∧
    (w.cell? ⟨n, 5, none⟩ = some (.int .u8 (f.ds.a.toNat : Int)) ∧ w.cell? ⟨n, 6, none⟩ = some (.int .u8 (f.ds.b.toNat : Int)) ∧ w.cell? ⟨n, 7, none⟩ = some (.int .u8 (f.ds.c.toNat : Int)) ∧ w.cell? ⟨n, 8, none⟩ = some (.int .u8 (f.ds.d.toNat : Int))) := by
  unfold PdAt at h
  refine ⟨⟨?_, ?_, ?_, ?_⟩, ⟨?_, ?_, ?_, ?_⟩⟩ <;> (rw [cell_of_block h]; rfl)
set_option maxRecDepth 100000 in
set_option maxHeartbeats 4000000 in
theorem rsame_any (w : World) (x y : Pd) :
    Calls Try.prog 33 #[.agg (pdC x), .agg (pdC y)] w fun e w' => e = .returned (.bool (sameB x y)) ∧ Below w.heap.size w w' := by
  have P0 := Lib.hid (pd2_new w x y)
  have HR : Hid (sameB x y = (decide (x.sr = y.sr) && decide (x.ds = y.ds) && (x.pr == y.pr) && (x.id == y.id))) := Lib.hid rfl
  have h1 := fun w => run_eql_ip w x.sr y.sr
  have h2 := fun w => run_eql_ip w x.ds y.ds
  obtain ⟨B1, e1⟩ : ∃ B, decide (x.sr = y.sr) = B := ⟨_, rfl⟩
  obtain ⟨B2, e2⟩ : ∃ B, decide (x.ds = y.ds) = B := ⟨_, rfl⟩
  obtain ⟨B3, e3⟩ : ∃ B, (x.pr == y.pr) = B := ⟨_, rfl⟩
  obtain ⟨B4, e4⟩ : ∃ B, (x.id == y.id) = B := ⟨_, rfl⟩
  rw [e1] at h1 HR
  rw [e2] at h2 HR
  rw [e3, e4] at HR
  clear e1 e2
  go_enter Try.func33, Try.ntmps33
  go_upto_region 1 with fail
  generalize (w.alloc _).alloc _ = W1 at P0 ⊢
  obtain ⟨m, hm⟩ : ∃ m, m = w.heap.size + 1 := ⟨_, rfl⟩
  rw [← hm] at P0 ⊢
  clear hm
  obtain ⟨n, hn⟩ : ∃ n, n = w.heap.size := ⟨_, rfl⟩
  rw [← hn] at P0 ⊢
  clear hn
  obtain ⟨⟨a1, a2, a3, a4⟩, ⟨a5, a6, a7, a8⟩⟩ := P0.out.a.ips
  obtain ⟨⟨b1, b2, b3, b4⟩, ⟨b5, b6, b7, b8⟩⟩ := P0.out.b.ips
  have a9 := P0.out.a.pr
  have b9 := P0.out.b.pr
  have a0 := P0.out.a.id
  have b0 := P0.out.b.id
  cases B1
  · go_wp2
    go_ret
    exact ⟨by rw [HR.out] <;> rfl, P0.out.bl⟩
  · cases B2
    · go_wp2
      go_ret
      exact ⟨by rw [HR.out] <;> rfl, P0.out.bl⟩
    · cases B3
      · go_wp2
        go_ret
        exact ⟨by rw [HR.out] <;> rfl, P0.out.bl⟩
      · go_wp2
        go_ret
        exact ⟨by rw [HR.out] <;> simp, P0.out.bl⟩

end Go.Proofs.Ytbjoibgkhooljaa

namespace Go.Proofs.Ytbjoibgkhooljaa
open Go.RowKit
set_option linter.unusedVariables false

/-- The document's datagram: its packets, its age. -/
structure Dq where
  ps : List Pd
  age : Int
instance : Inhabited Dq := ⟨⟨[], 0⟩⟩
def nm0 (ps : List Pd) : Nm := nmOf (ps.headD pdZ)
def ttlOf (ps : List Pd) : Int := ps.foldl (fun t x => if x.ps = 0 then x.tl else t) 0
/-- The program's datagram that is the document's. -/
def cvD (d : Dq) : Da := ⟨nm0 d.ps, d.age, ttlOf d.ps, d.ps.map pcOf⟩
def firstD (ps : List Pd) : Option Pd := ps.foldl (fun e x => if x.ps = 0 then some x else e) none
def bytesD (E : Nat) (ps : List Pc) : List UInt8 := ps.foldl (fun a x => lay a x.o.toNat x.da.data.toList) (List.replicate E 0)
def thereD (E : Nat) (ps : List Pc) : List UInt8 := ps.foldl (fun a x => lay a x.o.toNat (List.replicate x.da.size 1)) (List.replicate E 0)
/-- What the document makes of pieces. -/
def joinedD (ps : List Pd) : Pd × Bool :=
  if endP (ps.map pcOf) < 0 then (pdZ, false)
  else if (firstD ps).isSome && (thereD (endP (ps.map pcOf)).toNat (ps.map pcOf)).all (· == 1) then
    (⟨((firstD ps).getD pdZ).id, ((firstD ps).getD pdZ).sr, ((firstD ps).getD pdZ).ds, ((firstD ps).getD pdZ).pr, ((firstD ps).getD pdZ).tl, ((firstD ps).getD pdZ).ps, false, ⟨(bytesD (endP (ps.map pcOf)).toNat (ps.map pcOf)).toArray⟩⟩, true)
  else (pdZ, false)
/-- Pieces of one datagram, as the document keeps them. -/
structure PQ (ps : List Pd) : Prop where
  may : ∀ x ∈ ps, mayB x = true
  nol : ∀ x ∈ ps, ¬ (x.ps = 0 ∧ x.mo = false)
  low : ∀ x ∈ ps, pEnd (pcOf x) ≤ 1200
  nm : ∀ x ∈ ps, ∀ y ∈ ps, nmOf x = nmOf y
  ap : (ps.map pcOf).Pairwise (fun x y => clashP x y = false)

theorem endP_snoc (l : List Pc) (x : Pc) : endP (l ++ [x]) = if x.mo then endP l else pEnd x := by simp [endP, List.foldl_append]
theorem endP_cases (l : List Pc) : (endP l = -1 ∧ ∀ x ∈ l, x.mo = true) ∨ ∃ y ∈ l, y.mo = false ∧ endP l = pEnd y := by
  suffices h : ∀ (n : Nat) (l : List Pc), l.length = n → (endP l = -1 ∧ ∀ x ∈ l, x.mo = true) ∨ ∃ y ∈ l, y.mo = false ∧ endP l = pEnd y from h _ l rfl
  intro n
  induction n with
  | zero =>
    intro l hl
    obtain rfl := List.length_eq_zero_iff.1 hl
    exact .inl ⟨rfl, fun x hx => (by cases hx)⟩
  | succ n ih =>
    intro l hl
    obtain ⟨m, x, rfl⟩ : ∃ m x, l = m ++ [x] := by
      rcases List.eq_nil_or_concat l with rfl | ⟨m, x, rfl⟩
      · simp at hl
      · exact ⟨m, x, by simp⟩
    rw [endP_snoc]
    cases hx : x.mo
    · exact .inr ⟨x, by simp, hx, by simp⟩
    · rw [if_pos rfl]
      rcases ih m (by simp at hl; omega) with ⟨h1, h2⟩ | ⟨y, h1, h2, h3⟩
      · refine .inl ⟨h1, fun y hy => ?_⟩
        rcases List.mem_append.1 hy with hy | hy
        · exact h2 y hy
        · rw [List.mem_singleton] at hy; rw [hy]; exact hx
      · exact .inr ⟨y, List.mem_append_left _ h1, h2, h3⟩
theorem pair_all {α : Type} {R : α → α → Prop} (hs : ∀ x y, R x y → R y x) (hr : ∀ x, R x x) : ∀ {l : List α}, l.Pairwise R → ∀ x ∈ l, ∀ y ∈ l, R x y
  | [], _, _, hx, _, _ => by cases hx
  | a :: l, h, x, hx, y, hy => by
    obtain ⟨h1, h2⟩ := List.pairwise_cons.1 h
    rcases List.mem_cons.1 hx with rfl | hx'
    · rcases List.mem_cons.1 hy with rfl | hy'
      · exact hr _
      · exact h1 y hy'
    · rcases List.mem_cons.1 hy with rfl | hy'
      · exact hs _ _ (h1 x hx')
      · exact pair_all hs hr h2 x hx' y hy'
theorem clash_parts {x y : Pc} (h : clashP x y = false) : ¬ (max x.o y.o < min (pEnd x) (pEnd y)) ∧ (x.mo = true ∨ y.mo = true) ∧ (y.mo = true ∨ pEnd x ≤ pEnd y) ∧ (x.mo = true ∨ pEnd y ≤ pEnd x) := by
  unfold clashP aboveP at h
  simp only [Bool.or_eq_false_iff, decide_eq_false_iff_not, Bool.and_eq_false_iff, Bool.not_eq_false'] at h
  obtain ⟨⟨⟨h1, h2⟩, h3⟩, h4⟩ := h
  exact ⟨h1, h2, h3.imp id (fun e => by omega), h4.imp id (fun e => by omega)⟩
theorem ends_all {l : List Pc} (h : l.Pairwise (fun x y => clashP x y = false)) {y : Pc} (hy : y ∈ l) (hm : y.mo = false) : ∀ x ∈ l, pEnd x ≤ pEnd y := fun x hx => by
  have := pair_all (R := fun x y => (y.mo = true ∨ pEnd x ≤ pEnd y) ∧ (x.mo = true ∨ pEnd y ≤ pEnd x)) (fun x y h => ⟨h.2, h.1⟩) (fun x => ⟨.inr (Int.le_refl _), .inr (Int.le_refl _)⟩) (h.imp (fun hc => (clash_parts hc).2.2)) x hx y hy
  rcases this.1 with e | e
  · rw [hm] at e; cases e
  · exact e
/-- Whether a number lies in a piece, in any. -/
def inP (x : Pc) (k : Nat) : Bool := decide (x.o ≤ (k : Int) ∧ (k : Int) < pEnd x)
def cov (l : List Pc) (k : Nat) : Bool := l.any fun x => inP x k
theorem sumTo_ival (a n : Nat) : ∀ E : Nat, sumTo E (fun k => if a ≤ k ∧ k < a + n then 1 else 0) = min E (a + n) - min E a
  | 0 => by simp [sumTo]
  | E + 1 => by
    show sumTo E _ + (if a ≤ E ∧ E < a + n then 1 else 0) = _
    rw [sumTo_ival a n E]
    split <;> omega
theorem sum_cov (E : Nat) : ∀ l : List Pc, (∀ x ∈ l, 0 ≤ x.o ∧ pEnd x ≤ E) → l.Pairwise (fun x y => ¬ (max x.o y.o < min (pEnd x) (pEnd y))) → sumTo E (fun k => if cov l k = true then 1 else 0) = sumP l
  | [], _, _ => by
    rw [sumTo_congr (h := fun _ => 0) (fun i _ => if_neg (by simp [cov]))]
    have := sumTo_ival 0 0 E
    have e : sumTo E (fun _ => 0) = 0 := by
      rw [← sumTo_congr (f := fun k => if 0 ≤ k ∧ k < 0 + 0 then 1 else 0) (h := fun _ => 0) (fun i _ => if_neg (by omega)), this]; omega
    rw [e]; rfl
  | x :: l, hb, hd => by
    obtain ⟨h1, h2⟩ := List.pairwise_cons.1 hd
    have ih := sum_cov E l (fun y hy => hb y (.tail _ hy)) h2
    obtain ⟨hx0, hxE⟩ := hb x (.head _)
    have hs : sumP (x :: l) = x.da.size + sumP l := by simp [sumP]
    have hi := sumTo_ival x.o.toNat x.da.size E
    have hp : pEnd x = x.o + x.da.size := rfl
    rw [hs, ← ih, show x.da.size = min E (x.o.toNat + x.da.size) - min E x.o.toNat by omega, ← hi, ← sumTo_add]
    refine sumTo_congr (fun k hk => ?_)
    by_cases c1 : x.o.toNat ≤ k ∧ k < x.o.toNat + x.da.size
    · have e1 : inP x k = true := decide_eq_true (by omega)
      have e2 : cov l k = false := by
        cases hc : cov l k with
        | false => rfl
        | true =>
          obtain ⟨y, hy, hyk⟩ := List.any_eq_true.1 hc
          have hyk := of_decide_eq_true hyk
          exact absurd (show max x.o y.o < min (pEnd x) (pEnd y) by omega) (h1 y hy)
      rw [if_pos (by simp [cov, e1]), if_pos c1, e2]; rfl
    · have e1 : inP x k = false := decide_eq_false (by omega)
      rw [if_neg c1]
      have : cov (x :: l) k = cov l k := by simp [cov, e1]
      rw [this]; omega
theorem all_cov (E : Nat) (l : List Pc) (hb : ∀ x ∈ l, 0 ≤ x.o ∧ pEnd x ≤ E) (hd : l.Pairwise (fun x y => ¬ (max x.o y.o < min (pEnd x) (pEnd y)))) : (∀ k, k < E → cov l k = true) ↔ sumP l = E := by
  rw [← sum_cov E l hb hd]
  constructor
  · intro h
    rw [sumTo_congr (h := fun _ => 1) (fun k hk => if_pos (h k hk)), sumTo_ones]
  · intro h k hk
    cases hc : cov l k with
    | true => rfl
    | false =>
      have := sumTo_lt E (fun k => if cov l k = true then 1 else 0) (fun _ => 1) (fun i _ => by split <;> omega) ⟨k, hk, by show (if cov l k = true then 1 else 0) < 1; rw [hc]; decide⟩
      rw [h, sumTo_ones] at this
      omega
theorem fold_len (g : Pc → List UInt8) : ∀ (l : List Pc) (a : List UInt8), (∀ x ∈ l, x.o.toNat + (g x).length ≤ a.length) → (l.foldl (fun a x => lay a x.o.toNat (g x)) a).length = a.length
  | [], _, _ => rfl
  | x :: l, a, h => by
    have e := lay_len (h x (.head _))
    rw [List.foldl_cons, fold_len g l _ (fun y hy => by rw [e]; exact h y (.tail _ hy)), e]
theorem there_get : ∀ (l : List Pc) (a : List UInt8) (k : Nat), (∀ x ∈ l, 0 ≤ x.o ∧ x.o.toNat + x.da.size ≤ a.length) → k < a.length → (l.foldl (fun a x => lay a x.o.toNat (List.replicate x.da.size 1)) a)[k]? = if cov l k = true then some 1 else a[k]?
  | [], _, _, _, _ => by simp [cov]
  | x :: l, a, k, h, hk => by
    obtain ⟨h0, h1⟩ := h x (.head _)
    have hl : (List.replicate x.da.size (1 : UInt8)).length = x.da.size := List.length_replicate
    have e : (lay a x.o.toNat (List.replicate x.da.size 1)).length = a.length := lay_len (by rw [hl]; exact h1)
    rw [List.foldl_cons, there_get l _ k (fun y hy => by rw [e]; exact h y (.tail _ hy)) (by omega)]
    have hp : pEnd x = x.o + x.da.size := rfl
    by_cases c : cov l k = true
    · rw [if_pos c, if_pos (by unfold cov at c ⊢; rw [List.any_cons, c, Bool.or_true])]
    · rw [if_neg c, lay_get (by rw [hl]; exact h1), hl]
      by_cases c2 : x.o.toNat ≤ k ∧ k < x.o.toNat + x.da.size
      · have e1 : inP x k = true := decide_eq_true (by omega)
        rw [if_pos c2, if_pos (by simp [cov, e1]), List.getElem?_replicate, if_pos (by omega)]
      · have e1 : inP x k = false := decide_eq_false (by omega)
        rw [if_neg c2, if_neg (by unfold cov at c ⊢; rw [List.any_cons, e1]; simpa using c)]
theorem there_all (E : Nat) (l : List Pc) (h : ∀ x ∈ l, 0 ≤ x.o ∧ x.o.toNat + x.da.size ≤ E) : (thereD E l).all (· == 1) = true ↔ ∀ k, k < E → cov l k = true := by
  have hl : (thereD E l).length = E := by
    unfold thereD
    rw [fold_len (fun x => List.replicate x.da.size 1) l _ (fun x hx => by rw [List.length_replicate, List.length_replicate]; exact (h x hx).2), List.length_replicate]
  have hg : ∀ k, k < E → (thereD E l)[k]? = if cov l k = true then some 1 else some 0 := fun k hk => by
    unfold thereD
    rw [there_get l _ k (fun x hx => by rw [List.length_replicate]; exact h x hx) (by rw [List.length_replicate]; exact hk), List.getElem?_replicate, if_pos hk]
  rw [List.all_eq_true]
  constructor
  · intro ha k hk
    have h1 := hg k hk
    cases hc : cov l k with
    | true => rfl
    | false =>
      rw [hc, if_neg (by decide)] at h1
      have := ha _ (List.mem_of_getElem? h1)
      simp at this
  · intro hc x hx
    obtain ⟨k, hk, rfl⟩ := List.mem_iff_getElem.1 hx
    have h1 := hg k (by omega)
    rw [hc k (by omega), if_pos rfl, List.getElem?_eq_getElem hk] at h1
    injection h1 with h1
    rw [h1]; rfl
theorem lay_take {a s : List UInt8} {k E : Nat} (h : k + s.length ≤ E) (ha : E ≤ a.length) : (lay a k s).take E = lay (a.take E) k s := by
  unfold lay
  rw [List.take_append, List.take_append, List.length_take, List.take_take, List.take_take, List.drop_take]
  have e1 : min k a.length = k := by omega
  rw [e1, List.take_of_length_le (l := s) (by omega)]
  congr 1
  · congr 1; omega
  · congr 1
    congr 1; omega
theorem bytes_take (E : Nat) : ∀ (l : List Pc) (a : List UInt8), E ≤ a.length → (∀ x ∈ l, x.o.toNat + x.da.size ≤ E) → (l.foldl (fun a x => lay a x.o.toNat x.da.data.toList) a).take E = l.foldl (fun a x => lay a x.o.toNat x.da.data.toList) (a.take E)
  | [], _, _, _ => rfl
  | x :: l, a, ha, h => by
    have hz : x.da.data.toList.length = x.da.size := by rw [Array.length_toList]; rfl
    have h1 := h x (.head _)
    have e : (lay a x.o.toNat x.da.data.toList).length = a.length := lay_len (by rw [hz]; omega)
    rw [List.foldl_cons, List.foldl_cons, bytes_take E l _ (by omega) (fun y hy => h y (.tail _ hy)), lay_take (by rw [hz]; exact h1) ha]
theorem bytes_fill (E : Nat) (l : List Pc) (hE : E ≤ 1200) (h : ∀ x ∈ l, x.o.toNat + x.da.size ≤ E) : bytesD E l = (fillP l).take E := by
  unfold bytesD fillP
  rw [bytes_take E l _ (by rw [List.length_replicate]; exact hE) h, List.take_replicate, Nat.min_eq_left hE]
theorem may_nums {x : Pd} (h : mayB x = true) : ((nmOf x).id.toNat : Int) = x.id ∧ ((nmOf x).pr.toNat : Int) = x.pr ∧ 0 ≤ x.ps := by
  obtain ⟨i0, i1, r0, r1, -, -, -, p0, -, -, -⟩ := mayB_all h
  refine ⟨?_, ?_, p0⟩
  · show (((UInt16.ofNat x.id.toNat).toNat : Nat) : Int) = x.id
    rw [UInt16.toNat_ofNat']; omega
  · show (((UInt8.ofNat x.pr.toNat).toNat : Nat) : Int) = x.pr
    rw [UInt8.toNat_ofNat']; omega
theorem firstD_snoc (l : List Pd) (x : Pd) : firstD (l ++ [x]) = if x.ps = 0 then some x else firstD l := by simp [firstD, List.foldl_append]
theorem ttl_snoc (l : List Pd) (x : Pd) : ttlOf (l ++ [x]) = if x.ps = 0 then x.tl else ttlOf l := by simp [ttlOf, List.foldl_append]
theorem first_ttl (l : List Pd) : (firstD l = none ∧ (∀ x ∈ l, x.ps ≠ 0)) ∨ ∃ q ∈ l, firstD l = some q ∧ q.ps = 0 ∧ ttlOf l = q.tl := by
  suffices h : ∀ (n : Nat) (l : List Pd), l.length = n → (firstD l = none ∧ (∀ x ∈ l, x.ps ≠ 0)) ∨ ∃ q ∈ l, firstD l = some q ∧ q.ps = 0 ∧ ttlOf l = q.tl from h _ l rfl
  intro n
  induction n with
  | zero =>
    intro l hl
    obtain rfl := List.length_eq_zero_iff.1 hl
    exact .inl ⟨rfl, fun x hx => (by cases hx)⟩
  | succ n ih =>
    intro l hl
    obtain ⟨m, x, rfl⟩ : ∃ m x, l = m ++ [x] := by
      rcases List.eq_nil_or_concat l with rfl | ⟨m, x, rfl⟩
      · simp at hl
      · exact ⟨m, x, by simp⟩
    rw [firstD_snoc, ttl_snoc]
    by_cases h0 : x.ps = 0
    · exact .inr ⟨x, by simp, by rw [if_pos h0], h0, by rw [if_pos h0]⟩
    · rw [if_neg h0, if_neg h0]
      rcases ih m (by simp at hl; omega) with ⟨h1, h2⟩ | ⟨q, h1, h2, h3, h4⟩
      · refine .inl ⟨h1, fun y hy => ?_⟩
        rcases List.mem_append.1 hy with hy | hy
        · exact h2 y hy
        · rw [List.mem_singleton] at hy; rw [hy]; exact h0
      · exact .inr ⟨q, List.mem_append_left _ h1, h2, h3, h4⟩
theorem PQ.ends {ps : List Pd} (h : PQ ps) : endP (ps.map pcOf) = -1 ∨ (0 < endP (ps.map pcOf) ∧ endP (ps.map pcOf) ≤ 1200 ∧ ∀ x ∈ ps, 0 ≤ (pcOf x).o ∧ pEnd (pcOf x) ≤ endP (ps.map pcOf)) := by
  rcases endP_cases (ps.map pcOf) with ⟨h1, -⟩ | ⟨y, hy, hm, he⟩
  · exact .inl h1
  · have hx : ∀ x ∈ ps, 0 ≤ (pcOf x).o ∧ pEnd (pcOf x) ≤ endP (ps.map pcOf) := fun x hx => ⟨(may_nums (h.may x hx)).2.2, by rw [he]; exact ends_all h.ap hy hm _ (List.mem_map_of_mem hx)⟩
    obtain ⟨z, hz, rfl⟩ := List.mem_map.1 hy
    refine .inr ⟨?_, by rw [he]; exact h.low z hz, hx⟩
    rw [he]
    have h0 := (may_nums (h.may z hz)).2.2
    have hn := h.nol z hz
    have hp : pEnd (pcOf z) = z.ps + z.da.size := rfl
    have : z.ps ≠ 0 := fun e => hn ⟨e, hm⟩
    omega
/-- What the document makes of pieces is what the program makes of them. -/
theorem joined_same {ps : List Pd} (h : PQ ps) : joinedD ps = if wholeP (ps.map pcOf) = true then (wholeD ⟨nm0 ps, (0 : Int), ttlOf ps, ps.map pcOf⟩, true) else (pdZ, false) := by
  rcases h.ends with he | ⟨h1, h2, h3⟩
  · have hw : wholeP (ps.map pcOf) = false := decide_eq_false (by rw [he]; omega)
    unfold joinedD
    rw [he, if_pos (by decide), if_neg (by rw [hw]; decide)]
  · obtain ⟨E, hE⟩ : ∃ E : Nat, endP (ps.map pcOf) = (E : Int) := ⟨(endP (ps.map pcOf)).toNat, by omega⟩
    have hb : ∀ x ∈ ps.map pcOf, 0 ≤ x.o ∧ pEnd x ≤ (E : Int) := fun x hx => by
      obtain ⟨z, hz, rfl⟩ := List.mem_map.1 hx
      have := h3 z hz
      rw [hE] at this
      exact this
    have hb2 : ∀ x ∈ ps.map pcOf, 0 ≤ x.o ∧ x.o.toNat + x.da.size ≤ E := fun x hx => by
      have := hb x hx
      have hp : pEnd x = x.o + x.da.size := rfl
      omega
    have hd : (ps.map pcOf).Pairwise (fun x y => ¬ (max x.o y.o < min (pEnd x) (pEnd y))) := h.ap.imp (fun hc => (clash_parts hc).1)
    have hall := (there_all E (ps.map pcOf) hb2).trans (all_cov E (ps.map pcOf) hb hd)
    have hw : wholeP (ps.map pcOf) = true ↔ sumP (ps.map pcOf) = E := by
      unfold wholeP
      rw [hE, decide_eq_true_eq]
      omega
    unfold joinedD
    rw [hE, if_neg (by omega), Int.toNat_natCast]
    by_cases hc : sumP (ps.map pcOf) = E
    · have ha := hall.2 hc
      have hcov := (all_cov E (ps.map pcOf) hb hd).2 hc 0 (by omega)
      obtain ⟨x, hx, hx0⟩ := List.any_eq_true.1 hcov
      obtain ⟨z, hz, rfl⟩ := List.mem_map.1 hx
      have hz0 := of_decide_eq_true hx0
      have hzp := (hb _ hx).1
      rcases first_ttl ps with ⟨-, hno⟩ | ⟨q, hq, hf, hq0, ht⟩
      · exact absurd (show z.ps = 0 by have e : (pcOf z).o = z.ps := rfl; omega) (hno z hz)
      · rw [if_pos (by rw [hf, ha]; rfl), if_pos (hw.2 hc), hf]
        obtain ⟨n1, n2, -⟩ := may_nums (h.may q hq)
        have hn : nm0 ps = nmOf q := by
          cases ps with
          | nil => cases hq
          | cons a l => exact h.nm a (.head _) q hq
        refine Prod.ext (Pd.same ⟨?_, ?_, ?_, ?_, ?_, ?_, rfl, ?_⟩) rfl
        · show q.id = ((nm0 ps).id.toNat : Int); rw [hn, n1]
        · show q.sr = (nm0 ps).sr; rw [hn]; rfl
        · show q.ds = (nm0 ps).ds; rw [hn]; rfl
        · show q.pr = ((nm0 ps).pr.toNat : Int); rw [hn, n2]
        · show q.tl = ttlOf ps; rw [ht]
        · exact hq0
        · show (⟨(bytesD E (ps.map pcOf)).toArray⟩ : ByteArray) = ⟨((fillP (ps.map pcOf)).take (sumP (ps.map pcOf))).toArray⟩
          rw [bytes_fill E _ (by omega) (fun x hx => (hb2 x hx).2), hc]
    · rw [if_neg (by rw [Bool.and_eq_true]; exact fun e => hc (hall.1 e.2)), if_neg (fun e => hc (hw.1 e))]

end Go.Proofs.Ytbjoibgkhooljaa

namespace Go.Proofs.Ytbjoibgkhooljaa
open Go.RowKit
set_option linter.unusedVariables false

/-- Datagrams as the document keeps them, of at most n pieces each. -/
structure IQ (n : Nat) (L : List Dq) : Prop where
  le : L.length ≤ 4
  ne : ∀ d ∈ L, d.ps ≠ []
  pq : ∀ d ∈ L, PQ d.ps
  ag : ∀ d ∈ L, 0 ≤ d.age ∧ d.age ≤ 1048576
  pn : ∀ d ∈ L, d.ps.length ≤ n
def drop4 (L : List Dq) : List Dq := if L.length = 4 then L.eraseIdx 0 else L
def idxD (f : Pd) (L : List Dq) : Nat := L.findIdx (fun d => sameB (d.ps.headD pdZ) f)
def begD (f : Pd) (L : List Dq) : List Dq × Nat := if idxD f L < L.length then (L, idxD f L) else (drop4 L ++ [⟨[], 0⟩], (drop4 L).length)
def putJ (f : Pd) (L0 L : List Dq) (i : Nat) (d : Dq) : Pd × Bool × List Dq :=
  if pcOf f ∈ d.ps.map pcOf then (pdZ, false, L0)
  else if mayP (d.ps.map pcOf) (pcOf f) = false then (pdZ, false, L.eraseIdx i)
  else if (joinedD (d.ps ++ [f])).2 = true then ((joinedD (d.ps ++ [f])).1, true, L.eraseIdx i)
  else (pdZ, false, L.set i ⟨d.ps ++ [f], d.age⟩)
/-- What the document's Put answers and leaves. -/
def putD (f : Pd) (L : List Dq) : Pd × Bool × List Dq :=
  if mayB f = false then (pdZ, false, L)
  else if f.ps = 0 ∧ f.mo = false then (f, true, L)
  else putJ f L (begD f L).1 (begD f L).2 ((begD f L).1.getD (begD f L).2 ⟨[], 0⟩)
def tickD (lim : Int) (L : List Dq) : List Dq := (L.map fun d => (⟨d.ps, d.age + 1⟩ : Dq)).filter fun d => decide (d.age < lim)

theorem clash_sym (x y : Pc) : clashP x y = clashP y x := by
  unfold clashP
  rw [Bool.and_comm (!x.mo), Int.max_comm, Int.min_comm]
  cases aboveP x y <;> cases aboveP y x <;> simp
theorem nm_same {x y : Pd} (hx : mayB x = true) (hy : mayB y = true) : decide (nmOf x = nmOf y) = sameB x y := by
  obtain ⟨a1, a2, -⟩ := may_nums hx
  obtain ⟨b1, b2, -⟩ := may_nums hy
  rw [Bool.eq_iff_iff]
  unfold sameB
  simp only [decide_eq_true_eq, Bool.and_eq_true, beq_iff_eq]
  constructor
  · intro h
    have h3 : (nmOf x).pr = (nmOf y).pr := by rw [h]
    have h4 : (nmOf x).id = (nmOf y).id := by rw [h]
    exact ⟨⟨⟨congrArg Nm.sr h, congrArg Nm.ds h⟩, by rw [← a2, ← b2, h3]⟩, by rw [← a1, ← b1, h4]⟩
  · rintro ⟨⟨⟨h1, h2⟩, h3⟩, h4⟩
    exact Nm.same ⟨h1, h2, by show UInt8.ofNat _ = UInt8.ofNat _; rw [h3], by show UInt16.ofNat _ = UInt16.ofNat _; rw [h4]⟩
theorem idx_congr {α : Type} {p q : α → Bool} : ∀ {l : List α}, (∀ x ∈ l, p x = q x) → l.findIdx p = l.findIdx q
  | [], _ => rfl
  | x :: l, h => by rw [List.findIdx_cons, List.findIdx_cons, h x (.head _), idx_congr (fun y hy => h y (.tail _ hy))]
theorem idx_map {α β : Type} (g : α → β) (p : β → Bool) : ∀ (l : List α), (l.map g).findIdx p = l.findIdx (fun x => p (g x))
  | [] => rfl
  | x :: l => by rw [List.map_cons, List.findIdx_cons, List.findIdx_cons, idx_map g p l]
theorem head_mem {ps : List Pd} (h : ps ≠ []) : ps.headD pdZ ∈ ps := by
  cases ps with
  | nil => exact absurd rfl h
  | cons a l => exact .head _
theorem idx_same {n : Nat} {L : List Dq} (h : IQ n L) {f : Pd} (hf : mayB f = true) : (L.map cvD).findIdx (fun x => decide (x.nm = nmOf f)) = idxD f L := by
  rw [idx_map]
  exact idx_congr (fun d hd => nm_same ((h.pq d hd).may _ (head_mem (h.ne d hd))) hf)
theorem PQ.snoc {ps : List Pd} (h : PQ ps) {f : Pd} (hf : mayB f = true) (hn : ¬ (f.ps = 0 ∧ f.mo = false)) (hs : ps ≠ [] → nmOf (ps.headD pdZ) = nmOf f) (hm : mayP (ps.map pcOf) (pcOf f) = true) : PQ (ps ++ [f]) := by
  unfold mayP at hm
  rw [Bool.and_eq_true, decide_eq_true_eq, Bool.not_eq_true'] at hm
  obtain ⟨m1, m2⟩ := hm
  have hnm : ∀ x ∈ ps, nmOf x = nmOf f := fun x hx => by
    have hne : ps ≠ [] := fun e => by rw [e] at hx; cases hx
    rw [h.nm x hx _ (head_mem hne), hs hne]
  refine ⟨fun x hx => ?_, fun x hx => ?_, fun x hx => ?_, fun x hx y hy => ?_, ?_⟩
  · rcases List.mem_append.1 hx with hx | hx
    · exact h.may x hx
    · rw [List.mem_singleton] at hx; rw [hx]; exact hf
  · rcases List.mem_append.1 hx with hx | hx
    · exact h.nol x hx
    · rw [List.mem_singleton] at hx; rw [hx]; exact hn
  · rcases List.mem_append.1 hx with hx | hx
    · exact h.low x hx
    · rw [List.mem_singleton] at hx; rw [hx]; exact m1
  · have e : ∀ z ∈ ps ++ [f], nmOf z = nmOf f := fun z hz => by
      rcases List.mem_append.1 hz with hz | hz
      · exact hnm z hz
      · rw [List.mem_singleton] at hz; rw [hz]
    rw [e x hx, e y hy]
  · rw [List.map_append, List.pairwise_append]
    refine ⟨h.ap, by simp, fun x hx y hy => ?_⟩
    rw [List.map_cons, List.map_nil, List.mem_singleton] at hy
    subst hy
    rw [clash_sym]
    rw [List.any_eq_false] at m2
    simpa using m2 x hx
theorem PQ.nil : PQ [] := ⟨fun x hx => (by cases hx), fun x hx => (by cases hx), fun x hx => (by cases hx), fun x hx => (by cases hx), .nil⟩
theorem erase_last {α : Type} (l : List α) (x : α) : (l ++ [x]).eraseIdx l.length = l := by
  rw [List.eraseIdx_append_of_length_le (Nat.le_refl _), Nat.sub_self]; simp
theorem set_last {α : Type} (l : List α) (x y : α) : (l ++ [x]).set l.length y = l ++ [y] := by
  rw [List.set_append_right _ _ (Nat.le_refl _), Nat.sub_self]; rfl
theorem IQ.erase {n : Nat} {L : List Dq} (h : IQ n L) (i : Nat) : IQ n (L.eraseIdx i) :=
  ⟨Nat.le_trans (List.length_eraseIdx_le _ _) h.le, fun d hd => h.ne d (List.mem_of_mem_eraseIdx hd), fun d hd => h.pq d (List.mem_of_mem_eraseIdx hd), fun d hd => h.ag d (List.mem_of_mem_eraseIdx hd), fun d hd => h.pn d (List.mem_of_mem_eraseIdx hd)⟩
theorem IQ.mono {n m : Nat} {L : List Dq} (h : IQ n L) (k : n ≤ m) : IQ m L := ⟨h.le, h.ne, h.pq, h.ag, fun d hd => Nat.le_trans (h.pn d hd) k⟩
theorem IQ.drop4 {n : Nat} {L : List Dq} (h : IQ n L) : IQ n (drop4 L) ∧ (Go.Proofs.Ytbjoibgkhooljaa.drop4 L).length ≤ 3 := by
  unfold Go.Proofs.Ytbjoibgkhooljaa.drop4
  split
  · exact ⟨h.erase 0, by rw [List.length_eraseIdx_of_lt (by omega)]; omega⟩
  · exact ⟨h, by have := h.le; omega⟩
theorem IQ.put {n : Nat} {L : List Dq} (h : IQ n L) (i : Nat) (d : Dq) (h1 : d.ps ≠ []) (h2 : PQ d.ps) (h3 : 0 ≤ d.age ∧ d.age ≤ 1048576) (h4 : d.ps.length ≤ n) : IQ n (L.set i d) := by
  refine ⟨by rw [List.length_set]; exact h.le, fun x hx => ?_, fun x hx => ?_, fun x hx => ?_, fun x hx => ?_⟩
  all_goals
    rcases List.mem_or_eq_of_mem_set hx with hx | rfl
    · first | exact h.ne x hx | exact h.pq x hx | exact h.ag x hx | exact h.pn x hx
    · assumption
theorem IQ.add {n : Nat} {L : List Dq} (h : IQ n L) (hl : L.length ≤ 3) (d : Dq) (h1 : d.ps ≠ []) (h2 : PQ d.ps) (h3 : 0 ≤ d.age ∧ d.age ≤ 1048576) (h4 : d.ps.length ≤ n) : IQ n (L ++ [d]) := by
  refine ⟨by rw [List.length_append]; simp; omega, fun x hx => ?_, fun x hx => ?_, fun x hx => ?_, fun x hx => ?_⟩
  all_goals
    rcases List.mem_append.1 hx with hx | hx
    · first | exact h.ne x hx | exact h.pq x hx | exact h.ag x hx | exact h.pn x hx
    · rw [List.mem_singleton] at hx
      subst hx
      assumption
theorem map_drop4 (L : List Dq) : (if (L.map cvD).length = 4 then (L.map cvD).eraseIdx 0 else L.map cvD) = (drop4 L).map cvD := by
  unfold drop4
  rw [List.length_map]
  split
  · rw [map_erase]
  · rfl
/-- What the document's Put answers and leaves is what the program's does. -/
theorem put_same {n : Nat} {L : List Dq} (h : IQ n L) (f : Pd) : putA f (L.map cvD) = ((putD f L).1, (putD f L).2.1, (putD f L).2.2.map cvD) ∧ IQ (n + 1) (putD f L).2.2 := by
  unfold putA putD
  cases hm : mayB f with
  | false => rw [if_pos rfl, if_pos rfl]; exact ⟨rfl, h.mono (Nat.le_succ _)⟩
  | true =>
    have h0 : ¬ (true = false) := by decide
    rw [if_neg h0, if_neg h0]
    by_cases hn : f.ps = 0 ∧ f.mo = false
    · rw [if_pos hn, if_pos hn]; exact ⟨rfl, h.mono (Nat.le_succ _)⟩
    · rw [if_neg hn, if_neg hn]
      have hi := idx_same h hm
      by_cases hx : idxD f L < L.length
      · have b1 : begA (nmOf f) (L.map cvD) = (L.map cvD, idxD f L) := by unfold begA; rw [hi, if_pos (by rw [List.length_map]; exact hx)]
        have b2 : begD f L = (L, idxD f L) := by unfold begD; rw [if_pos hx]
        have hd : L.getD (idxD f L) ⟨[], 0⟩ = L[idxD f L] := by rw [List.getD_eq_getElem?_getD, List.getElem?_eq_getElem hx]; rfl
        rw [b1, b2]
        show (match (L.map cvD)[idxD f L]? with | none => _ | some d => _) = _ ∧ _
        rw [List.getElem?_eq_getElem (by rw [List.length_map]; exact hx), List.getElem_map]
        show putI f (L.map cvD) (idxD f L) (cvD L[idxD f L]) = _ ∧ _
        show _ = ((putJ f L L (idxD f L) (L.getD (idxD f L) ⟨[], 0⟩)).1, _, _) ∧ IQ (n + 1) (putJ f L L (idxD f L) (L.getD (idxD f L) ⟨[], 0⟩)).2.2
        rw [hd]
        have hdm : L[idxD f L] ∈ L := List.getElem_mem hx
        have hsm : sameB ((L[idxD f L]).ps.headD pdZ) f = true := List.findIdx_getElem (w := hx)
        generalize L[idxD f L] = d at hdm hsm
        generalize idxD f L = i
        have hpq := h.pq d hdm
        have hne := h.ne d hdm
        have hnm : nm0 d.ps = nmOf f := of_decide_eq_true (by rw [← hsm]; exact nm_same (hpq.may _ (head_mem hne)) hm)
        unfold putI putJ
        by_cases c1 : pcOf f ∈ d.ps.map pcOf
        · rw [if_pos c1, if_pos (show pcOf f ∈ (cvD d).ps from c1)]; exact ⟨rfl, h.mono (Nat.le_succ _)⟩
        rw [if_neg c1, if_neg (show ¬ pcOf f ∈ (cvD d).ps from c1)]
        by_cases c2 : mayP (d.ps.map pcOf) (pcOf f) = false
        · rw [if_pos c2, if_pos (show mayP (cvD d).ps (pcOf f) = false from c2)]
          exact ⟨by rw [map_erase], (h.erase i).mono (Nat.le_succ _)⟩
        rw [if_neg c2, if_neg (show ¬ mayP (cvD d).ps (pcOf f) = false from c2)]
        have hP := hpq.snoc hm hn (fun _ => hnm) (by simpa using c2)
        have hj := joined_same hP
        have e1 : (cvD d).ps ++ [pcOf f] = (d.ps ++ [f]).map pcOf := by rw [List.map_append]; rfl
        have e2 : nm0 (d.ps ++ [f]) = nm0 d.ps := by
          cases hh : d.ps with
          | nil => exact absurd hh hne
          | cons a l => rfl
        have e3 : (if f.ps = 0 then f.tl else (cvD d).ttl) = ttlOf (d.ps ++ [f]) := by rw [ttl_snoc]; rfl
        rw [e1, e3]
        by_cases c3 : wholeP ((d.ps ++ [f]).map pcOf) = true
        · rw [if_pos c3] at hj ⊢
          rw [hj, if_pos rfl]
          refine ⟨?_, (h.erase i).mono (Nat.le_succ _)⟩
          rw [map_erase, e2]
          rfl
        · rw [if_neg c3] at hj ⊢
          rw [hj, if_neg (by decide)]
          refine ⟨?_, ?_⟩
          · show (pdZ, false, _) = (pdZ, false, _)
            rw [List.map_set]
            show (pdZ, false, (L.map cvD).set i ⟨nm0 d.ps, d.age, _, _⟩) = (pdZ, false, (L.map cvD).set i ⟨nm0 (d.ps ++ [f]), d.age, _, _⟩)
            rw [e2]
          · exact (h.mono (Nat.le_succ _)).put i _ (by simp) hP (h.ag d hdm) (by show (d.ps ++ [f]).length ≤ n + 1; rw [List.length_append]; have := h.pn d hdm; simp; omega)
      · have b1 : begA (nmOf f) (L.map cvD) = ((drop4 L).map cvD ++ [⟨nmOf f, 0, 0, []⟩], (drop4 L).length) := by
          unfold begA
          rw [hi, if_neg (by rw [List.length_map]; exact hx), map_drop4, List.length_map]
        have b2 : begD f L = (drop4 L ++ [⟨[], 0⟩], (drop4 L).length) := by unfold begD; rw [if_neg hx]
        rw [b1, b2]
        obtain ⟨hD, hD3⟩ := h.drop4
        generalize drop4 L = M at hD hD3
        have g1 : ((M.map cvD) ++ [(⟨nmOf f, 0, 0, []⟩ : Da)])[M.length]? = some ⟨nmOf f, 0, 0, []⟩ := by
          rw [List.getElem?_append_right (by rw [List.length_map]; exact Nat.le_refl _), List.length_map, Nat.sub_self]; rfl
        have g2 : (M ++ [(⟨[], 0⟩ : Dq)]).getD M.length ⟨[], 0⟩ = ⟨[], 0⟩ := by
          rw [List.getD_eq_getElem?_getD, List.getElem?_append_right (Nat.le_refl _), Nat.sub_self]; rfl
        show (match ((M.map cvD) ++ [(⟨nmOf f, 0, 0, []⟩ : Da)])[M.length]? with | none => _ | some d => _) = _ ∧ _
        rw [g1]
        show putI f ((M.map cvD) ++ [⟨nmOf f, 0, 0, []⟩]) M.length ⟨nmOf f, 0, 0, []⟩ = ((putJ f L (M ++ [⟨[], 0⟩]) M.length ((M ++ [(⟨[], 0⟩ : Dq)]).getD M.length ⟨[], 0⟩)).1, _, _) ∧ IQ (n + 1) (putJ f L (M ++ [⟨[], 0⟩]) M.length ((M ++ [(⟨[], 0⟩ : Dq)]).getD M.length ⟨[], 0⟩)).2.2
        rw [g2]
        unfold putI putJ
        have hl : (M.map cvD).length = M.length := List.length_map _
        have k1 : ((M.map cvD) ++ [(⟨nmOf f, 0, 0, []⟩ : Da)]).eraseIdx M.length = M.map cvD := by rw [← hl]; exact erase_last _ _
        have k2 : (M ++ [(⟨[], 0⟩ : Dq)]).eraseIdx M.length = M := erase_last _ _
        rw [if_neg (show ¬ pcOf f ∈ ([] : List Pc) by simp), if_neg (show ¬ pcOf f ∈ ([] : List Pd).map pcOf by simp), k1, k2]
        by_cases c2 : mayP (([] : List Pd).map pcOf) (pcOf f) = false
        · rw [if_pos c2, if_pos (show mayP [] (pcOf f) = false from c2)]
          exact ⟨rfl, hD.mono (Nat.le_succ _)⟩
        rw [if_neg c2, if_neg (show ¬ mayP [] (pcOf f) = false from c2)]
        have hP := PQ.nil.snoc hm hn (fun e => absurd rfl e) (by simpa using c2)
        have hj := joined_same hP
        have e3 : (if f.ps = 0 then f.tl else (0 : Int)) = ttlOf ([] ++ [f]) := by rw [ttl_snoc]; rfl
        show (if wholeP (([] ++ [f]).map pcOf) = true then (wholeD ⟨nmOf f, 0, if f.ps = 0 then f.tl else 0, ([] ++ [f]).map pcOf⟩, true, M.map cvD) else (pdZ, false, ((M.map cvD) ++ [(⟨nmOf f, 0, 0, []⟩ : Da)]).set M.length ⟨nmOf f, 0, if f.ps = 0 then f.tl else 0, ([] ++ [f]).map pcOf⟩)) = _ ∧ _
        rw [e3]
        by_cases c3 : wholeP (([] ++ [f]).map pcOf) = true
        · rw [if_pos c3] at hj ⊢
          rw [hj, if_pos rfl]
          exact ⟨rfl, hD.mono (Nat.le_succ _)⟩
        · rw [if_neg c3] at hj ⊢
          rw [hj, if_neg (by decide)]
          have k3 : ((M.map cvD) ++ [(⟨nmOf f, 0, 0, []⟩ : Da)]).set M.length ⟨nmOf f, 0, ttlOf ([] ++ [f]), ([] ++ [f]).map pcOf⟩ = (M.map cvD) ++ [⟨nmOf f, 0, ttlOf ([] ++ [f]), ([] ++ [f]).map pcOf⟩] := by rw [← hl]; exact set_last _ _ _
          have k4 : (M ++ [(⟨[], 0⟩ : Dq)]).set M.length ⟨[] ++ [f], 0⟩ = M ++ [⟨[] ++ [f], 0⟩] := set_last _ _ _
          refine ⟨?_, ?_⟩
          · show (pdZ, false, _) = (pdZ, false, _)
            rw [k3]
            show (pdZ, false, _) = (pdZ, false, ((M ++ [(⟨[], 0⟩ : Dq)]).set M.length ⟨[] ++ [f], 0⟩).map cvD)
            rw [k4, List.map_append (l₁ := M)]
            rfl
          · show IQ (n + 1) ((M ++ [(⟨[], 0⟩ : Dq)]).set M.length ⟨[] ++ [f], 0⟩)
            rw [k4]
            exact (hD.mono (Nat.le_succ _)).add hD3 _ (by simp) hP ⟨by show (0 : Int) ≤ 0; omega, by show (0 : Int) ≤ 1048576; omega⟩ (by show ([] ++ [f]).length ≤ n + 1; simp)
theorem tick_same {n : Nat} {L : List Dq} (h : IQ n L) (lim : Int) (hl : lim ≤ 1048576) : tickA lim (L.map cvD) = (tickD lim L).map cvD ∧ IQ n (tickD lim L) := by
  refine ⟨?_, ?_⟩
  · unfold tickA tickD
    rw [List.map_map, List.filter_map, List.filter_map, List.map_map]
    have e : ∀ d : Dq, ((fun x : Da => !decide (lim ≤ x.age)) ∘ ((fun x => (⟨x.nm, x.age + 1, x.ttl, x.ps⟩ : Da)) ∘ cvD)) d = ((fun d : Dq => decide (d.age < lim)) ∘ (fun d => (⟨d.ps, d.age + 1⟩ : Dq))) d := fun d => by
      show (!decide (lim ≤ d.age + 1)) = decide (d.age + 1 < lim)
      by_cases c : lim ≤ d.age + 1
      · rw [decide_eq_true c, decide_eq_false (by omega)]; rfl
      · rw [decide_eq_false c, decide_eq_true (by omega)]; rfl
    rw [List.filter_congr (fun d _ => e d)]
    rfl
  · have hm : ∀ d ∈ tickD lim L, ∃ x ∈ L, d = ⟨x.ps, x.age + 1⟩ ∧ x.age + 1 < lim := fun d hd => by
      obtain ⟨hd, hq⟩ := List.mem_filter.1 hd
      obtain ⟨x, hx, rfl⟩ := List.mem_map.1 hd
      exact ⟨x, hx, rfl, of_decide_eq_true hq⟩
    refine ⟨Nat.le_trans (List.length_filter_le _ _) (by rw [List.length_map]; exact h.le), fun d hd => ?_, fun d hd => ?_, fun d hd => ?_, fun d hd => ?_⟩
    all_goals
      obtain ⟨x, hx, rfl, hq⟩ := hm d hd
    · exact h.ne x hx
    · exact h.pq x hx
    · have := h.ag x hx
      show 0 ≤ x.age + 1 ∧ x.age + 1 ≤ 1048576
      omega
    · exact h.pn x hx
theorem IQ.fine {n : Nat} {L : List Dq} (h : IQ n L) (hn : n ≤ 100000) : FineL 100000 (L.map cvD) := by
  intro x hx
  obtain ⟨d, hd, rfl⟩ := List.mem_map.1 hx
  refine ⟨by show (d.ps.map pcOf).length ≤ 100000; rw [List.length_map]; have := h.pn d hd; omega, fun y hy => ?_⟩
  obtain ⟨z, hz, rfl⟩ := List.mem_map.1 hy
  exact ⟨pcOf_fine ((h.pq d hd).may z hz), (h.pq d hd).low z hz⟩

end Go.Proofs.Ytbjoibgkhooljaa

namespace Go.Proofs.Ytbjoibgkhooljaa
open Go.RowKit Go.Sort
set_option linter.unusedVariables false

theorem blkLt {w : World} {n : Nat} {o : Obj} (h : w.heap[n]? = some o) : n < w.heap.size := (Array.getElem?_eq_some_iff.1 h).1
structure RaG {α : Type} (k : Nat) (enc : α → List Value) (TE : TypeId) (w wr : World) (F : List (Nat × Obj)) (va : Value) (la : List α) : Prop where
  acc : RowA k enc TE wr va la
  own : ∀ k, va.ownBlock = some k → w.heap.size ≤ k
  bl : Below w.heap.size w wr
  fx : ∀ p ∈ F, wr.heap[p.1]? = some p.2 ∧ ∀ k, va.ownBlock = some k → k ≠ p.1
section
variable {α : Type} {k : Nat} {enc : α → List Value} {TE : TypeId} {w wr wr' : World} {F : List (Nat × Obj)} {va va' : Value} {la la' : List α}
theorem RaG.grow (h : RaG k enc TE w wr F va la) (b : Below wr.heap.size wr wr') : RaG k enc TE w wr' F va la :=
  ⟨h.acc.kept b.size (fun k hk => b.block k (h.acc.lt k hk).2), h.own, h.bl.trans (b.mono h.bl.size), fun p hp => ⟨(b.block p.1 (blkLt (h.fx p hp).1)).trans (h.fx p hp).1, (h.fx p hp).2⟩⟩
theorem RaG.alloc (h : RaG k enc TE w wr F va la) (o : Obj) : RaG k enc TE w (wr.alloc o) F va la := h.grow ((Below.refl _ _).alloc (Nat.le_refl _) o)
theorem RaG.get (h : RaG k enc TE w wr F va la) {n : Nat} {o : Obj} (hp : (n, o) ∈ F) : wr.heap[n]? = some o := (h.fx _ hp).1
theorem RaG.app (h : RaG k enc TE w wr F va la) (hg : wr.grownBy wr' va.ownBlock) (hr : RowA k enc TE wr' va' la') (hb : va'.ownBlock = va.ownBlock ∨ va'.ownBlock = some wr.heap.size) : RaG k enc TE w wr' F va' la' := by
  have hno : ∀ k, k < w.heap.size → some k ≠ va.ownBlock := fun k hk e => by
    have := h.own k e.symm; omega
  refine ⟨hr, fun k hk => ?_, ⟨hg.os.trans h.bl.os, hg.tape.trans h.bl.tape, hg.output.trans h.bl.output, Nat.le_trans h.bl.size hg.size, fun k hk => (hg.block k (Nat.lt_of_lt_of_le hk h.bl.size) (hno k hk)).trans (h.bl.block k hk)⟩, fun p hp => ?_⟩
  · rcases hb with e | e
    · exact h.own k (by rw [← e]; exact hk)
    · rw [e] at hk; injection hk with hk; rw [← hk]; exact h.bl.size
  · obtain ⟨f1, f2⟩ := h.fx p hp
    refine ⟨(hg.block p.1 (blkLt f1) (fun e => f2 _ e.symm rfl)).trans f1, fun k hk e2 => ?_⟩
    rcases hb with e | e
    · exact f2 k (by rw [← e]; exact hk) e2
    · rw [e] at hk; injection hk with hk
      have := blkLt f1
      omega
theorem RaG.start (k : Nat) (enc : α → List Value) (TE : TypeId) (w : World) : RaG k enc TE w w [] (.slice none 0 0) [] := ⟨World.ownsRow_nil _ _ _ _, fun k hk => (by cases hk), Below.refl _ _, fun p hp => (by cases hp)⟩
theorem RaG.more (h : RaG k enc TE w wr F va la) {n : Nat} {o : Obj} (hn : wr.heap[n]? = some o) (hv : ∀ k, va.ownBlock = some k → k ≠ n) : RaG k enc TE w wr ((n, o) :: F) va la :=
  ⟨h.acc, h.own, h.bl, fun p hp => by
    rcases List.mem_cons.1 hp with rfl | hp
    · exact ⟨hn, hv⟩
    · exact h.fx p hp⟩
theorem RaG.push (h : RaG k enc TE w wr F va la) (o : Obj) : RaG k enc TE w (wr.alloc o) ((wr.heap.size, o) :: F) va la :=
  (h.alloc o).more (heap_alloc_new wr o) (fun k hk => by have := (h.acc.lt k hk).2; omega)
theorem RaG.drop {q : Nat × Obj} (h : RaG k enc TE w wr (q :: F) va la) : RaG k enc TE w wr F va la := ⟨h.acc, h.own, h.bl, fun p hp => h.fx p (.tail _ hp)⟩
/-- The row is kept beside, another one is begun. -/
theorem RaG.fresh (h : RaG k enc TE w wr F va la) {b : Nat} {o : Obj} (hb : wr.heap[b]? = some o) {β : Type} (k' : Nat) (enc' : β → List Value) (TE' : TypeId) : RaG k' enc' TE' w wr ((b, o) :: F) (.slice none 0 0) [] :=
  ⟨World.ownsRow_nil _ _ _ _, fun k hk => (by cases hk), h.bl, fun p hp => by
    rcases List.mem_cons.1 hp with rfl | hp
    · exact ⟨hb, fun k hk => (by cases hk)⟩
    · exact ⟨(h.fx p hp).1, fun k hk => (by cases hk)⟩⟩
end

/-- Several elements are appended, wherever they lie. -/
theorem wpList_append_many {P : Program} {ops : Array Oper} {rest : List Oper} {o : Oper} {a : Act} {w : World} {Q : Exit → Act → World → Prop} {α : Type} {k : Nat} {enc : α → List Value} {TE : TypeId}
    (hk : ∀ x, (enc x).length = k) (h1e : ∀ x, ∀ u ∈ enc x, u.oneCell' = true) (hk0 : 0 < k) (hg : o.guard = none) (s x : Operand) (t : TypeId) (hop : o.op = Op.call { callee := Callee.builtin Builtin.append, args := #[s, x], argTypes := #[t, t] })
    (i : TypeInfo) (z : Value) (bytes : Nat) (ht : P.underlying t = some (.slice TE)) (hi : P.info? TE = some i) (hz : i.zero = some z) (hsize : i.size = k) (hby : i.bytes = bytes) (hb2 : bytes ≤ 100) (hzs : z.cells.size = k)
    (v : Value) (l : List α) (hs : a.eval s = v) (hown : RowA k enc TE w v l) (ys : List α) (hl : l.length + ys.length ≤ 100000000) (ad : Addr) (m c : Nat) (hm : ys.length = m) (hx : a.eval x = .slice (some ad) m c) (hc : ∀ j u, (encA enc ys)[j]? = some u → w.cell? (ad.add j) = some u)
    (hK : ∀ v' w', RowA k enc TE w' v' (l ++ ys) → w.grownBy w' v.ownBlock → (v'.ownBlock = v.ownBlock ∨ v'.ownBlock = some w.heap.size) → wpList P ops Q rest (a.put o.dst v') w') : wpList P ops Q (o :: rest) a w := by
  subst hm
  refine wpList_plain hg fun K hKK => ?_
  obtain ⟨v', w', hr, h2, h3, _, h5⟩ := run_append_own_at (P := P) w 0 t o.type TE i z k bytes ht hi hz hsize hby hzs hk0 v l.length (encA enc l) hown ad ys.length c (encA enc ys) (encA_length hk ys) hc
    (fun u hu => by
      obtain ⟨tm, _, hu⟩ := List.mem_flatMap.1 hu
      exact h1e tm u hu) (by unfold maxLen; omega) (by have := Nat.mul_le_mul (show l.length + ys.length ≤ 100000000 by omega) hb2; omega) (Nat.zero_le _)
  unfold Oper.wp
  simp only [execOp, hop, resolve, invoke, builtin, Sem.run_bind, Sem.run_pure, Result.andThen_ok, List.map_toArray, List.map_cons, List.map_nil, hs, hx, hr]
  refine hKK _ _ (hK v' w' ?_ h3 h5)
  unfold RowA
  rw [List.length_append, encA_append]
  exact h2

end Go.Proofs.Ytbjoibgkhooljaa

namespace Go.Proofs.Ytbjoibgkhooljaa
open Go.RowKit Go.Sort Go.Shelf
set_option linter.unusedVariables false

/-- The document's datagram: where its packets lie, and its age. -/
structure Dd where
  pp : Option Addr
  pn : Nat
  pc : Nat
  age : Int
def ddE (x : Dd) : List Value := [.slice x.pp x.pn x.pc, .int .i64 x.age]
theorem ddE_len (x : Dd) : (ddE x).length = 2 := rfl
theorem ddE_one (x : Dd) : ∀ u ∈ ddE x, u.oneCell' = true := by
  intro u hu
  simp only [ddE, List.mem_cons, List.not_mem_nil, or_false] at hu
  rcases hu with rfl | rfl <;> rfl
theorem info_dd : ∃ i z, Try.prog.info? 78 = some i ∧ i.zero = some z ∧ i.size = 2 ∧ i.bytes ≤ 100 ∧ z.cells.size = 2 := by
  have h : (Try.prog.info? 78).map (fun i => (i.zero.map (fun z => z.cells.size), i.size, decide (i.bytes ≤ 100))) = some (some 2, 2, true) := by kernel_rfl
  cases hi : Try.prog.info? 78 with
  | none => rw [hi] at h; cases h
  | some i =>
    rw [hi] at h
    simp only [Option.map_some, Option.some.injEq, Prod.mk.injEq] at h
    obtain ⟨h1, h2, h3⟩ := h
    cases hz : i.zero with
    | none => rw [hz] at h1; cases h1
    | some z => rw [hz] at h1; exact ⟨i, z, rfl, hz, h2, by simpa using h3, by simpa using h1⟩
/-- A part of a row's cells. -/
theorem row_part {α : Type} {k : Nat} {enc : α → List Value} {TE : TypeId} (hk : ∀ x, (enc x).length = k) {w : World} {b cap : Nat} {l : List α} (h : RowA k enc TE w (.slice (some ⟨b, 0, none⟩) l.length cap) l) (a n : Nat) (ha : a + n ≤ l.length) : ∀ j u, (encA enc ((l.drop a).take n))[j]? = some u → w.cell? ((⟨b, a * k, none⟩ : Addr).add j) = some u := fun j u hu => by
  have e0 : l = l.take a ++ ((l.drop a).take n ++ (l.drop a).drop n) := by rw [List.take_append_drop, List.take_append_drop]
  have hj : j < (encA enc ((l.drop a).take n)).length := (List.getElem?_eq_some_iff.1 hu).1
  have h2 : (encA enc l)[a * k + j]? = some u := by
    have e1 : encA enc l = encA enc (l.take a) ++ (encA enc ((l.drop a).take n) ++ encA enc ((l.drop a).drop n)) := by
      conv => lhs; rw [e0]
      rw [encA_append, encA_append]
    have e2 : (encA enc (l.take a)).length = a * k := by rw [encA_length hk, List.length_take, Nat.min_eq_left (by omega)]
    rw [e1, List.getElem?_append_right (by omega), e2, show a * k + j - a * k = j by omega, List.getElem?_append_left hj]
    exact hu
  have := h.cells (g := b) rfl (a * k + j) u h2
  rw [add_off, Nat.zero_add] at this
  rw [add_off]
  exact this

set_option maxRecDepth 100000 in
set_option maxHeartbeats 4000000 in
theorem rwithout_any (w : World) (b cap i : Nat) (l : List Dd) (h : RowA 2 ddE 78 w (.slice (some ⟨b, 0, none⟩) l.length cap) l) (hi : i < l.length) (hl : l.length ≤ 1000) :
    Calls Try.prog 34 #[.slice (some ⟨b, 0, none⟩) l.length cap, .int .i64 (i : Int)] w fun e w' => ∃ v', e = .returned v' ∧ RowA 2 ddE 78 w' v' (l.eraseIdx i) ∧ Below w.heap.size w w' ∧ ∀ k, v'.ownBlock = some k → w.heap.size ≤ k := by
  obtain ⟨b', cap', cur, hv, hbb, hcap, hcm, _⟩ := h.block (by omega)
  injection hv with hv _ hc; injection hv with hv; injection hv with hv
  subst hv hc
  unfold maxLen at hcm
  obtain ⟨i0, z0, hi0, hz0, hz1, hz2, hz3⟩ := info_dd
  have HI0 := Lib.hid hi0
  have HZ0 := Lib.hid hz0
  have HZ1 := Lib.hid hz1
  have HZ2 := Lib.hid hz2
  have HZ3 := Lib.hid hz3
  have R0 : Hid (RaG 2 ddE 78 w w [(b, .cells cur 78 (0, 0))] (.slice none 0 0) []) := Lib.hid ((RaG.start 2 ddE 78 w).more hbb (fun k hk => by cases hk))
  have p1 := row_part ddE_len h 0 i (by omega)
  rw [List.drop_zero, Nat.zero_mul] at p1
  have P1 := Lib.hid p1
  have HROW := Lib.hid h
  have HBB := Lib.hid hbb
  have q0 : (0 : Int) ≤ (i : Int) := by omega
  have q1 : (i : Int) ≤ (cap : Int) := by omega
  have q2 : (i : Int) ≤ (l.length : Int) := by omega
  have q3 : (i : Int) + 1 ≤ (l.length : Int) := by omega
  have q4 : (0 : Int) ≤ (i : Int) + 1 := by omega
  have hw1 : IntKind.i64.wrap ((i : Int) + 1) = (i : Int) + 1 := IntWalk.i64_in _ (by omega)
  have hl0 : ([] : List Dd).length + (l.take i).length ≤ 100000000 := by rw [List.length_take]; simp; omega
  have hti : (l.take i).length = i := by rw [List.length_take]; omega
  clear hi0 hz0 hz1 hz2 hz3 p1 h hbb
  go_enter Try.func34, Try.ntmps34
  go_upto_region 3 with (refine wpList_append_many ddE_len ddE_one (by decide) rfl (.tmp 6) (.tmp 9) 29 rfl i0 z0 _ Try.underlying29 HI0.out HZ0.out HZ1.out rfl HZ2.out HZ3.out (.slice none 0 0) [] rfl R0.out.acc (l.take i) hl0 ⟨b, 0, none⟩ i cap hti rfl P1.out ?_; intro v1 w1 hrow hgr hbl; have R1 := Lib.hid (R0.out.app hgr hrow hbl); clear hrow hgr hbl)
  rw [List.nil_append] at R1
  obtain ⟨AA, hA, hP2⟩ : ∃ AA : Addr, (if cap = i + 1 then (some ⟨b, 0, none⟩ : Option Addr) else some ⟨b, (i + 1) * 2, none⟩) = some AA ∧ Hid (∀ j u, (encA ddE (l.drop (i + 1)))[j]? = some u → w1.cell? (AA.add j) = some u) := by
    have hb1 : w1.heap[b]? = some (.cells cur 78 (0, 0)) := R1.out.get (.head _)
    by_cases hc : cap = i + 1
    · refine ⟨⟨b, 0, none⟩, by simp [hc], Lib.hid (fun j u hu => ?_)⟩
      have h0 : l.drop (i + 1) = [] := List.drop_eq_nil_of_le (by omega)
      rw [h0] at hu
      simp [encA] at hu
    · refine ⟨⟨b, (i + 1) * 2, none⟩, by simp [hc], Lib.hid (fun j u hu => ?_)⟩
      have hp := row_part ddE_len HROW.out (i + 1) (l.length - (i + 1)) (by omega) j u (by rw [List.take_of_length_le (by rw [List.length_drop]; omega)]; exact hu)
      rw [add_off] at hp ⊢
      rw [cell_of_block HBB.out] at hp
      rw [cell_of_block hb1]
      exact hp
  have hl1 : (l.take i).length + (l.drop (i + 1)).length ≤ 100000000 := by rw [List.length_take, List.length_drop]; omega
  have hdi : (l.drop (i + 1)).length = l.length - (i + 1) := List.length_drop
  clear R0 P1
  go_wp2_with (refine wpList_append_many ddE_len ddE_one (by decide) rfl (.tmp 11) (.tmp 15) 29 rfl i0 z0 _ Try.underlying29 HI0.out HZ0.out HZ1.out rfl HZ2.out HZ3.out v1 (l.take i) rfl R1.out.acc (l.drop (i + 1)) hl1 AA (l.length - (i + 1)) (cap - (i + 1)) hdi rfl hP2.out ?_; intro v2 w2 hrow hgr hbl; have R2 := Lib.hid (R1.out.app hgr hrow hbl); clear hrow hgr hbl)
  go_ret
  refine ⟨_, rfl, ?_, R2.out.bl, R2.out.own⟩
  rw [List.eraseIdx_eq_take_drop_succ]
  exact R2.out.acc

end Go.Proofs.Ytbjoibgkhooljaa

namespace Go.Proofs.Ytbjoibgkhooljaa
open Go.RowKit Go.ChangeMaps Go.MapKept
open Go.Maps (Keyed)

/-- The entries are these, in the order in which they were put. -/
structure Ents (es : Array MapEntry) (clock : Nat) (cs : List (Int × Value)) : Prop where
  ents : es.toList.map (fun e => (e.key, e.val)) = cs.map (fun c => (Value.int .i64 c.1, c.2))
  born : (es.toList.map (·.born)).Nodup
  old : ∀ e ∈ es.toList, e.born < clock
  keys : (cs.map (·.1)).Nodup
  wf : ∀ c ∈ cs, (Lit.int .i64 c.1).wf = true

/-- Block b is a map that holds these entries. -/
def IsTab (w : World) (b : Nat) (cs : List (Int × Value)) : Prop := ∃ es clock, w.heap[b]? = some (.map es clock) ∧ Ents es clock cs

variable {P : Program} {k t e : TypeId} {w : World} {b : Nat} {cs : List (Int × Value)}

theorem tab_made (w : World) : IsTab (w.alloc (.map #[] 0)) w.heap.size [] := ⟨#[], 0, (MapKept.heap_alloc w _).1, ⟨rfl, List.nodup_nil, by simp, List.nodup_nil, by simp⟩⟩
theorem IsTab.lt (h : IsTab w b cs) : b < w.heap.size := by obtain ⟨es, clock, hb, _⟩ := h; exact (Array.getElem?_eq_some_iff.1 hb).1
theorem IsTab.kept {w' : World} (h : IsTab w b cs) (hb : w'.heap[b]? = w.heap[b]?) : IsTab w' b cs := by obtain ⟨es, clock, h1, h2⟩ := h; exact ⟨es, clock, hb.trans h1, h2⟩

theorem Ents.at_ {es : Array MapEntry} {clock : Nat} (h : Ents es clock cs) {j : Nat} {e : MapEntry} (hj : es.toList[j]? = some e) : ∃ c, cs[j]? = some c ∧ e.key = .int .i64 c.1 ∧ e.val = c.2 := by
  have h1 := congrArg (fun l => l[j]?) h.ents
  simp only [List.getElem?_map, hj, Option.map_some] at h1
  cases hc : cs[j]? with
  | none => rw [hc] at h1; simp at h1
  | some c =>
    rw [hc] at h1
    simp at h1
    exact ⟨c, rfl, h1.1, h1.2⟩
theorem Ents.of_mem {es : Array MapEntry} {clock : Nat} (h : Ents es clock cs) {e : MapEntry} (he : e ∈ es.toList) : ∃ c ∈ cs, e.key = .int .i64 c.1 ∧ e.val = c.2 := by
  obtain ⟨j, hj, rfl⟩ := List.getElem_of_mem he
  obtain ⟨c, hc, h2⟩ := h.at_ (List.getElem?_eq_getElem hj)
  exact ⟨c, List.mem_of_getElem? hc, h2⟩
theorem Ents.length {es : Array MapEntry} {clock : Nat} (h : Ents es clock cs) : es.size = cs.length := by
  have := congrArg List.length h.ents
  simpa using this

theorem Ents.find {es : Array MapEntry} {clock : Nat} (h : Ents es clock cs) (hk : P.underlying k = some (.int .i64)) (w : World) {x : Int} (hx : (Lit.int .i64 x).wf = true) :
    ((Instr.findKey k (.int .i64 x) es.toList).run P w = .ok none w ∧ ∀ c ∈ cs, c.1 ≠ x) ∨ ∃ j v, (Instr.findKey k (.int .i64 x) es.toList).run P w = .ok (some (j, v)) w ∧ cs[j]? = some (x, v) := by
  rcases (Maps.int_keyed hk).find w (Maps.keyOf_int_mk hk hx) es.toList (fun e he => by
    obtain ⟨c, hc, h1, _⟩ := h.of_mem he
    exact ⟨_, by rw [h1]; exact Maps.keyOf_int_mk hk (h.wf c hc)⟩) with ⟨h1, h2⟩ | ⟨j, e0, h1, h2, h3⟩
  · refine .inl ⟨h1, fun c hc hcx => ?_⟩
    obtain ⟨j, hj, rfl⟩ := List.getElem_of_mem hc
    have hl : j < es.toList.length := by have := h.length; simp; omega
    obtain ⟨c', hc', h4, _⟩ := h.at_ (List.getElem?_eq_getElem hl)
    rw [List.getElem?_eq_getElem hj] at hc'
    cases hc'
    exact h2 _ (List.getElem_mem hl) (by rw [h4, hcx])
  · obtain ⟨c, hc, h4, h5⟩ := h.at_ h2
    rw [h3] at h4
    injection h4 with _ h4
    exact .inr ⟨j, e0.val, h1, by rw [hc, h4, h5]⟩

theorem key_one : ∀ {cs : List (Int × Value)} (_ : (cs.map (·.1)).Nodup) {x : Int} {v v' : Value} (_ : (x, v) ∈ cs) (_ : (x, v') ∈ cs), v = v'
  | [], _, x, v, v', h, _ => by simp at h
  | c :: cs, hn, x, v, v', h, h' => by
    simp only [List.map_cons, List.nodup_cons] at hn
    rcases List.mem_cons.1 h with rfl | h0
    · rcases List.mem_cons.1 h' with h1 | h1
      · injection h1 with _ h1; exact h1.symm
      · exact absurd (List.mem_map.2 ⟨_, h1, rfl⟩) hn.1
    · rcases List.mem_cons.1 h' with h1 | h1
      · subst h1
        exact absurd (List.mem_map.2 ⟨(x, v), h0, rfl⟩ : x ∈ cs.map (·.1)) hn.1
      · exact key_one hn.2 h0 h1

theorem tab_check (hk : P.underlying k = some (.int .i64)) (w : World) (em : Bool) {x : Int} (hx : (Lit.int .i64 x).wf = true) : (Instr.checkKey em 10000 k (.int .i64 x)).run P w = .ok () w :=
  (Maps.int_keyed hk).check w em (Maps.keyOf_int_mk hk hx)

/-- 'v, ok := m[k]': nothing there. -/
theorem IsTab.look_no (h : IsTab w b cs) (ht : P.underlying t = some (.map k e)) (hk : P.underlying k = some (.int .i64)) {z : Value} (hz : (zeroValue e).run P w = .ok z w) {x : Int} (hx : (Lit.int .i64 x).wf = true) (hn : ∀ c ∈ cs, c.1 ≠ x) :
    (Instr.lookup t (.map (some b)) (.int .i64 x) true).run P w = .ok (.tuple #[z, .bool false]) w := by
  obtain ⟨es, clock, hb, F⟩ := h
  rcases F.find hk w hx with ⟨h1, _⟩ | ⟨j, v, _, h2⟩
  · simp [Instr.lookup, run_underlying ht, MapKept.run_getObj_map hb, tab_check hk w _ hx, h1, hz, Result.andThen]
  · exact absurd rfl (hn _ (List.mem_of_getElem? h2))
/-- .. there. -/
theorem IsTab.look_yes (h : IsTab w b cs) (ht : P.underlying t = some (.map k e)) (hk : P.underlying k = some (.int .i64)) {x : Int} {v : Value} (hc : (x, v) ∈ cs) :
    (Instr.lookup t (.map (some b)) (.int .i64 x) true).run P w = .ok (.tuple #[v, .bool true]) w := by
  obtain ⟨es, clock, hb, F⟩ := h
  have hx := F.wf _ hc
  rcases F.find hk w hx with ⟨_, h1⟩ | ⟨j, v', h1, h2⟩
  · exact absurd rfl (h1 _ hc)
  · have e1 : v' = v := by
      exact key_one F.keys (List.mem_of_getElem? h2) hc
    subst e1
    simp [Instr.lookup, run_underlying ht, MapKept.run_getObj_map hb, tab_check hk w _ hx, h1, Result.andThen]

/-- 'm[k] = v' at a key that is not there. -/
theorem IsTab.add (h : IsTab w b cs) (ht : P.underlying t = some (.map k e)) (hk : P.underlying k = some (.int .i64)) {x : Int} (hx : (Lit.int .i64 x).wf = true) (hn : ∀ c ∈ cs, c.1 ≠ x) (v : Value) :
    ∃ w', (Instr.mapUpdate t (.map (some b)) (.int .i64 x) v).run P w = .ok () w' ∧ IsTab w' b (cs ++ [(x, v)]) ∧ w.grownBy w' (some b) := by
  obtain ⟨es, clock, hb, F⟩ := h
  rcases F.find hk w hx with ⟨h1, _⟩ | ⟨j, v', _, h2⟩
  · refine ⟨setBlock w b (.map (es.push { key := .int .i64 x, val := v, born := clock }) (clock + 1)), by simp [Instr.mapUpdate, run_underlying ht, MapKept.run_getObj_map hb, tab_check hk w _ hx, h1, MapKept.run_setObj_map _ hb, Result.andThen, setBlock], ⟨_, _, heap_setBlock_same hb _, ?_⟩, ⟨rfl, rfl, rfl, by simp [setBlock], fun i _ hi => heap_setBlock_other hb _ (fun e => hi (by rw [e]))⟩⟩
    have F2 := F.length
    refine ⟨?_, ?_, ?_, ?_, ?_⟩
    · simp [F.ents]
    · simp only [Array.toList_push, List.map_append, List.map_cons, List.map_nil]
      rw [List.nodup_append]
      refine ⟨F.born, by simp, ?_⟩
      intro a ha c hc
      obtain ⟨e0, he0, rfl⟩ := List.mem_map.1 ha
      have := F.old e0 he0
      simp at hc
      omega
    · intro e0 he0
      simp only [Array.toList_push, List.mem_append, List.mem_singleton] at he0
      rcases he0 with he0 | rfl
      · have := F.old e0 he0; omega
      · exact Nat.lt_succ_self _
    · rw [List.map_append, List.nodup_append]
      refine ⟨F.keys, by simp, ?_⟩
      intro a ha c hc
      obtain ⟨c0, hc0, rfl⟩ := List.mem_map.1 ha
      simp at hc
      subst hc
      exact hn c0 hc0
    · intro c hc
      rcases List.mem_append.1 hc with hc | hc
      · exact F.wf c hc
      · simp at hc; subst hc; exact hx
  · exact absurd rfl (hn _ (List.mem_of_getElem? h2))

theorem erase_key : ∀ {cs : List (Int × Value)} (_ : (cs.map (·.1)).Nodup) {j : Nat} {x : Int} {v : Value} (_ : cs[j]? = some (x, v)), cs.eraseIdx j = cs.filter fun c => c.1 != x
  | [], _, j, x, v, h => by simp at h
  | c :: cs, hn, 0, x, v, h => by
    simp at h
    subst h
    simp only [List.map_cons, List.nodup_cons] at hn
    simp only [List.eraseIdx_zero, List.tail_cons, bne_self_eq_false, Bool.false_eq_true, not_false_eq_true, List.filter_cons_of_neg]
    refine (List.filter_eq_self.2 fun d hd => ?_).symm
    have : d.1 ≠ x := fun e => hn.1 (List.mem_map.2 ⟨d, hd, e⟩)
    simpa using this
  | c :: cs, hn, j + 1, x, v, h => by
    simp only [List.map_cons, List.nodup_cons] at hn
    simp at h
    have hm : (x, v) ∈ cs := List.mem_of_getElem? h
    have hc : c.1 ≠ x := fun e => hn.1 (List.mem_map.2 ⟨_, hm, e.symm⟩)
    rw [List.eraseIdx_cons_succ, List.filter_cons_of_pos (by simpa using hc), erase_key hn.2 h]

/-- 'delete(m, k)'. -/
theorem IsTab.drop (h : IsTab w b cs) (ht : P.underlying t = some (.map k e)) (hk : P.underlying k = some (.int .i64)) {x : Int} (hx : (Lit.int .i64 x).wf = true) (ty : TypeId) :
    ∃ w', (Builtin.delete_ #[t, k] ty #[.map (some b), .int .i64 x]).run P w = .ok (.tuple #[]) w' ∧ IsTab w' b (cs.filter fun c => c.1 != x) ∧ w.grownBy w' (some b) := by
  obtain ⟨es, clock, hb, F⟩ := h
  have hg : ∀ o, w.grownBy (setBlock w b o) (some b) := fun o => ⟨rfl, rfl, rfl, by simp [setBlock], fun i _ hi => heap_setBlock_other hb _ (fun e => hi (by rw [e]))⟩
  rcases F.find hk w hx with ⟨h1, h2⟩ | ⟨j, v', h1, h2⟩
  · refine ⟨setBlock w b (.map es clock), ?_, ⟨es, clock, heap_setBlock_same hb _, ?_⟩, hg _⟩
    · simp [Builtin.delete_, run_underlying ht, MapKept.run_getObj_map hb, tab_check hk w _ hx, h1, MapKept.run_setObj_map _ hb, Result.andThen, setBlock]
    · rw [List.filter_eq_self.2 fun d hd => by simpa using h2 d hd]
      exact F
  · refine ⟨setBlock w b (.map (es.eraseIdxIfInBounds j) clock), ?_, ⟨_, clock, heap_setBlock_same hb _, ?_⟩, hg _⟩
    · simp [Builtin.delete_, run_underlying ht, MapKept.run_getObj_map hb, tab_check hk w _ hx, h1, MapKept.run_setObj_map _ hb, Result.andThen, setBlock]
    · have hjs : j < es.size := by
        have := (List.getElem?_eq_some_iff.1 h2).1
        have := F.length
        omega
      have hsub : (es.eraseIdxIfInBounds j).toList = es.toList.eraseIdx j := by
        unfold Array.eraseIdxIfInBounds
        rw [dif_pos hjs]
        simp
      rw [← erase_key F.keys h2]
      refine ⟨?_, ?_, ?_, ?_, ?_⟩
      · rw [hsub, map_eraseIdx, map_eraseIdx, F.ents]
      · rw [hsub, map_eraseIdx]
        exact List.Sublist.nodup (List.eraseIdx_sublist _ _) F.born
      · intro e0 he0
        rw [hsub] at he0
        exact F.old e0 ((List.eraseIdx_sublist _ _).subset he0)
      · rw [map_eraseIdx]
        exact List.Sublist.nodup (List.eraseIdx_sublist _ _) F.keys
      · intro c hc
        exact F.wf c ((List.eraseIdx_sublist _ _).subset hc)

/-- 'len(m)'. -/
theorem IsTab.len (h : IsTab w b cs) (ht : P.underlying t = some (.map k e)) (ty : TypeId) : (Builtin.len_ #[t] ty #[.map (some b)]).run P w = .ok (.int .i64 cs.length) w := by
  obtain ⟨es, clock, hb, F⟩ := h
  simp [Builtin.len_, run_underlying ht, MapKept.run_getObj_map hb, goInt, Result.andThen, F.length]

/-- 'for k, v := range m' under way: block r is an iterator over the map in block b, and these entries are still to come. -/
def TabIter (w : World) (b r : Nat) (cs left : List (Int × Value)) : Prop :=
  ∃ es clock since seen c0, w.heap[b]? = some (.map es clock) ∧ Ents es clock cs ∧ w.heap[r]? = some (.mapIter (some b) since seen c0) ∧ (∀ x ∈ es.toList, x.born < since) ∧ since ≤ c0 ∧ since ≤ clock ∧
    (leftOf es seen).toList.map (fun e => (e.key, e.val)) = left.map (fun c => (Value.int .i64 c.1, c.2)) ∧ ∀ c ∈ left, c ∈ cs

theorem TabIter.tab {r : Nat} {left : List (Int × Value)} (h : TabIter w b r cs left) : IsTab w b cs := by obtain ⟨es, clock, _, _, _, h1, h2, _⟩ := h; exact ⟨es, clock, h1, h2⟩
theorem TabIter.lt {r : Nat} {left : List (Int × Value)} (h : TabIter w b r cs left) : r < w.heap.size := by obtain ⟨es, clock, _, _, _, _, _, h3, _⟩ := h; exact (Array.getElem?_eq_some_iff.1 h3).1
theorem TabIter.ne {r : Nat} {left : List (Int × Value)} (h : TabIter w b r cs left) : r ≠ b := by
  obtain ⟨es, clock, since, seen, c0, hb, _, hr, _⟩ := h
  intro e
  rw [e, hb] at hr
  cases hr
theorem TabIter.kept {w' : World} {r : Nat} {left : List (Int × Value)} (h : TabIter w b r cs left) (hb : w'.heap[b]? = w.heap[b]?) (hr : w'.heap[r]? = w.heap[r]?) : TabIter w' b r cs left := by
  obtain ⟨es, clock, since, seen, c0, h1, h2, h3, h4⟩ := h
  exact ⟨es, clock, since, seen, c0, hb.trans h1, h2, hr.trans h3, h4⟩

/-- 'range m'. -/
theorem IsTab.range (h : IsTab w b cs) (ht : P.underlying t = some (.map k e)) :
    ∃ w', (Instr.range t (.map (some b))).run P w = .ok (.pointer (some ⟨w.heap.size, 0, none⟩)) w' ∧ TabIter w' b w.heap.size cs cs ∧ w.grownBy w' none ∧ w'.heap.size = w.heap.size + 1 := by
  have hlt := h.lt
  obtain ⟨es, clock, hb, F⟩ := h
  refine ⟨_, run_range_map w t k e b es clock ht hb, ⟨es, clock, clock, #[], clock, ((MapKept.heap_alloc w _).2 b hlt).trans hb, F, (MapKept.heap_alloc w _).1, F.old, Nat.le_refl _, Nat.le_refl _, ?_, fun _ h => h⟩, World.grownBy_alloc w _ none, by simp⟩
  rw [← F.ents]
  congr 1
  simp [leftOf]

theorem filter_strike (seen : Array Nat) : ∀ (l : List MapEntry) (_ : (l.map (·.born)).Nodup) (e : MapEntry) (_ : e ∈ l) (_ : seen.contains e.born = false),
    (l.filter fun x => !seen.contains x.born).Perm (e :: l.filter fun x => !(seen.push e.born).contains x.born) := by
  intro l hn e he hs
  induction l with
  | nil => simp at he
  | cons a l ih =>
    simp only [List.map_cons, List.nodup_cons] at hn
    by_cases hae : a.born = e.born
    · have hea : e = a := by
        rcases List.mem_cons.1 he with h | h
        · exact h
        · exact absurd (List.mem_map.2 ⟨e, h, hae.symm⟩) hn.1
      subst hea
      rw [List.filter_cons_of_pos (by rw [hs]; rfl), List.filter_cons_of_neg (by simp)]
      have : (l.filter fun x => !(seen.push e.born).contains x.born) = l.filter fun x => !seen.contains x.born := by
        refine List.filter_congr fun x hx => ?_
        have : x.born ≠ e.born := fun h => hn.1 (List.mem_map.2 ⟨x, hx, h⟩)
        rw [contains_push]
        simp [this]
      rw [this]
    · have he' : e ∈ l := by
        rcases List.mem_cons.1 he with h | h
        · exact absurd (by rw [h]) hae
        · exact h
      have hc : (seen.push e.born).contains a.born = seen.contains a.born := by rw [contains_push]; simp [hae]
      cases hsa : seen.contains a.born with
      | true =>
        rw [List.filter_cons_of_neg (by simp only [hsa]; decide), List.filter_cons_of_neg (by rw [hc, hsa]; decide)]
        exact ih hn.2 he'
      | false =>
        rw [List.filter_cons_of_pos (by simp only [hsa]; decide), List.filter_cons_of_pos (by rw [hc, hsa]; decide)]
        exact ((ih hn.2 he').cons a).trans (List.Perm.swap _ _ _)

/-- The step: nothing is left; or one of those that are left comes out. -/
theorem TabIter.next {r : Nat} {left : List (Int × Value)} (h : TabIter w b r cs left) (ty : TypeId) :
    (left = [] ∧ (Instr.next (.pointer (some ⟨r, 0, none⟩)) false ty).run P w = .ok (.tuple #[.bool false]) w) ∨
    ∃ x v left' w', left.Perm ((x, v) :: left') ∧ (x, v) ∈ cs ∧ left'.length < left.length ∧ (Instr.next (.pointer (some ⟨r, 0, none⟩)) false ty).run P w = .ok (.tuple #[.bool true, .int .i64 x, v]) w' ∧
      TabIter w' b r cs left' ∧ w.grownBy w' (some r) ∧ w'.heap.size = w.heap.size ∧ (Instr.entry (.pointer (some ⟨r, 0, none⟩))).run P w' = .ok (.tuple #[.int .i64 x, v]) w' := by
  have hne := h.ne
  obtain ⟨es, clock, since, seen, c0, hb, F, hr, hold, hsc, hsk, hl, hsub⟩ := h
  rcases run_next_at (P := P) w ty r b since c0 seen es clock hr hb hold hsc with ⟨h0, hrun⟩ | ⟨e, he, w1, hal, hrun⟩
  · refine .inl ⟨?_, hrun⟩
    have : leftOf es seen = #[] := Array.eq_empty_of_size_eq_zero h0
    rw [this] at hl
    simpa using hl.symm
  · obtain ⟨hem, hes⟩ := mem_left he
    obtain ⟨c, hc, hck, hcv⟩ := F.of_mem hem
    have hr1 : w1.heap[r]? = some (.mapIter (some b) since seen c0) := by rcases hal with rfl | rfl <;> exact hr
    have hb1 : w1.heap[b]? = some (.map es clock) := by rcases hal with rfl | rfl <;> exact hb
    have hset := heap_set (o' := .mapIter (some b) since (seen.push e.born) clock) hr1
    have hb' : (setBlock w1 r (.mapIter (some b) since (seen.push e.born) clock)).heap[b]? = some (.map es clock) := (hset.2 b (fun e1 => hne e1.symm)).trans hb1
    have hp := (filter_strike seen es.toList F.born e hem hes).map fun e => (e.key, e.val)
    have hl1 : ((es.toList.filter fun x => !seen.contains x.born).map fun e => (e.key, e.val)) = left.map (fun c => (Value.int .i64 c.1, c.2)) := by rw [← hl]; simp [leftOf]
    rw [hl1] at hp
    -- what is left behind the step, as pairs
    have hall : ∀ y ∈ (es.toList.filter fun x => !(seen.push e.born).contains x.born), ∃ d ∈ cs, y.key = .int .i64 d.1 ∧ y.val = d.2 := fun y hy => F.of_mem (List.mem_filter.1 hy).1
    obtain ⟨left', hleft', hsub'⟩ : ∃ left' : List (Int × Value), ((es.toList.filter fun x => !(seen.push e.born).contains x.born).map fun e => (e.key, e.val)) = left'.map (fun c => (Value.int .i64 c.1, c.2)) ∧ ∀ c ∈ left', c ∈ cs := by
      generalize (es.toList.filter fun x => !(seen.push e.born).contains x.born) = L at hall
      clear hp
      induction L with
      | nil => exact ⟨[], rfl, by simp⟩
      | cons y L ih =>
        obtain ⟨l', h1, h2⟩ := ih fun z hz => hall z (List.mem_cons_of_mem _ hz)
        obtain ⟨d, hd, h3, h4⟩ := hall y (List.mem_cons_self ..)
        exact ⟨d :: l', by rw [List.map_cons, List.map_cons, h1, h3, h4], fun z hz => by rcases List.mem_cons.1 hz with rfl | hz; exact hd; exact h2 z hz⟩
    have hp2 : left.Perm ((c.1, c.2) :: left') := by
      rw [List.map_cons, hleft', hck, hcv] at hp
      have hq := hp.map fun p : Value × Value => ((match p.1 with | .int _ n => n | _ => 0), p.2)
      simpa [List.map_map, Function.comp_def] using hq
    refine .inr ⟨c.1, c.2, left', _, hp2, hc, by have := hp2.length_eq; simp at this; omega, by rw [hrun, hck, hcv], ⟨es, clock, since, seen.push e.born, clock, hb', F, hset.1, hold, hsk, hsk, ?_, hsub'⟩, ?_, ?_, ?_⟩
    · rw [← hleft']; simp [leftOf]
    · rcases hal with rfl | rfl <;> exact ⟨rfl, rfl, rfl, by simp [setBlock], fun i _ hi => hset.2 i (fun e1 => hi (by rw [e1]))⟩
    · rcases hal with rfl | rfl <;> simp [setBlock]
    · have := run_entry_at (P := P) _ r b since seen es clock e hset.1 hb' hem F.born
      rw [hck, hcv] at this
      exact this

section
variable (w : World) {ops : Array Oper} {rest : List Oper} {o : Oper} {a : Act} {Q : Exit → Act → World → Prop}
/-- 'v, ok := m[k]' at the operation. -/
theorem wpList_lookup_tab (hg : o.guard = none) (m x : Operand) (t : TypeId) (hop : o.op = Op.lookup t m x true) (b : Nat) (k : Int) (v : Value) (ok : Bool)
    (hm : a.eval m = .map (some b)) (hx : a.eval x = .int .i64 k) (hrun : (Instr.lookup t (.map (some b)) (.int .i64 k) true).run P w = .ok (.tuple #[v, .bool ok]) w)
    (hK : wpList P ops Q rest (a.put o.dst (.tuple #[v, .bool ok])) w) : wpList P ops Q (o :: rest) a w := by
  refine wpList_plain hg fun K' hK' => ?_
  unfold Oper.wp
  simp [execOp, hop, hm, hx, hrun, Result.andThen]
  exact hK' _ _ hK
/-- 'm[k] = v' at the operation. -/
theorem wpList_mapUpdate_tab (hg : o.guard = none) (m x v : Operand) (t : TypeId) (hop : o.op = Op.mapUpdate t m x v) (kt et : TypeId) (ht : P.underlying t = some (.map kt et)) (hk : P.underlying kt = some (.int .i64)) (b : Nat) (k : Int) (u : Value) (cs : List (Int × Value))
    (h : IsTab w b cs) (hwf : (Lit.int .i64 k).wf = true) (hn : ∀ c ∈ cs, c.1 ≠ k) (hm : a.eval m = .map (some b)) (hx : a.eval x = .int .i64 k) (hv : a.eval v = u)
    (hK : ∀ w', IsTab w' b (cs ++ [(k, u)]) → w.grownBy w' (some b) → wpList P ops Q rest (a.put o.dst undef) w') : wpList P ops Q (o :: rest) a w := by
  refine wpList_plain hg fun K' hK' => ?_
  obtain ⟨w', hrun, r1, r2⟩ := h.add ht hk hwf hn u
  unfold Oper.wp
  simp [execOp, hop, hm, hx, hv, hrun, Result.andThen]
  exact hK' _ _ (hK w' r1 r2)
/-- 'delete(m, k)' at the operation. -/
theorem wpList_delete_tab (hg : o.guard = none) (m x : Operand) (t kt : TypeId) (hop : o.op = Op.call { callee := Callee.builtin Builtin.delete, args := #[m, x], argTypes := #[t, kt] }) (et : TypeId) (ht : P.underlying t = some (.map kt et)) (hk : P.underlying kt = some (.int .i64)) (b : Nat) (k : Int) (cs : List (Int × Value))
    (h : IsTab w b cs) (hwf : (Lit.int .i64 k).wf = true) (hm : a.eval m = .map (some b)) (hx : a.eval x = .int .i64 k)
    (hK : ∀ w', IsTab w' b (cs.filter fun c => c.1 != k) → w.grownBy w' (some b) → wpList P ops Q rest (a.put o.dst (.tuple #[])) w') : wpList P ops Q (o :: rest) a w := by
  refine wpList_plain hg fun K' hK' => ?_
  obtain ⟨w', hrun, r1, r2⟩ := h.drop ht hk hwf o.type
  unfold Oper.wp
  simp [execOp, hop, resolve, invoke, builtin, hm, hx, hrun, Result.andThen]
  exact hK' _ _ (hK w' r1 r2)
/-- 'len(m)' at the operation. -/
theorem wpList_len_tab (hg : o.guard = none) (m : Operand) (t : TypeId) (hop : o.op = Op.call { callee := Callee.builtin Builtin.len, args := #[m], argTypes := #[t] }) (kt et : TypeId) (ht : P.underlying t = some (.map kt et)) (b : Nat) (cs : List (Int × Value))
    (h : IsTab w b cs) (hm : a.eval m = .map (some b))
    (hK : wpList P ops Q rest (a.put o.dst (.int .i64 cs.length)) w) : wpList P ops Q (o :: rest) a w := by
  refine wpList_plain hg fun K' hK' => ?_
  unfold Oper.wp
  simp [execOp, hop, resolve, invoke, builtin, hm, h.len ht o.type, Result.andThen]
  exact hK' _ _ hK
/-- 'range m' at the operation. -/
theorem wpList_range_tab (hg : o.guard = none) (m : Operand) (t : TypeId) (hop : o.op = Op.range t m) (kt et : TypeId) (ht : P.underlying t = some (.map kt et)) (b : Nat) (cs : List (Int × Value))
    (h : IsTab w b cs) (hm : a.eval m = .map (some b))
    (hK : ∀ w', TabIter w' b w.heap.size cs cs → w.grownBy w' none → w'.heap.size = w.heap.size + 1 → wpList P ops Q rest (a.put o.dst (.pointer (some ⟨w.heap.size, 0, none⟩))) w') : wpList P ops Q (o :: rest) a w := by
  refine wpList_plain hg fun K' hK' => ?_
  obtain ⟨w', hrun, r1, r2, r3⟩ := h.range ht
  unfold Oper.wp
  simp [execOp, hop, hm, hrun, Result.andThen]
  exact hK' _ _ (hK w' r1 r2 r3)
/-- The step at the operation; 'mk' says the entries' shape. -/
theorem wpList_next_tab {β : Type} (mk : β → Value) (hg : o.guard = none) (it : Operand) (hop : o.op = Op.next it false) (b r : Nat) (cs left : List (Int × Value)) (hit : a.eval it = .pointer (some ⟨r, 0, none⟩)) (h : TabIter w b r cs left) (hmk : ∀ c ∈ cs, ∃ y, c.2 = mk y)
    (hDone : left = [] → wpList P ops Q rest (a.put o.dst (.tuple #[.bool false])) w)
    (hMore : ∀ (x : Int) (y : β) (left' : List (Int × Value)) (w' : World), left.Perm ((x, mk y) :: left') → (x, mk y) ∈ cs → left'.length < left.length → TabIter w' b r cs left' → w.grownBy w' (some r) → w'.heap.size = w.heap.size →
      (Instr.entry (.pointer (some ⟨r, 0, none⟩))).run P w' = .ok (.tuple #[.int .i64 x, mk y]) w' → wpList P ops Q rest (a.put o.dst (.tuple #[.bool true, .int .i64 x, mk y])) w') : wpList P ops Q (o :: rest) a w := by
  refine wpList_plain hg fun K' hK' => ?_
  unfold Oper.wp
  rcases h.next (P := P) o.type with ⟨h0, hrun⟩ | ⟨x, v, left', w', h1, h2, h3, hrun, h4, h5, h6, h7⟩
  · simp [execOp, hop, hit, hrun, Result.andThen]
    exact hK' _ _ (hDone h0)
  · obtain ⟨y, hy⟩ := hmk _ h2
    have hy' : v = mk y := hy
    subst hy'
    simp [execOp, hop, hit, hrun, Result.andThen]
    exact hK' _ _ (hMore x y left' w' h1 h2 h3 h4 h5 h6 h7)
end

end Go.Proofs.Ytbjoibgkhooljaa

namespace Go.Proofs.Ytbjoibgkhooljaa
open Go.RowKit Go.ChangeShapes Go.WideShapes Go.Deep
set_option linter.unusedVariables false

/-- The slice reads as these numbers. -/
def IsNums (k : IntKind) (w : World) (p : Option Addr) (len : Nat) (l : List Int) : Prop :=
  l.length = len ∧ len ≤ maxLen ∧ (∀ n ∈ l, (Lit.int k n).wf = true) ∧ (0 < len → ∃ b o, p = some ⟨b, o, none⟩ ∧ ∀ (i : Nat) (h : i < l.length), w.cell? ⟨b, o + i, none⟩ = some (.int k l[i]))
theorem IsNums.below {k : IntKind} {w w' : World} {p : Option Addr} {len : Nat} {l : List Int} (h : IsNums k w p len l) (t : Below w.heap.size w w') : IsNums k w' p len l := by
  obtain ⟨h1, h2, h3, h4⟩ := h
  refine ⟨h1, h2, h3, fun hp => ?_⟩
  obtain ⟨b, o, e, hc⟩ := h4 hp
  exact ⟨b, o, e, fun i hi => by rw [World.cell?_of_block (a := ⟨b, o + i, none⟩) (t.block b (World.block_lt_of_cell? w _ (hc i hi)))]; exact hc i hi⟩
theorem IsNums.at_ {k : IntKind} {w : World} {p : Option Addr} {len : Nat} {l : List Int} (h : IsNums k w p len l) (i : Nat) (hi : i < l.length) : ∃ b o, p = some ⟨b, o, none⟩ ∧ w.cell? ⟨b, o + i, none⟩ = some (.int k l[i]) ∧ (Lit.int k l[i]).wf = true := by
  obtain ⟨h1, h2, h3, h4⟩ := h
  obtain ⟨b, o, e, hc⟩ := h4 (by omega)
  exact ⟨b, o, e, hc i hi, h3 _ (List.getElem_mem _)⟩

theorem open_nums {H : Type} {enc : TypeId × Value → H} {P : Program} {w : World} {p : Option Addr} {len cap fuel : Nat} {x : DataW H × List MemPlace} {t el : TypeId} {k : IntKind} (ht : P.underlying t = some (.slice el)) (he : P.underlying el = some (.int k)) (hc : P.cellsOf el = 1)
    (h : DataW.trod enc P w 0 (fun _ => true) true fuel t (Value.slice p len cap).cells.toList = some x) : ∃ l, IsNums k w p len l := by
  rcases open_ints ht he hc h with ⟨hcs, _⟩ | ⟨a, len', cap', zs, hcs, _, hl, hm, hz, _, hcell, hwf⟩
  · simp [Value.cells] at hcs
    obtain ⟨rfl, rfl, rfl⟩ := hcs
    exact ⟨[], rfl, Nat.zero_le _, by simp, fun h => absurd h (by omega)⟩
  · simp [Value.cells] at hcs
    obtain ⟨rfl, rfl, rfl⟩ := hcs
    have hz' : zs.length = cap := by simpa using hz
    refine ⟨zs.take len, by rw [List.length_take]; omega, by omega, fun n hn => hwf n (List.mem_of_mem_take hn), fun hp => ?_⟩
    obtain ⟨b, o, sp⟩ := a
    have h0 := hcell 0 (by omega)
    have hs : sp = none := by simpa [Addr.add] using World.cell?_spot h0
    subst hs
    refine ⟨b, o, rfl, fun i hi => ?_⟩
    have hil : i < zs.length := by rw [List.length_take] at hi; omega
    have := hcell i hil
    have ha : (⟨b, o, none⟩ : Addr).add i = ⟨b, o + i, none⟩ := by unfold Addr.add; by_cases hi : i = 0 <;> simp [hi]
    rw [ha] at this
    rw [this]
    simp [List.getD, hil]

end Go.Proofs.Ytbjoibgkhooljaa

namespace Go.Proofs.Ytbjoibgkhooljaa
open Go.RowKit Go.ChangeMaps Go.MapKept Go.Sort
set_option linter.unusedVariables false

section
variable {P : Program} {k t e : TypeId} {w : World} {b : Nat} {cs : List (Int × Value)}
/-- 'm[k] = v' at a key that is there, with the value that it has. -/
theorem IsTab.again (h : IsTab w b cs) (ht : P.underlying t = some (.map k e)) (hk : P.underlying k = some (.int .i64)) {x : Int} (hx : (Lit.int .i64 x).wf = true) {v : Value} (hc : (x, v) ∈ cs) :
    ∃ w', (Instr.mapUpdate t (.map (some b)) (.int .i64 x) v).run P w = .ok () w' ∧ IsTab w' b cs ∧ w.grownBy w' (some b) := by
  obtain ⟨es, clock, hb, F⟩ := h
  rcases F.find hk w hx with ⟨_, h1⟩ | ⟨j, v', h1, h2⟩
  · exact absurd rfl (h1 _ hc)
  · have e1 : v' = v := key_one F.keys (List.mem_of_getElem? h2) hc
    subst e1
    have hj : j < es.size := by rw [F.length]; exact (List.getElem?_eq_some_iff.1 h2).1
    have hje : es.toList[j]? = some es[j] := by rw [Array.getElem?_toList, Array.getElem?_eq_getElem hj]
    obtain ⟨c, c1, c2, c3⟩ := F.at_ hje
    rw [h2] at c1
    injection c1 with c1
    subst c1
    have hmod : es.modify j (fun e => { e with key := .int .i64 x, val := v' }) = es := by
      apply Array.ext_getElem?
      intro i
      rw [Array.getElem?_modify]
      split
      · rename_i hij
        subst hij
        rw [Array.getElem?_eq_getElem hj]
        have hx1 : es[j].key = .int .i64 x := c2
        have hx2 : es[j].val = v' := c3
        generalize es[j] = E at hx1 hx2
        cases E
        simp at hx1 hx2
        simp [hx1, hx2]
      · rfl
    have hgk : (es[j]?.map (·.key)).getD (.int .i64 x) = .int .i64 x := by rw [Array.getElem?_eq_getElem hj]; exact c2
    have hks : (Instr.keyThatStays (.int .i64 x) (.int .i64 x)).run P w = .ok (.int .i64 x) w := by
      unfold Instr.keyThatStays
      split
      · rfl
      · rename_i hne
        exact absurd (by simp [Instr.sameBits]) hne
    refine ⟨setBlock w b (.map es clock), ?_, ⟨es, clock, heap_setBlock_same hb _, F⟩, ⟨rfl, rfl, rfl, by simp [setBlock], fun i _ hi => heap_setBlock_other hb _ (fun e => hi (by rw [e]))⟩⟩
    simp [Instr.mapUpdate, run_underlying ht, MapKept.run_getObj_map hb, tab_check hk w _ hx, h1, hgk, hks, hmod, MapKept.run_setObj_map _ hb, Result.andThen, setBlock]
variable {ops : Array Oper} {rest : List Oper} {o : Oper} {a : Act} {Q : Exit → Act → World → Prop}
/-- A key is put, new or not, with one value for all. -/
theorem wpList_put_tab (hg : o.guard = none) (m x v : Operand) (t : TypeId) (hop : o.op = Op.mapUpdate t m x v) (kt et : TypeId) (ht : P.underlying t = some (.map kt et)) (hk : P.underlying kt = some (.int .i64)) (b : Nat) (k : Nat) (u : Value) (ks : List Nat)
    (h : IsTab w b (ks.map fun (j : Nat) => ((j : Int), u))) (hwf : (Lit.int .i64 (k : Int)).wf = true) (hm : a.eval m = .map (some b)) (hx : a.eval x = .int .i64 (k : Int)) (hv : a.eval v = u)
    (hK : ∀ w', IsTab w' b ((if k ∈ ks then ks else ks ++ [k]).map fun (j : Nat) => ((j : Int), u)) → w.grownBy w' (some b) → wpList P ops Q rest (a.put o.dst undef) w') : wpList P ops Q (o :: rest) a w := by
  by_cases hin : k ∈ ks
  · refine wpList_plain hg fun K' hK' => ?_
    obtain ⟨w', hrun, r1, r2⟩ := h.again ht hk hwf (v := u) (List.mem_map.2 ⟨k, hin, rfl⟩)
    unfold Oper.wp
    simp [execOp, hop, hm, hx, hv, hrun, Result.andThen]
    exact hK' _ _ (hK w' (by rw [if_pos hin]; exact r1) r2)
  · refine wpList_mapUpdate_tab _ hg m x v t hop kt et ht hk b (k : Int) u _ h hwf (fun c hc e => ?_) hm hx hv (fun w' h1 h2 => hK w' ?_ h2)
    · obtain ⟨j, hj, rfl⟩ := List.mem_map.1 hc
      have e : (j : Int) = (k : Int) := e
      exact hin (by rw [show k = j by omega]; exact hj)
    · rw [if_neg hin, List.map_append]; exact h1
end

/-- A block beside the joiner is written. -/
theorem JoS.setBlk {w W W' : World} {F : List (Nat × Obj)} {g : Nat} {lim : Int} {L : List Da} {n : Nat} {o o' : Obj} (h : JoS w W ((n, o) :: F) g lim L) (hn : w.heap.size ≤ n) (t : Turn W W' (fun k => k = n)) (ho : W'.heap[n]? = some o') (hF : ∀ p ∈ F, p.1 ≠ n) : JoS w W' ((n, o') :: F) g lim L := by
  obtain ⟨v, l, h1, h2, h3, h4, h5⟩ := h
  have hno := (h5 _ (.head _)).2
  refine ⟨v, l, h1.kept t.size (fun j hj hl => t.block j hl (fun e => hno (by rw [← e]; exact hj))), h2, ⟨t.os.trans h3.os, t.tape.trans h3.tape, t.output.trans h3.output, Nat.le_trans h3.size t.size, fun k hk => (t.block k (Nat.lt_of_lt_of_le hk h3.size) (by omega)).trans (h3.block k hk)⟩, h4, fun p hp => ?_⟩
  rcases List.mem_cons.1 hp with rfl | hp
  · exact ⟨ho, hno⟩
  · exact ⟨(t.block p.1 (blk_lt (h5 p (.tail _ hp)).1) (hF p hp)).trans (h5 p (.tail _ hp)).1, (h5 p (.tail _ hp)).2⟩

/-- One more piece comes, however many there are. -/
theorem cut_any {D : ByteArray} {m : Nat} {off : Nat → Nat} (h : CutOk D m off) {base : Pd} (hb : mayB base = true) {ks : List Nat} (hn : ks.Nodup) (hks : ∀ k ∈ ks, k < m) (hl : ks.length < m) {k : Nat} (hk : k < m) :
    putA (cutD base D m off k) (LQ base D m off ks) = if k ∈ ks then (pdZ, false, LQ base D m off ks) else if ks.length + 1 = m then (wholeB base D, true, []) else (pdZ, false, LQ base D m off (ks ++ [k])) := by
  by_cases h2 : 1 < m
  · exact cut_step h h2 hb hn hks hl hk
  · have hm1 : m = 1 := by have := h.pos; omega
    subst hm1
    have hk0 : k = 0 := by omega
    subst hk0
    have hks0 : ks = [] := List.length_eq_zero_iff.1 (by omega)
    subst hks0
    have e : cutD base D 1 off 0 = wholeB base D := by
      unfold cutD wholeB
      have h0 := h.zero
      have h1 := h.last
      have hx : D.extract (off 0) (off (0 + 1)) = D := by
        rw [h0, show off (0 + 1) = D.size from h1]
        simp
      rw [hx, h0]
      rfl
    rw [if_neg (by simp : ¬ 0 ∈ ([] : List Nat)), e]
    simp only [List.length_nil]
    rw [if_pos (by decide)]
    obtain ⟨b1, b2, b3, b4, b5, b6, _⟩ := mayB_all hb
    have hm : mayB (wholeB base D) = true := decide_eq_true ⟨b1, b2, b3, b4, b5, b6, by show (0 : Int) % 8 = 0; decide, by show (0 : Int) ≤ 0; decide, by show (0 : Int) ≤ 65528; decide, by show (0 : Int) + (D.size : Int) ≤ 65515; have := h.small; omega, .inl rfl⟩
    unfold putA
    rw [if_neg (by rw [hm]; decide), if_pos ⟨rfl, rfl⟩]
    rfl
theorem LQ_len {base : Pd} {D : ByteArray} {m : Nat} {off : Nat → Nat} (ks : List Nat) : (LQ base D m off ks).length ≤ 4 := by
  unfold LQ
  split <;> simp
theorem LQ_fine {D : ByteArray} {m : Nat} {off : Nat → Nat} (h : CutOk D m off) {base : Pd} {ks : List Nat} (hks : ∀ k ∈ ks, k < m) (hl : ks.length < m) (hm : m ≤ 100000) : FineL 100000 (LQ base D m off ks) := by
  intro x hx
  unfold LQ at hx
  split at hx
  · cases hx
  · rename_i hne
    rw [List.mem_singleton] at hx
    subst hx
    have h2 : 1 < m := by
      have : 0 < ks.length := List.length_pos_iff.2 hne
      omega
    refine ⟨by show (ks.map _).length ≤ 100000; rw [List.length_map]; omega, fun y hy => ?_⟩
    obtain ⟨j, hj, rfl⟩ := List.mem_map.1 hy
    have hj := hks j hj
    have e1 := cut_end h h2 hj
    have e2 := h.le h2 (i := j + 1) (by omega)
    have e3 := h.le h2 (i := j) (by omega)
    have e4 := h.small
    refine ⟨⟨by show (0 : Int) ≤ off j; omega, by show (off j : Int) ≤ 100000; omega, by rw [cut_size h h2 hj]; omega⟩, by rw [e1]; omega⟩

def pdL (f : Pd) : List Value := (pdC f).toList
theorem pdL_len (f : Pd) : (pdL f).length = 14 := rfl
theorem pdL_one (f : Pd) : ∀ u ∈ pdL f, u.oneCell' = true := fun u hu => (Array.all_eq_true_iff_forall_mem.1 (pdC_one f)) u (by simpa [pdL] using hu)
theorem info_pk : ∃ i z, Try.prog.info? 35 = some i ∧ i.zero = some z ∧ i.size = 14 ∧ i.bytes ≤ 100 ∧ z.cells.size = 14 := by
  have h : (Try.prog.info? 35).map (fun i => (i.zero.map (fun z => z.cells.size), i.size, decide (i.bytes ≤ 100))) = some (some 14, 14, true) := by kernel_rfl
  cases hi : Try.prog.info? 35 with
  | none => rw [hi] at h; cases h
  | some i =>
    rw [hi] at h
    simp only [Option.map_some, Option.some.injEq, Prod.mk.injEq] at h
    obtain ⟨h1, h2, h3⟩ := h
    cases hz : i.zero with
    | none => rw [hz] at h1; cases h1
    | some z => rw [hz] at h1; exact ⟨i, z, rfl, hz, h2, by simpa using h3, by simpa using h1⟩

end Go.Proofs.Ytbjoibgkhooljaa
