/-
  VblkForms: what a driver asks the device reads as it was asked, of each kind; what the device hands in comes back. Conditions: the package's table of shapes lies as its initialiser lays it (the card ties it).
-/
import Derived.Test.YtiejcohammeoeaaGreatDoorBlkZ
import Derived.Test.YtiejcohammeoeaaGreatDoorTotal
import Derived.ProofKit
import Derived.Deep.Slices
import Derived.Deep.Fields
import Derived.ChangeSame
import Derived.Test.YtiejcohammeoeaaGreatDoorBlkD
import Derived.Test.YtiejcohammeoeaaGreatDoorVRead
import Derived.Test.YtiejcohammeoeaaGreatDoorBlkL
import Derived.DeepKeys
import Derived.Deep.QuietTactic
import Derived.BigQuiet
import Derived.Lib.SmallJoins
import Derived.OpenShut
import Derived.ShutString
import Derived.ChangeOld
import Derived.Below
import Derived.LaidMore
import Derived.Stop.Joined
import Derived.SevenTiedAt
namespace Go.Proofs.YtiejcohammeoeaaGreatDoor
open Go.RowKit Go.ChangeShapes Go.WideShapes Go.Deep

/-- An act: what is done, where, in how many bytes, the number, the text. -/
structure Act1 where
  d : Int
  a : Int
  n : Int
  x : Int
  s : ByteArray

/-- The numbers of an act fit their kinds. -/
def Act1.fits (c : Act1) : Prop := (Lit.int .i64 c.d).wf = true ∧ (Lit.int .i64 c.a).wf = true ∧ (Lit.int .i64 c.n).wf = true ∧ (Lit.int .u64 c.x).wf = true ∧ c.s.size ≤ maxLen

/-- The five cells of an act lie at p. -/
def ActAt (w : World) (b o : Nat) (c : Act1) : Prop :=
  w.cell? ⟨b, o, none⟩ = some (.int .i64 c.d) ∧ w.cell? ⟨b, o + 1, none⟩ = some (.int .i64 c.a) ∧ w.cell? ⟨b, o + 2, none⟩ = some (.int .i64 c.n) ∧
    w.cell? ⟨b, o + 3, none⟩ = some (.int .u64 c.x) ∧ w.cell? ⟨b, o + 4, none⟩ = some (.string c.s)

/-- The slice reads as these acts. -/
def IsActs (w : World) (p : Option Addr) (len : Nat) (l : List Act1) : Prop :=
  l.length = len ∧ len ≤ maxLen ∧ (∀ c ∈ l, c.fits) ∧ (0 < len → ∃ b o, p = some ⟨b, o, none⟩ ∧ ∀ (i : Nat) (h : i < l.length), ActAt w b (o + i * 5) l[i])

theorem ActAt.block {w : World} {b o : Nat} {c : Act1} (h : ActAt w b o c) : b < w.heap.size := World.block_lt_of_cell? w ⟨b, o, none⟩ h.1
theorem ActAt.kept {w w' : World} {b o : Nat} {c : Act1} (h : ActAt w b o c) (k : w'.heap[b]? = w.heap[b]?) : ActAt w' b o c := by
  have e : ∀ q, w'.cell? ⟨b, q, none⟩ = w.cell? ⟨b, q, none⟩ := fun q => World.cell?_of_block (a := ⟨b, q, none⟩) k
  unfold ActAt
  rw [e, e, e, e, e]
  exact h
theorem IsActs.below {w w' : World} {p : Option Addr} {len : Nat} {l : List Act1} (h : IsActs w p len l) (k : Below w.heap.size w w') : IsActs w' p len l := by
  obtain ⟨h1, h2, h3, h4⟩ := h
  refine ⟨h1, h2, h3, fun hp => ?_⟩
  obtain ⟨b, o, e, hc⟩ := h4 hp
  exact ⟨b, o, e, fun i hi => (hc i hi).kept (k.block b (hc i hi).block)⟩
theorem IsActs.at_ {w : World} {p : Option Addr} {len : Nat} {l : List Act1} (h : IsActs w p len l) (i : Nat) (hi : i < len) :
    ∃ b o c, p = some ⟨b, o, none⟩ ∧ l[i]? = some c ∧ c.fits ∧ ActAt w b (o + i * 5) c := by
  obtain ⟨h1, h2, h3, h4⟩ := h
  obtain ⟨b, o, e, hc⟩ := h4 (by omega)
  have hi' : i < l.length := by omega
  exact ⟨b, o, l[i], e, List.getElem?_eq_getElem hi', h3 _ (List.getElem_mem _), hc i hi'⟩

section
variable {H : Type} {enc : TypeId × Value → H} {P : Program} {w : World} {base : Nat} {spare : Nat → Bool} {held : Bool}

/-- One field of a struct whose fields take a cell each: its cell, and that it reads. -/
theorem field_of {e : TypeId} {fs : Array Field} {a : Addr} {fuel : Nat} {cs : List Value} {x : DataW H × List MemPlace} (he : P.underlying e = some (.struct fs)) (hone : oneCellFields P fs = true) (hC : P.cellsOf e = fs.size)
    (hc : w.cells? base a (P.cellsOf e) = some cs) (ht : DataW.trod enc P w base spare held fuel e cs = some x) (j : Nat) (f : Field) (hj : fs[j]? = some f) :
    ∃ v y m, w.cell? (a.add j) = some v ∧ DataW.trod enc P w base spare held m f.type [v] = some y := by
  obtain ⟨xs, n, _, _, hlen, hxl, hf⟩ := DataW.trod_struct he ht
  obtain ⟨_, _, hcell⟩ := World.cells?_some hc
  obtain ⟨ho, hk⟩ := hone_of hone j f hj
  have hjl : j < fs.size := (Array.getElem?_eq_some_iff.1 hj).1
  have hjc : j < cs.length := by omega
  have hjx : j < xs.length := by omega
  have h1 := hf j f hj
  rw [ho, hk, List.drop_eq_getElem_cons hjc, List.take_succ_cons, List.take_zero, List.getElem?_eq_getElem hjx] at h1
  exact ⟨cs[j], xs[j], n, by rw [hcell j (by omega), List.getElem?_eq_getElem hjc], h1⟩
end

theorem add_add' (b o i j : Nat) : ((⟨b, o, none⟩ : Addr).add i).add j = ⟨b, o + i + j, none⟩ := by
  unfold Addr.add
  by_cases hi : i = 0 <;> by_cases hj : j = 0 <;> simp [hi, hj, Nat.add_assoc]
theorem add_plain (b o i : Nat) : (⟨b, o, none⟩ : Addr).add i = ⟨b, o + i, none⟩ := by
  unfold Addr.add
  by_cases hi : i = 0 <;> simp [hi]



/-- What Great answers. -/
def great (l : List Act1) : Bool := decide (200 < l.length) || (l.take 201).any fun c => decide (300 < c.s.size)

theorem great_no {l : List Act1} (h : great l = false) : l.length ≤ 200 ∧ ∀ c ∈ l, c.s.size ≤ 300 := by
  unfold great at h
  simp only [Bool.or_eq_false_iff, decide_eq_false_iff_not, List.any_eq_false, decide_eq_true_eq] at h
  refine ⟨by omega, fun c hc => ?_⟩
  have := h.2 c (by rw [List.take_of_length_le (by omega)]; exact hc)
  omega

/-- Up to place k nothing was found. -/
def Small (l : List Act1) (k : Nat) : Prop := ∀ c ∈ l.take k, c.s.size ≤ 300
theorem Small.zero (l : List Act1) : Small l 0 := by simp [Small]
theorem Small.succ {l : List Act1} {k : Nat} {c : Act1} (h : Small l k) (hc : l[k]? = some c) (hs : c.s.size ≤ 300) : Small l (k + 1) := by
  intro d hd
  rw [List.take_add_one, hc] at hd
  simp only [Option.toList_some, List.mem_append, List.mem_singleton] at hd
  rcases hd with hd | rfl
  · exact h d hd
  · exact hs
theorem great_hit {l : List Act1} {k : Nat} {c : Act1} (hk : k ≤ 200) (hc : l[k]? = some c) (hs : 300 < c.s.size) : great l = true := by
  unfold great
  simp only [Bool.or_eq_true, decide_eq_true_eq, List.any_eq_true]
  refine Or.inr ⟨c, ?_, hs⟩
  rw [List.mem_take_iff_getElem]
  obtain ⟨hlt, he⟩ := List.getElem?_eq_some_iff.1 hc
  exact ⟨k, by omega, he⟩
theorem great_end {l : List Act1} {k : Nat} (h : Small l k) (hk : l.length ≤ k ∨ 201 ≤ k) : great l = decide (200 < l.length) := by
  unfold great
  have h2 : ((l.take 201).any fun c => decide (300 < c.s.size)) = false := by
    simp only [List.any_eq_false, decide_eq_true_eq]
    intro c hc
    have h3 : c ∈ l.take k := by
      rcases hk with hk | hk
      · rw [List.take_of_length_le hk]; exact List.mem_of_mem_take hc
      · exact (List.take_subset_take_left l hk) hc
    have := h c h3
    omega
  rw [h2, Bool.or_false]


end Go.Proofs.YtiejcohammeoeaaGreatDoor

namespace Go.Proofs.YtiejcohammeoeaaGreatDoor
open Go.RowKit Go.Sort
set_option linter.unusedVariables false

theorem text_get (l : List UInt8) (a n : Int) (h0 : 0 ≤ a) (h1 : 0 ≤ n) (h2 : a + n ≤ l.length) : textS l a n = (l.drop a.toNat).take n.toNat := by
  have he : textE l a n = 0 := by
    unfold textE
    rw [if_neg (by omega)]
  unfold textS
  rw [if_pos he]
theorem lay_apart (l : List UInt8) (a : Nat) (c : List UInt8) (hc : a + c.length ≤ l.length) (b m : Nat) (h : a + c.length ≤ b ∨ b + m ≤ a) : ((lay l a c).drop b).take m = (l.drop b).take m := by
  apply List.ext_getElem?
  intro i
  rw [List.getElem?_take, List.getElem?_take]
  by_cases hi : i < m
  · rw [if_pos hi, if_pos hi, List.getElem?_drop, List.getElem?_drop, vlay_get _ _ _ hc, if_neg (by omega)]
  · rw [if_neg hi, if_neg hi]
theorem lay_same (l : List UInt8) (a : Nat) (c : List UInt8) (hc : a + c.length ≤ l.length) : ((lay l a c).drop a).take c.length = c := by
  apply List.ext_getElem?
  intro i
  rw [List.getElem?_take]
  by_cases hi : i < c.length
  · rw [if_pos hi, List.getElem?_drop, vlay_get _ _ _ hc, if_pos (by omega)]
    congr 1
    omega
  · rw [if_neg hi, List.getElem?_eq_none (by omega)]
theorem textE_bd {l : List UInt8} {b m : Int} (h : textE l b m = 0) : 0 ≤ b ∧ 0 ≤ m ∧ b + m ≤ l.length := by
  unfold textE at h
  split at h
  · cases h
  · omega
theorem putE_bd {l : List UInt8} {a n : Int} (h : putE l a n = 0) : 0 ≤ a ∧ 1 ≤ n ∧ n ≤ 8 ∧ a + n ≤ l.length := by
  unfold putE at h
  split at h
  · cases h
  · split at h
    · cases h
    · omega
theorem text_put (l : List UInt8) (a n x b m : Int) (h : a + n ≤ b ∨ b + m ≤ a) : textS (putL l a n x) b m = textS l b m := by
  have hE : textE (putL l a n x) b m = textE l b m := by unfold textE; rw [putL_length]
  unfold textS
  rw [hE]
  by_cases hb : textE l b m = 0
  · rw [if_pos hb, if_pos hb]
    obtain ⟨b1, b2, b3⟩ := textE_bd hb
    unfold putL
    by_cases he : putE l a n = 0
    · rw [if_pos he]
      obtain ⟨p1, p2, p3, p4⟩ := putE_bd he
      exact lay_apart l a.toNat _ (by rw [le_length]; omega) b.toNat m.toNat (by rw [le_length]; omega)
    · rw [if_neg he]
  · rw [if_neg hb, if_neg hb]
theorem text_write (l : List UInt8) (a : Int) (s : List UInt8) (b m : Int) (h : a + s.length ≤ b ∨ b + m ≤ a) : textS (writeL l a s) b m = textS l b m := by
  have hE : textE (writeL l a s) b m = textE l b m := by unfold textE; rw [writeL_length]
  unfold textS
  rw [hE]
  by_cases hb : textE l b m = 0
  · rw [if_pos hb, if_pos hb]
    obtain ⟨b1, b2, b3⟩ := textE_bd hb
    unfold writeL
    by_cases he : textE l a s.length = 0
    · rw [if_pos he]
      obtain ⟨p1, p2, p3⟩ := textE_bd he
      exact lay_apart l a.toNat _ (by omega) b.toNat m.toNat (by omega)
    · rw [if_neg he]
  · rw [if_neg hb, if_neg hb]
theorem text_wrote (l : List UInt8) (a : Int) (s : List UInt8) (h0 : 0 ≤ a) (h : a + s.length ≤ l.length) : textS (writeL l a s) a s.length = s := by
  rw [text_get _ _ _ h0 (by omega) (by rw [writeL_length]; exact h)]
  have he : textE l a s.length = 0 := by
    unfold textE
    rw [if_neg (by omega)]
  unfold writeL
  rw [if_pos he, Int.toNat_natCast]
  exact lay_same l a.toNat s (by omega)
theorem get_write (l : List UInt8) (a : Int) (s : List UInt8) (b m : Int) (h : a + s.length ≤ b ∨ b + m ≤ a) : getX (writeL l a s) b m = getX l b m := by
  have hE : putE (writeL l a s) b m = putE l b m := by unfold putE; rw [writeL_length]
  unfold getX
  rw [hE]
  by_cases hb : putE l b m = 0
  · rw [if_pos hb, if_pos hb]
    obtain ⟨b1, b2, b3, b4⟩ := putE_bd hb
    unfold writeL
    by_cases he : textE l a s.length = 0
    · rw [if_pos he]
      obtain ⟨p1, p2, p3⟩ := textE_bd he
      rw [lay_apart l a.toNat s (by omega) b.toNat m.toNat (by omega)]
    · rw [if_neg he]
  · rw [if_neg hb, if_neg hb]
theorem text_descs (base : Int) (n : Nat) : ∀ (ks : List Int) (l : List Bf) (lm : List UInt8) (hk : ∀ k ∈ ks, 0 ≤ k ∧ k < n) (a m : Int) (ha : base + 16 * n ≤ a), textS (descs base ks l lm) a m = textS lm a m
  | [], _, _, _, _, _, _ => by unfold descs; rfl
  | _ :: _, [], _, _, _, _, _ => by unfold descs; rfl
  | k :: ks, b :: bs, lm, hk, a, m, ha => by
    have hk0 := hk k List.mem_cons_self
    unfold descs
    rw [text_descs base n ks bs _ (fun y hy => hk y (List.mem_cons_of_mem _ hy)) a m ha]
    unfold descL
    rw [text_put _ _ _ _ _ _ (by omega), text_put _ _ _ _ _ _ (by omega), text_put _ _ _ _ _ _ (by omega), text_put _ _ _ _ _ _ (by omega)]
theorem text_add (lm : List UInt8) (off : Int) (ks : List Int) (l : List Bf) (hk : ∀ k ∈ ks, 0 ≤ k ∧ k < 32) (a m : Int) (ha : 848 ≤ a) : textS (addL lm 0 32 off ks l) a m = textS lm a m := by
  have r0 : 0 ≤ off % ((32 : Nat) : Int) := Int.emod_nonneg _ (by decide)
  have r1 : off % ((32 : Nat) : Int) < 32 := Int.emod_lt_of_pos _ (by decide)
  unfold addL
  rw [text_put _ _ _ _ _ _ (by omega), text_put _ _ _ _ _ _ (by omega), text_descs 0 32 ks l lm hk a m (by omega)]
theorem get_add (lm : List UInt8) (off : Int) (ks : List Int) (l : List Bf) (hk : ∀ k ∈ ks, 0 ≤ k ∧ k < 32) (a m : Int) (ha : 580 ≤ a) : getX (addL lm 0 32 off ks l) a m = getX lm a m := by
  have r0 : 0 ≤ off % ((32 : Nat) : Int) := Int.emod_nonneg _ (by decide)
  have r1 : off % ((32 : Nat) : Int) < 32 := Int.emod_lt_of_pos _ (by decide)
  unfold addL
  rw [put_apart _ _ _ _ _ _ (by omega), put_apart _ _ _ _ _ _ (by omega), descs_far lm 0 32 ks l hk a m (by omega)]

/-- The numbers of a first chain. -/
def fks (k : Nat) : List Int := if k = 2 then [0, 1] else [0, 1, 2]
def fmost (k : Nat) : Int := if k = 0 then 65 else 1
theorem f_new (k : Nat) (hk : k < 5) : newCh [] 32 (chainL (shpAt k) 848) = ⟨0, fks k, fmost k⟩ := by
  rcases k with _ | _ | _ | _ | _ | k <;> first | omega | (unfold newCh; rfl)
theorem fks_in (k : Nat) : ∀ y ∈ fks k, 0 ≤ y ∧ y < ((32 : Nat) : Int) := by
  unfold fks
  split <;> (intro y hy; simp at hy; omega)

end Go.Proofs.YtiejcohammeoeaaGreatDoor

namespace Go.Proofs.YtiejcohammeoeaaGreatDoor
open Go.RowKit Go.Sort
set_option linter.unusedVariables false

theorem leL_exact (x n : Int) (h1 : 1 ≤ n) (h2 : n ≤ 8) : (leL x n).length = n.toNat := by
  unfold leL
  rw [if_pos ⟨h1, h2⟩, le_length]
theorem leL_num (x n : Int) (h1 : 1 ≤ n) (h2 : n ≤ 8) (hx : 0 ≤ x) (hb : x.toNat < 256 ^ n.toNat) : (num (leL x n) : Int) = x := by
  unfold leL
  rw [if_pos ⟨h1, h2⟩, num_le, Nat.mod_eq_of_lt hb]
  omega
theorem headL_16 (s : Shp) (o : Ord) : (headL s o).length = 16 := by
  unfold headL
  rw [List.length_append, List.length_append, leL_exact _ _ (by decide) (by decide), leL_exact _ _ (by decide) (by decide), leL_exact _ _ (by decide) (by decide)]
  rfl
theorem slot_head (lm : List UInt8) (hl : lm.length = 2048) (s : Shp) (o : Ord) (hd : (dataL s o).length ≤ 64) : textS (slotL lm 848 s o) 848 16 = headL s o := by
  have hh := headL_16 s o
  have h := text_wrote lm 848 (headL s o) (by decide) (by rw [hh, hl]; decide)
  rw [hh] at h
  unfold slotL
  rw [text_put _ _ _ _ _ _ (by omega), text_write _ _ _ _ _ (by omega)]
  exact h
theorem slot_data (lm : List UInt8) (hl : lm.length = 2048) (s : Shp) (o : Ord) (hd : (dataL s o).length ≤ 64) : textS (slotL lm 848 s o) 864 (dataL s o).length = dataL s o := by
  unfold slotL
  rw [text_put _ _ _ _ _ _ (by omega)]
  exact text_wrote _ _ _ (by decide) (by rw [writeL_length, hl]; omega)
theorem cut_at (l : List UInt8) (a n : Nat) (h1 : 1 ≤ n) (h2 : n ≤ 8) (h : a + n ≤ l.length) : cutS ⟨l.toArray⟩ (a : Int) (n : Int) = (l.drop a).take n := by
  unfold cutS okR
  have hs : (⟨l.toArray⟩ : ByteArray).size = l.length := toArray_size l
  rw [if_pos (decide_eq_true (by rw [hs]; omega))]
  simp
theorem head_num (s : Shp) (o : Ord) (h0 : 0 ≤ s.num) (h1 : s.num ≤ 255) : (num (cutS ⟨(headL s o).toArray⟩ 0 4) : Int) = s.num := by
  have h := cut_at (headL s o) 0 4 (by decide) (by decide) (by rw [headL_16]; decide)
  have e : ((headL s o).drop 0).take 4 = leL s.num 4 := by
    unfold headL
    rw [List.drop_zero, List.append_assoc]
    exact List.take_left' (by rw [leL_exact _ _ (by decide) (by decide)]; rfl)
  rw [e] at h
  rw [show cutS ⟨(headL s o).toArray⟩ 0 4 = leL s.num 4 from h]
  exact leL_num _ _ (by decide) (by decide) h0 (by show s.num.toNat < 256 ^ 4; omega)
theorem head_sec (s : Shp) (o : Ord) (hs : s.sec = 1) (h0 : 0 ≤ o.sec) (h1 : o.sec < 512) : (num (cutS ⟨(headL s o).toArray⟩ 8 8) : Int) = o.sec := by
  have h := cut_at (headL s o) 8 8 (by decide) (by decide) (by rw [headL_16]; decide)
  have e : ((headL s o).drop 8).take 8 = leL o.sec 8 := by
    unfold headL
    rw [if_pos hs, List.drop_left' (by rw [List.length_append, leL_exact _ _ (by decide) (by decide), leL_exact _ _ (by decide) (by decide)]; rfl)]
    exact List.take_of_length_le (by rw [leL_exact _ _ (by decide) (by decide)]; decide)
  rw [e] at h
  rw [show cutS ⟨(headL s o).toArray⟩ 8 8 = leL o.sec 8 from h]
  exact leL_num _ _ (by decide) (by decide) h0 (by show o.sec.toNat < 256 ^ 8; omega)
theorem data_16 (s : Shp) (o : Ord) (hs : s.sec = 2) : (dataL s o).length = 16 := by
  unfold dataL
  rw [if_pos hs, List.length_append, List.length_append, leL_exact _ _ (by decide) (by decide), leL_exact _ _ (by decide) (by decide), leL_exact _ _ (by decide) (by decide)]
  rfl
theorem data_sec (s : Shp) (o : Ord) (hs : s.sec = 2) (h0 : 0 ≤ o.sec) (h1 : o.sec < 512) : (num (cutS ⟨(dataL s o).toArray⟩ 0 8) : Int) = o.sec := by
  have h := cut_at (dataL s o) 0 8 (by decide) (by decide) (by rw [data_16 s o hs]; decide)
  have e : ((dataL s o).drop 0).take 8 = leL o.sec 8 := by
    unfold dataL
    rw [if_pos hs, List.drop_zero, List.append_assoc]
    exact List.take_left' (by rw [leL_exact _ _ (by decide) (by decide)]; rfl)
  rw [e] at h
  rw [show cutS ⟨(dataL s o).toArray⟩ 0 8 = leL o.sec 8 from h]
  exact leL_num _ _ (by decide) (by decide) h0 (by show o.sec.toNat < 256 ^ 8; omega)

/-- The memory behind Submit. -/
def f1 (lm : List UInt8) (off : Int) (k : Nat) (o : Ord) : List UInt8 := addL (slotL lm 848 (shpAt k) o) 0 32 off (fks k) (chainL (shpAt k) 848)
theorem f1_len (lm : List UInt8) (off : Int) (k : Nat) (o : Ord) : (f1 lm off k o).length = lm.length := by unfold f1; rw [addL_length, slotL_length]
theorem may_of {o : Ord} (h : mayOrd 512 o = true) : 0 ≤ o.sec ∧ o.sec < 512 ∧ (o.kind = 3 → o.sec = 0) ∧ (o.kind = 2 → o.data.size = 64) ∧ (o.kind ≠ 2 → o.data = ⟨#[]⟩) := by
  unfold mayOrd at h
  simp only [Bool.and_eq_true, decide_eq_true_eq] at h
  obtain ⟨⟨h1, h2⟩, h3⟩ := h
  refine ⟨h1, ?_, ?_, ?_, ?_⟩
  · split at h2 <;> omega
  · intro e; rw [if_pos e] at h2; omega
  · intro e; rw [if_pos e] at h3; omega
  · intro e
    rw [if_neg e] at h3
    have hz : o.data.data.size = 0 := by
      have : o.data.data.size = o.data.size := rfl
      omega
    exact ByteArray.ext (Array.eq_empty_of_size_eq_zero hz)
theorem f_data (k : Nat) (hk : k < 5) (o : Ord) (he : o.kind = (shpAt k).kind) (hm : mayOrd 512 o = true) : (dataL (shpAt k) o).length = if k = 1 then 64 else if 3 ≤ k then 16 else 0 := by
  obtain ⟨_, _, _, h4, h5⟩ := may_of hm
  rcases k with _ | _ | _ | _ | _ | k
  · have := h5 (by rw [he]; decide)
    show (if (1 : Int) = 2 then _ else o.data.data.toList).length = _
    rw [if_neg (by decide), this]; rfl
  · have := h4 he
    show (if (1 : Int) = 2 then _ else o.data.data.toList).length = _
    rw [if_neg (by decide), Array.length_toList]; exact this
  · have := h5 (by rw [he]; decide)
    show (if (0 : Int) = 2 then _ else o.data.data.toList).length = _
    rw [if_neg (by decide), this]; rfl
  · exact data_16 shp4 o rfl
  · exact data_16 shp5 o rfl
  · omega
theorem ofN_shp (k : Nat) (hk : k < 5) : ofN (shpAt k).num = some k := by
  rcases k with _ | _ | _ | _ | _ | k <;> first | rfl | omega
theorem like_shp (k : Nat) (hk : k < 5) : likeL (chainL (shpAt k) 848) (chainL (shpAt k) 0) = true := by
  rcases k with _ | _ | _ | _ | _ | k <;> first | decide +kernel | omega
theorem ord_of {o : Ord} {a b : Int} {c : ByteArray} (h1 : a = o.kind) (h2 : b = o.sec) (h3 : c = o.data) : (⟨a, b, c⟩ : Ord) = o := by
  subst h1 h2 h3; rfl
theorem ask_of (M : List UInt8) (l : List Bf) (s : Shp) (o : Ord) (H D : List UInt8) (hH : textS M (l.headD ⟨0, 0, false⟩).a (l.headD ⟨0, 0, false⟩).n = H)
    (hD : (if 0 < s.len ∧ s.back = false then textS M (l.getD 1 ⟨0, 0, false⟩).a (l.getD 1 ⟨0, 0, false⟩).n else []) = D) (hX : tellX s ⟨H.toArray⟩ ⟨D.toArray⟩ = o.sec) (hs : o.sec ≤ 9223372036854775807)
    (hk : s.kind = o.kind) (hdat : (if s.kind = 2 then (⟨D.toArray⟩ : ByteArray) else ⟨#[]⟩) = o.data) (h1 : H = headL s o) (h2 : D = dataL s o) : askF M l s = some o := by
  have ho : (⟨s.kind, (o.sec, true).1, if s.kind = 2 then ⟨D.toArray⟩ else ⟨#[]⟩⟩ : Ord) = o := ord_of hk rfl hdat
  have e : askF M l s = (if (sectV (tellX s ⟨H.toArray⟩ ⟨D.toArray⟩)).2 = true ∧ H = headL s ⟨s.kind, (sectV (tellX s ⟨H.toArray⟩ ⟨D.toArray⟩)).1, if s.kind = 2 then ⟨D.toArray⟩ else ⟨#[]⟩⟩ ∧ D = dataL s ⟨s.kind, (sectV (tellX s ⟨H.toArray⟩ ⟨D.toArray⟩)).1, if s.kind = 2 then ⟨D.toArray⟩ else ⟨#[]⟩⟩
      then some ⟨s.kind, (sectV (tellX s ⟨H.toArray⟩ ⟨D.toArray⟩)).1, if s.kind = 2 then ⟨D.toArray⟩ else ⟨#[]⟩⟩ else none) := by
    subst hH hD
    rfl
  rw [e, hX, sectV_no (by omega), ho, if_pos ⟨rfl, h1, h2⟩]
theorem f_ask (lm : List UInt8) (hl : lm.length = 2048) (off : Int) (k : Nat) (hk : k < 5) (o : Ord) (he : o.kind = (shpAt k).kind) (hm : mayOrd 512 o = true) : askL (f1 lm off k o) (chainL (shpAt k) 848) = some o := by
  obtain ⟨h1, h2, h3, h4, h5⟩ := may_of hm
  have hdl := f_data k hk o he hm
  have hd64 : (dataL (shpAt k) o).length ≤ 64 := by rw [hdl]; split <;> (try split) <;> omega
  have hH : textS (f1 lm off k o) 848 16 = headL (shpAt k) o := by
    unfold f1
    rw [text_add _ _ _ _ (fks_in k) _ _ (by decide), slot_head lm hl _ _ hd64]
  have hD : textS (f1 lm off k o) 864 (dataL (shpAt k) o).length = dataL (shpAt k) o := by
    unfold f1
    rw [text_add _ _ _ _ (fks_in k) _ _ (by decide), slot_data lm hl _ _ hd64]
  rw [hdl] at hD
  have hN : headN (f1 lm off k o) (chainL (shpAt k) 848) = (shpAt k).num := by
    show (num (cutS ⟨(textS (f1 lm off k o) 848 16).toArray⟩ 0 4) : Int) = _
    rw [hH]
    exact head_num _ _ (shp_bd k hk).1 (by rcases k with _ | _ | _ | _ | _ | k <;> first | decide | omega)
  unfold askL
  rw [hN, ofN_shp k hk]
  simp only
  rw [if_pos (like_shp k hk)]
  generalize f1 lm off k o = M at hH hD
  rcases k with _ | _ | _ | _ | _ | k
  · have hDd : dataL shp1 o = [] := List.eq_nil_of_length_eq_zero hdl
    exact ask_of M _ shp1 o (headL shp1 o) [] hH (if_neg (by decide)) (head_sec shp1 o rfl h1 h2) (by omega) he.symm ((if_neg (by decide)).trans (h5 (by rw [he]; decide)).symm) rfl hDd.symm
  · have hdd : dataL shp2 o = o.data.data.toList := if_neg (by decide)
    exact ask_of M _ shp2 o (headL shp2 o) (dataL shp2 o) hH ((if_pos ⟨by decide, rfl⟩).trans hD) (head_sec shp2 o rfl h1 h2) (by omega) he.symm ((if_pos rfl).trans (by rw [hdd])) rfl rfl
  · have hDd : dataL shp3 o = [] := List.eq_nil_of_length_eq_zero hdl
    exact ask_of M _ shp3 o (headL shp3 o) [] hH (if_neg (by decide)) (h3 he).symm (by omega) he.symm ((if_neg (by decide)).trans (h5 (by rw [he]; decide)).symm) rfl hDd.symm
  · exact ask_of M _ shp4 o (headL shp4 o) (dataL shp4 o) hH ((if_pos ⟨by decide, rfl⟩).trans hD) (data_sec shp4 o rfl h1 h2) (by omega) he.symm ((if_neg (by decide)).trans (h5 (by rw [he]; decide)).symm) rfl rfl
  · exact ask_of M _ shp5 o (headL shp5 o) (dataL shp5 o) hH ((if_pos ⟨by decide, rfl⟩).trans hD) (data_sec shp5 o rfl h1 h2) (by omega) he.symm ((if_neg (by decide)).trans (h5 (by rw [he]; decide)).symm) rfl rfl
  · omega

end Go.Proofs.YtiejcohammeoeaaGreatDoor

namespace Go.Proofs.YtiejcohammeoeaaGreatDoor
open Go.RowKit Go.ChangeShapes Go.WideShapes Go.Deep Go.Sort
set_option linter.unusedVariables false

def Ord.fits (c : Ord) : Prop := (Lit.int .i64 c.kind).wf = true ∧ (Lit.int .i64 c.sec).wf = true ∧ c.data.size ≤ maxLen
/-- The three cells of an order lie there. -/
def OrdAt (w : World) (b o : Nat) (c : Ord) : Prop := w.cell? ⟨b, o, none⟩ = some (.int .i64 c.kind) ∧ w.cell? ⟨b, o + 1, none⟩ = some (.int .i64 c.sec) ∧ w.cell? ⟨b, o + 2, none⟩ = some (.string c.data)
/-- The slice reads as these orders. -/
def IsOrds (w : World) (p : Option Addr) (len : Nat) (l : List Ord) : Prop :=
  l.length = len ∧ len ≤ maxLen ∧ (∀ c ∈ l, c.fits) ∧ (0 < len → ∃ b o, p = some ⟨b, o, none⟩ ∧ ∀ (i : Nat) (h : i < l.length), OrdAt w b (o + i * 3) l[i])
theorem OrdAt.block {w : World} {b o : Nat} {c : Ord} (h : OrdAt w b o c) : b < w.heap.size := World.block_lt_of_cell? w ⟨b, o, none⟩ h.1
theorem OrdAt.kept {w w' : World} {b o : Nat} {c : Ord} (h : OrdAt w b o c) (k : w'.heap[b]? = w.heap[b]?) : OrdAt w' b o c := by
  have e : ∀ q, w'.cell? ⟨b, q, none⟩ = w.cell? ⟨b, q, none⟩ := fun q => World.cell?_of_block (a := ⟨b, q, none⟩) k
  unfold OrdAt
  rw [e, e, e]
  exact h
theorem IsOrds.below {w w' : World} {p : Option Addr} {len : Nat} {l : List Ord} (h : IsOrds w p len l) (k : Below w.heap.size w w') : IsOrds w' p len l := by
  obtain ⟨h1, h2, h3, h4⟩ := h
  refine ⟨h1, h2, h3, fun hp => ?_⟩
  obtain ⟨b, o, e, hc⟩ := h4 hp
  exact ⟨b, o, e, fun i hi => (hc i hi).kept (k.block b (hc i hi).block)⟩
theorem IsOrds.at_ {w : World} {p : Option Addr} {len : Nat} {l : List Ord} (h : IsOrds w p len l) (i : Nat) (hi : i < len) :
    ∃ b o c, p = some ⟨b, o, none⟩ ∧ l[i]? = some c ∧ c.fits ∧ OrdAt w b (o + i * 3) c := by
  obtain ⟨h1, h2, h3, h4⟩ := h
  obtain ⟨b, o, e, hc⟩ := h4 (by omega)
  have hi' : i < l.length := by omega
  exact ⟨b, o, l[i], e, List.getElem?_eq_getElem hi', h3 _ (List.getElem_mem _), hc i hi'⟩
theorem open_ord {H : Type} {enc : TypeId × Value → H} {w : World} {a : Addr} {fuel : Nat} {cs : List Value} {x : DataW H × List MemPlace}
    (hc : w.cells? 0 a (Tryz.prog.cellsOf 35) = some cs) (ht : DataW.trod enc Tryz.prog w 0 (fun _ => true) true fuel 35 cs = some x) :
    ∃ c : Ord, c.fits ∧ a.spot = none ∧ OrdAt w a.block a.off c := by
  have hu := Tryz.underlying35
  obtain ⟨v0, y0, m0, c0, t0⟩ := field_of hu (by kernel_rfl) (by kernel_rfl) hc ht 0 _ rfl
  obtain ⟨v1, y1, m1, c1, t1⟩ := field_of hu (by kernel_rfl) (by kernel_rfl) hc ht 1 _ rfl
  obtain ⟨v2, y2, m2, c2, t2⟩ := field_of hu (by kernel_rfl) (by kernel_rfl) hc ht 2 _ rfl
  obtain ⟨n0, e0, _, w0⟩ := DataW.trod_int Tryz.underlying3 t0
  obtain ⟨n1, e1, _, w1⟩ := DataW.trod_int Tryz.underlying3 t1
  obtain ⟨n2, e2, _, w2⟩ := DataW.trod_string Tryz.underlying9 t2
  simp only [List.cons.injEq, and_true] at e0 e1 e2
  subst e0 e1 e2
  obtain ⟨b, o, sp⟩ := a
  have hs : sp = none := by simpa [Addr.add] using World.cell?_spot c0
  subst hs
  rw [add_plain] at c0 c1 c2
  exact ⟨⟨n0, n1, n2⟩, ⟨w0, w1, w2⟩, rfl, c0, c1, c2⟩
theorem open_ords {H : Type} {enc : TypeId × Value → H} {w : World} {p : Option Addr} {len cap fuel : Nat} {x : DataW H × List MemPlace}
    (h : DataW.trod enc Tryz.prog w 0 (fun _ => true) true fuel 22 (Value.slice p len cap).cells.toList = some x) : ∃ l, IsOrds w p len l := by
  rcases open_slice Tryz.underlying22 h with ⟨hcs, _⟩ | ⟨a, len', cap', m, n, D, Pl, hcs, _, hl, hm, hmm, _, hi⟩
  · simp [Value.cells] at hcs
    obtain ⟨rfl, rfl, rfl⟩ := hcs
    exact ⟨[], rfl, Nat.zero_le _, by simp, fun h => absurd h (by omega)⟩
  · simp [Value.cells] at hcs
    obtain ⟨rfl, rfl, rfl⟩ := hcs
    have hm' : m = cap := by simpa using hmm
    have hi' : ∀ i, i < len → ∃ c : Ord, c.fits ∧ (a.add (i * 3)).spot = none ∧ OrdAt w (a.add (i * 3)).block (a.add (i * 3)).off c := by
      intro i hlt
      obtain ⟨cs', hc, ht⟩ := hi i (by omega)
      have e5 : Tryz.prog.cellsOf 35 = 3 := by kernel_rfl
      have h5 : i * Tryz.prog.cellsOf 35 = i * 3 := by rw [e5]
      rw [h5] at hc
      exact open_ord hc ht
    have hch := fun i : Fin len => hi' i.1 i.2
    obtain ⟨f, hf⟩ := Classical.axiomOfChoice hch
    refine ⟨List.ofFn f, by simp, by omega, ?_, ?_⟩
    · intro c hc
      obtain ⟨i, rfl⟩ := (List.mem_ofFn).1 hc
      exact (hf i).1
    · intro hpos
      obtain ⟨b, o, sp⟩ := a
      have h0 := (hf ⟨0, hpos⟩).2.1
      have hs : sp = none := by simpa [Addr.add] using h0
      subst hs
      refine ⟨b, o, rfl, fun i hlt => ?_⟩
      have hlt' : i < len := by simpa using hlt
      have h1 := (hf ⟨i, hlt'⟩).2.2
      rw [add_plain] at h1
      simpa using h1

theorem ord_key : Tryz.prog.keyTypeAt 2 35 = true := by kernel_rfl
theorem o_cells : Tryz.prog.cellsOf 35 = 3 := by kernel_rfl
theorem o_int : Tryz.prog.cellsOf 3 = 1 := by kernel_rfl
theorem o_str : Tryz.prog.cellsOf 9 = 1 := by kernel_rfl
theorem ord_lits (c : Ord) (h : c.fits) (d : Nat) : Tryz.prog.keyLits (d + 2) 35 [.int .i64 c.kind, .int .i64 c.sec, .string c.data] = some [.int .i64 c.kind, .int .i64 c.sec, .string c.data.data.toList] := by
  have l1 : ∀ (x : Int), (Lit.int .i64 x).wf = true → Tryz.prog.keyLits (d + 1) 3 [.int .i64 x] = some [.int .i64 x] := fun x hx => by simp [Program.keyLits, Tryz.underlying3, hx]
  have l2 : Tryz.prog.keyLits (d + 1) 9 [.string c.data] = some [.string c.data.data.toList] := by simp [Program.keyLits, Tryz.underlying9, h.2.2]
  unfold Program.keyLits
  simp only [Tryz.underlying35, o_cells]
  simp [o_int, o_str, l1 _ h.1, l1 _ h.2.1, l2]
theorem run_eql_ord (w : World) (c : Ord) (h : c.fits) : (Op.equalIn 10000 35 (.agg #[.int .i64 c.kind, .int .i64 c.sec, .string c.data]) (.agg #[.int .i64 c.kind, .int .i64 c.sec, .string c.data])).run Tryz.prog w = .ok true w := by
  obtain ⟨r, hr, hi⟩ := run_equalIn_deep (P := Tryz.prog) 9998 2 35 ord_key w 2 2 (.agg #[.int .i64 c.kind, .int .i64 c.sec, .string c.data]) (.agg #[.int .i64 c.kind, .int .i64 c.sec, .string c.data]) _ _ (by kernel_rfl) (by kernel_rfl) (ord_lits c h 0) (ord_lits c h 0)
  rw [hr, hi.2 rfl]

/-- A driver of a disk of 512 sectors at the beginning of a memory, and its device's side. -/
structure FX (w0 w : World) (b g h q u mb r p v z : Nat) (lm : List UInt8) (os : List Snt) (cs : List Oc) (off back taken told : Int) (ts : List (Int × Tkn)) (last : Int) : Prop where
  ks : KS w b g h q u mb lm 0 512 5 os cs off back false last 0 false
  rs : RS w r g h p v lm 0 taken told ts
  len : lm.length = 2048
  lo : w0.heap.size ≤ b ∧ w0.heap.size ≤ g ∧ w0.heap.size ≤ h ∧ w0.heap.size ≤ q ∧ w0.heap.size ≤ u ∧ w0.heap.size ≤ mb
  mid : b < z ∧ g < z ∧ h < z ∧ q < z ∧ u < z ∧ mb < z
  hi : z ≤ r ∧ z ≤ p ∧ z ≤ v
  bel : Below w0.heap.size w0 w
  sh : Shapes w0
section
variable {w0 w w' : World} {b g h q u mb r p v z : Nat} {lm lm' : List UInt8} {os os' : List Snt} {cs cs' : List Oc} {off back taken told off' back' taken' told' : Int} {ts ts' : List (Int × Tkn)} {last last' : Int}
theorem FX.shp (x : FX w0 w b g h q u mb r p v z lm os cs off back taken told ts last) : Shapes w := x.sh.kept (x.bel.block 0 x.sh.pos)
theorem FX.grown (x : FX w0 w b g h q u mb r p v z lm os cs off back taken told ts last) (k : w.grownBy w' none) : FX w0 w' b g h q u mb r p v z lm os cs off back taken told ts last :=
  { x with ks := x.ks.grown k, rs := x.rs.grown k, bel := x.bel.grown k x.bel.size (fun j e => by cases e) }
theorem FX.below (x : FX w0 w b g h q u mb r p v z lm os cs off back taken told ts last) (k : Below w.heap.size w w') : FX w0 w' b g h q u mb r p v z lm os cs off back taken told ts last :=
  x.grown ⟨k.os, k.tape, k.output, k.size, fun j hj _ => k.block j hj⟩
theorem FX.drv (x : FX w0 w b g h q u mb r p v z lm os cs off back taken told ts last) (t : Turned (KB b q h mb u) w w') (ks : KS w' b g h q u mb lm' 0 512 5 os' cs' off' back' false last' 0 false) (hl : lm'.length = lm.length) :
    FX w0 w' b g h q u mb r p v z lm' os' cs' off' back' taken told ts last' := by
  obtain ⟨l1, l2, l3, l4, l5, l6⟩ := x.lo
  obtain ⟨m1, m2, m3, m4, m5, m6⟩ := x.mid
  obtain ⟨h1, h2, h3⟩ := x.hi
  have nk : ∀ j, z ≤ j → ¬ KB b q h mb u j := by
    rintro j hj (e | e | e | e | e) <;> omega
  exact ⟨ks, x.rs.other t (nk r h1) (nk p h2) (nk v h3) ks.qs.mem hl, by rw [hl]; exact x.len, x.lo, x.mid, x.hi, x.bel.trans (t.below x.bel.size (by rintro j (e | e | e | e | e) <;> omega)), x.sh⟩
theorem FX.dev (x : FX w0 w b g h q u mb r p v z lm os cs off back taken told ts last) (t : Turned (RB h p v) w w') (rs : RS w' r g h p v lm' 0 taken' told' ts') (hl : lm'.length = lm.length) :
    FX w0 w' b g h q u mb r p v z lm' os cs off back taken' told' ts' last := by
  obtain ⟨l1, l2, l3, l4, l5, l6⟩ := x.lo
  obtain ⟨m1, m2, m3, m4, m5, m6⟩ := x.mid
  obtain ⟨h1, h2, h3⟩ := x.hi
  exact ⟨x.ks.device x.rs t rs.ps.mem hl (by omega) (by omega), rs, by rw [hl]; exact x.len, x.lo, x.mid, x.hi, x.bel.trans (t.below x.bel.size (by rintro j (e | e | e) <;> omega)), x.sh⟩
end

end Go.Proofs.YtiejcohammeoeaaGreatDoor

namespace Go.Proofs.YtiejcohammeoeaaGreatDoor
open Go.RowKit Go.Sort
set_option linter.unusedVariables false

theorem used32 : usedAt ((32 : Nat) : Int) = 580 := by decide
theorem f_offI (lm : List UInt8) (hl : lm.length = 2048) (off : Int) (o0 : 0 ≤ off) (o1 : off ≤ 65535) (k : Nat) (o : Ord) : offI (f1 lm off k o) 0 32 = (off + 1) % 65536 := by
  unfold offI f1 addL
  exact put2 _ _ _ (by omega) (by rw [putL_length, descs_length, slotL_length, hl]; decide) (by omega) (by omega)
theorem fks_head (k : Nat) : (fks k).headD 0 = 0 := by unfold fks; split <;> rfl
theorem f_offHead (lm : List UInt8) (hl : lm.length = 2048) (off : Int) (k : Nat) (o : Ord) : offHead (f1 lm off k o) 0 32 off = 0 := by
  have r0 : 0 ≤ off % ((32 : Nat) : Int) := Int.emod_nonneg _ (by decide)
  have r1 : off % ((32 : Nat) : Int) < 32 := Int.emod_lt_of_pos _ (by decide)
  unfold offHead f1 addL
  rw [put_apart _ _ _ _ _ _ (by omega), fks_head]
  exact put2 _ _ _ (by omega) (by rw [descs_length, slotL_length, hl]; omega) (by decide) (by decide)
theorem f_follow (lm : List UInt8) (hl : lm.length = 2048) (off : Int) (k : Nat) (hk : k < 5) (o : Ord) : followF (f1 lm off k o) 0 32 32 0 [] = some (chainL (shpAt k) 848) := by
  have hsl : (slotL lm 848 (shpAt k) o).length = 2048 := by rw [slotL_length, hl]
  have h := follow_add (slotL lm 848 (shpAt k) o) 0 32 (by decide) (by decide) (by decide) (by rw [used32, hsl]; decide) (by rw [hsl]; decide) off (fks k) (chainL (shpAt k) 848)
    (by rcases k with _ | _ | _ | _ | _ | k <;> first | rfl | omega) (by unfold chainL; simp) (by rcases k with _ | _ | _ | _ | _ | k <;> first | decide | omega) (fks_in k)
    (by rw [hsl]; rcases k with _ | _ | _ | _ | _ | k <;> first | omega | (intro b hb; unfold InLen; simp [chainL, shpAt, shp1, shp2, shp3, shp4, shp5] at hb; rcases hb with rfl | rfl | rfl <;> decide) | (intro b hb; unfold InLen; simp [chainL, shpAt, shp1, shp2, shp3, shp4, shp5] at hb; rcases hb with rfl | rfl <;> decide))
    (by rcases k with _ | _ | _ | _ | _ | k <;> first | decide +kernel | omega)
  rw [fks_head] at h
  exact h
theorem f_usedI (lm : List UInt8) (off : Int) (k : Nat) (o : Ord) : usedI (f1 lm off k o) 0 32 = usedI lm 0 32 := by
  unfold usedI
  rw [used32]
  unfold f1
  rw [get_add _ _ _ _ (fks_in k) _ _ (by decide)]
  unfold slotL
  rw [put_apart _ _ _ _ _ _ (by omega), get_write _ _ _ _ _ (by omega), get_write _ _ _ _ _ (by omega)]

def fT (k : Nat) (o : Ord) : Tkn := ⟨o.kind == 1, if k = 2 then 928 else 864, 928⟩
theorem f_tkn (k : Nat) (hk : k < 5) (o : Ord) : tknOf o (chainL (shpAt k) 848) = fT k o := by
  rcases k with _ | _ | _ | _ | _ | k <;> first | rfl | omega
/-- The memory behind the device's answer. -/
def f2 (lm : List UInt8) (off : Int) (k : Nat) (o : Ord) (d : ByteArray) : List UInt8 := answerL (f1 lm off k o) 0 off 0 (fT k o) true d
theorem f2_len (lm : List UInt8) (off : Int) (k : Nat) (o : Ord) (d : ByteArray) : (f2 lm off k o d).length = lm.length := by unfold f2; rw [answerL_length, f1_len]
/-- What is handed in with an answer: a sector of a read, nothing else. -/
def mayD (o : Ord) (d : ByteArray) : Prop := if o.kind = 1 then d.size = 64 else d = ⟨#[]⟩
theorem mayD_ans {k : Nat} {o : Ord} {d : ByteArray} (h : mayD o d) : mayAns (fT k o) true d = true := by
  unfold mayD at h
  unfold mayAns fT
  by_cases e : o.kind = 1
  · rw [if_pos e] at h
    simp [e, h]
  · rw [if_neg e] at h
    simp [e, h, ByteArray.toList_eq]
theorem mayD_size {o : Ord} {d : ByteArray} (h : mayD o d) : d.size ≤ 64 := by
  unfold mayD at h
  split at h
  · omega
  · rw [h]; decide

theorem f2_eq (lm : List UInt8) (off : Int) (k : Nat) (o : Ord) (d : ByteArray) : f2 lm off k o d = vdoneL (putL (writeL (f1 lm off k o) (fT k o).dat d.data.toList) (fT k o).st 1 0) 0 32 off 0 (d.size + 1) := by
  unfold f2 answerL
  rw [if_pos rfl]
theorem get_vdone (M : List UInt8) (told h n a m : Int) (ha : 848 ≤ a) : getX (vdoneL M 0 32 told h n) a m = getX M a m := by
  have r0 : 0 ≤ told % ((32 : Nat) : Int) := Int.emod_nonneg _ (by decide)
  have r1 : told % ((32 : Nat) : Int) < 32 := Int.emod_lt_of_pos _ (by decide)
  unfold vdoneL
  rw [used32, put_apart _ _ _ _ _ _ (by omega), put_apart _ _ _ _ _ _ (by omega), put_apart _ _ _ _ _ _ (by omega)]
theorem text_vdone (M : List UInt8) (told h n a m : Int) (ha : 848 ≤ a) : textS (vdoneL M 0 32 told h n) a m = textS M a m := by
  have r0 : 0 ≤ told % ((32 : Nat) : Int) := Int.emod_nonneg _ (by decide)
  have r1 : told % ((32 : Nat) : Int) < 32 := Int.emod_lt_of_pos _ (by decide)
  unfold vdoneL
  rw [used32, text_put _ _ _ _ _ _ (by omega), text_put _ _ _ _ _ _ (by omega), text_put _ _ _ _ _ _ (by omega)]
section
variable (lm : List UInt8) (hl : lm.length = 2048) (off : Int) (o0 : 0 ≤ off) (o1 : off ≤ 65534) (k : Nat) (hk : k < 5) (o : Ord) (d : ByteArray) (he : o.kind = (shpAt k).kind) (hd : mayD o d)
include hl o0 o1 hk he hd
omit o0 o1 hk he hd in
theorem f2_len1 : (putL (writeL (f1 lm off k o) (fT k o).dat d.data.toList) (fT k o).st 1 0).length = 2048 := by rw [putL_length, writeL_length, f1_len, hl]
omit hk he hd in
theorem f2_usedI : usedI (f2 lm off k o d) 0 32 = off + 1 := by
  have h := vdone_usedI (putL (writeL (f1 lm off k o) (fT k o).dat d.data.toList) (fT k o).st 1 0) 0 32 (by decide) (by decide) (by decide) (by rw [f2_len1 lm hl off k o d, used32]; decide) off 0 (d.size + 1)
  rw [f2_eq, h]
  omega
omit o0 o1 hk he hd in
theorem f2_num : usedNum (f2 lm off k o d) 0 32 off = 0 := by
  rw [f2_eq]
  exact vdone_num (putL (writeL (f1 lm off k o) (fT k o).dat d.data.toList) (fT k o).st 1 0) 0 32 (by decide) (by decide) (by decide) (by rw [f2_len1 lm hl off k o d, used32]; decide) off 0 (d.size + 1) (by decide) (by decide)
omit o0 o1 hk he in
theorem f2_ulen : usedLen (f2 lm off k o d) 0 32 off = d.size + 1 := by
  rw [f2_eq]
  exact vdone_len (putL (writeL (f1 lm off k o) (fT k o).dat d.data.toList) (fT k o).st 1 0) 0 32 (by decide) (by decide) (by decide) (by rw [f2_len1 lm hl off k o d, used32]; decide) off 0 (d.size + 1) (by omega) (by have := mayD_size hd; omega)
omit hl o0 o1 hk in
theorem f_dat : (fT k o).dat + d.data.toList.length ≤ 928 ∧ 864 ≤ (fT k o).dat := by
  have hs := mayD_size hd
  have hz : d.data.toList.length = d.size := by rw [Array.length_toList]; rfl
  unfold fT
  by_cases h2 : k = 2
  · subst h2
    have : ¬ o.kind = 1 := by rw [he]; decide
    unfold mayD at hd
    rw [if_neg this] at hd
    subst hd
    simp
  · rw [if_neg h2, hz]
    simp only
    omega
omit hk in
theorem f2_offI : offI (f2 lm off k o d) 0 32 = off + 1 := by
  obtain ⟨a1, a2⟩ := f_dat k o d he hd
  have h1 := f_offI lm hl off o0 (by omega) k o
  rw [f2_eq]
  unfold offI at h1 ⊢
  rw [vdone_before _ _ _ (by decide) (by decide) _ _ _ _ _ (by rw [used32]; decide), put_apart _ _ _ _ _ _ (by show (928 : Int) + 1 ≤ _ ∨ _ ≤ 928; omega), get_write _ _ _ _ _ (by omega), h1]
  omega
omit o0 o1 hk he hd in
theorem f2_status : ansS (f2 lm off k o d) 0 0 = 0 := by
  rw [f2_eq]
  show (getX (vdoneL (putL (writeL (f1 lm off k o) (fT k o).dat d.data.toList) 928 1 0) 0 32 off 0 (d.size + 1)) 928 1 : Int) = 0
  rw [get_vdone _ _ _ _ _ _ (by decide), put_same _ _ _ _ (by decide) (by decide) (by decide) (by rw [writeL_length, f1_len, hl]; decide)]
  rfl
omit o0 o1 in
theorem f2_text (h1 : o.kind = 1) : textS (f2 lm off k o d) 864 64 = d.data.toList := by
  have hz : d.data.toList.length = 64 := by
    unfold mayD at hd
    rw [if_pos h1] at hd
    rw [Array.length_toList]; exact hd
  have h2 : (fT k o).dat = 864 := by
    unfold fT
    rw [if_neg (by rintro rfl; rw [he] at h1; exact absurd h1 (by decide))]
  rw [f2_eq]
  show textS (vdoneL (putL (writeL (f1 lm off k o) (fT k o).dat d.data.toList) 928 1 0) 0 32 off 0 (d.size + 1)) 864 64 = _
  rw [text_vdone _ _ _ _ _ _ (by decide), text_put _ _ _ _ _ _ (by omega), h2]
  have h := text_wrote (f1 lm off k o) 864 d.data.toList (by decide) (by rw [f1_len, hl, hz]; decide)
  rw [hz] at h
  exact h
theorem f_told {y : Snt} {x : Oc} (hy : y.hd = 0) (y2 : y.kind = o.kind) (y3 : y.slot = 0) (hx : x.c = ⟨0, fks k, fmost k⟩) {l : List Dn} {os' : List Snt} {cs' : List Oc} {back' : Int} {dd : Bool} (t : Told (f2 lm off k o d) 0 [y] [x] off l os' cs' back' dd) :
    dd = false ∧ l = [⟨y.id, true, d⟩] ∧ os' = [] ∧ cs' = [] ∧ back' = off + 1 := by
  have hU := f2_usedI lm hl off o0 o1 k o d
  have hN := f2_num lm hl off k o d
  have hL := f2_ulen lm hl off k o d hd
  have hS := f2_status lm hl off k o d
  have hmost : (d.size : Int) + 1 ≤ fmost k := by
    have hd' := hd
    unfold mayD at hd'
    unfold fmost
    by_cases h0 : k = 0
    · rw [if_pos h0]
      have := mayD_size hd
      omega
    · have : ¬ o.kind = 1 := by
        rw [he]
        rcases k with _ | _ | _ | _ | _ | k <;> first | omega | decide
      rw [if_neg this] at hd'
      rw [if_neg h0, hd']
      decide
  have hA : ansF (f2 lm off k o d) 0 y (d.size + 1) = ⟨y.id, true, d⟩ := by
    unfold ansF
    rw [y3, hS, y2]
    have hd' := hd
    unfold mayD at hd'
    by_cases h1 : o.kind = 1
    · rw [if_pos h1] at hd'
      rw [if_neg (by rintro (h | ⟨_, h⟩); exact h rfl; omega), if_pos h1, show (0 : Int) + 848 + 96 * 0 + 16 = 864 from rfl, f2_text lm hl off k hk o d he hd h1]
    · rw [if_neg h1] at hd'
      rw [if_neg (by rintro (h | ⟨h, _⟩); exact h rfl; exact h1 h), if_neg h1, hd']
  generalize f2 lm off k o d = M at *
  cases t with
  | stop _ _ _ h => rw [hU] at h; omega
  | brk _ _ _ h hb =>
    rw [hU, hN, hL] at hb
    rcases hb with hb | hb | ⟨z, hz, h1, h2⟩
    · simp at hb
      omega
    · exact absurd (show x.c.head = 0 by rw [hx]) (hb x (by simp))
    · rw [List.mem_singleton] at hz
      subst hz
      rw [hx] at h2
      simp only at h2
      omega
  | step _ _ _ z hz s hs h hc hk' hyk hl' l2 _ _ _ _ r =>
    rw [List.mem_singleton] at hs
    subst hs
    rw [hN] at r
    have e1 : ([s].filter fun z : Snt => z.hd != (0 : Int)) = [] := by simp [hy]
    have e2 : ([x].filter fun z : Oc => z.c.head != (0 : Int)) = [] := by simp [hx]
    rw [e1, e2] at r
    rw [hL, hA]
    have e3 : (off + 1) % 65536 = off + 1 := by omega
    rw [e3] at r
    cases r with
    | stop _ _ _ h => exact ⟨rfl, rfl, rfl, rfl, rfl⟩
    | brk _ _ _ h hb => rw [hU] at h; exact absurd rfl h
    | step _ _ _ z hz s hs h => rw [hU] at h; exact absurd rfl h
end

end Go.Proofs.YtiejcohammeoeaaGreatDoor

namespace Go.Proofs.YtiejcohammeoeaaGreatDoor
open Go.RowKit Go.Sort
set_option linter.unusedVariables false

section
variable {w0 w : World} {b g h q u mb r p v z : Nat} {lm : List UInt8} {off : Int} {k : Nat} {o : Ord} {d : ByteArray}
/-- What Submit comes to. -/
def SubQ (w0 : World) (b g h q u mb r p v z : Nat) (lm : List UInt8) (off : Int) (k : Nat) (o : Ord) (e : Ending) (w' : World) : Prop :=
  ∃ (y : Snt) (x : Oc), e = .returned (.tuple #[.int .i64 (off + 1), .int .i64 0]) ∧ Hid (y.hd = 0 ∧ y.kind = o.kind ∧ y.slot = 0 ∧ x.c = ⟨0, fks k, fmost k⟩) ∧ Hid (FX w0 w' b g h q u mb r p v z (f1 lm off k o) [y] [x] (off + 1) off off off [] (off + 1))
theorem c_submit (x : FX w0 w b g h q u mb r p v z lm [] [] off off off off [] off) (o0 : 0 ≤ off) (o1 : off ≤ 8) (hk : k < 5) (he : o.kind = (shpAt k).kind) (hm : mayOrd 512 o = true) :
    Calls Tryz.prog 8 #[.pointer (some ⟨b, 0, none⟩), o.val] w (SubQ w0 b g h q u mb r p v z lm off k o) := by
  refine (Submit_ok w b g h q u mb lm 0 512 5 [] [] off off false off 0 false x.ks o rfl x.shp k hk he hm (by decide) rfl (by decide) (by omega)).mono ?_
  rintro e w4 ⟨y, x4, rfl, y1, y2, y3, y4, y5, y6, hx, s4, t4⟩
  have hslot : y.slot = 0 := by
    obtain ⟨a1, a2, a3⟩ := y5
    by_cases h : y.slot = 0
    · exact h
    · obtain ⟨z, hz, _⟩ := y6 0 (by omega)
      cases hz
  rw [hslot, show (0 : Int) + 848 + 96 * 0 = 848 from rfl] at hx s4
  rw [f_new k hk] at hx
  rw [hx] at s4
  have e1 : (off + 1) % 65536 = off + 1 := by omega
  rw [e1] at s4
  refine ⟨y, x4, rfl, Lib.hid ⟨by rw [y4, hx], y2, hslot, hx⟩, Lib.hid (x.drv t4 s4 ?_)⟩
  show (f1 lm off k o).length = _
  exact f1_len lm off k o

def NextQ (w0 : World) (b g h q u mb r p v z : Nat) (lm : List UInt8) (off : Int) (k : Nat) (o : Ord) (y : Snt) (x : Oc) (e : Ending) (w' : World) : Prop :=
  e = .returned (.tuple #[.int .i64 0, o.val, .int .i64 0]) ∧ Hid (FX w0 w' b g h q u mb r p v z (f1 lm off k o) [y] [x] (off + 1) off (off + 1) off [(0, fT k o)] (off + 1))
theorem c_next {y : Snt} {x4 : Oc} (x : FX w0 w b g h q u mb r p v z (f1 lm off k o) [y] [x4] (off + 1) off off off [] (off + 1)) (hl : lm.length = 2048) (o0 : 0 ≤ off) (o1 : off ≤ 8) (hk : k < 5) (he : o.kind = (shpAt k).kind) (hm : mayOrd 512 o = true) :
    Calls Tryz.prog 9 #[.pointer (some ⟨r, 0, none⟩)] w (NextQ w0 b g h q u mb r p v z lm off k o y x4) := by
  have h1 := f_offI lm hl off o0 (by omega) k o
  have hp : p ≠ 0 := by
    have := x.hi
    have := x.mid
    omega
  refine (RNext_ok w r g h p v (f1 lm off k o) 0 off off [] x.shp hp x.rs 0 (chainL (shpAt k) 848) o (by rw [h1]; omega) (by rw [h1]; omega) (Lib.hid (f_offHead lm hl off k o)) (Lib.hid (f_follow lm hl off k hk o)) (Lib.hid (f_ask lm hl off k hk o he hm)) (by simp)).mono ?_
  rintro e w5 ⟨rfl, r5, t5⟩
  have e1 : (off + 1) % 65536 = off + 1 := by omega
  rw [e1, f_tkn k hk o] at r5
  exact ⟨rfl, Lib.hid (x.dev t5 r5 rfl)⟩

def DoneQ (w0 : World) (b g h q u mb r p v z : Nat) (lm : List UInt8) (off : Int) (k : Nat) (o : Ord) (d : ByteArray) (y : Snt) (x : Oc) (e : Ending) (w' : World) : Prop :=
  e = .returned (.int .i64 0) ∧ Hid (FX w0 w' b g h q u mb r p v z (f2 lm off k o d) [y] [x] (off + 1) off (off + 1) (off + 1) [] (off + 1))
theorem c_done {y : Snt} {x4 : Oc} (x : FX w0 w b g h q u mb r p v z (f1 lm off k o) [y] [x4] (off + 1) off (off + 1) off [(0, fT k o)] (off + 1)) (o0 : 0 ≤ off) (o1 : off ≤ 8) (hd : mayD o d) :
    Calls Tryz.prog 11 #[.pointer (some ⟨r, 0, none⟩), .int .i64 0, .bool true, .string d] w (DoneQ w0 b g h q u mb r p v z lm off k o d y x4) := by
  refine (RDone_ok w r g h p v (f1 lm off k o) 0 (off + 1) off _ x.rs 0 (by decide) (by decide) (fT k o) (List.mem_singleton.2 rfl) true d (mayD_ans hd)).mono ?_
  rintro e w8 ⟨rfl, r8, t8⟩
  have e1 : (off + 1) % 65536 = off + 1 := by omega
  rw [e1] at r8
  exact ⟨rfl, Lib.hid (x.dev t8 r8 (by rw [f2_len, f1_len]))⟩
theorem c_done2 {y : Snt} {x4 : Oc} {M : List UInt8} {a c e0 f0 : Int} (x : FX w0 w b g h q u mb r p v z M [y] [x4] a c e0 f0 [] a) :
    Calls Tryz.prog 11 #[.pointer (some ⟨r, 0, none⟩), .int .i64 0, .bool true, .string d] w fun e w' => e = .returned (.int .i64 4) ∧ Hid (FX w0 w' b g h q u mb r p v z M [y] [x4] a c e0 f0 [] a) :=
  (RDone_absent w r g h p v M 0 e0 f0 [] x.rs 0 (by decide) (by simp) true d).mono fun e w' ⟨he, hk⟩ => ⟨he, Lib.hid (x.grown hk)⟩

def PollQ (w0 : World) (b g h q u mb r p v z : Nat) (lm : List UInt8) (off : Int) (k : Nat) (o : Ord) (d : ByteArray) (e : Ending) (w' : World) : Prop :=
  ∃ (gb cap : Nat), e = .returned (.slice (some ⟨gb, 0, none⟩) 1 cap) ∧ w'.cell? ⟨gb, 1, none⟩ = some (.bool true) ∧ w'.cell? ⟨gb, 2, none⟩ = some (.string d) ∧
    Hid (FX w0 w' b g h q u mb r p v z (f2 lm off k o d) [] [] (off + 1) (off + 1) (off + 1) (off + 1) [] (off + 1))
theorem c_poll {y : Snt} {x4 : Oc} (x : FX w0 w b g h q u mb r p v z (f2 lm off k o d) [y] [x4] (off + 1) off (off + 1) (off + 1) [] (off + 1)) (hl : lm.length = 2048) (o0 : 0 ≤ off) (o1 : off ≤ 8) (hk : k < 5) (he : o.kind = (shpAt k).kind) (hd : mayD o d)
    (hy : y.hd = 0 ∧ y.kind = o.kind ∧ y.slot = 0 ∧ x4.c = ⟨0, fks k, fmost k⟩) :
    Calls Tryz.prog 12 #[.pointer (some ⟨b, 0, none⟩)] w (PollQ w0 b g h q u mb r p v z lm off k o d) := by
  obtain ⟨y1, y2, y3, y4⟩ := hy
  have TT := fun l os' cs' back' dd (t : Told (f2 lm off k o d) 0 [y] [x4] off l os' cs' back' dd) => f_told lm hl off o0 (by omega) k hk o d he hd y1 y2 y3 y4 t
  refine (Poll_live w b g h q u mb (f2 lm off k o d) 0 512 5 [y] [x4] (off + 1) off (off + 1) 0 x.ks (fun l os' cs' back' dd t => (TT l os' cs' back' dd t).1)).mono ?_
  rintro e w9 ⟨lv, l, os', cs', back', rfl, ho, ht, s9, t9⟩
  obtain ⟨_, rfl, rfl, rfl, rfl⟩ := TT _ _ _ _ _ ht
  obtain ⟨gb, cap, rfl, _, _, g1, g2⟩ := own_one ho
  exact ⟨gb, cap, rfl, g1, g2, Lib.hid (x.drv t9 s9 rfl)⟩
end

end Go.Proofs.YtiejcohammeoeaaGreatDoor

namespace Go.Proofs.YtiejcohammeoeaaGreatDoor.frm
open Go.ChangeShapes Go.WideShapes Go.ChangeAt Go.RowKit Go.Sort
open Go.ChangeMaps (open_string shut_string)
set_option linter.unusedVariables false

def fM0 : List UInt8 := madeL (List.replicate (2048 : Int).toNat 0) 0
theorem fM0_len : fM0.length = 2048 := by unfold fM0; rw [madeL_length, List.length_replicate]; rfl
theorem f_bar (n : Nat) (h : n = 2048) : blkBar n 0 true = 0 := by rw [h]; decide +kernel
theorem ord_at {w1 wr : World} {ab ao len k : Nat} {l : List Ord} {c : Ord} (h : IsOrds w1 (some ⟨ab, ao, none⟩) len l) (bel : Below w1.heap.size w1 wr) (hk : k < len) (hc : l[k]? = some c) : OrdAt wr ab (ao + k * 3) c := by
  obtain ⟨b, o, c', e, h1, _, h3⟩ := (h.below bel).at_ k hk
  rw [hc] at h1
  injection h1 with h1
  injection e with e
  injection e with e1 e2
  subst h1 e1 e2
  exact h3
theorem grown_drewN (w : World) (n : Nat) : w.grownBy (w.drewN n) none := ⟨rfl, rfl, rfl, Nat.le_refl _, fun _ _ _ => rfl⟩

set_option maxRecDepth 100000 in
set_option maxHeartbeats 8000000 in
theorem walk (a0 : Option Addr) (len0 cap0 : Nat) (l0 : List Ord) (w : World) (hS : Shapes w) (ha : IsOrds w a0 len0 l0) :
    Calls Tryz.prog 3 #[.slice a0 len0 cap0] w fun e w' => e = .returned (.bool true) ∧ Below w.heap.size w w' := by
  have hlen : len0 ≤ 9223372036854775807 := by have := ha.2.1; unfold maxLen at this; omega
  have HS := Lib.hid hS
  have HA := Lib.hid ha
  clear hS ha
  go_enter Tryz.func3, Tryz.ntmps3
  go_wp2_with fail
  refine (bawake_any _ HS.out).mono ?_
  rintro e w1 ⟨rfl, b1⟩
  have B1 := Lib.hid b1
  have HA1 := Lib.hid (HA.out.below b1)
  have HS1 := Lib.hid (HS.out.kept (b1.block 0 HS.out.pos))
  clear b1 HA HS
  by_cases h8 : 8 < len0
  · go_wp2
    go_ret
    exact ⟨rfl, B1.out⟩
  go_wp2_with fail
  refine (New_ok w1 2048 (by omega) (by omega)).mono ?_
  rintro e w2 ⟨rfl, m2, k2⟩
  have z0 : (List.replicate (2048 : Int).toNat (0 : UInt8)).length = 2048 := by rw [List.length_replicate]; rfl
  have bel2 := Below.of_none k2
  have z2 := k2.size
  have HZ0 := Lib.hid z0
  clear z0
  have BC := Lib.hid (bNew_ok w2 _ _ _ m2 (by have := HZ0.out; omega) (by have := HZ0.out; omega) 0 512 5 (by rw [show ((List.replicate (2048 : Int).toNat (0 : UInt8)).length : Int) = ((2048 : Nat) : Int) from by rw [HZ0.out]]; exact f_bar _ rfl) (by omega) (by omega) (by omega) (by omega))
  go_wp2_with fail
  refine BC.out.mono ?_
  clear BC
  rintro e w3 ⟨b, q, mb, u, rfl, hb, hq, hmb, hu, s3, t3⟩
  change KS w3 b _ _ q u mb fM0 0 512 5 [] [] 0 0 false 0 0 false at s3
  have bel3 := bel2.trans (t3.below z2 (by rintro k rfl; omega))
  have z3 := t3.size
  have S3 := Lib.hid s3
  have T3 := Lib.hid bel3
  clear m2 k2 s3 t3 bel2 bel3
  have OC := Lib.hid (bOpen_ok w3 _ _ _ S3.out.qs.mem (by rw [fM0_len]; omega) (by rw [fM0_len]; omega) 0 (f_bar _ fM0_len))
  go_wp2_with fail
  refine OC.out.mono ?_
  clear OC
  rintro e w4 ⟨r, p, v, rfl, hr, hp, hv, r4, k4⟩
  have X4 : Hid (FX w1 w4 b (w1.heap.size + 1) w1.heap.size q u mb r p v w3.heap.size fM0 [] [] 0 0 0 0 [] 0) := by
    obtain ⟨l1, l2, l3, l4, l5, l6⟩ := S3.out.lts
    exact Lib.hid ⟨S3.out.grown k4, r4, fM0_len, ⟨by omega, by omega, by omega, by omega, by omega, by omega⟩, ⟨l1, l2, l3, l4, l5, l6⟩, ⟨hr, hp, hv⟩, T3.out.grown k4 T3.out.size (fun j e => by cases e), HS1.out⟩
  clear r4 k4 S3 T3 hb hq hmb hu hr hp hv z2 z3 HZ0 HS1
  rcases Nat.eq_zero_or_pos len0 with h0 | h0
  · subst h0
    go_wp2_with fail
    go_loopw [9] (fun i wr => i = .int .i64 0 ∧ Hid (Below w.heap.size w wr)) (fun _ _ => 0)
    case atStart => exact ⟨rfl, Lib.hid (B1.out.trans (X4.out.bel.mono B1.out.size))⟩
    case round =>
      obtain ⟨rfl, bl⟩ := hrel
      go_wp2
      go_ret
      exact ⟨rfl, bl.out⟩
  obtain ⟨ab, ao, _, rfl, hz1, hz2, hz3⟩ := HA1.out.at_ 0 h0
  clear hz1 hz2 hz3
  go_wp2_with fail
  go_loopw [9] (fun i wr => ∃ (k : Nat) (lm : List UInt8) (off : Int), k ≤ len0 ∧ i = .int .i64 k ∧ Hid (FX w1 wr b (w1.heap.size + 1) w1.heap.size q u mb r p v w3.heap.size lm [] [] off off off off [] off) ∧ Hid (0 ≤ off ∧ off ≤ k)) (fun i _ => len0 - (intOf i).toNat)
  case atStart => exact ⟨0, fM0, 0, Nat.zero_le _, rfl, X4, Lib.hid ⟨by omega, by omega⟩⟩
  case round =>
    obtain ⟨k, lm, off, hk, rfl, X, HO⟩ := hrel
    clear X4
    by_cases hlt : k < len0
    · obtain ⟨_, _, c, he1, hlk, hfit, he2⟩ := (HA1.out.below X.out.bel).at_ k hlt
      clear he1 he2
      have HLK := Lib.hid hlk
      have HFIT := Lib.hid hfit
      have hsz : c.data.size ≤ 9223372036854775807 := by have := hfit.2.2; unfold maxLen at this; omega
      clear hlk hfit
      obtain ⟨c0, c1, c2⟩ := ord_at HA1.out X.out.bel hlt HLK.out
      have LM := Lib.hid X.out.len
      have HO8 : Hid (0 ≤ off ∧ off ≤ 8) := Lib.hid (by have := HO.out; omega)
      by_cases hbig : 300 < c.data.size
      · go_wp2
        go_ret
        exact ⟨rfl, B1.out.trans (X.out.bel.mono B1.out.size)⟩
      · by_cases hkind : ∃ k5, k5 < 5 ∧ c.kind = (shpAt k5).kind
        · obtain ⟨k5, hk5, hk6⟩ := hkind
          have HK5 := Lib.hid hk5
          have HK6 := Lib.hid hk6
          clear hk5 hk6
          cases hm : mayOrd 512 c with
          | false =>
            have HM := Lib.hid hm
            clear hm
            have SC := Submit_arg _ b (w1.heap.size + 1) w1.heap.size q u mb lm 0 512 5 [] [] off off false off 0 false X.out.ks c rfl X.out.shp k5 HK5.out HK6.out HM.out
            unfold Ord.val at SC
            have SC := Lib.hid SC
            go_wp2_with fail
            refine SC.out.mono ?_
            clear SC
            rintro e w5 ⟨rfl, k5'⟩
            have X5 := Lib.hid (X.out.grown k5')
            clear k5' X c0 c1 c2
            go_wp2
            go_roundw
            case rel => exact ⟨k + 1, lm, off, by omega, by go_num, X5, Lib.hid (by have := HO.out; omega)⟩
            case measure => simp [intOf]; omega
          | true =>
            have HM := Lib.hid hm
            clear hm
            have SC := c_submit X.out HO8.out.1 HO8.out.2 HK5.out HK6.out HM.out
            unfold Ord.val at SC
            have SC := Lib.hid SC
            go_wp2_with fail
            refine SC.out.mono ?_
            clear SC
            rintro e w5 ⟨y, x4, rfl, HY, X5⟩
            clear X c0 c1 c2
            have NC := Lib.hid (c_next X5.out LM.out HO8.out.1 HO8.out.2 HK5.out HK6.out HM.out)
            go_wp2_with fail
            refine NC.out.mono ?_
            clear NC
            rintro e w6 ⟨rfl, X6⟩
            unfold Ord.val
            simp only
            clear X5
            have k7 := World.grownBy_alloc w6 (.cells #[.int .i64 c.kind, .int .i64 c.sec, .string c.data] 35) none
            have hob := heap_alloc_new w6 (.cells #[.int .i64 c.kind, .int .i64 c.sec, .string c.data] 35)
            have X7 := Lib.hid (X6.out.grown k7)
            clear k7 X6
            go_upto_region 20 with fail
            obtain ⟨ob, hobe⟩ : ∃ ob, ob = w6.heap.size := ⟨_, rfl⟩
            rw [← hobe] at hob ⊢
            generalize w6.alloc _ = w7 at X7 hob ⊢
            clear hobe
            obtain ⟨c0, c1, c2⟩ := ord_at HA1.out X7.out.bel hlt HLK.out
            have o0 : w7.cell? ⟨ob, 0, none⟩ = some (.int .i64 c.kind) := cell_of_block hob
            have o1 : w7.cell? ⟨ob, 1, none⟩ = some (.int .i64 c.sec) := cell_of_block hob
            have o2 : w7.cell? ⟨ob, 2, none⟩ = some (.string c.data) := cell_of_block hob
            have heq := fun w => run_eql_ord w c HFIT.out
            clear hob
            go_quiet (fail)
            have X8 := Lib.hid (X7.out.grown (grown_drewN w7 nq))
            clear X7 heq c0 c1 c2
            by_cases hk1 : c.kind = 1
            · have HD : Hid (mayD c (fullS 9)) := Lib.hid (by unfold mayD; rw [if_pos hk1, fullS_size])
              go_wp2_with fail
              refine (full_any _ 9 9 rfl).mono ?_
              rintro e w8 ⟨rfl, b8⟩
              have X8 := Lib.hid (X8.out.below b8)
              clear b8 o0 o1 o2 hk1
              obtain ⟨DD, hDD⟩ : ∃ D, D = fullS 9 := ⟨_, rfl⟩
              rw [← hDD] at HD ⊢
              clear hDD
              have DC := c_done X8.out HO8.out.1 HO8.out.2 (o := c) (k := k5) (lm := lm) (d := DD) HD.out
              have DC := Lib.hid DC
              go_wp2_with fail
              refine DC.out.mono ?_
              clear DC
              rintro e w9 ⟨rfl, X9⟩
              clear X8
              have DC := Lib.hid (c_done2 X9.out (d := DD))
              go_wp2_with fail
              refine DC.out.mono ?_
              clear DC
              rintro e w10 ⟨rfl, X10⟩
              clear X9
              have PC := Lib.hid (c_poll X10.out LM.out HO8.out.1 HO8.out.2 HK5.out HK6.out HD.out HY.out)
              go_wp2_with fail
              refine PC.out.mono ?_
              clear PC
              rintro e w11 ⟨gb, cap, rfl, g1, g2, X11⟩
              clear X10
              go_wp2
              go_roundw
              case rel => exact ⟨k + 1, f2 lm off k5 c (DD), off + 1, by omega, by go_num, X11, Lib.hid (by have := HO.out; omega)⟩
              case measure => simp [intOf]; omega
            · have HD : Hid (mayD c ⟨#[]⟩) := Lib.hid (by unfold mayD; rw [if_neg hk1])
              have e1 : (c.kind == 1) = false := by simpa using hk1
              clear hk1
              go_upto_region 25 with fail
              clear o0 o1 o2 e1
              have DC := c_done X8.out HO8.out.1 HO8.out.2 (o := c) (k := k5) (lm := lm) (d := (⟨#[]⟩ : ByteArray)) HD.out
              have DC := Lib.hid DC
              go_wp2_with fail
              refine DC.out.mono ?_
              clear DC
              rintro e w9 ⟨rfl, X9⟩
              clear X8
              have DC := Lib.hid (c_done2 X9.out (d := (⟨#[]⟩ : ByteArray)))
              go_wp2_with fail
              refine DC.out.mono ?_
              clear DC
              rintro e w10 ⟨rfl, X10⟩
              clear X9
              have PC := Lib.hid (c_poll X10.out LM.out HO8.out.1 HO8.out.2 HK5.out HK6.out HD.out HY.out)
              go_wp2_with fail
              refine PC.out.mono ?_
              clear PC
              rintro e w11 ⟨gb, cap, rfl, g1, g2, X11⟩
              clear X10
              go_wp2
              go_roundw
              case rel => exact ⟨k + 1, f2 lm off k5 c ((⟨#[]⟩ : ByteArray)), off + 1, by omega, by go_num, X11, Lib.hid (by have := HO.out; omega)⟩
              case measure => simp [intOf]; omega
        · have SC := Submit_kind _ b (w1.heap.size + 1) w1.heap.size q u mb lm 0 512 5 [] [] off off false off 0 false X.out.ks c rfl X.out.shp (fun k5 h5 e => hkind ⟨k5, h5, e⟩)
          unfold Ord.val at SC
          have SC := Lib.hid SC
          clear hkind
          go_wp2_with fail
          refine SC.out.mono ?_
          clear SC
          rintro e w5 ⟨rfl, k5'⟩
          have X5 := Lib.hid (X.out.grown k5')
          clear k5' X c0 c1 c2
          go_wp2
          go_roundw
          case rel => exact ⟨k + 1, lm, off, by omega, by go_num, X5, Lib.hid (by have := HO.out; omega)⟩
          case measure => simp [intOf]; omega
    · go_wp2
      go_ret
      exact ⟨rfl, B1.out.trans (X.out.bel.mono B1.out.size)⟩


set_option maxRecDepth 100000 in
theorem lifted (os : Os) (started : os.Started) (H : Type) (enc : TypeId × Value → H) :
    ReturnsInHanded {} Tryz.checked os 3 .any (fun w args => (Rows.vblkFormsSpec.pre enc Tryz.prog Tryz.f3 Rows.vblkFormsRow.domain false w args ∧ laidMetH Tryz.prog shapesLaid w) ∧ sizedMet enc Tryz.prog Tryz.f3 (OpenSpec.ofChange Rows.vblkFormsSpec) false w args)
      (Rows.vblkFormsSpec.post enc Tryz.prog Tryz.f3 false true false false) := by
  refine returnsInHanded_of_change_and (C := Tryz.checked) (X := fun w _ => laidMetH Tryz.prog shapesLaid w) (fun _ _ _ hh h => h.of_heap hh) own_b started (by kernel_rfl) Tryz.func3
    (ChangeSpec.witness_shaped (enc := enc) (C := Tryz.checked) (os := os) (X := fun w _ => laidMetH Tryz.prog shapesLaid w) false (World.doorLaid Tryz.prog 400 os) #[.slice none 0 0] 8 rfl (World.shaped_of_RefB (by kernel_rfl) (by kernel_rfl)) (by kernel_rfl) (by kernel_rfl) (by kernel_rfl) (door_met os _)) ?_
  intro W base args ds gs before hval0 hW _ _ hL _
  have hval : ∀ (j : Nat) t v, Tryz.f3.params[j]? = some t → args[j]? = some v → Value.okWide Tryz.prog W .any base t v := hval0
  have hW' := hW
  obtain ⟨p, q, hA0, hV, rfl, hfz, hnd⟩ := hW
  have hA : DataW.TrodAll enc Tryz.prog W 0 (fun _ => true) true Tryz.f3.params.toList args.toList ds p := hA0
  rw [Tryz.params3] at hA hval
  obtain ⟨v0, vs0, d0, ds0, p0, q0, hargs, rfl, rfl, h0, r0⟩ := trodAll_cons hA
  obtain ⟨rfl, rfl, rfl⟩ := trodAll_nil r0
  obtain rfl : args = #[v0] := by cases args; simp_all
  obtain ⟨rfl, rfl⟩ := trodVars_none hV
  obtain ⟨a0, len0, cap0, rfl⟩ := okWide_slice Tryz.underlying22 (hval 0 22 v0 rfl rfl)
  have k0 := h0
  have lt0 : ∀ x ∈ p0, x.block < W.heap.size := by obtain ⟨m, hm⟩ := k0; exact DataW.trod_lt m _ _ _ hm
  obtain ⟨l0, w0⟩ : ∃ l, IsOrds W a0 len0 l := by obtain ⟨fuel, hf⟩ := h0; exact open_ords hf
  clear hA0 hval0
  refine (walk a0 len0 cap0 l0 W (shapes_of hL) w0).mono fun e W' ⟨he, bel⟩ => ?_
  subst he
  exact ⟨_, rfl, _, _, _, [], _, [], hW', trodAll_mk1 (shut_bool Tryz.underlying4 _), (trodAll_cons_mk (Below.trod laidOut_b (by kernel_rfl) (of_decide_eq_true (by kernel_rfl)) k0 bel lt0) trodAll_mk0), rfl, bel.frame _, fun h => by cases h⟩

theorem row_holds : Rows.VblkFormsSaid :=
  OpenClaim.holds_of_wide 3 Tryz.f3 rfl rfl rfl rfl rfl rfl rfl ⟨rfl, rfl, rfl, rfl, rfl⟩ rfl rfl rfl rfl rfl (by kernel_rfl) Tryz.func3 (by kernel_rfl)
    (of_decide_eq_true (by kernel_rfl)) (by unfold Func.isWrapper; first | (rw [if_pos (by decide +kernel)]; kernel_rfl) | (rw [if_neg (by decide +kernel)]; exact ⟨rfl, rfl⟩))
    (fun os started H enc _ => lifted os started H enc)

/-- THE STATEMENT. -/
theorem proved : Rows.VblkFormsCardSaid :=
  Claim7.holds_tied_plain_at .later [] [.data] true (true, "c178550ac109648da24c671091b96899f9afca83aa5b998c12f0b11caa84a0fc") false
    row_holds (fun _ h => by cases h) (by kernel_rfl) (fun _ h => by cases h) vblkForms_row_tie rfl ⟨rfl, rfl⟩ (by kernel_rfl) rfl
    (fun f fn hf hfn => by
      obtain rfl : f = 3 := Option.some.inj ((show Tryz.prog.funcNamed "blockyard/blockyardlaw03.VblkForms" = some 3 by kernel_rfl).symm.trans hf) |>.symm
      obtain rfl : fn = Tryz.f3 := (Option.some.inj (Tryz.func3.symm.trans hfn)).symm
      exact ⟨by kernel_rfl, fun j t ht => by
        rw [Tryz.params3] at ht
        have hm : t ∈ [22] := by simpa using Array.mem_of_getElem? ht
        have hall : ([22].all fun u => !Tryz.prog.wantsStandIn u) = true := by kernel_rfl
        exact (show Tryz.prog.wantsStandIn t = false by simpa using List.all_eq_true.1 hall t hm)⟩)
    (by kernel_rfl)
#print axioms proved

end Go.Proofs.YtiejcohammeoeaaGreatDoor.frm
