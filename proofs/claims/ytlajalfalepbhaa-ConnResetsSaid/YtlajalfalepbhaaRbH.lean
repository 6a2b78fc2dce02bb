/-
  Layer 12: what a statement's slices read as: acts, and arrays of three small numbers; the contract of Great. No conditions.
-/
import Derived.Test.YtlajalfalepbhaaRbG
import Derived.ProofKit
import Derived.Deep.Slices
import Derived.Deep.Fields
import Derived.ChangeSame
namespace Go.Proofs.Ytlajalfalepbhaa
open Go.RowKit Go.ChangeShapes Go.WideShapes Go.Deep
set_option linter.unusedVariables false

/-- An act: what is done, where, whether from next on, how many bytes, the text. -/
structure Act12 where
  d : Int
  a : Int
  r : Bool
  n : Int
  s : ByteArray
def Act12.fits (c : Act12) : Prop := (Lit.int .i64 c.d).wf = true ∧ (Lit.int .u32 c.a).wf = true ∧ (Lit.int .i64 c.n).wf = true ∧ c.s.size ≤ maxLen
def ActAt (w : World) (b o : Nat) (c : Act12) : Prop :=
  w.cell? ⟨b, o, none⟩ = some (.int .i64 c.d) ∧ w.cell? ⟨b, o + 1, none⟩ = some (.int .u32 c.a) ∧ w.cell? ⟨b, o + 2, none⟩ = some (.bool c.r) ∧
    w.cell? ⟨b, o + 3, none⟩ = some (.int .i64 c.n) ∧ w.cell? ⟨b, o + 4, none⟩ = some (.string c.s)
/-- The slice reads as these acts. -/
def IsActs12 (w : World) (p : Option Addr) (len : Nat) (l : List Act12) : Prop :=
  l.length = len ∧ len ≤ maxLen ∧ (∀ c ∈ l, c.fits) ∧ (0 < len → ∃ b o, p = some ⟨b, o, none⟩ ∧ ∀ (i : Nat) (h : i < l.length), ActAt w b (o + i * 5) l[i])
theorem ActAt.block {w : World} {b o : Nat} {c : Act12} (h : ActAt w b o c) : b < w.heap.size := World.block_lt_of_cell? w ⟨b, o, none⟩ h.1
theorem ActAt.kept {w w' : World} {b o : Nat} {c : Act12} (h : ActAt w b o c) (k : w'.heap[b]? = w.heap[b]?) : ActAt w' b o c := by
  have e : ∀ q, w'.cell? ⟨b, q, none⟩ = w.cell? ⟨b, q, none⟩ := fun q => World.cell?_of_block (a := ⟨b, q, none⟩) k
  unfold ActAt
  rw [e, e, e, e, e]
  exact h
theorem IsActs12.below {w w' : World} {p : Option Addr} {len : Nat} {l : List Act12} (h : IsActs12 w p len l) (k : Below w.heap.size w w') : IsActs12 w' p len l := by
  obtain ⟨h1, h2, h3, h4⟩ := h
  refine ⟨h1, h2, h3, fun hp => ?_⟩
  obtain ⟨b, o, e, hc⟩ := h4 hp
  exact ⟨b, o, e, fun i hi => (hc i hi).kept (k.block b (hc i hi).block)⟩
theorem IsActs12.at_ {w : World} {p : Option Addr} {len : Nat} {l : List Act12} (h : IsActs12 w p len l) (i : Nat) (hi : i < len) :
    ∃ b o c, p = some ⟨b, o, none⟩ ∧ l[i]? = some c ∧ c.fits ∧ ActAt w b (o + i * 5) c := by
  obtain ⟨h1, h2, h3, h4⟩ := h
  obtain ⟨b, o, e, hc⟩ := h4 (by omega)
  have hi' : i < l.length := by omega
  exact ⟨b, o, l[i], e, List.getElem?_eq_getElem hi', h3 _ (List.getElem_mem _), hc i hi'⟩

section
variable {H : Type} {enc : TypeId × Value → H} {P : Program} {w : World} {base : Nat} {spare : Nat → Bool} {held : Bool}

/-- One field of a struct whose fields take a cell each: its cell, and that it reads. -/
theorem field_of {e : TypeId} {fs : Array Field} {a : Addr} {fuel : Nat} {cs : List Value} {x : DataW H × List MemPlace} (he : P.underlying e = some (.struct fs)) (hone : oneCellFields P fs = true) (hC : P.cellsOf e = fs.size)
    (hc : w.cells? base a (P.cellsOf e) = some cs) (ht : DataW.trod enc P w base spare held fuel e cs = some x) (j : Nat) (f : Field) (hj : fs[j]? = some f) :
    ∃ v y m, w.cell? (a.add j) = some v ∧ DataW.trod enc P w base spare held m f.type [v] = some y := by
  obtain ⟨xs, n, _, _, hlen, hxl, hf⟩ := DataW.trod_struct he ht
  obtain ⟨_, _, hcell⟩ := World.cells?_some hc
  obtain ⟨ho, hk⟩ := hone_of hone j f hj
  have hjl : j < fs.size := (Array.getElem?_eq_some_iff.1 hj).1
  have hjc : j < cs.length := by omega
  have hjx : j < xs.length := by omega
  have h1 := hf j f hj
  rw [ho, hk, List.drop_eq_getElem_cons hjc, List.take_succ_cons, List.take_zero, List.getElem?_eq_getElem hjx] at h1
  exact ⟨cs[j], xs[j], n, by rw [hcell j (by omega), List.getElem?_eq_getElem hjc], h1⟩
end

theorem add_add' (b o i j : Nat) : ((⟨b, o, none⟩ : Addr).add i).add j = ⟨b, o + i + j, none⟩ := by
  unfold Addr.add
  by_cases hi : i = 0 <;> by_cases hj : j = 0 <;> simp [hi, hj, Nat.add_assoc]
theorem add_plain (b o i : Nat) : (⟨b, o, none⟩ : Addr).add i = ⟨b, o + i, none⟩ := by
  unfold Addr.add
  by_cases hi : i = 0 <;> simp [hi]



section
variable {H : Type} {enc : TypeId × Value → H} {P : Program} {w : World} {base : Nat} {spare : Nat → Bool} {held : Bool}
theorem mapM_mem {α β : Type} {g : α → Option β} : ∀ {L : List α} {ys : List β}, L.mapM g = some ys → ∀ x ∈ L, ∃ y, g x = some y
  | [], _, _, _, hx => by cases hx
  | a :: L, ys, h, x, hx => by
    rw [List.mapM_cons] at h
    cases ha : g a with
    | none => simp [ha] at h
    | some y =>
      cases hL : L.mapM g with
      | none => simp [ha, hL] at h
      | some zs =>
        rcases List.mem_cons.1 hx with rfl | hx
        · exact ⟨y, ha⟩
        · exact mapM_mem hL x hx
theorem trod_arr {t e : TypeId} {n fuel : Nat} {cs : List Value} {x : DataW H × List MemPlace} (ht : P.underlying t = some (.array n e)) (h : DataW.trod enc P w base spare held fuel t cs = some x) :
    ∃ m, cs.length = P.cellsOf t ∧ ∀ i, i < n → ∃ y, DataW.trod enc P w base spare held m e ((cs.drop (i * P.cellsOf e)).take (P.cellsOf e)) = some y := by
  cases fuel with
  | zero => simp [DataW.trod] at h
  | succ m =>
    unfold DataW.trod at h
    rw [ht] at h
    have h2 : (if cs.length = P.cellsOf t then ((List.range n).mapM fun i => DataW.trod enc P w base spare held m e ((cs.drop (i * P.cellsOf e)).take (P.cellsOf e))).map fun xs => (DataW.agg (xs.map (·.1)), xs.flatMap (·.2)) else none) = some x := by
      split at h <;> simp_all
    by_cases hl : cs.length = P.cellsOf t
    · rw [if_pos hl] at h2
      obtain ⟨ys, hm, _⟩ := Option.map_eq_some_iff.1 h2
      exact ⟨m, hl, fun i hi => mapM_mem hm i (List.mem_range.2 hi)⟩
    · rw [if_neg hl] at h2
      cases h2
end
/-- Three small numbers. -/
structure Tri where
  a : Int
  b : Int
  c : Int
def Tri.fits (c : Tri) : Prop := (0 ≤ c.a ∧ c.a < 65536) ∧ (0 ≤ c.b ∧ c.b < 65536) ∧ (0 ≤ c.c ∧ c.c < 65536)
def TriAt (w : World) (b o : Nat) (c : Tri) : Prop :=
  w.cell? ⟨b, o, none⟩ = some (.int .u16 c.a) ∧ w.cell? ⟨b, o + 1, none⟩ = some (.int .u16 c.b) ∧ w.cell? ⟨b, o + 2, none⟩ = some (.int .u16 c.c)
def IsTris (w : World) (p : Option Addr) (len : Nat) (l : List Tri) : Prop :=
  l.length = len ∧ len ≤ maxLen ∧ (∀ c ∈ l, c.fits) ∧ (0 < len → ∃ b o, p = some ⟨b, o, none⟩ ∧ ∀ (i : Nat) (h : i < l.length), TriAt w b (o + i * 3) l[i])
theorem TriAt.block {w : World} {b o : Nat} {c : Tri} (h : TriAt w b o c) : b < w.heap.size := World.block_lt_of_cell? w ⟨b, o, none⟩ h.1
theorem TriAt.kept {w w' : World} {b o : Nat} {c : Tri} (h : TriAt w b o c) (k : w'.heap[b]? = w.heap[b]?) : TriAt w' b o c := by
  have e : ∀ q, w'.cell? ⟨b, q, none⟩ = w.cell? ⟨b, q, none⟩ := fun q => World.cell?_of_block (a := ⟨b, q, none⟩) k
  unfold TriAt
  rw [e, e, e]
  exact h
theorem IsTris.below {w w' : World} {p : Option Addr} {len : Nat} {l : List Tri} (h : IsTris w p len l) (k : Below w.heap.size w w') : IsTris w' p len l := by
  obtain ⟨h1, h2, h3, h4⟩ := h
  refine ⟨h1, h2, h3, fun hp => ?_⟩
  obtain ⟨b, o, e, hc⟩ := h4 hp
  exact ⟨b, o, e, fun i hi => (hc i hi).kept (k.block b (hc i hi).block)⟩
theorem IsTris.at_ {w : World} {p : Option Addr} {len : Nat} {l : List Tri} (h : IsTris w p len l) (i : Nat) (hi : i < len) :
    ∃ b o c, p = some ⟨b, o, none⟩ ∧ l[i]? = some c ∧ c.fits ∧ TriAt w b (o + i * 3) c := by
  obtain ⟨h1, h2, h3, h4⟩ := h
  obtain ⟨b, o, e, hc⟩ := h4 (by omega)
  have hi' : i < l.length := by omega
  exact ⟨b, o, l[i], e, List.getElem?_eq_getElem hi', h3 _ (List.getElem_mem _), hc i hi'⟩
theorem wf_u16 {n : Int} (h : (Lit.int .u16 n).wf = true) : 0 ≤ n ∧ n < 65536 := by
  have : 0 ≤ n ∧ n ≤ 65535 := by simpa [Lit.wf, IntKind.min, IntKind.max, IntKind.signed, IntKind.bits] using h
  omega


end Go.Proofs.Ytlajalfalepbhaa
