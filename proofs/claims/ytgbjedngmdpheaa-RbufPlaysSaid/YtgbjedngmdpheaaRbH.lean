/-
  Layer 12: what a statement's slices read as: acts, and arrays of three small numbers; the contract of Great. No conditions.
-/
import Derived.Test.YtgbjedngmdpheaaRbG
import Derived.ProofKit
import Derived.Deep.Slices
import Derived.Deep.Fields
import Derived.ChangeSame
namespace Go.Proofs.Ytgbjedngmdpheaa
open Go.RowKit Go.ChangeShapes Go.WideShapes Go.Deep
set_option linter.unusedVariables false

/-- An act: what is done, where, whether from next on, how many bytes, the text. -/
structure Act12 where
  d : Int
  a : Int
  r : Bool
  n : Int
  s : ByteArray
def Act12.fits (c : Act12) : Prop := (Lit.int .i64 c.d).wf = true ∧ (Lit.int .u32 c.a).wf = true ∧ (Lit.int .i64 c.n).wf = true ∧ c.s.size ≤ maxLen
def ActAt (w : World) (b o : Nat) (c : Act12) : Prop :=
  w.cell? ⟨b, o, none⟩ = some (.int .i64 c.d) ∧ w.cell? ⟨b, o + 1, none⟩ = some (.int .u32 c.a) ∧ w.cell? ⟨b, o + 2, none⟩ = some (.bool c.r) ∧
    w.cell? ⟨b, o + 3, none⟩ = some (.int .i64 c.n) ∧ w.cell? ⟨b, o + 4, none⟩ = some (.string c.s)
/-- The slice reads as these acts. -/
def IsActs12 (w : World) (p : Option Addr) (len : Nat) (l : List Act12) : Prop :=
  l.length = len ∧ len ≤ maxLen ∧ (∀ c ∈ l, c.fits) ∧ (0 < len → ∃ b o, p = some ⟨b, o, none⟩ ∧ ∀ (i : Nat) (h : i < l.length), ActAt w b (o + i * 5) l[i])
theorem ActAt.block {w : World} {b o : Nat} {c : Act12} (h : ActAt w b o c) : b < w.heap.size := World.block_lt_of_cell? w ⟨b, o, none⟩ h.1
theorem ActAt.kept {w w' : World} {b o : Nat} {c : Act12} (h : ActAt w b o c) (k : w'.heap[b]? = w.heap[b]?) : ActAt w' b o c := by
  have e : ∀ q, w'.cell? ⟨b, q, none⟩ = w.cell? ⟨b, q, none⟩ := fun q => World.cell?_of_block (a := ⟨b, q, none⟩) k
  unfold ActAt
  rw [e, e, e, e, e]
  exact h
theorem IsActs12.below {w w' : World} {p : Option Addr} {len : Nat} {l : List Act12} (h : IsActs12 w p len l) (k : Below w.heap.size w w') : IsActs12 w' p len l := by
  obtain ⟨h1, h2, h3, h4⟩ := h
  refine ⟨h1, h2, h3, fun hp => ?_⟩
  obtain ⟨b, o, e, hc⟩ := h4 hp
  exact ⟨b, o, e, fun i hi => (hc i hi).kept (k.block b (hc i hi).block)⟩
theorem IsActs12.at_ {w : World} {p : Option Addr} {len : Nat} {l : List Act12} (h : IsActs12 w p len l) (i : Nat) (hi : i < len) :
    ∃ b o c, p = some ⟨b, o, none⟩ ∧ l[i]? = some c ∧ c.fits ∧ ActAt w b (o + i * 5) c := by
  obtain ⟨h1, h2, h3, h4⟩ := h
  obtain ⟨b, o, e, hc⟩ := h4 (by omega)
  have hi' : i < l.length := by omega
  exact ⟨b, o, l[i], e, List.getElem?_eq_getElem hi', h3 _ (List.getElem_mem _), hc i hi'⟩

section
variable {H : Type} {enc : TypeId × Value → H} {P : Program} {w : World} {base : Nat} {spare : Nat → Bool} {held : Bool}

/-- One field of a struct whose fields take a cell each: its cell, and that it reads. -/
theorem field_of {e : TypeId} {fs : Array Field} {a : Addr} {fuel : Nat} {cs : List Value} {x : DataW H × List MemPlace} (he : P.underlying e = some (.struct fs)) (hone : oneCellFields P fs = true) (hC : P.cellsOf e = fs.size)
    (hc : w.cells? base a (P.cellsOf e) = some cs) (ht : DataW.trod enc P w base spare held fuel e cs = some x) (j : Nat) (f : Field) (hj : fs[j]? = some f) :
    ∃ v y m, w.cell? (a.add j) = some v ∧ DataW.trod enc P w base spare held m f.type [v] = some y := by
  obtain ⟨xs, n, _, _, hlen, hxl, hf⟩ := DataW.trod_struct he ht
  obtain ⟨_, _, hcell⟩ := World.cells?_some hc
  obtain ⟨ho, hk⟩ := hone_of hone j f hj
  have hjl : j < fs.size := (Array.getElem?_eq_some_iff.1 hj).1
  have hjc : j < cs.length := by omega
  have hjx : j < xs.length := by omega
  have h1 := hf j f hj
  rw [ho, hk, List.drop_eq_getElem_cons hjc, List.take_succ_cons, List.take_zero, List.getElem?_eq_getElem hjx] at h1
  exact ⟨cs[j], xs[j], n, by rw [hcell j (by omega), List.getElem?_eq_getElem hjc], h1⟩
end

theorem add_add' (b o i j : Nat) : ((⟨b, o, none⟩ : Addr).add i).add j = ⟨b, o + i + j, none⟩ := by
  unfold Addr.add
  by_cases hi : i = 0 <;> by_cases hj : j = 0 <;> simp [hi, hj, Nat.add_assoc]
theorem add_plain (b o i : Nat) : (⟨b, o, none⟩ : Addr).add i = ⟨b, o + i, none⟩ := by
  unfold Addr.add
  by_cases hi : i = 0 <;> simp [hi]

theorem open_act {H : Type} {enc : TypeId × Value → H} {w : World} {a : Addr} {fuel : Nat} {cs : List Value} {x : DataW H × List MemPlace}
    (hc : w.cells? 0 a (Try.prog.cellsOf 38) = some cs) (ht : DataW.trod enc Try.prog w 0 (fun _ => true) true fuel 38 cs = some x) :
    ∃ c : Act12, c.fits ∧ a.spot = none ∧ ActAt w a.block a.off c := by
  have hu := Try.underlying38
  obtain ⟨v0, y0, m0, c0, t0⟩ := field_of hu (by kernel_rfl) (by kernel_rfl) hc ht 0 _ rfl
  obtain ⟨v1, y1, m1, c1, t1⟩ := field_of hu (by kernel_rfl) (by kernel_rfl) hc ht 1 _ rfl
  obtain ⟨v2, y2, m2, c2, t2⟩ := field_of hu (by kernel_rfl) (by kernel_rfl) hc ht 2 _ rfl
  obtain ⟨v3, y3, m3, c3, t3⟩ := field_of hu (by kernel_rfl) (by kernel_rfl) hc ht 3 _ rfl
  obtain ⟨v4, y4, m4, c4, t4⟩ := field_of hu (by kernel_rfl) (by kernel_rfl) hc ht 4 _ rfl
  obtain ⟨n0, e0, _, w0⟩ := DataW.trod_int Try.underlying3 t0
  obtain ⟨n1, e1, _, w1⟩ := DataW.trod_int Try.underlying26 t1
  obtain ⟨n2, e2, _⟩ := DataW.trod_bool Try.underlying4 t2
  obtain ⟨n3, e3, _, w3⟩ := DataW.trod_int Try.underlying3 t3
  obtain ⟨n4, e4, _, w4⟩ := DataW.trod_string Try.underlying9 t4
  simp only [List.cons.injEq, and_true] at e0 e1 e2 e3 e4
  subst e0 e1 e2 e3 e4
  obtain ⟨b, o, sp⟩ := a
  have hs : sp = none := by simpa [Addr.add] using World.cell?_spot c0
  subst hs
  rw [add_plain] at c0 c1 c2 c3 c4
  exact ⟨⟨n0, n1, n2, n3, n4⟩, ⟨w0, w1, w3, w4⟩, rfl, c0, c1, c2, c3, c4⟩
theorem open_acts12 {H : Type} {enc : TypeId × Value → H} {w : World} {p : Option Addr} {len cap fuel : Nat} {x : DataW H × List MemPlace}
    (h : DataW.trod enc Try.prog w 0 (fun _ => true) true fuel 32 (Value.slice p len cap).cells.toList = some x) : ∃ l, IsActs12 w p len l := by
  rcases open_slice Try.underlying32 h with ⟨hcs, _⟩ | ⟨a, len', cap', m, n, D, Pl, hcs, _, hl, hm, hmm, _, hi⟩
  · simp [Value.cells] at hcs
    obtain ⟨rfl, rfl, rfl⟩ := hcs
    exact ⟨[], rfl, Nat.zero_le _, by simp, fun h => absurd h (by omega)⟩
  · simp [Value.cells] at hcs
    obtain ⟨rfl, rfl, rfl⟩ := hcs
    have hm' : m = cap := by simpa using hmm
    have hi' : ∀ i, i < len → ∃ c : Act12, c.fits ∧ (a.add (i * 5)).spot = none ∧ ActAt w (a.add (i * 5)).block (a.add (i * 5)).off c := by
      intro i hlt
      obtain ⟨cs', hc, ht⟩ := hi i (by omega)
      have e5 : Try.prog.cellsOf 38 = 5 := by kernel_rfl
      have h5 : i * Try.prog.cellsOf 38 = i * 5 := by rw [e5]
      rw [h5] at hc
      exact open_act hc ht
    have hch := fun i : Fin len => hi' i.1 i.2
    obtain ⟨f, hf⟩ := Classical.axiomOfChoice hch
    refine ⟨List.ofFn f, by simp, by omega, ?_, ?_⟩
    · intro c hc
      obtain ⟨i, rfl⟩ := (List.mem_ofFn).1 hc
      exact (hf i).1
    · intro hpos
      obtain ⟨b, o, sp⟩ := a
      have h0 := (hf ⟨0, hpos⟩).2.1
      have hs : sp = none := by simpa [Addr.add] using h0
      subst hs
      refine ⟨b, o, rfl, fun i hlt => ?_⟩
      have hlt' : i < len := by simpa using hlt
      have h1 := (hf ⟨i, hlt'⟩).2.2
      rw [add_plain] at h1
      simpa using h1


section
variable {H : Type} {enc : TypeId × Value → H} {P : Program} {w : World} {base : Nat} {spare : Nat → Bool} {held : Bool}
theorem mapM_mem {α β : Type} {g : α → Option β} : ∀ {L : List α} {ys : List β}, L.mapM g = some ys → ∀ x ∈ L, ∃ y, g x = some y
  | [], _, _, _, hx => by cases hx
  | a :: L, ys, h, x, hx => by
    rw [List.mapM_cons] at h
    cases ha : g a with
    | none => simp [ha] at h
    | some y =>
      cases hL : L.mapM g with
      | none => simp [ha, hL] at h
      | some zs =>
        rcases List.mem_cons.1 hx with rfl | hx
        · exact ⟨y, ha⟩
        · exact mapM_mem hL x hx
theorem trod_arr {t e : TypeId} {n fuel : Nat} {cs : List Value} {x : DataW H × List MemPlace} (ht : P.underlying t = some (.array n e)) (h : DataW.trod enc P w base spare held fuel t cs = some x) :
    ∃ m, cs.length = P.cellsOf t ∧ ∀ i, i < n → ∃ y, DataW.trod enc P w base spare held m e ((cs.drop (i * P.cellsOf e)).take (P.cellsOf e)) = some y := by
  cases fuel with
  | zero => simp [DataW.trod] at h
  | succ m =>
    unfold DataW.trod at h
    rw [ht] at h
    have h2 : (if cs.length = P.cellsOf t then ((List.range n).mapM fun i => DataW.trod enc P w base spare held m e ((cs.drop (i * P.cellsOf e)).take (P.cellsOf e))).map fun xs => (DataW.agg (xs.map (·.1)), xs.flatMap (·.2)) else none) = some x := by
      split at h <;> simp_all
    by_cases hl : cs.length = P.cellsOf t
    · rw [if_pos hl] at h2
      obtain ⟨ys, hm, _⟩ := Option.map_eq_some_iff.1 h2
      exact ⟨m, hl, fun i hi => mapM_mem hm i (List.mem_range.2 hi)⟩
    · rw [if_neg hl] at h2
      cases h2
end
/-- Three small numbers. -/
structure Tri where
  a : Int
  b : Int
  c : Int
def Tri.fits (c : Tri) : Prop := (0 ≤ c.a ∧ c.a < 65536) ∧ (0 ≤ c.b ∧ c.b < 65536) ∧ (0 ≤ c.c ∧ c.c < 65536)
def TriAt (w : World) (b o : Nat) (c : Tri) : Prop :=
  w.cell? ⟨b, o, none⟩ = some (.int .u16 c.a) ∧ w.cell? ⟨b, o + 1, none⟩ = some (.int .u16 c.b) ∧ w.cell? ⟨b, o + 2, none⟩ = some (.int .u16 c.c)
def IsTris (w : World) (p : Option Addr) (len : Nat) (l : List Tri) : Prop :=
  l.length = len ∧ len ≤ maxLen ∧ (∀ c ∈ l, c.fits) ∧ (0 < len → ∃ b o, p = some ⟨b, o, none⟩ ∧ ∀ (i : Nat) (h : i < l.length), TriAt w b (o + i * 3) l[i])
theorem TriAt.block {w : World} {b o : Nat} {c : Tri} (h : TriAt w b o c) : b < w.heap.size := World.block_lt_of_cell? w ⟨b, o, none⟩ h.1
theorem TriAt.kept {w w' : World} {b o : Nat} {c : Tri} (h : TriAt w b o c) (k : w'.heap[b]? = w.heap[b]?) : TriAt w' b o c := by
  have e : ∀ q, w'.cell? ⟨b, q, none⟩ = w.cell? ⟨b, q, none⟩ := fun q => World.cell?_of_block (a := ⟨b, q, none⟩) k
  unfold TriAt
  rw [e, e, e]
  exact h
theorem IsTris.below {w w' : World} {p : Option Addr} {len : Nat} {l : List Tri} (h : IsTris w p len l) (k : Below w.heap.size w w') : IsTris w' p len l := by
  obtain ⟨h1, h2, h3, h4⟩ := h
  refine ⟨h1, h2, h3, fun hp => ?_⟩
  obtain ⟨b, o, e, hc⟩ := h4 hp
  exact ⟨b, o, e, fun i hi => (hc i hi).kept (k.block b (hc i hi).block)⟩
theorem IsTris.at_ {w : World} {p : Option Addr} {len : Nat} {l : List Tri} (h : IsTris w p len l) (i : Nat) (hi : i < len) :
    ∃ b o c, p = some ⟨b, o, none⟩ ∧ l[i]? = some c ∧ c.fits ∧ TriAt w b (o + i * 3) c := by
  obtain ⟨h1, h2, h3, h4⟩ := h
  obtain ⟨b, o, e, hc⟩ := h4 (by omega)
  have hi' : i < l.length := by omega
  exact ⟨b, o, l[i], e, List.getElem?_eq_getElem hi', h3 _ (List.getElem_mem _), hc i hi'⟩
theorem wf_u16 {n : Int} (h : (Lit.int .u16 n).wf = true) : 0 ≤ n ∧ n < 65536 := by
  have : 0 ≤ n ∧ n ≤ 65535 := by simpa [Lit.wf, IntKind.min, IntKind.max, IntKind.signed, IntKind.bits] using h
  omega
theorem u16_in {H : Type} {enc : TypeId × Value → H} {w : World} {m : Nat} {v : Value} {y : DataW H × List MemPlace} (h : DataW.trod enc Try.prog w 0 (fun _ => true) true m 48 [v] = some y) : ∃ x : Int, v = .int .u16 x ∧ 0 ≤ x ∧ x < 65536 := by
  obtain ⟨n, hn, _, hw⟩ := DataW.trod_int Try.underlying48 h
  simp only [List.cons.injEq, and_true] at hn
  exact ⟨n, hn, wf_u16 hw⟩
theorem open_tri {H : Type} {enc : TypeId × Value → H} {w : World} {a : Addr} {fuel : Nat} {cs : List Value} {x : DataW H × List MemPlace}
    (hc : w.cells? 0 a (Try.prog.cellsOf 50) = some cs) (ht : DataW.trod enc Try.prog w 0 (fun _ => true) true fuel 50 cs = some x) :
    ∃ c : Tri, c.fits ∧ a.spot = none ∧ TriAt w a.block a.off c := by
  obtain ⟨m, hl, hg⟩ := trod_arr Try.underlying50 ht
  obtain ⟨_, _, hcell⟩ := World.cells?_some hc
  have e3 : Try.prog.cellsOf 50 = 3 := by kernel_rfl
  have e1 : Try.prog.cellsOf 48 = 1 := by kernel_rfl
  rw [e3] at hl hcell
  rw [e1] at hg
  match cs, hl with
  | [v0, v1, v2], _ =>
    obtain ⟨_, g0⟩ := hg 0 (by decide)
    obtain ⟨_, g1⟩ := hg 1 (by decide)
    obtain ⟨_, g2⟩ := hg 2 (by decide)
    obtain ⟨x0, rfl, w0⟩ := u16_in (v := v0) g0
    obtain ⟨x1, rfl, w1⟩ := u16_in (v := v1) g1
    obtain ⟨x2, rfl, w2⟩ := u16_in (v := v2) g2
    have c0 := hcell 0 (by decide)
    have c1 := hcell 1 (by decide)
    have c2 := hcell 2 (by decide)
    obtain ⟨b, o, sp⟩ := a
    have hs : sp = none := by simpa [Addr.add] using World.cell?_spot c0
    subst hs
    rw [add_plain] at c0 c1 c2
    exact ⟨⟨x0, x1, x2⟩, ⟨w0, w1, w2⟩, rfl, c0, c1, c2⟩
theorem open_tris {H : Type} {enc : TypeId × Value → H} {w : World} {p : Option Addr} {len cap fuel : Nat} {x : DataW H × List MemPlace}
    (h : DataW.trod enc Try.prog w 0 (fun _ => true) true fuel 49 (Value.slice p len cap).cells.toList = some x) : ∃ l, IsTris w p len l := by
  rcases open_slice Try.underlying49 h with ⟨hcs, _⟩ | ⟨a, len', cap', m, n, D, Pl, hcs, _, hl, hm, hmm, _, hi⟩
  · simp [Value.cells] at hcs
    obtain ⟨rfl, rfl, rfl⟩ := hcs
    exact ⟨[], rfl, Nat.zero_le _, by simp, fun h => absurd h (by omega)⟩
  · simp [Value.cells] at hcs
    obtain ⟨rfl, rfl, rfl⟩ := hcs
    have hm' : m = cap := by simpa using hmm
    have hi' : ∀ i, i < len → ∃ c : Tri, c.fits ∧ (a.add (i * 3)).spot = none ∧ TriAt w (a.add (i * 3)).block (a.add (i * 3)).off c := by
      intro i hlt
      obtain ⟨cs', hc, ht⟩ := hi i (by omega)
      have e3 : Try.prog.cellsOf 50 = 3 := by kernel_rfl
      have h3q : i * Try.prog.cellsOf 50 = i * 3 := by rw [e3]
      rw [h3q] at hc
      exact open_tri hc ht
    have hch := fun i : Fin len => hi' i.1 i.2
    obtain ⟨f, hf⟩ := Classical.axiomOfChoice hch
    refine ⟨List.ofFn f, by simp, by omega, ?_, ?_⟩
    · intro c hc
      obtain ⟨i, rfl⟩ := (List.mem_ofFn).1 hc
      exact (hf i).1
    · intro hpos
      obtain ⟨b, o, sp⟩ := a
      have h0 := (hf ⟨0, hpos⟩).2.1
      have hs : sp = none := by simpa [Addr.add] using h0
      subst hs
      refine ⟨b, o, rfl, fun i hlt => ?_⟩
      have hlt' : i < len := by simpa using hlt
      have h1 := (hf ⟨i, hlt'⟩).2.2
      rw [add_plain] at h1
      simpa using h1


end Go.Proofs.Ytgbjedngmdpheaa
