/-
  The arguments of the statements of package virtq: slices of buffers, of such slices, and of acts, as they lie. No conditions.
-/
import Derived.Test.YtdchlnffbiooaaaGreatDoorBufs
import Derived.ProofKit
import Derived.Deep.Slices
import Derived.Deep.Fields
import Derived.ChangeSame
namespace Go.Proofs.YtdchlnffbiooaaaGreatDoor
open Go.RowKit Go.ChangeShapes Go.WideShapes Go.Deep

theorem vadd_plain (b o i : Nat) : (⟨b, o, none⟩ : Addr).add i = ⟨b, o + i, none⟩ := by
  unfold Addr.add
  by_cases hi : i = 0 <;> simp [hi]

/-- A row of elements lies: each as 'At' says. -/
def RowAt {α : Type} (At : Nat → Nat → α → Prop) (c : Nat) (v : Value) (l : List α) : Prop :=
  ∃ (p : Option Addr) (cap : Nat), v = .slice p l.length cap ∧ l.length ≤ maxLen ∧ (0 < l.length → ∃ b o, p = some ⟨b, o, none⟩ ∧ ∀ (i : Nat) (h : i < l.length), At b (o + i * c) l[i])

theorem RowAt.mono {α : Type} {A B : Nat → Nat → α → Prop} {c : Nat} {v : Value} {l : List α} (h : RowAt A c v l) (k : ∀ b o x, x ∈ l → A b o x → B b o x) : RowAt B c v l := by
  obtain ⟨p, cap, rfl, hm, hc⟩ := h
  refine ⟨p, cap, rfl, hm, fun hp => ?_⟩
  obtain ⟨b, o, rfl, hi⟩ := hc hp
  exact ⟨b, o, rfl, fun i h => k _ _ _ (List.getElem_mem _) (hi i h)⟩
theorem RowAt.form {α : Type} {A : Nat → Nat → α → Prop} {c : Nat} {v : Value} {l : List α} (h : RowAt A c v l) : ∃ p cap, v = .slice p l.length cap ∧ l.length ≤ maxLen := by obtain ⟨p, cap, h1, h2, _⟩ := h; exact ⟨p, cap, h1, h2⟩
theorem RowAt.at_ {α : Type} {A : Nat → Nat → α → Prop} {c : Nat} {p : Option Addr} {len cap : Nat} {l : List α} (h : RowAt A c (.slice p len cap) l) (i : Nat) (hi : i < l.length) :
    ∃ b o x, p = some ⟨b, o, none⟩ ∧ l[i]? = some x ∧ A b (o + i * c) x := by
  obtain ⟨p', cap', e, hl, hc⟩ := h
  injection e with e1 e2 e3
  subst e1
  obtain ⟨b, o, rfl, hi'⟩ := hc (by omega)
  exact ⟨b, o, l[i], rfl, List.getElem?_eq_getElem hi, hi' i hi⟩

section
variable {H : Type} {enc : TypeId × Value → H} {P : Program} {w : World}

theorem open_row {α : Type} {At : Nat → Nat → α → Prop} {t e : TypeId} {c fuel : Nat} {v : Value} {x : DataW H × List MemPlace} (ht : P.underlying t = some (.slice e)) (hC : P.cellsOf e = c)
    (ho : ∀ (a : Addr) (fuel : Nat) (cs : List Value) (x : DataW H × List MemPlace), w.cells? 0 a (P.cellsOf e) = some cs → DataW.trod enc P w 0 (fun _ => true) true fuel e cs = some x → ∃ y : α, a.spot = none ∧ At a.block a.off y)
    (h : DataW.trod enc P w 0 (fun _ => true) true fuel t [v] = some x) : ∃ l, RowAt At c v l := by
  rcases open_slice ht h with ⟨hcs, _⟩ | ⟨a, len, cap, m, n, D, Pl, hcs, _, hl, hm, hmm, _, hi⟩
  · simp at hcs
    subst hcs
    exact ⟨[], none, 0, rfl, Nat.zero_le _, fun h => absurd h (by simp)⟩
  · simp at hcs
    subst hcs
    have hm' : m = cap := by simpa using hmm
    have hi' : ∀ i, i < len → ∃ y : α, (a.add (i * c)).spot = none ∧ At (a.add (i * c)).block (a.add (i * c)).off y := by
      intro i hlt
      obtain ⟨cs', hc, htr⟩ := hi i (by omega)
      rw [show i * P.cellsOf e = i * c by rw [hC]] at hc
      exact ho _ _ _ _ hc htr
    have hch := fun i : Fin len => hi' i.1 i.2
    obtain ⟨f, hf⟩ := Classical.axiomOfChoice hch
    refine ⟨List.ofFn f, some a, cap, by simp, by simp; omega, fun hpos => ?_⟩
    have hpos' : 0 < len := by simpa using hpos
    obtain ⟨b, o, sp⟩ := a
    have h0 := (hf ⟨0, hpos'⟩).1
    have hs : sp = none := by simpa [Addr.add] using h0
    subst hs
    refine ⟨b, o, rfl, fun i hlt => ?_⟩
    have hlt' : i < len := by simpa using hlt
    have h1 := (hf ⟨i, hlt'⟩).2
    rw [vadd_plain] at h1
    simpa using h1

/-- One field of a struct whose fields take a cell each. -/
theorem vfield_of {e : TypeId} {fs : Array Field} {a : Addr} {fuel : Nat} {cs : List Value} {x : DataW H × List MemPlace} (he : P.underlying e = some (.struct fs)) (hone : oneCellFields P fs = true) (hC : P.cellsOf e = fs.size)
    (hc : w.cells? 0 a (P.cellsOf e) = some cs) (ht : DataW.trod enc P w 0 (fun _ => true) true fuel e cs = some x) (j : Nat) (f : Field) (hj : fs[j]? = some f) :
    ∃ v y m, w.cell? (a.add j) = some v ∧ DataW.trod enc P w 0 (fun _ => true) true m f.type [v] = some y := by
  obtain ⟨xs, n, _, _, hlen, hxl, hf⟩ := DataW.trod_struct he ht
  obtain ⟨_, _, hcell⟩ := World.cells?_some hc
  obtain ⟨ho, hk⟩ := hone_of hone j f hj
  have hjl : j < fs.size := (Array.getElem?_eq_some_iff.1 hj).1
  have hjc : j < cs.length := by omega
  have hjx : j < xs.length := by omega
  have h1 := hf j f hj
  rw [ho, hk, List.drop_eq_getElem_cons hjc, List.take_succ_cons, List.take_zero, List.getElem?_eq_getElem hjx] at h1
  exact ⟨cs[j], xs[j], n, by rw [hcell j (by omega), List.getElem?_eq_getElem hjc], h1⟩
end

/-- The numbers of a buffer fit their kinds. -/
def Bf.fits (x : Bf) : Prop := (Lit.int .i64 x.a).wf = true ∧ (Lit.int .i64 x.n).wf = true
/-- A buffer lies. -/
def BufAt (w : World) (b o : Nat) (x : Bf) : Prop := x.fits ∧ w.cell? ⟨b, o, none⟩ = some (.int .i64 x.a) ∧ w.cell? ⟨b, o + 1, none⟩ = some (.int .i64 x.n) ∧ w.cell? ⟨b, o + 2, none⟩ = some (.bool x.wr)
theorem BufAt.below {w w' : World} {b o : Nat} {x : Bf} (h : BufAt w b o x) (k : Below w.heap.size w w') : BufAt w' b o x := by
  obtain ⟨h0, h1, h2, h3⟩ := h
  have hb : b < w.heap.size := World.block_lt_of_cell? w ⟨b, o, none⟩ h1
  have e : ∀ q, w'.cell? ⟨b, q, none⟩ = w.cell? ⟨b, q, none⟩ := fun q => World.cell?_of_block (a := ⟨b, q, none⟩) (k.block b hb)
  exact ⟨h0, by rw [e]; exact h1, by rw [e]; exact h2, by rw [e]; exact h3⟩

/-- A slice of buffers that came in: of any length. -/
def BufRow (w : World) (v : Value) (l : List Bf) : Prop := RowAt (BufAt w) 3 v l
theorem BufRow.below {w w' : World} {v : Value} {l : List Bf} (h : BufRow w v l) (k : Below w.heap.size w w') : BufRow w' v l := h.mono fun _ _ _ _ hb => hb.below k
theorem BufRow.bufs {w : World} {v : Value} {l : List Bf} (h : BufRow w v l) (hl : l.length ≤ 1000) : IsBufs w v l := by
  obtain ⟨p, cap, rfl, _, hc⟩ := h
  refine ⟨p, cap, rfl, hl, fun hp => ?_⟩
  obtain ⟨b, o, rfl, hi⟩ := hc hp
  exact ⟨b, o, rfl, fun i h => (hi i h).2⟩
theorem mem_at {α : Type} {A : Nat → Nat → α → Prop} {c : Nat} {v : Value} {l : List α} (h : RowAt A c v l) {x : α} (hx : x ∈ l) : ∃ b o, A b o x := by
  obtain ⟨i, hi, rfl⟩ := List.mem_iff_getElem.1 hx
  obtain ⟨p, cap, _, _, hc⟩ := h
  obtain ⟨b, o, _, hi'⟩ := hc (by omega)
  exact ⟨b, _, hi' i hi⟩
theorem BufRow.bd {w : World} {v : Value} {l : List Bf} (h : BufRow w v l) : ∀ x ∈ l, x.n ≤ 9223372036854775807 := by
  intro x hx
  obtain ⟨b, o, hf, _⟩ := mem_at h hx
  have := hf.2
  simp [Lit.wf] at this
  omega

section
variable {H : Type} {enc : TypeId × Value → H} {w : World}

theorem open_buf (a : Addr) (fuel : Nat) (cs : List Value) (x : DataW H × List MemPlace) (hc : w.cells? 0 a (Tryz.prog.cellsOf 90) = some cs) (ht : DataW.trod enc Tryz.prog w 0 (fun _ => true) true fuel 90 cs = some x) :
    ∃ y : Bf, a.spot = none ∧ BufAt w a.block a.off y := by
  have hu := Tryz.underlying90
  obtain ⟨v0, y0, m0, c0, t0⟩ := vfield_of hu (by kernel_rfl) (by kernel_rfl) hc ht 0 _ rfl
  obtain ⟨v1, y1, m1, c1, t1⟩ := vfield_of hu (by kernel_rfl) (by kernel_rfl) hc ht 1 _ rfl
  obtain ⟨v2, y2, m2, c2, t2⟩ := vfield_of hu (by kernel_rfl) (by kernel_rfl) hc ht 2 _ rfl
  obtain ⟨n0, e0, _, w0⟩ := DataW.trod_int Tryz.underlying3 t0
  obtain ⟨n1, e1, _, w1⟩ := DataW.trod_int Tryz.underlying3 t1
  obtain ⟨n2, e2, _⟩ := DataW.trod_bool Tryz.underlying4 t2
  simp only [List.cons.injEq, and_true] at e0 e1 e2
  subst e0 e1 e2
  obtain ⟨b, o, sp⟩ := a
  have hs : sp = none := by simpa [Addr.add] using World.cell?_spot c0
  subst hs
  rw [vadd_plain] at c0 c1 c2
  exact ⟨⟨n0, n1, n2⟩, rfl, ⟨w0, w1⟩, c0, c1, c2⟩

theorem open_bufs {fuel : Nat} {v : Value} {x : DataW H × List MemPlace} (h : DataW.trod enc Tryz.prog w 0 (fun _ => true) true fuel 81 [v] = some x) : ∃ l, BufRow w v l :=
  open_row Tryz.underlying81 (by kernel_rfl) open_buf h
end





end Go.Proofs.YtdchlnffbiooaaaGreatDoor
