/-
  The acts of a statement's list: what a slice of them reads as, and the contract of Great, that asks whether they are more than 200 or bear texts of more than 300 bytes. No conditions.
-/
import Derived.Test.YtkkiplfclanjkaaTotal
import Derived.ProofKit
import Derived.Deep.Slices
import Derived.Deep.Fields
import Derived.ChangeSame
namespace Go.Proofs.Ytkkiplfclanjkaa
open Go.RowKit Go.ChangeShapes Go.WideShapes Go.Deep

/-- An act: what is done, where, in how many bytes, the number, the text. -/
structure Act1 where
  d : Int
  a : Int
  n : Int
  x : Int
  s : ByteArray

/-- The numbers of an act fit their kinds. -/
def Act1.fits (c : Act1) : Prop := (Lit.int .i64 c.d).wf = true ∧ (Lit.int .i64 c.a).wf = true ∧ (Lit.int .i64 c.n).wf = true ∧ (Lit.int .u64 c.x).wf = true ∧ c.s.size ≤ maxLen

/-- The five cells of an act lie at p. -/
def ActAt (w : World) (b o : Nat) (c : Act1) : Prop :=
  w.cell? ⟨b, o, none⟩ = some (.int .i64 c.d) ∧ w.cell? ⟨b, o + 1, none⟩ = some (.int .i64 c.a) ∧ w.cell? ⟨b, o + 2, none⟩ = some (.int .i64 c.n) ∧
    w.cell? ⟨b, o + 3, none⟩ = some (.int .u64 c.x) ∧ w.cell? ⟨b, o + 4, none⟩ = some (.string c.s)

/-- The slice reads as these acts. -/
def IsActs (w : World) (p : Option Addr) (len : Nat) (l : List Act1) : Prop :=
  l.length = len ∧ len ≤ maxLen ∧ (∀ c ∈ l, c.fits) ∧ (0 < len → ∃ b o, p = some ⟨b, o, none⟩ ∧ ∀ (i : Nat) (h : i < l.length), ActAt w b (o + i * 5) l[i])

theorem ActAt.block {w : World} {b o : Nat} {c : Act1} (h : ActAt w b o c) : b < w.heap.size := World.block_lt_of_cell? w ⟨b, o, none⟩ h.1
theorem ActAt.kept {w w' : World} {b o : Nat} {c : Act1} (h : ActAt w b o c) (k : w'.heap[b]? = w.heap[b]?) : ActAt w' b o c := by
  have e : ∀ q, w'.cell? ⟨b, q, none⟩ = w.cell? ⟨b, q, none⟩ := fun q => World.cell?_of_block (a := ⟨b, q, none⟩) k
  unfold ActAt
  rw [e, e, e, e, e]
  exact h
theorem IsActs.below {w w' : World} {p : Option Addr} {len : Nat} {l : List Act1} (h : IsActs w p len l) (k : Below w.heap.size w w') : IsActs w' p len l := by
  obtain ⟨h1, h2, h3, h4⟩ := h
  refine ⟨h1, h2, h3, fun hp => ?_⟩
  obtain ⟨b, o, e, hc⟩ := h4 hp
  exact ⟨b, o, e, fun i hi => (hc i hi).kept (k.block b (hc i hi).block)⟩
theorem IsActs.at_ {w : World} {p : Option Addr} {len : Nat} {l : List Act1} (h : IsActs w p len l) (i : Nat) (hi : i < len) :
    ∃ b o c, p = some ⟨b, o, none⟩ ∧ l[i]? = some c ∧ c.fits ∧ ActAt w b (o + i * 5) c := by
  obtain ⟨h1, h2, h3, h4⟩ := h
  obtain ⟨b, o, e, hc⟩ := h4 (by omega)
  have hi' : i < l.length := by omega
  exact ⟨b, o, l[i], e, List.getElem?_eq_getElem hi', h3 _ (List.getElem_mem _), hc i hi'⟩

section
variable {H : Type} {enc : TypeId × Value → H} {P : Program} {w : World} {base : Nat} {spare : Nat → Bool} {held : Bool}

/-- One field of a struct whose fields take a cell each: its cell, and that it reads. -/
theorem field_of {e : TypeId} {fs : Array Field} {a : Addr} {fuel : Nat} {cs : List Value} {x : DataW H × List MemPlace} (he : P.underlying e = some (.struct fs)) (hone : oneCellFields P fs = true) (hC : P.cellsOf e = fs.size)
    (hc : w.cells? base a (P.cellsOf e) = some cs) (ht : DataW.trod enc P w base spare held fuel e cs = some x) (j : Nat) (f : Field) (hj : fs[j]? = some f) :
    ∃ v y m, w.cell? (a.add j) = some v ∧ DataW.trod enc P w base spare held m f.type [v] = some y := by
  obtain ⟨xs, n, _, _, hlen, hxl, hf⟩ := DataW.trod_struct he ht
  obtain ⟨_, _, hcell⟩ := World.cells?_some hc
  obtain ⟨ho, hk⟩ := hone_of hone j f hj
  have hjl : j < fs.size := (Array.getElem?_eq_some_iff.1 hj).1
  have hjc : j < cs.length := by omega
  have hjx : j < xs.length := by omega
  have h1 := hf j f hj
  rw [ho, hk, List.drop_eq_getElem_cons hjc, List.take_succ_cons, List.take_zero, List.getElem?_eq_getElem hjx] at h1
  exact ⟨cs[j], xs[j], n, by rw [hcell j (by omega), List.getElem?_eq_getElem hjc], h1⟩
end

theorem add_add' (b o i j : Nat) : ((⟨b, o, none⟩ : Addr).add i).add j = ⟨b, o + i + j, none⟩ := by
  unfold Addr.add
  by_cases hi : i = 0 <;> by_cases hj : j = 0 <;> simp [hi, hj, Nat.add_assoc]
theorem add_plain (b o i : Nat) : (⟨b, o, none⟩ : Addr).add i = ⟨b, o + i, none⟩ := by
  unfold Addr.add
  by_cases hi : i = 0 <;> simp [hi]

/-- An element of the slice reads as an act. -/
theorem open_act {H : Type} {enc : TypeId × Value → H} {w : World} {a : Addr} {fuel : Nat} {cs : List Value} {x : DataW H × List MemPlace}
    (hc : w.cells? 0 a (Try.prog.cellsOf 42) = some cs) (ht : DataW.trod enc Try.prog w 0 (fun _ => true) true fuel 42 cs = some x) :
    ∃ c : Act1, c.fits ∧ a.spot = none ∧ ActAt w a.block a.off c := by
  have hu := Try.underlying42
  obtain ⟨v0, y0, m0, c0, t0⟩ := field_of hu (by kernel_rfl) (by kernel_rfl) hc ht 0 _ rfl
  obtain ⟨v1, y1, m1, c1, t1⟩ := field_of hu (by kernel_rfl) (by kernel_rfl) hc ht 1 _ rfl
  obtain ⟨v2, y2, m2, c2, t2⟩ := field_of hu (by kernel_rfl) (by kernel_rfl) hc ht 2 _ rfl
  obtain ⟨v3, y3, m3, c3, t3⟩ := field_of hu (by kernel_rfl) (by kernel_rfl) hc ht 3 _ rfl
  obtain ⟨v4, y4, m4, c4, t4⟩ := field_of hu (by kernel_rfl) (by kernel_rfl) hc ht 4 _ rfl
  obtain ⟨n0, e0, _, w0⟩ := DataW.trod_int Try.underlying3 t0
  obtain ⟨n1, e1, _, w1⟩ := DataW.trod_int Try.underlying3 t1
  obtain ⟨n2, e2, _, w2⟩ := DataW.trod_int Try.underlying3 t2
  obtain ⟨n3, e3, _, w3⟩ := DataW.trod_int Try.underlying27 t3
  obtain ⟨n4, e4, _, w4⟩ := DataW.trod_string Try.underlying9 t4
  simp only [List.cons.injEq, and_true] at e0 e1 e2 e3 e4
  subst e0 e1 e2 e3 e4
  obtain ⟨b, o, sp⟩ := a
  have hs : sp = none := by simpa [Addr.add] using World.cell?_spot c0
  subst hs
  rw [add_plain] at c0 c1 c2 c3 c4
  exact ⟨⟨n0, n1, n2, n3, n4⟩, ⟨w0, w1, w2, w3, w4⟩, rfl, c0, c1, c2, c3, c4⟩

theorem open_acts {H : Type} {enc : TypeId × Value → H} {w : World} {p : Option Addr} {len cap fuel : Nat} {x : DataW H × List MemPlace}
    (h : DataW.trod enc Try.prog w 0 (fun _ => true) true fuel 37 (Value.slice p len cap).cells.toList = some x) : ∃ l, IsActs w p len l := by
  rcases open_slice Try.underlying37 h with ⟨hcs, _⟩ | ⟨a, len', cap', m, n, D, Pl, hcs, _, hl, hm, hmm, _, hi⟩
  · simp [Value.cells] at hcs
    obtain ⟨rfl, rfl, rfl⟩ := hcs
    exact ⟨[], rfl, Nat.zero_le _, by simp, fun h => absurd h (by omega)⟩
  · simp [Value.cells] at hcs
    obtain ⟨rfl, rfl, rfl⟩ := hcs
    have hm' : m = cap := by simpa using hmm
    have hi' : ∀ i, i < len → ∃ c : Act1, c.fits ∧ (a.add (i * 5)).spot = none ∧ ActAt w (a.add (i * 5)).block (a.add (i * 5)).off c := by
      intro i hlt
      obtain ⟨cs', hc, ht⟩ := hi i (by omega)
      have e5 : Try.prog.cellsOf 42 = 5 := by kernel_rfl
      have h5 : i * Try.prog.cellsOf 42 = i * 5 := by rw [e5]
      rw [h5] at hc
      exact open_act hc ht
    have hch := fun i : Fin len => hi' i.1 i.2
    obtain ⟨f, hf⟩ := Classical.axiomOfChoice hch
    refine ⟨List.ofFn f, by simp, by omega, ?_, ?_⟩
    · intro c hc
      obtain ⟨i, rfl⟩ := (List.mem_ofFn).1 hc
      exact (hf i).1
    · intro hpos
      obtain ⟨b, o, sp⟩ := a
      have h0 := (hf ⟨0, hpos⟩).2.1
      have hs : sp = none := by simpa [Addr.add] using h0
      subst hs
      refine ⟨b, o, rfl, fun i hlt => ?_⟩
      have hlt' : i < len := by simpa using hlt
      have h1 := (hf ⟨i, hlt'⟩).2.2
      rw [add_plain] at h1
      simpa using h1

/-- What Great answers. -/
def great (l : List Act1) : Bool := decide (200 < l.length) || (l.take 201).any fun c => decide (300 < c.s.size)

theorem great_no {l : List Act1} (h : great l = false) : l.length ≤ 200 ∧ ∀ c ∈ l, c.s.size ≤ 300 := by
  unfold great at h
  simp only [Bool.or_eq_false_iff, decide_eq_false_iff_not, List.any_eq_false, decide_eq_true_eq] at h
  refine ⟨by omega, fun c hc => ?_⟩
  have := h.2 c (by rw [List.take_of_length_le (by omega)]; exact hc)
  omega

/-- Up to place k nothing was found. -/
def Small (l : List Act1) (k : Nat) : Prop := ∀ c ∈ l.take k, c.s.size ≤ 300
theorem Small.zero (l : List Act1) : Small l 0 := by simp [Small]
theorem Small.succ {l : List Act1} {k : Nat} {c : Act1} (h : Small l k) (hc : l[k]? = some c) (hs : c.s.size ≤ 300) : Small l (k + 1) := by
  intro d hd
  rw [List.take_add_one, hc] at hd
  simp only [Option.toList_some, List.mem_append, List.mem_singleton] at hd
  rcases hd with hd | rfl
  · exact h d hd
  · exact hs
theorem great_hit {l : List Act1} {k : Nat} {c : Act1} (hk : k ≤ 200) (hc : l[k]? = some c) (hs : 300 < c.s.size) : great l = true := by
  unfold great
  simp only [Bool.or_eq_true, decide_eq_true_eq, List.any_eq_true]
  refine Or.inr ⟨c, ?_, hs⟩
  rw [List.mem_take_iff_getElem]
  obtain ⟨hlt, he⟩ := List.getElem?_eq_some_iff.1 hc
  exact ⟨k, by omega, he⟩
theorem great_end {l : List Act1} {k : Nat} (h : Small l k) (hk : l.length ≤ k ∨ 201 ≤ k) : great l = decide (200 < l.length) := by
  unfold great
  have h2 : ((l.take 201).any fun c => decide (300 < c.s.size)) = false := by
    simp only [List.any_eq_false, decide_eq_true_eq]
    intro c hc
    have h3 : c ∈ l.take k := by
      rcases hk with hk | hk
      · rw [List.take_of_length_le hk]; exact List.mem_of_mem_take hc
      · exact (List.take_subset_take_left l hk) hc
    have := h c h3
    omega
  rw [h2, Bool.or_false]

set_option maxHeartbeats 400000 in
theorem Great_any (w : World) (p : Option Addr) (len cap : Nat) (l : List Act1) (ha : IsActs w p len l) :
    Calls Try.prog 19 #[.slice p len cap] w fun e w' => e = .returned (.bool (great l)) ∧ w = w' := by
  have hlen := ha.1
  have hmax := ha.2.1
  unfold maxLen at hmax
  go_enter Try.func19, Try.ntmps19
  go_wp2
  go_loop [3] (fun i => ∃ k : Nat, k ≤ len ∧ k ≤ 201 ∧ i = .int .i64 k ∧ Small l k) (fun i => len - (intOf i).toNat)
  case atStart => exact ⟨0, Nat.zero_le _, by omega, rfl, Small.zero l⟩
  case round =>
    obtain ⟨k, hk, hk2, rfl, hs⟩ := hrel
    by_cases hlt : k < len
    · by_cases hlt2 : k ≤ 200
      · obtain ⟨b, o, c, rfl, hck, hfit, hat⟩ := ha.at_ k hlt
        have hcell := hat.2.2.2.2
        have hsz := hfit.2.2.2.2
        unfold maxLen at hsz
        by_cases hbig : (300 : Int) < c.s.size
        · have G := Lib.hid (great_hit hlt2 hck (by omega))
          clear ha hat hfit hs hck
          go_wp2
          go_ret
          exact ⟨by rw [G.out]; rfl, rfl⟩
        · have G := Lib.hid (hs.succ hck (by omega))
          clear ha hat hfit hs hck
          go_wp2
          go_round
          case rel => exact ⟨k + 1, by omega, by omega, by go_num, G.out⟩
          case measure => simp [intOf]; omega
      · have hd : decide ((k : Int) ≤ 200) = false := decide_eq_false (by omega)
        have G := Lib.hid (great_end hs (.inr (by omega)))
        clear ha hs
        go_wp2
        go_ret
        exact ⟨by rw [G.out, hlen]; simp; omega, rfl⟩
    · have G := Lib.hid (great_end hs (.inl (by omega)))
      have hd : decide ((k : Int) < len) = false := decide_eq_false (by omega)
      clear ha hs
      go_wp2
      go_ret
      exact ⟨by rw [G.out, hlen]; simp; omega, rfl⟩

end Go.Proofs.Ytkkiplfclanjkaa
