/-
  Layer 4: text and frame; a driver and a device's side that are made; awake. Conditions: as said.
-/
import Derived.Test.YtmlicejhkdkhnaaNvG
import Derived.Deep.Slices
import Derived.Deep.Fields
import Derived.ChangeSame
import Derived.BigQuiet
import Derived.Deep.QuietTactic
import Derived.Test.YtmlicejhkdkhnaaShelfR
namespace Go.Proofs.Ytmlicejhkdkhnaa
open Go.RowKit Go.ChangeShapes Go.WideShapes Go.Deep Go.Conc Go.Sort
set_option linter.unusedVariables false

theorem below_none4 {w w' : World} (h : Below w.heap.size w w') : w.grownBy w' none := ⟨h.os, h.tape, h.output, h.size, fun k hk _ => h.block k hk⟩
/-- An act: what is done, the frame, how many bytes, where, how many, the number. -/
structure Act4 where
  d : Int
  s : ByteArray
  n : Int
  a : Int
  m : Int
  x : Int
def Act4.fits (c : Act4) : Prop := (Lit.int .i64 c.d).wf = true ∧ c.s.size ≤ maxLen ∧ (Lit.int .u16 c.n).wf = true ∧ (Lit.int .i64 c.a).wf = true ∧ (Lit.int .i64 c.m).wf = true ∧ (Lit.int .u64 c.x).wf = true
def Act4At (w : World) (b o : Nat) (c : Act4) : Prop :=
  w.cell? ⟨b, o, none⟩ = some (.int .i64 c.d) ∧ w.cell? ⟨b, o + 1, none⟩ = some (.string c.s) ∧ w.cell? ⟨b, o + 2, none⟩ = some (.int .u16 c.n) ∧
    w.cell? ⟨b, o + 3, none⟩ = some (.int .i64 c.a) ∧ w.cell? ⟨b, o + 4, none⟩ = some (.int .i64 c.m) ∧ w.cell? ⟨b, o + 5, none⟩ = some (.int .u64 c.x)
/-- The slice reads as these acts. -/
def IsActs4 (w : World) (p : Option Addr) (len : Nat) (l : List Act4) : Prop :=
  l.length = len ∧ len ≤ maxLen ∧ (∀ c ∈ l, c.fits) ∧ (0 < len → ∃ b o, p = some ⟨b, o, none⟩ ∧ ∀ (i : Nat) (h : i < l.length), Act4At w b (o + i * 6) l[i])
theorem Act4At.block {w : World} {b o : Nat} {c : Act4} (h : Act4At w b o c) : b < w.heap.size := World.block_lt_of_cell? w ⟨b, o, none⟩ h.1
theorem Act4At.kept {w w' : World} {b o : Nat} {c : Act4} (h : Act4At w b o c) (k : w'.heap[b]? = w.heap[b]?) : Act4At w' b o c := by
  have e : ∀ q, w'.cell? ⟨b, q, none⟩ = w.cell? ⟨b, q, none⟩ := fun q => World.cell?_of_block (a := ⟨b, q, none⟩) k
  unfold Act4At
  rw [e, e, e, e, e, e]
  exact h
theorem IsActs4.below {w w' : World} {p : Option Addr} {len : Nat} {l : List Act4} (h : IsActs4 w p len l) (k : Below w.heap.size w w') : IsActs4 w' p len l := by
  obtain ⟨h1, h2, h3, h4⟩ := h
  refine ⟨h1, h2, h3, fun hp => ?_⟩
  obtain ⟨b, o, e, hc⟩ := h4 hp
  exact ⟨b, o, e, fun i hi => (hc i hi).kept (k.block b (hc i hi).block)⟩
theorem IsActs4.at_ {w : World} {p : Option Addr} {len : Nat} {l : List Act4} (h : IsActs4 w p len l) (i : Nat) (hi : i < len) :
    ∃ b o c, p = some ⟨b, o, none⟩ ∧ l[i]? = some c ∧ c.fits ∧ Act4At w b (o + i * 6) c := by
  obtain ⟨h1, h2, h3, h4⟩ := h
  obtain ⟨b, o, e, hc⟩ := h4 (by omega)
  have hi' : i < l.length := by omega
  exact ⟨b, o, l[i], e, List.getElem?_eq_getElem hi', h3 _ (List.getElem_mem _), hc i hi'⟩

section
variable {H : Type} {enc : TypeId × Value → H} {P : Program} {w : World} {base : Nat} {spare : Nat → Bool} {held : Bool}
/-- One field of a struct whose fields take a cell each: its cell, and that it reads. -/
theorem field_of {e : TypeId} {fs : Array Field} {a : Addr} {fuel : Nat} {cs : List Value} {x : DataW H × List MemPlace} (he : P.underlying e = some (.struct fs)) (hone : oneCellFields P fs = true) (hC : P.cellsOf e = fs.size)
    (hc : w.cells? base a (P.cellsOf e) = some cs) (ht : DataW.trod enc P w base spare held fuel e cs = some x) (j : Nat) (f : Field) (hj : fs[j]? = some f) :
    ∃ v y m, w.cell? (a.add j) = some v ∧ DataW.trod enc P w base spare held m f.type [v] = some y := by
  obtain ⟨xs, n, _, _, hlen, hxl, hf⟩ := DataW.trod_struct he ht
  obtain ⟨_, _, hcell⟩ := World.cells?_some hc
  obtain ⟨ho, hk⟩ := hone_of hone j f hj
  have hjl : j < fs.size := (Array.getElem?_eq_some_iff.1 hj).1
  have hjc : j < cs.length := by omega
  have hjx : j < xs.length := by omega
  have h1 := hf j f hj
  rw [ho, hk, List.drop_eq_getElem_cons hjc, List.take_succ_cons, List.take_zero, List.getElem?_eq_getElem hjx] at h1
  exact ⟨cs[j], xs[j], n, by rw [hcell j (by omega), List.getElem?_eq_getElem hjc], h1⟩
end
theorem add_plain (b o i : Nat) : (⟨b, o, none⟩ : Addr).add i = ⟨b, o + i, none⟩ := by
  unfold Addr.add
  by_cases hi : i = 0 <;> simp [hi]
theorem open_act4 {H : Type} {enc : TypeId × Value → H} {w : World} {a : Addr} {fuel : Nat} {cs : List Value} {x : DataW H × List MemPlace}
    (hc : w.cells? 0 a (Try.prog.cellsOf 63) = some cs) (ht : DataW.trod enc Try.prog w 0 (fun _ => true) true fuel 63 cs = some x) :
    ∃ c : Act4, c.fits ∧ a.spot = none ∧ Act4At w a.block a.off c := by
  have hu := Try.underlying63
  obtain ⟨v0, y0, m0, c0, t0⟩ := field_of hu (by kernel_rfl) (by kernel_rfl) hc ht 0 _ rfl
  obtain ⟨v1, y1, m1, c1, t1⟩ := field_of hu (by kernel_rfl) (by kernel_rfl) hc ht 1 _ rfl
  obtain ⟨v2, y2, m2, c2, t2⟩ := field_of hu (by kernel_rfl) (by kernel_rfl) hc ht 2 _ rfl
  obtain ⟨v3, y3, m3, c3, t3⟩ := field_of hu (by kernel_rfl) (by kernel_rfl) hc ht 3 _ rfl
  obtain ⟨v4, y4, m4, c4, t4⟩ := field_of hu (by kernel_rfl) (by kernel_rfl) hc ht 4 _ rfl
  obtain ⟨v5, y5, m5, c5, t5⟩ := field_of hu (by kernel_rfl) (by kernel_rfl) hc ht 5 _ rfl
  obtain ⟨n0, e0, _, w0⟩ := DataW.trod_int Try.underlying3 t0
  obtain ⟨n1, e1, _, w1⟩ := DataW.trod_string Try.underlying9 t1
  obtain ⟨n2, e2, _, w2⟩ := DataW.trod_int Try.underlying60 t2
  obtain ⟨n3, e3, _, w3⟩ := DataW.trod_int Try.underlying3 t3
  obtain ⟨n4, e4, _, w4⟩ := DataW.trod_int Try.underlying3 t4
  obtain ⟨n5, e5, _, w5⟩ := DataW.trod_int Try.underlying61 t5
  simp only [List.cons.injEq, and_true] at e0 e1 e2 e3 e4 e5
  subst e0 e1 e2 e3 e4 e5
  obtain ⟨b, o, sp⟩ := a
  have hs : sp = none := by simpa [Addr.add] using World.cell?_spot c0
  subst hs
  rw [add_plain] at c0 c1 c2 c3 c4 c5
  exact ⟨⟨n0, n1, n2, n3, n4, n5⟩, ⟨w0, w1, w2, w3, w4, w5⟩, rfl, c0, c1, c2, c3, c4, c5⟩
theorem open_acts4 {H : Type} {enc : TypeId × Value → H} {w : World} {p : Option Addr} {len cap fuel : Nat} {x : DataW H × List MemPlace}
    (h : DataW.trod enc Try.prog w 0 (fun _ => true) true fuel 58 (Value.slice p len cap).cells.toList = some x) : ∃ l, IsActs4 w p len l := by
  rcases open_slice Try.underlying58 h with ⟨hcs, _⟩ | ⟨a, len', cap', m, n, D, Pl, hcs, _, hl, hm, hmm, _, hi⟩
  · simp [Value.cells] at hcs
    obtain ⟨rfl, rfl, rfl⟩ := hcs
    exact ⟨[], rfl, Nat.zero_le _, by simp, fun h => absurd h (by omega)⟩
  · simp [Value.cells] at hcs
    obtain ⟨rfl, rfl, rfl⟩ := hcs
    have hm' : m = cap := by simpa using hmm
    have hi' : ∀ i, i < len → ∃ c : Act4, c.fits ∧ (a.add (i * 6)).spot = none ∧ Act4At w (a.add (i * 6)).block (a.add (i * 6)).off c := by
      intro i hlt
      obtain ⟨cs', hc, ht⟩ := hi i (by omega)
      have e5 : Try.prog.cellsOf 63 = 6 := by kernel_rfl
      have h5 : i * Try.prog.cellsOf 63 = i * 6 := by rw [e5]
      rw [h5] at hc
      exact open_act4 hc ht
    have hch := fun i : Fin len => hi' i.1 i.2
    obtain ⟨f, hf⟩ := Classical.axiomOfChoice hch
    refine ⟨List.ofFn f, by simp, by omega, ?_, ?_⟩
    · intro c hc
      obtain ⟨i, rfl⟩ := (List.mem_ofFn).1 hc
      exact (hf i).1
    · intro hpos
      obtain ⟨b, o, sp⟩ := a
      have h0 := (hf ⟨0, hpos⟩).2.1
      have hs : sp = none := by simpa [Addr.add] using h0
      subst hs
      refine ⟨b, o, rfl, fun i hlt => ?_⟩
      have hlt' : i < len := by simpa using hlt
      have h1 := (hf ⟨i, hlt'⟩).2.2
      rw [add_plain] at h1
      simpa using h1

def great4 (l : List Act4) : Bool := (l.take 81).any (fun c => decide (1000 < c.s.size)) || decide (80 < l.length)
theorem great4_no {l : List Act4} (h : great4 l = false) : l.length ≤ 80 ∧ ∀ c ∈ l, c.s.size ≤ 1000 := by
  unfold great4 at h
  rw [Bool.or_eq_false_iff] at h
  obtain ⟨h1, h2⟩ := h
  have hl : l.length ≤ 80 := by simpa using h2
  refine ⟨hl, fun c hc => ?_⟩
  rw [List.take_of_length_le (by omega)] at h1
  have := List.any_eq_false.1 h1 c hc
  simpa using this
set_option maxHeartbeats 1000000 in
theorem Great4_any (w : World) (p : Option Addr) (len cap : Nat) (l : List Act4) (ha : IsActs4 w p len l) :
    Calls Try.prog 26 #[.slice p len cap] w fun e w' => e = .returned (.bool (great4 l)) ∧ w = w' := by
  have hlen := ha.1
  have hmax := ha.2.1
  unfold maxLen at hmax
  have HA := Lib.hid ha
  have HL := Lib.hid hlen
  clear ha hlen
  go_enter Try.func26, Try.ntmps26
  go_wp2
  go_loop [3] (fun i => ∃ k : Nat, k ≤ len ∧ k ≤ 81 ∧ i = .int .i64 k ∧ Hid ((l.take k).any (fun c => decide (1000 < c.s.size)) = false)) (fun i => len - (intOf i).toNat)
  case atStart => exact ⟨0, Nat.zero_le _, by omega, rfl, Lib.hid (by simp)⟩
  case round =>
    obtain ⟨k, hk, hk2, rfl, HN⟩ := hrel
    by_cases hlt : k < len
    · have d1 : decide ((k : Int) < (len : Int)) = true := decide_eq_true (by omega)
      by_cases hlt2 : k ≤ 80
      · have d2 : decide ((k : Int) ≤ 80) = true := decide_eq_true (by omega)
        obtain ⟨b, o, c, rfl, hck, hfit, hat⟩ := HA.out.at_ k hlt
        have hcell := hat.2.1
        have q1 : (0 : Int) ≤ (k : Int) := by omega
        have q2 : (k : Int) < (len : Int) := by omega
        have e3 : IntKind.i64.wrap ((k : Int) + 1) = (k : Int) + 1 := IntWalk.i64_in _ (by omega)
        have htk : l.take (k + 1) = l.take k ++ [c] := by rw [List.take_add_one, hck]; rfl
        by_cases hbig : 1000 < c.s.size
        · have d3 : decide ((1000 : Int) < (c.s.size : Int)) = true := decide_eq_true (by omega)
          have G : Hid (great4 l = true) := Lib.hid (by
            unfold great4
            rw [Bool.or_eq_true]
            refine .inl (List.any_eq_true.2 ⟨c, ?_, by simpa using hbig⟩)
            have : c ∈ l.take (k + 1) := by rw [htk]; exact List.mem_append.2 (.inr List.mem_cons_self)
            exact List.mem_of_mem_take (by rw [List.take_take, Nat.min_eq_left (show k + 1 ≤ 81 by omega)]; exact this : c ∈ (l.take 81).take (k + 1)))
          clear hat hfit hck htk
          go_wp2_with fail
          go_ret
          exact ⟨by rw [G.out]; rfl, rfl⟩
        · have d3 : decide ((1000 : Int) < (c.s.size : Int)) = false := decide_eq_false (by omega)
          have HN2 : Hid ((l.take (k + 1)).any (fun c => decide (1000 < c.s.size)) = false) := Lib.hid (by rw [htk, List.any_append, HN.out]; simpa using hbig)
          clear hat hfit hck htk
          go_wp2_with fail
          go_round
          case rel => exact ⟨k + 1, by omega, by omega, by go_num, HN2⟩
          case measure => simp [intOf]; omega
      · have d2 : decide ((k : Int) ≤ 80) = false := decide_eq_false (by omega)
        have d3 : decide ((80 : Int) < (len : Int)) = true := decide_eq_true (by omega)
        have G : Hid (great4 l = true) := Lib.hid (by unfold great4; rw [HL.out, decide_eq_true (show 80 < len by omega), Bool.or_true])
        go_wp2_with fail
        go_ret
        exact ⟨by rw [G.out]; rfl, rfl⟩
    · obtain rfl : k = len := by omega
      have d1 : decide ((k : Int) < (k : Int)) = false := by simp
      have HLL : Hid ((l.take 81).any (fun c => decide (1000 < c.s.size)) = false) := Lib.hid (by
        have := HN.out
        rw [List.take_of_length_le (by rw [HL.out]; exact Nat.le_refl _)] at this
        rw [List.take_of_length_le (by rw [HL.out]; omega)]
        exact this)
      by_cases hbig : 80 < k
      · have d3 : decide ((80 : Int) < (k : Int)) = true := decide_eq_true (by omega)
        have G : Hid (great4 l = true) := Lib.hid (by unfold great4; rw [HL.out, decide_eq_true hbig, Bool.or_true])
        go_wp2_with fail
        go_ret
        exact ⟨by rw [G.out]; rfl, rfl⟩
      · have d3 : decide ((80 : Int) < (k : Int)) = false := decide_eq_false (by omega)
        have G : Hid (great4 l = false) := Lib.hid (by unfold great4; rw [HLL.out, HL.out, decide_eq_false hbig]; rfl)
        go_wp2_with fail
        go_ret
        exact ⟨by rw [G.out]; rfl, rfl⟩

/-- The slice reads as these texts. -/
structure TxAt (w : World) (v : Value) (l : List (List UInt8)) : Prop where
  ex : ∃ p c, v = .slice p l.length c ∧ ∀ (i : Nat) (h : i < l.length), ∃ b o, p = some ⟨b, o, none⟩ ∧ w.cell? ⟨b, o + i, none⟩ = some (.string ⟨l[i].toArray⟩)
theorem SRow.tx {w : World} {v : Value} {l : List (List UInt8)} (h : SRow w v l) : TxAt w v l := by
  by_cases h0 : 0 < l.length
  · obtain ⟨b', cap, hv, _, _, _, _, hc⟩ := RowA.elem (k := 1) (enc := fun (s : List UInt8) => [Value.string ⟨s.toArray⟩]) (fun _ => rfl) h.row h0
    refine ⟨some ⟨b', 0, none⟩, cap, hv, fun i hi => ⟨b', 0, rfl, ?_⟩⟩
    have := hc i hi 0 _ rfl
    simpa using this
  · obtain ⟨p, c, hv⟩ := RowA.shape h.row
    exact ⟨p, c, hv, fun i hi => absurd hi (by omega)⟩
theorem TxAt.below {w w' : World} {v : Value} {l : List (List UInt8)} (h : TxAt w v l) (k : Below w.heap.size w w') : TxAt w' v l := by
  obtain ⟨p, c, e, hc⟩ := h.ex
  refine ⟨p, c, e, fun i hi => ?_⟩
  obtain ⟨b, o, e2, h2⟩ := hc i hi
  exact ⟨b, o, e2, by rw [World.cell?_of_block (a := ⟨b, o + i, none⟩) (k.block b (World.block_lt_of_cell? w _ h2))]; exact h2⟩
set_option maxHeartbeats 1000000 in
theorem same_true (w : World) (v1 v2 : Value) (l : List (List UInt8)) (h1 : TxAt w v1 l) (h2 : TxAt w v2 l) (hl : l.length ≤ 1000) :
    Calls Try.prog 16 #[v1, v2] w fun e w' => e = .returned (.bool true) ∧ w.grownBy w' none := by
  have H1 := Lib.hid h1
  have H2 := Lib.hid h2
  obtain ⟨p1, c1, rfl, hc1⟩ := h1.ex
  obtain ⟨p2, c2, rfl, hc2⟩ := h2.ex
  obtain ⟨n, hn⟩ : ∃ n, n = l.length := ⟨_, rfl⟩
  rw [← hn] at hl ⊢
  have HN := Lib.hid hn
  have C1 := Lib.hid hc1
  have C2 := Lib.hid hc2
  have BL := Lib.hid (Below.refl w.heap.size w)
  clear h1 h2 hc1 hc2 hn H1 H2
  go_enter Try.func16, Try.ntmps16
  go_upto_region 4 with fail
  go_loopw [5] (fun i wr => ∃ k : Nat, k ≤ n ∧ i = .int .i64 k ∧ Hid (Below w.heap.size w wr)) (fun i _ => n - (intOf i).toNat)
  case atStart => exact ⟨0, Nat.zero_le _, rfl, BL⟩
  case round =>
    clear BL
    obtain ⟨k, hk, rfl, BL⟩ := hrel
    by_cases hlt : k < n
    · have d1 : decide ((k : Int) < (n : Int)) = true := decide_eq_true (by omega)
      have d1n : decide (k < n) = true := decide_eq_true hlt
      have hlt2 : k < l.length := by rw [← HN.out]; exact hlt
      obtain ⟨b1, o1, e1, x1⟩ := C1.out k hlt2
      obtain ⟨b2, o2, e2, x2⟩ := C2.out k hlt2
      subst e1 e2
      have y1 := (World.cell?_of_block (a := ⟨b1, o1 + k, none⟩) (BL.out.block b1 (World.block_lt_of_cell? w _ x1))).trans x1
      have y2 := (World.cell?_of_block (a := ⟨b2, o2 + k, none⟩) (BL.out.block b2 (World.block_lt_of_cell? w _ x2))).trans x2
      obtain ⟨s, hs⟩ : ∃ s : ByteArray, s = ⟨(l[k]'hlt2).toArray⟩ := ⟨_, rfl⟩
      rw [← hs] at y1 y2
      clear hs x1 x2
      have q1 : (0 : Int) ≤ (k : Int) := by omega
      have q2 : (k : Int) < (n : Int) := by omega
      have e3 : IntKind.i64.wrap ((k : Int) + 1) = (k : Int) + 1 := IntWalk.i64_in _ (by omega)
      have eq1 : (s.toList == s.toList) = true := by simp
      have eq2 : (s.toList != s.toList) = false := by rw [bne, eq1]; rfl
      go_wp2_with fail
      go_quiet (fail)
      go_wp2_with fail
      go_roundw
      case rel => exact ⟨k + 1, by omega, by go_num, Lib.hid (below_drewN BL.out _)⟩
      case measure => simp [intOf]; omega
    · obtain rfl : k = n := by omega
      have d1 : decide ((k : Int) < (k : Int)) = false := by simp
      go_wp2_with fail
      go_ret
      exact ⟨rfl, below_none4 BL.out⟩
end Go.Proofs.Ytmlicejhkdkhnaa

namespace Go.Proofs.Ytmlicejhkdkhnaa
open Go.RowKit Go.ChangeShapes Go.WideShapes Go.Deep Go.Conc Go.Sort
set_option linter.unusedVariables false

/-- So many bytes. -/
def txt (n : Nat) (b : UInt8) : ByteArray := ⟨(List.replicate n b).toArray⟩
theorem txt_size (n : Nat) (b : UInt8) : (txt n b).size = n := by
  unfold txt
  show (List.replicate n b).toArray.size = n
  simp
theorem rep_one (b : UInt8) : ∀ n : Nat, Lib.repeatL [b] n = List.replicate n b
  | 0 => rfl
  | n + 1 => by
    show [b] ++ Lib.repeatL [b] n = _
    rw [rep_one b n]
    rfl
theorem holds_one4 (w : World) (b : UInt8) : Holds eb (w.alloc (.cells #[.int .u8 (b.toNat : Int)] 5)) w.heap.size 0 [b].toArray := by
  intro j hj
  have h0 : j = 0 := by simpa using hj
  subst h0
  have hb := heap_alloc_new w (.cells #[.int .u8 (b.toNat : Int)] 5)
  exact ⟨by rw [show (⟨w.heap.size, 0 + 0, none⟩ : Addr) = ⟨w.heap.size, 0, none⟩ from rfl, cell_of_block hb]; rfl, frozen_of_block hb⟩
set_option maxRecDepth 100000 in
set_option maxHeartbeats 1000000 in
theorem text_any (w : World) (n : Nat) (hn : n ≤ 1000) (b : UInt8) (x : Int) (hx : x = (b.toNat : Int)) :
    Calls Try.prog 11 #[.int .i64 (n : Int), .int .u8 x] w fun e w' => e = .returned (.string (txt n b)) ∧ w.grownBy w' none := by
  have hcv := conv_text (w.alloc (.cells #[.int .u8 (b.toNat : Int)] 5)) w.heap.size 0 1 1 [b] rfl (holds_one4 w b)
  rw [← hx] at hcv
  have RC := Try.strings_Repeat ⟨[b].toArray⟩ n (w.alloc (.cells #[.int .u8 x] 5)) (by omega) (by show 1 * n ≤ 140737488355328; omega)
  rw [show (⟨[b].toArray⟩ : ByteArray).data.toList = [b] from rfl, rep_one b n] at RC
  have RC2 := Lib.hid RC
  have ka := World.grownBy_alloc w (.cells #[.int .u8 x] 5) none
  obtain ⟨S, hS⟩ : ∃ S, S = (⟨[b].toArray⟩ : ByteArray) := ⟨_, rfl⟩
  obtain ⟨R, hR⟩ : ∃ R, R = txt n b := ⟨_, rfl⟩
  rw [show (⟨(List.replicate n b).toArray⟩ : ByteArray) = txt n b from rfl, ← hR] at RC2
  rw [← hR]
  rw [← hS] at hcv RC2
  clear RC hS hx hR hn
  go_enter Try.func11, Try.ntmps11
  go_wp2_with fail
  refine RC2.out.mono ?_
  rintro e w2 ⟨rfl, bel⟩
  have BEL := Lib.hid (below_none4 ((Below.of_none ka).trans (bel.mono ka.size)))
  clear bel
  go_wp2_with fail
  go_ret
  exact ⟨rfl, BEL.out⟩
/-- An act's frame. -/
def frameT (c : Act4) : ByteArray := if 0 < c.n then txt (c.n % 700).toNat (UInt8.ofNat (c.n % 256).toNat) else c.s
theorem n4_u16 {n : Int} (h : (Lit.int .u16 n).wf = true) : 0 ≤ n ∧ n < 65536 := by
  have : 0 ≤ n ∧ n ≤ 65535 := by simpa [Lit.wf, IntKind.min, IntKind.max, IntKind.signed, IntKind.bits] using h
  omega
theorem n4_i64 {n : Int} (h : (Lit.int .i64 n).wf = true) : -9223372036854775808 ≤ n ∧ n ≤ 9223372036854775807 := by
  simpa [Lit.wf, IntKind.min, IntKind.max, IntKind.signed, IntKind.bits] using h
theorem frameT_size (c : Act4) (hs : c.s.size ≤ 1000) : (frameT c).size ≤ 1000 := by
  unfold frameT
  split
  · rw [txt_size]; omega
  · exact hs
set_option maxRecDepth 100000 in
set_option maxHeartbeats 1000000 in
theorem actframe_any (w : World) (c : Act4) (hf : c.fits) :
    Calls Try.prog 27 #[.agg #[.int .i64 c.d, .string c.s, .int .u16 c.n, .int .i64 c.a, .int .i64 c.m, .int .u64 c.x]] w fun e w' => e = .returned (.string (frameT c)) ∧ w.grownBy w' none := by
  obtain ⟨d, s, n, a, m, x⟩ := c
  have hn := n4_u16 hf.2.2.1
  dsimp only at hn ⊢
  clear hf
  obtain ⟨S, hS⟩ : ∃ S, S = frameT ⟨d, s, n, a, m, x⟩ := ⟨_, rfl⟩
  rw [← hS]
  unfold frameT at hS
  dsimp only at hS
  have ka := Lib.hid (World.grownBy_alloc w (.cells #[.int .i64 d, .string s, .int .u16 n, .int .i64 a, .int .i64 m, .int .u64 x] 63) none)
  by_cases h0 : 0 < n
  · rw [if_pos h0] at hS
    have q0 : decide (0 < n) = true := decide_eq_true h0
    obtain ⟨q, hq⟩ : ∃ q : Nat, q = (n % 700).toNat := ⟨_, rfl⟩
    have e0 : Int.tmod n 700 = (q : Int) := by rw [hq, Int.tmod_eq_emod_of_nonneg hn.1]; omega
    have e1 : IntKind.u16.wrap (q : Int) = (q : Int) := by rw [IntKind.wrap_u16]; omega
    have e2 : IntKind.i64.wrap (q : Int) = (q : Int) := IntWalk.i64_in _ (by omega)
    obtain ⟨b, hb⟩ : ∃ b, b = UInt8.ofNat (n % 256).toNat := ⟨_, rfl⟩
    obtain ⟨y, hy⟩ : ∃ y, y = n % 256 := ⟨_, rfl⟩
    have e3 : IntKind.u8.wrap n = y := by rw [IntKind.wrap_u8, hy]
    have hyb : y = (b.toNat : Int) := by
      rw [hb, hy, UInt8.toNat_ofNat']
      omega
    rw [← hq, ← hb] at hS
    have TA := Lib.hid (fun w' => text_any w' q (by omega) b y hyb)
    rw [← hS] at TA
    clear hS hq hb hy hyb hn
    go_enter Try.func27, Try.ntmps27
    go_wp2_with fail
    refine (TA.out _).mono ?_
    rintro e w2 ⟨rfl, k2⟩
    have K := Lib.hid (below_none4 ((Below.of_none ka.out).trans ((Below.of_none k2).mono ka.out.size)))
    clear k2
    go_wp2_with fail
    go_ret
    exact ⟨rfl, K.out⟩
  · rw [if_neg h0] at hS
    have q0 : decide (0 < n) = false := decide_eq_false h0
    subst hS
    clear hn
    go_enter Try.func27, Try.ntmps27
    go_wp2_with fail
    go_ret
    exact ⟨rfl, ka.out⟩

theorem newV_len (lm : List UInt8) (base : Int) : (newV lm base).lm.length = lm.length := by show (offN base 8 (newL lm base)).length = _; rw [offN_length, newL_length]
/-- What New and Open have made. -/
theorem bi_made {w0 w1 w2 w3 : World} {g h : Nat} {L : Nat} {k : Bk} {d : Dk} {base : Int} (k1 : w0.grownBy w1 none) (hg : w0.heap.size ≤ g) (hh : w0.heap.size ≤ h) (hE : vbar L base = 0) (l1 : L ≤ 65536)
    (kg : k.g = g) (kh : k.h = h) (ns : NS w2 k (newV (List.replicate L 0) base) false false) (ko : ∀ j, k.own j → w1.heap.size ≤ j) (tu : Turned (fun j => j = h) w1 w2)
    (dg : d.g = g) (dh : d.h = h) (ds : DS w3 d (newV (List.replicate L 0) base).lm base ⟨0, 0, 0, 0⟩) (do_ : ∀ j, d.own j → w2.heap.size ≤ j) (k3 : w2.grownBy w3 none) :
    BI w0 w3 k.n d.p g L base [] [] 0 := by
  obtain ⟨e1, e2, b0, b16, b1⟩ := vbar_ok hE
  have hl : (List.replicate L (0 : UInt8)).length = L := List.length_replicate
  have B1 := Below.of_none k1
  have B2 := B1.trans (tu.below B1.size (fun j e => by rw [e]; exact hh))
  have B3 := B2.trans ((Below.of_none k3).mono B2.size)
  have R := bi_new (w0 := w0) (ns.grown k3) ds (dg.trans kg.symm) (dh.trans kh.symm) b0 (by rw [hl]; exact b1) (by rw [hl]; exact l1) (fun j hj => ?_) B3
  · rw [hl, kg] at R
    exact R
  · rcases hj with (e | e) | (e | e)
    · rw [e, kh]; exact hh
    · exact Nat.le_trans k1.size (ko j e)
    · rw [e, dh]; exact hh
    · exact Nat.le_trans B2.size (do_ j e)
theorem srow_one {w : World} {y : Value} {s : List UInt8} (h : SRow w y [s]) : ∃ b c, y = .slice (some ⟨b, 0, none⟩) 1 c ∧ b < w.heap.size ∧ w.cell? ⟨b, 0, none⟩ = some (.string ⟨s.toArray⟩) := by
  obtain ⟨b', cap, hv, _, _, _, _, hc⟩ := RowA.elem (k := 1) (enc := fun (s : List UInt8) => [Value.string ⟨s.toArray⟩]) (fun _ => rfl) h.row (by show 0 < 1; decide)
  have := hc 0 (by show 0 < 1; decide) 0 _ rfl
  rw [Nat.zero_mul] at this
  exact ⟨b', cap, hv, World.block_lt_of_cell? w _ this, this⟩
theorem txt_back (n : Nat) (b : UInt8) : (⟨(txt n b).data.toList.toArray⟩ : ByteArray) = txt n b := rfl
theorem str_eq (s : ByteArray) : (s.toList == s.toList) = true := by simp
set_option maxRecDepth 100000 in
set_option maxHeartbeats 8000000 in
theorem awake4 (w : World) : Calls Try.prog 18 #[] w fun e w' => e = .returned (.bool true) ∧ Below w.heap.size w w' := by
  go_enter Try.func18, Try.ntmps18
  go_wp2_with fail
  refine (New_ok w 16384 (by omega) (by omega)).mono ?_
  rintro e w1 ⟨rfl, m1, k1⟩
  have M1 := Lib.hid m1
  have K1 := Lib.hid k1
  clear m1 k1
  go_wp2_with fail
  refine (new4_ok w1 _ _ _ M1.out 0 (by rw [List.length_replicate]; decide) (by rw [List.length_replicate]; decide) (by decide) (by rw [List.length_replicate]; decide)).mono ?_
  rintro e w2 ⟨k, kg, kh, rfl, ns, ko, tu⟩
  have NS2 := Lib.hid ns
  have KO := Lib.hid ko
  have TU := Lib.hid tu
  have KG := Lib.hid kg
  have KH := Lib.hid kh
  clear ns ko tu kg kh
  go_wp2_with fail
  have MM := Lib.hid NS2.out.mem
  rw [KG.out, KH.out] at MM
  have HL2 : Hid ((newV (List.replicate (16384 : Int).toNat 0) 0).lm.length = 16384) := Lib.hid (by rw [newV_len, List.length_replicate]; rfl)
  refine (open4_ok w2 _ _ _ MM.out 0 (by rw [HL2.out]; decide) (by rw [HL2.out]; decide) (by decide) (by rw [HL2.out]; decide)).mono ?_
  rintro e w3 ⟨d, dg, dh, rfl, ds, do_, k3⟩
  have B0 := Lib.hid (bi_made (w0 := w) K1.out (by omega) (by omega) (by decide) (by decide) KG.out KH.out NS2.out KO.out TU.out dg dh ds do_ k3)
  clear dg dh ds do_ k3 NS2 KO TU KG KH MM HL2 M1 K1
  generalize k.n = n at B0 ⊢
  generalize d.p = p at B0 ⊢
  go_wp2_with fail
  refine (text_any w3 20 (by decide) 1 1 rfl).mono ?_
  rintro e w4 ⟨rfl, k4⟩
  have B1 := Lib.hid (B0.out.grown k4)
  clear k4 B0
  go_wp2_with fail
  refine (iSend B1.out (txt 20 1) 0 (by rw [txt_size]; decide)).mono ?_
  rintro e w5 ⟨rfl, b, -⟩
  have B2 := Lib.hid b
  clear b B1
  go_wp2_with fail
  refine (iSent B2.out).mono ?_
  rintro e w6 ⟨y, rfl, r, -, b, -⟩
  have B3 := Lib.hid b
  have R3 := Lib.hid r
  clear b r B2
  go_wp2_with fail
  refine (text_any w6 30 (by decide) 2 2 rfl).mono ?_
  rintro e w7 ⟨rfl, k4⟩
  have B4 := Lib.hid (B3.out.grown k4)
  have R4 : Hid (SRow w7 y [(txt 20 1).data.toList]) := Lib.hid (R3.out.grown k4)
  clear k4 B3 R3
  go_wp2_with fail
  refine (iDeliv B4.out (txt 30 2) (by rw [txt_size]; decide) 0 (by rw [txt_size]; decide)).mono ?_
  rintro e w8 ⟨rfl, b, tt⟩
  have B5 := Lib.hid b
  have R5 := Lib.hid (R4.out.far tt)
  clear b tt B4 R4
  go_wp2_with fail
  refine (iRecv B5.out (by decide) 0 (by decide)).mono ?_
  rintro e w9 ⟨z, rfl, r, -, b, tt⟩
  have R6 := Lib.hid (R5.out.far tt)
  have Z6 : Hid (SRow w9 z [(txt 30 2).data.toList]) := Lib.hid r
  have BW := Lib.hid b.bl
  clear r b tt B5 R5
  obtain ⟨b1, c1, rfl, l1, x1⟩ := srow_one R6.out
  obtain ⟨b2, c2, rfl, l2, x2⟩ := srow_one Z6.out
  have L1 := Lib.hid l1
  have L2 := Lib.hid l2
  rw [txt_back] at x1 x2
  clear l1 l2 R6 Z6
  have T1 := Lib.hid (fun w' => text_any w' 20 (by decide) 1 1 rfl)
  have T2 := Lib.hid (fun w' => text_any w' 30 (by decide) 2 2 rfl)
  generalize txt 20 1 = s1 at x1 T1
  generalize txt 30 2 = s2 at x2 T2
  have X1 := Lib.hid x1
  have X2 := Lib.hid x2
  have EQ1 := Lib.hid (str_eq s1)
  have EQ2 := Lib.hid (str_eq s2)
  clear x1 x2
  go_upto_region 8 with fail
  refine wp_region_noPanic ?_
  refine region_held (S := fun V => Below w9.heap.size w9 V) (by kernel_rfl) (fun V d => Below.of_none d.grown) (fun V d hS => ?_)
  refine wpAnyH_take (i := 0) (oi := ⟨some 35, Op.move (Operand.tmp 2), _, _, _, none⟩) (v := (.int .i64 0)) rfl (by kernel_rfl) (by kernel_rfl) (by kernel_rfl) (fun _ _ _ h => h) (Or.inl ⟨by rfl, fun w' h' => ?_⟩) hS ?_
  · clear h'
    go_simp
  simp only [Act.put]
  refine wpAnyH_take (i := 1) (oi := ⟨some 36, Op.binOp BinOp.eql 23 (Operand.tmp 35) (Operand.const (Value.int IntKind.i64 0)) 23, _, _, _, none⟩) (v := (.bool true)) rfl (by kernel_rfl) (by kernel_rfl) (by kernel_rfl) (fun _ _ _ h => h) (Or.inl ⟨by rfl, fun w' h' => ?_⟩) hS ?_
  · clear h'
    go_simp
  simp only [Act.put]
  refine wpAnyH_take (i := 2) (oi := ⟨some 37, Op.move (Operand.tmp 36), _, _, _, none⟩) (v := (.bool true)) rfl (by kernel_rfl) (by kernel_rfl) (by kernel_rfl) (fun _ _ _ h => h) (Or.inl ⟨by rfl, fun w' h' => ?_⟩) hS ?_
  · clear h'
    go_simp
  simp only [Act.put]
  refine wpAnyH_take (i := 3) (oi := ⟨some 38, Op.move (Operand.tmp 4), _, _, _, some (2, true)⟩) (v := (.int .i64 0)) rfl (by kernel_rfl) (by kernel_rfl) (by kernel_rfl) (fun _ _ _ h => h) (Or.inl ⟨by kernel_rfl, fun w' h' => ?_⟩) hS ?_
  · clear h'
    go_simp
  simp only [Act.put]
  refine wpAnyH_take (i := 4) (oi := ⟨some 39, Op.binOp BinOp.eql 23 (Operand.tmp 38) (Operand.const (Value.int IntKind.i64 0)) 23, _, _, _, some (2, true)⟩) (v := (.bool true)) rfl (by kernel_rfl) (by kernel_rfl) (by kernel_rfl) (fun _ _ _ h => h) (Or.inl ⟨by kernel_rfl, fun w' h' => ?_⟩) hS ?_
  · clear h'
    go_simp
  simp only [Act.put]
  refine wpAnyH_take (i := 5) (oi := ⟨some 40, Op.pick (Operand.tmp 37) (Operand.tmp 39) (Operand.const (Value.bool false)), _, _, _, none⟩) (v := (.bool true)) rfl (by kernel_rfl) (by kernel_rfl) (by kernel_rfl) (fun _ _ _ h => h) (Or.inl ⟨by rfl, fun w' h' => ?_⟩) hS ?_
  · clear h'
    go_simp
  simp only [Act.put]
  refine wpAnyH_take (i := 6) (oi := ⟨some 41, Op.move (Operand.tmp 40), _, _, _, none⟩) (v := (.bool true)) rfl (by kernel_rfl) (by kernel_rfl) (by kernel_rfl) (fun _ _ _ h => h) (Or.inl ⟨by rfl, fun w' h' => ?_⟩) hS ?_
  · clear h'
    go_simp
  simp only [Act.put]
  refine wpAnyH_take (i := 7) (oi := ⟨some 42, Op.move (Operand.tmp 6), _, _, _, some (6, true)⟩) (v := (.int .i64 0)) rfl (by kernel_rfl) (by kernel_rfl) (by kernel_rfl) (fun _ _ _ h => h) (Or.inl ⟨by kernel_rfl, fun w' h' => ?_⟩) hS ?_
  · clear h'
    go_simp
  simp only [Act.put]
  refine wpAnyH_take (i := 8) (oi := ⟨some 43, Op.binOp BinOp.eql 23 (Operand.tmp 42) (Operand.const (Value.int IntKind.i64 0)) 23, _, _, _, some (6, true)⟩) (v := (.bool true)) rfl (by kernel_rfl) (by kernel_rfl) (by kernel_rfl) (fun _ _ _ h => h) (Or.inl ⟨by kernel_rfl, fun w' h' => ?_⟩) hS ?_
  · clear h'
    go_simp
  simp only [Act.put]
  refine wpAnyH_take (i := 9) (oi := ⟨some 44, Op.pick (Operand.tmp 41) (Operand.tmp 43) (Operand.const (Value.bool false)), _, _, _, none⟩) (v := (.bool true)) rfl (by kernel_rfl) (by kernel_rfl) (by kernel_rfl) (fun _ _ _ h => h) (Or.inl ⟨by rfl, fun w' h' => ?_⟩) hS ?_
  · clear h'
    go_simp
  simp only [Act.put]
  refine wpAnyH_take (i := 10) (oi := ⟨some 45, Op.move (Operand.tmp 44), _, _, _, none⟩) (v := (.bool true)) rfl (by kernel_rfl) (by kernel_rfl) (by kernel_rfl) (fun _ _ _ h => h) (Or.inl ⟨by rfl, fun w' h' => ?_⟩) hS ?_
  · clear h'
    go_simp
  simp only [Act.put]
  refine wpAnyH_take (i := 11) (oi := ⟨some 46, Op.move (Operand.tmp 7), _, _, _, some (10, true)⟩) (v := (.int .i64 0)) rfl (by kernel_rfl) (by kernel_rfl) (by kernel_rfl) (fun _ _ _ h => h) (Or.inl ⟨by kernel_rfl, fun w' h' => ?_⟩) hS ?_
  · clear h'
    go_simp
  simp only [Act.put]
  refine wpAnyH_take (i := 12) (oi := ⟨some 47, Op.binOp BinOp.eql 23 (Operand.tmp 46) (Operand.const (Value.int IntKind.i64 0)) 23, _, _, _, some (10, true)⟩) (v := (.bool true)) rfl (by kernel_rfl) (by kernel_rfl) (by kernel_rfl) (fun _ _ _ h => h) (Or.inl ⟨by kernel_rfl, fun w' h' => ?_⟩) hS ?_
  · clear h'
    go_simp
  simp only [Act.put]
  refine wpAnyH_take (i := 13) (oi := ⟨some 48, Op.pick (Operand.tmp 45) (Operand.tmp 47) (Operand.const (Value.bool false)), _, _, _, none⟩) (v := (.bool true)) rfl (by kernel_rfl) (by kernel_rfl) (by kernel_rfl) (fun _ _ _ h => h) (Or.inl ⟨by rfl, fun w' h' => ?_⟩) hS ?_
  · clear h'
    go_simp
  simp only [Act.put]
  refine wpAnyH_take (i := 14) (oi := ⟨some 49, Op.move (Operand.tmp 48), _, _, _, none⟩) (v := (.bool true)) rfl (by kernel_rfl) (by kernel_rfl) (by kernel_rfl) (fun _ _ _ h => h) (Or.inl ⟨by rfl, fun w' h' => ?_⟩) hS ?_
  · clear h'
    go_simp
  simp only [Act.put]
  refine wpAnyH_take (i := 15) (oi := ⟨some 50, Op.move (Operand.tmp 9), _, _, _, some (14, true)⟩) (v := (.int .i64 0)) rfl (by kernel_rfl) (by kernel_rfl) (by kernel_rfl) (fun _ _ _ h => h) (Or.inl ⟨by kernel_rfl, fun w' h' => ?_⟩) hS ?_
  · clear h'
    go_simp
  simp only [Act.put]
  refine wpAnyH_take (i := 16) (oi := ⟨some 51, Op.binOp BinOp.eql 23 (Operand.tmp 50) (Operand.const (Value.int IntKind.i64 0)) 23, _, _, _, some (14, true)⟩) (v := (.bool true)) rfl (by kernel_rfl) (by kernel_rfl) (by kernel_rfl) (fun _ _ _ h => h) (Or.inl ⟨by kernel_rfl, fun w' h' => ?_⟩) hS ?_
  · clear h'
    go_simp
  simp only [Act.put]
  refine wpAnyH_take (i := 17) (oi := ⟨some 52, Op.pick (Operand.tmp 49) (Operand.tmp 51) (Operand.const (Value.bool false)), _, _, _, none⟩) (v := (.bool true)) rfl (by kernel_rfl) (by kernel_rfl) (by kernel_rfl) (fun _ _ _ h => h) (Or.inl ⟨by rfl, fun w' h' => ?_⟩) hS ?_
  · clear h'
    go_simp
  simp only [Act.put]
  refine wpAnyH_take (i := 18) (oi := ⟨some 53, Op.move (Operand.tmp 52), _, _, _, none⟩) (v := (.bool true)) rfl (by kernel_rfl) (by kernel_rfl) (by kernel_rfl) (fun _ _ _ h => h) (Or.inl ⟨by rfl, fun w' h' => ?_⟩) hS ?_
  · clear h'
    go_simp
  simp only [Act.put]
  refine wpAnyH_take (i := 19) (oi := ⟨some 54, Op.move (Operand.tmp 8), _, _, _, some (18, true)⟩) (v := (.slice (some ⟨b1, 0, none⟩) 1 c1)) rfl (by kernel_rfl) (by kernel_rfl) (by kernel_rfl) (fun _ _ _ h => h) (Or.inl ⟨by kernel_rfl, fun w' h' => ?_⟩) hS ?_
  · clear h'
    go_simp
  simp only [Act.put]
  refine wpAnyH_take (i := 20) (oi := ⟨some 55, Op.call { callee := Callee.builtin Builtin.len, args := #[(Operand.tmp 54)], argTypes := #[34] }, _, _, _, some (18, true)⟩) (v := (.int .i64 1)) rfl (by kernel_rfl) (by kernel_rfl) (by kernel_rfl) (fun _ _ _ h => h) (Or.inl ⟨by kernel_rfl, fun w' h' => ?_⟩) hS ?_
  · clear h'
    go_simp
  simp only [Act.put]
  refine wpAnyH_take (i := 21) (oi := ⟨some 56, Op.binOp BinOp.eql 3 (Operand.tmp 55) (Operand.const (Value.int IntKind.i64 1)) 3, _, _, _, some (18, true)⟩) (v := (.bool true)) rfl (by kernel_rfl) (by kernel_rfl) (by kernel_rfl) (fun _ _ _ h => h) (Or.inl ⟨by kernel_rfl, fun w' h' => ?_⟩) hS ?_
  · clear h'
    go_simp
  simp only [Act.put]
  refine wpAnyH_take (i := 22) (oi := ⟨some 57, Op.pick (Operand.tmp 53) (Operand.tmp 56) (Operand.const (Value.bool false)), _, _, _, none⟩) (v := (.bool true)) rfl (by kernel_rfl) (by kernel_rfl) (by kernel_rfl) (fun _ _ _ h => h) (Or.inl ⟨by rfl, fun w' h' => ?_⟩) hS ?_
  · clear h'
    go_simp
  simp only [Act.put]
  refine wpAnyH_take (i := 23) (oi := ⟨some 58, Op.move (Operand.tmp 57), _, _, _, none⟩) (v := (.bool true)) rfl (by kernel_rfl) (by kernel_rfl) (by kernel_rfl) (fun _ _ _ h => h) (Or.inl ⟨by rfl, fun w' h' => ?_⟩) hS ?_
  · clear h'
    go_simp
  simp only [Act.put]
  refine wpAnyH_take (i := 24) (oi := ⟨some 59, Op.move (Operand.tmp 8), _, _, _, some (23, true)⟩) (v := (.slice (some ⟨b1, 0, none⟩) 1 c1)) rfl (by kernel_rfl) (by kernel_rfl) (by kernel_rfl) (fun _ _ _ h => h) (Or.inl ⟨by kernel_rfl, fun w' h' => ?_⟩) hS ?_
  · clear h'
    go_simp
  simp only [Act.put]
  refine wpAnyH_take (i := 25) (oi := ⟨some 60, Op.indexAddr 34 (Operand.tmp 59) (Operand.const (Value.int IntKind.i64 0)), _, _, _, some (23, true)⟩) (v := (.pointer (some ⟨b1, 0, none⟩))) rfl (by kernel_rfl) (by kernel_rfl) (by kernel_rfl) (fun _ _ _ h => h) (Or.inl ⟨by kernel_rfl, fun w' h' => ?_⟩) hS ?_
  · clear h'
    go_simp
  simp only [Act.put]
  refine wpAnyH_take (i := 26) (oi := ⟨some 61, Op.load 9 (Operand.tmp 60), _, _, _, some (23, true)⟩) (v := (.string s1)) rfl (by kernel_rfl) (by kernel_rfl) (by kernel_rfl) (fun _ _ _ h => h) (Or.inl ⟨by kernel_rfl, fun w' h' => ?_⟩) hS ?_
  · have c0 := ((World.cell?_of_block (a := ⟨b1, 0, none⟩) (h'.block b1 L1.out)).trans X1.out)
    clear h'
    go_simp
  simp only [Act.put]
  refine wpAnyH_ready (rs := [27]) (by kernel_rfl) (by simp) ?_
  refine AllReadyH.cons rfl (fun K hK => ?_) AllReadyH.nil
  go_simp
  refine (T1.out _).mono ?_
  rintro e w10 ⟨rfl, q⟩
  have q2 := hS.trans ((Below.of_none q).mono hS.size)
  clear q
  go_simp
  refine hK.out _ _ q2 (fun _ => ?_)
  clear hK K
  refine wpAnyH_take (i := 28) (oi := ⟨some 63, Op.binOp BinOp.eql 9 (Operand.tmp 61) (Operand.tmp 62) 9, _, _, _, some (23, true)⟩) (v := (.bool true)) rfl (by kernel_rfl) (by kernel_rfl) (by kernel_rfl) (fun _ _ _ h => h) (Or.inl ⟨by kernel_rfl, fun w' h' => ?_⟩) q2 ?_
  · have c0 := EQ1.out
    clear h'
    go_simp
  simp only [Act.put]
  refine wpAnyH_take (i := 29) (oi := ⟨some 64, Op.pick (Operand.tmp 58) (Operand.tmp 63) (Operand.const (Value.bool false)), _, _, _, none⟩) (v := (.bool true)) rfl (by kernel_rfl) (by kernel_rfl) (by kernel_rfl) (fun _ _ _ h => h) (Or.inl ⟨by rfl, fun w' h' => ?_⟩) q2 ?_
  · clear h'
    go_simp
  simp only [Act.put]
  refine wpAnyH_take (i := 30) (oi := ⟨some 65, Op.move (Operand.tmp 64), _, _, _, none⟩) (v := (.bool true)) rfl (by kernel_rfl) (by kernel_rfl) (by kernel_rfl) (fun _ _ _ h => h) (Or.inl ⟨by rfl, fun w' h' => ?_⟩) q2 ?_
  · clear h'
    go_simp
  simp only [Act.put]
  refine wpAnyH_take (i := 31) (oi := ⟨some 66, Op.move (Operand.tmp 10), _, _, _, some (30, true)⟩) (v := (.slice (some ⟨b2, 0, none⟩) 1 c2)) rfl (by kernel_rfl) (by kernel_rfl) (by kernel_rfl) (fun _ _ _ h => h) (Or.inl ⟨by kernel_rfl, fun w' h' => ?_⟩) q2 ?_
  · clear h'
    go_simp
  simp only [Act.put]
  refine wpAnyH_take (i := 32) (oi := ⟨some 67, Op.call { callee := Callee.builtin Builtin.len, args := #[(Operand.tmp 66)], argTypes := #[34] }, _, _, _, some (30, true)⟩) (v := (.int .i64 1)) rfl (by kernel_rfl) (by kernel_rfl) (by kernel_rfl) (fun _ _ _ h => h) (Or.inl ⟨by kernel_rfl, fun w' h' => ?_⟩) q2 ?_
  · clear h'
    go_simp
  simp only [Act.put]
  refine wpAnyH_take (i := 33) (oi := ⟨some 68, Op.binOp BinOp.eql 3 (Operand.tmp 67) (Operand.const (Value.int IntKind.i64 1)) 3, _, _, _, some (30, true)⟩) (v := (.bool true)) rfl (by kernel_rfl) (by kernel_rfl) (by kernel_rfl) (fun _ _ _ h => h) (Or.inl ⟨by kernel_rfl, fun w' h' => ?_⟩) q2 ?_
  · clear h'
    go_simp
  simp only [Act.put]
  refine wpAnyH_take (i := 34) (oi := ⟨some 69, Op.pick (Operand.tmp 65) (Operand.tmp 68) (Operand.const (Value.bool false)), _, _, _, none⟩) (v := (.bool true)) rfl (by kernel_rfl) (by kernel_rfl) (by kernel_rfl) (fun _ _ _ h => h) (Or.inl ⟨by rfl, fun w' h' => ?_⟩) q2 ?_
  · clear h'
    go_simp
  simp only [Act.put]
  refine wpAnyH_take (i := 35) (oi := ⟨some 70, Op.move (Operand.tmp 69), _, _, _, none⟩) (v := (.bool true)) rfl (by kernel_rfl) (by kernel_rfl) (by kernel_rfl) (fun _ _ _ h => h) (Or.inl ⟨by rfl, fun w' h' => ?_⟩) q2 ?_
  · clear h'
    go_simp
  simp only [Act.put]
  refine wpAnyH_take (i := 36) (oi := ⟨some 71, Op.move (Operand.tmp 10), _, _, _, some (35, true)⟩) (v := (.slice (some ⟨b2, 0, none⟩) 1 c2)) rfl (by kernel_rfl) (by kernel_rfl) (by kernel_rfl) (fun _ _ _ h => h) (Or.inl ⟨by kernel_rfl, fun w' h' => ?_⟩) q2 ?_
  · clear h'
    go_simp
  simp only [Act.put]
  refine wpAnyH_take (i := 37) (oi := ⟨some 72, Op.indexAddr 34 (Operand.tmp 71) (Operand.const (Value.int IntKind.i64 0)), _, _, _, some (35, true)⟩) (v := (.pointer (some ⟨b2, 0, none⟩))) rfl (by kernel_rfl) (by kernel_rfl) (by kernel_rfl) (fun _ _ _ h => h) (Or.inl ⟨by kernel_rfl, fun w' h' => ?_⟩) q2 ?_
  · clear h'
    go_simp
  simp only [Act.put]
  refine wpAnyH_take (i := 38) (oi := ⟨some 73, Op.load 9 (Operand.tmp 72), _, _, _, some (35, true)⟩) (v := (.string s2)) rfl (by kernel_rfl) (by kernel_rfl) (by kernel_rfl) (fun _ _ _ h => h) (Or.inl ⟨by kernel_rfl, fun w' h' => ?_⟩) q2 ?_
  · have c0 := ((World.cell?_of_block (a := ⟨b2, 0, none⟩) (h'.block b2 L2.out)).trans X2.out)
    clear h'
    go_simp
  simp only [Act.put]
  refine wpAnyH_ready (rs := [39]) (by kernel_rfl) (by simp) ?_
  refine AllReadyH.cons rfl (fun K hK => ?_) AllReadyH.nil
  go_simp
  refine (T2.out _).mono ?_
  rintro e w11 ⟨rfl, q⟩
  have q3 := q2.trans ((Below.of_none q).mono q2.size)
  clear q
  go_simp
  refine hK.out _ _ q3 (fun _ => ?_)
  clear hK K
  refine wpAnyH_take (i := 40) (oi := ⟨some 75, Op.binOp BinOp.eql 9 (Operand.tmp 73) (Operand.tmp 74) 9, _, _, _, some (35, true)⟩) (v := (.bool true)) rfl (by kernel_rfl) (by kernel_rfl) (by kernel_rfl) (fun _ _ _ h => h) (Or.inl ⟨by kernel_rfl, fun w' h' => ?_⟩) q3 ?_
  · have c0 := EQ2.out
    clear h'
    go_simp
  simp only [Act.put]
  refine wpAnyH_take (i := 41) (oi := ⟨some 76, Op.pick (Operand.tmp 70) (Operand.tmp 75) (Operand.const (Value.bool false)), _, _, _, none⟩) (v := (.bool true)) rfl (by kernel_rfl) (by kernel_rfl) (by kernel_rfl) (fun _ _ _ h => h) (Or.inl ⟨by rfl, fun w' h' => ?_⟩) q3 ?_
  · clear h'
    go_simp
  simp only [Act.put]
  refine wpAnyH_take (i := 42) (oi := ⟨some 0, Op.assign (Operand.tmp 76), _, _, _, none⟩) (v := (.bool true)) rfl (by kernel_rfl) (by kernel_rfl) (by kernel_rfl) (fun _ _ _ h => h) (Or.inl ⟨by rfl, fun w' h' => ?_⟩) q3 ?_
  · clear h'
    go_simp
  simp only [Act.put]
  refine wpAnyH_done (by kernel_rfl) (NoPanic.normal ?_) _
  go_wp2_with fail
  go_ret
  exact ⟨rfl, BW.out.trans (q3.mono BW.out.size)⟩
end Go.Proofs.Ytmlicejhkdkhnaa
