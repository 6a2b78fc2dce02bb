/-
  Layer 8: whether a datagram has all its bytes, and what it is then. Conditions: as said.
-/
import Derived.Test.YtbjoibgkhooljaaJoC
import Derived.Test.YtbjoibgkhooljaaIpI
namespace Go.Proofs.Ytbjoibgkhooljaa
open Go.RowKit Go.Sort Go.Shelf
set_option linter.unusedVariables false

def sumP (l : List Pc) : Nat := (l.map fun x => x.da.size).sum
def endP (l : List Pc) : Int := l.foldl (fun e x => if x.mo then e else pEnd x) (-1)
/-- All bytes are there. -/
def wholeP (l : List Pc) : Bool := decide ((sumP l : Int) = endP l)
theorem sumP_take {l : List Pc} {k : Nat} (h : k < l.length) : sumP (l.take (k + 1)) = sumP (l.take k) + l[k].da.size := by
  unfold sumP
  rw [take_one h, List.map_append, List.sum_append]
  simp
theorem endP_take {l : List Pc} {k : Nat} (h : k < l.length) : endP (l.take (k + 1)) = if l[k].mo then endP (l.take k) else pEnd l[k] := by
  unfold endP
  rw [take_one h, List.foldl_append]
  rfl
theorem sumP_le : ∀ (l : List Pc), (∀ x ∈ l, x.da.size ≤ 100000) → sumP l ≤ l.length * 100000
  | [], _ => Nat.zero_le _
  | x :: l, h => by
    have h1 := sumP_le l (fun y hy => h y (.tail _ hy))
    have h2 := h x (.head _)
    simp only [sumP, List.map_cons, List.sum_cons, List.length_cons] at h1 ⊢
    omega
theorem pc_storeZ (w : World) (x : Pc) : (storeVar 89 ⟨w.heap.size, 0, none⟩ (.agg #[.int .i64 x.o, .string x.da, .bool x.mo])).run Try.prog (w.alloc (.cells #[.int .i64 0, .string ⟨#[]⟩, .bool false] 89)) = .ok () (w.alloc (.cells #[.int .i64 x.o, .string x.da, .bool x.mo] 89)) :=
  run_storeVar_new (P := Try.prog) w 89 #[.int .i64 0, .string ⟨#[]⟩, .bool false] #[.int .i64 x.o, .string x.da, .bool x.mo] (by kernel_rfl) rfl (by simp [Value.oneCell'])

set_option maxRecDepth 100000 in
set_option maxHeartbeats 4000000 in
theorem whole_any (w : World) (b0 o : Nat) (x : Dg) (hr : w.rangeAt b0 o (dgE x)) (h : PcRow w x.pv x.ps) (hl : x.ps.length ≤ 1000000) (hy : ∀ y ∈ x.ps, y.fine) :
    Calls Try.prog 42 #[.pointer (some ⟨b0, o, none⟩)] w fun e w' => e = .returned (.bool (wholeP x.ps)) ∧ Below w.heap.size w w' := by
  have d0 : w.cell? ⟨b0, o + 12, none⟩ = some (.slice x.pp x.ps.length x.pc) := hr 12 _ rfl
  have R0 : Hid (PcRow w (.slice x.pp x.ps.length x.pc) x.ps) := Lib.hid h
  have B0 : Hid (Below w.heap.size w w) := Lib.hid (Below.refl _ _)
  have HYS := Lib.hid hy
  clear hr h hy
  obtain ⟨nm, age, ttl, p, c, l⟩ := x
  dsimp only at d0 R0 hl HYS ⊢
  go_enter Try.func42, Try.ntmps42
  go_wp2_with fail
  clear d0
  go_loopw [3, 4, 12] (fun n e i wr => ∃ k : Nat, k ≤ l.length ∧ n = .int .i64 (sumP (l.take k) : Nat) ∧ e = .int .i64 (endP (l.take k)) ∧ i = .int .i64 k ∧ Hid (PcRow wr (.slice p l.length c) l) ∧ Hid (Below w.heap.size w wr)) (fun _ _ i _ => l.length - (intOf i).toNat)
  case atStart => exact ⟨0, by omega, rfl, rfl, rfl, R0, B0⟩
  case round =>
    obtain ⟨k, hk, rfl, rfl, rfl, RW, BL⟩ := hrel
    clear R0 B0
    by_cases hlt : k < l.length
    · obtain ⟨b, cap, hv, hcap, hcm, hbl, hfz, hE0⟩ := RowA.elem pcE_len RW.out (by omega)
      injection hv with hv _ hc
      subst hv hc
      have hE := Lib.hid (hE0 k hlt)
      have hf := HYS.out _ (List.getElem_mem hlt)
      have hs := sumP_take hlt
      have he := endP_take hlt
      have hle := sumP_le (l.take k) (fun y hy => (HYS.out y (List.mem_of_mem_take hy)).sz)
      rw [List.length_take, Nat.min_eq_left (by omega)] at hle
      generalize l[k] = y at hE hf hs he
      have HE := Lib.hid (fun w => pend_any w y hf)
      have hsz := hf.sz
      have hwn : IntKind.i64.wrap ((sumP (l.take k) : Nat) + (y.da.size : Int)) = (sumP (l.take (k + 1)) : Nat) := by rw [hs, IntWalk.i64_in _ (by omega)]; omega
      have hm : y.da.size ≤ 9223372036854775807 := by omega
      obtain ⟨yo, yd, ym⟩ := y
      dsimp only at hE hs he hwn HE hm
      have hE : Hid (wr.rangeAt b (k * 3) [.int .i64 yo, .string yd, .bool ym]) := hE
      have hst := pc_storeZ wr ⟨yo, yd, ym⟩
      dsimp only at hst
      have hj1 : decide ((k : Int) < (l.length : Int)) = true := by simp; omega
      have q1 : (0 : Int) ≤ (k : Int) := by omega
      have q2 : (k : Int) < (l.length : Int) := by omega
      have hwk : IntKind.i64.wrap ((k : Int) + 1) = (k : Int) + 1 := IntWalk.i64_in _ (by omega)
      have HS := Lib.hid hs
      have HN := Lib.hid he
      obtain ⟨S1, hS1⟩ : ∃ S1, S1 = sumP (l.take (k + 1)) := ⟨_, rfl⟩
      rw [← hS1] at hwn HS
      have HS1 := Lib.hid hS1
      clear hS1
      clear hE0 hfz hcap hcm hbl hf hs he hle hsz
      generalize sumP (l.take k) = S0 at hwn HS ⊢
      generalize endP (l.take k) = E0 at HN ⊢
      generalize pEnd ⟨yo, yd, ym⟩ = EY at HN HE
      have PN : Hid (PcAt (wr.alloc (.cells #[.int .i64 yo, .string yd, .bool ym] 89)) wr.heap.size ⟨yo, yd, ym⟩) := Lib.hid (heap_alloc_new wr _)
      have RW1 := Lib.hid (row_grow RW.out ((Below.refl wr.heap.size wr).alloc (Nat.le_refl _) (.cells #[.int .i64 yo, .string yd, .bool ym] 89)))
      have BL1 := bstep BL ((Below.refl wr.heap.size wr).alloc (Nat.le_refl _) (.cells #[.int .i64 yo, .string yd, .bool ym] 89))
      go_upto_region 5 with (first | (refine wpList_load_mid rfl 89 _ rfl b (k * 3) rfl [.int .i64 yo, .string yd, .bool ym] _ hE.out Try.underlying89 rfl (by kernel_rfl) ?_) | (refine wpList_storeW 89 _ _ rfl rfl _ wr.heap.size rfl rfl hst ?_))
      obtain ⟨n6, hn6⟩ : ∃ n, n = wr.heap.size := ⟨_, rfl⟩
      generalize wr.alloc _ = W3 at PN RW1 BL1 ⊢
      rw [← hn6] at PN ⊢
      clear hn6 hst hE RW BL
      obtain ⟨y0, y1, y2⟩ := PN.out.cells
      dsimp only at y0 y1 y2
      cases ym
      · go_wp2_with (go_at_call 75; (refine (HE.out _).mono ?_); rintro e w4 ⟨rfl, bx⟩; have RW2 := Lib.hid (row_grow RW1.out bx); have BL2 := bstep BL1 bx; clear bx)
        go_roundw
        case rel => exact ⟨k + 1, by omega, by rw [HS1.out], by rw [HN.out]; rfl, by go_num, RW2, BL2⟩
        case measure => simp [intOf]; omega
      · go_wp2_with fail
        go_roundw
        case rel => exact ⟨k + 1, by omega, by rw [HS1.out], by rw [HN.out]; rfl, by go_num, RW1, BL1⟩
        case measure => simp [intOf]; omega
    · obtain rfl : k = l.length := by omega
      have hj1 : decide ((l.length : Int) < (l.length : Int)) = false := by simp
      rw [List.take_length]
      go_wp2_with fail
      go_ret
      exact ⟨by unfold wholeP; rfl, BL.out⟩

/-- Bytes in a block. -/
def BytesAt (w : World) (n : Nat) (l : List UInt8) : Prop := w.heap[n]? = some (.cells (l.map fun b => Value.int .u8 (b.toNat : Int)).toArray 5 (0, 0))
theorem BytesAt.holds {w : World} {B : Nat} {l : List UInt8} (m : BytesAt w B l) (n : Nat) (hn : n ≤ l.length) : Holds eb w B 0 (l.take n).toArray := by
  intro j hj
  have hj' : j < n := by simp at hj; omega
  constructor
  · rw [cell_of_block m]
    have h1 : j < l.length := by omega
    have h2 : (l.take n).toArray[j]! = l[j]'h1 := by
      rw [getElem!_pos (l.take n).toArray j hj]
      simp
    rw [h2]
    simp [eb, h1]
  · simp [World.frozen?, show w.heap[B]? = _ from m]
theorem BytesAt.kept {w w' : World} {B : Nat} {l : List UInt8} (m : BytesAt w B l) (k : w'.heap[B]? = w.heap[B]?) : BytesAt w' B l := k.trans m
/-- A text is copied into bytes, as far from their beginning as it fits. -/
theorem copy_in (w : World) (B : Nat) (l : List UInt8) (hl : l.length = 1200) (m : BytesAt w B l) (a : Nat) (s : ByteArray) (h : a + s.size ≤ 1200) :
    ∃ A : Option Addr, (if 1200 = a then (some ⟨B, 0, none⟩ : Option Addr) else some ⟨B, a, none⟩) = A ∧ ∃ W, (Builtin.copy_ #[61, 9] 3 #[.slice A (1200 - a) (1200 - a), .string s]).run Try.prog w = .ok (goInt s.size) W ∧ BytesAt W B (lay l a s.data.toList) ∧ Turn w W (fun k => k = B) := by
  by_cases h0 : s.size = 0
  · have hs0 : s.data.toList = [] := List.eq_nil_of_length_eq_zero (by simpa using h0)
    refine ⟨_, rfl, w, by rw [h0]; exact Lib.run_copy_empty_string (P := Try.prog) w 61 9 3 5 _ _ _ s Try.underlying61 (by kernel_rfl) h0, ?_, Turn.refl _ _⟩
    rw [hs0]
    simpa [lay] using m
  · refine ⟨_, if_neg (by omega), _, Lib.run_copy_row_string (P := Try.prog) w 61 9 3 5 B a (1200 - a) (1200 - a) s _ _ Try.underlying61 (by kernel_rfl) m (by omega) (by simpa [hl] using h), ?_, Turn.setRow (O := fun k => k = B) (Turn.refl _ _) rfl _⟩
    unfold BytesAt
    rw [setRow_heap w B _ ((l.map fun b => Value.int .u8 (b.toNat : Int)).toArray.toList.take a ++ Lib.byteCells s.data.toList ++ (l.map fun b => Value.int .u8 (b.toNat : Int)).toArray.toList.drop (a + s.size)).toArray _ _ m]
    simp [lay, Lib.byteCells, List.map_take, List.map_drop]
theorem bytes_new (w : World) : BytesAt (w.alloc (.cells (zeros 1200) 5)) w.heap.size (List.replicate 1200 0) := heap_alloc_new w _
/-- The bytes of pieces, each laid where it belongs. -/
def fillP (l : List Pc) : List UInt8 := l.foldl (fun a x => lay a x.o.toNat x.da.data.toList) (List.replicate 1200 0)
theorem fillP_take {l : List Pc} {k : Nat} (h : k < l.length) : fillP (l.take (k + 1)) = lay (fillP (l.take k)) l[k].o.toNat l[k].da.data.toList := by
  unfold fillP
  rw [take_one h, List.foldl_append]
  rfl
theorem lay_len {a : List UInt8} {k : Nat} {s : List UInt8} (h : k + s.length ≤ a.length) : (lay a k s).length = a.length := by
  unfold lay
  rw [List.length_append, List.length_append, List.length_take, List.length_drop]
  omega
theorem fillP_len : ∀ (l : List Pc) (a : List UInt8), a.length = 1200 → (∀ x ∈ l, x.o.toNat + x.da.size ≤ 1200) → (l.foldl (fun a x => lay a x.o.toNat x.da.data.toList) a).length = 1200
  | [], a, h, _ => h
  | x :: l, a, h, hx => fillP_len l _ ((lay_len (by rw [h, Array.length_toList]; exact hx x (.head _))).trans h) (fun y hy => hx y (.tail _ hy))
/-- A datagram as a packet. -/
def wholeD (x : Da) : Pd := ⟨(x.nm.id.toNat : Int), x.nm.sr, x.nm.ds, (x.nm.pr.toNat : Int), x.ttl, 0, false, ⟨((fillP x.ps).take (sumP x.ps)).toArray⟩⟩
theorem step_copy {P : Program} {ops : Array Oper} {o : Oper} {a : Act} {w : World} {K : Act → World → Prop} {Q : Exit → Act → World → Prop} {E : Prop}
    (hg : o.guard = none) (d x : Operand) (dT sT : TypeId) (hop : o.op = Op.call { callee := Callee.builtin Builtin.copy, args := #[d, x], argTypes := #[dT, sT] })
    (v u : Value) (hd : a.eval d = v) (hx : a.eval x = u) {v' : Value} {w' : World} (hr : (Builtin.copy_ #[dT, sT] o.type #[v, u]).run P w = .ok v' w') (hK : K (a.put o.dst v') w') :
    if Region.wanted o (yielded ops a.tmps) = true then Oper.wp P o a w K Q else E := by
  have hw : Region.wanted o (yielded ops a.tmps) = true := by simp [Region.wanted, hg]
  rw [if_pos hw]
  unfold Oper.wp
  simp only [execOp, hop, resolve, invoke, builtin, Sem.run_bind, Sem.run_pure, Result.andThen_ok, List.map_toArray, List.map_cons, List.map_nil, hd, hx, hr]
  exact hK
/-- What stays while a packet is made of a datagram. -/
structure PkF (w W : World) (b0 o : Nat) (x : Dg) : Prop where
  rm : PdRoom W w.heap.size
  rg : W.rangeAt b0 o (dgE x)
  rw_ : PcRow W x.pv x.ps
  bl : Below w.heap.size w W
theorem PkF.grow {w W W' : World} {b0 o : Nat} {x : Dg} (h : PkF w W b0 o x) (k : Below W.heap.size W W') : PkF w W' b0 o x := ⟨h.rm.grow k, rangeAt_grow h.rg k, row_grow h.rw_ k, h.bl.trans (k.mono h.bl.size)⟩
theorem rangeAt_turn {w w' : World} {O : Nat → Prop} {b o : Nat} {cs : List Value} (h : w.rangeAt b o cs) (t : Turn w w' O) (hb : ¬ O b) : w'.rangeAt b o cs := fun j v hv => by
  have h1 := h j v hv
  have hlt := World.block_lt_of_cell? w _ h1
  rw [← h1]
  exact World.cell?_of_block (w := w) (t.block b hlt hb)

theorem PkF.turn {w W W' : World} {b0 o B : Nat} {x : Dg} (h : PkF w W b0 o x) (t : Turn W W' (fun k => k = B)) (hB : w.heap.size < B) (hb : b0 < w.heap.size) (ho : ∀ k, x.pv.ownBlock = some k → k < w.heap.size) : PkF w W' b0 o x :=
  ⟨h.rm.kept (t.block _ h.rm.lt (by omega)), rangeAt_turn h.rg t (by omega), h.rw_.kept t.size (fun k hk => t.block k (h.rw_.lt k hk).2 (by have := ho k hk; omega)),
    ⟨t.os.trans h.bl.os, t.tape.trans h.bl.tape, t.output.trans h.bl.output, Nat.le_trans h.bl.size t.size, fun k hk => (t.block k (Nat.lt_of_lt_of_le hk h.bl.size) (by omega)).trans (h.bl.block k hk)⟩⟩

end Go.Proofs.Ytbjoibgkhooljaa
