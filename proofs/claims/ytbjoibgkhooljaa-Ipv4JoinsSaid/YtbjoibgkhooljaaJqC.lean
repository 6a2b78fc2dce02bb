/-
  Layer 8: what the document's Put wants further: a row that is copied, a packet in the midst of a row, what stands where the datagram is found or begun. Conditions: as said.
-/
import Derived.Test.YtbjoibgkhooljaaJqA
import Derived.Deep.OwnRows
import Derived.BigQuiet
import Derived.BigRegion
import Derived.Test.YtbjoibgkhooljaaJqB
namespace Go.Proofs.Ytbjoibgkhooljaa
open Go.RowKit Go.Sort Go.Shelf
set_option linter.unusedVariables false

theorem take_map_succ {ps : List Pd} {k : Nat} (h : k < ps.length) : endP ((ps.map pcOf).take (k + 1)) = if ps[k].mo then endP ((ps.map pcOf).take k) else ps[k].ps + ps[k].da.size := by
  have e := endP_take (l := ps.map pcOf) (k := k) (by rw [List.length_map]; exact h)
  rw [List.getElem_map] at e
  exact e
set_option maxRecDepth 100000 in
set_option maxHeartbeats 4000000 in
theorem rjoined_none (w : World) (p : Option Addr) (c : Nat) (ps : List Pd) (h : RowA 14 pdL 35 w (.slice p ps.length c) ps) (hl : ps.length ≤ 100000) (hb : ∀ x ∈ ps, 0 ≤ x.ps ∧ x.ps ≤ 100000 ∧ x.da.size ≤ 100000) (he : endP (ps.map pcOf) = -1) :
    Calls Try.prog 35 #[.slice p ps.length c] w fun e w' => e = .returned (.tuple #[.agg (pdC pdZ), .bool false]) ∧ Below w.heap.size w w' := by
  have HR := Lib.hid h
  have HB := Lib.hid hb
  have HE := Lib.hid he
  clear h hb he
  go_enter Try.func35, Try.ntmps35
  go_upto_region 1 with fail
  have RM : Hid (PdRoom (w.alloc (.cells #[.int .i64 0, .int .u8 0, .int .u8 0, .int .u8 0, .int .u8 0, .int .u8 0, .int .u8 0, .int .u8 0, .int .u8 0, .int .i64 0, .int .i64 0, .int .i64 0, .bool false, .string ⟨#[]⟩] 35)) w.heap.size) := Lib.hid (pdroom_new _ _ _ rfl rfl)
  have BL : Hid (Below w.heap.size w (w.alloc (.cells #[.int .i64 0, .int .u8 0, .int .u8 0, .int .u8 0, .int .u8 0, .int .u8 0, .int .u8 0, .int .u8 0, .int .u8 0, .int .i64 0, .int .i64 0, .int .i64 0, .bool false, .string ⟨#[]⟩] 35))) := Lib.hid ((Below.refl _ _).alloc (Nat.le_refl _) _)
  generalize w.alloc _ = W1 at RM BL ⊢
  go_wp2
  go_loopw [4, 5] (fun e i wr => ∃ k : Nat, k ≤ ps.length ∧ e = .int .i64 (endP ((ps.map pcOf).take k)) ∧ i = .int .i64 k ∧ Hid (PdRoom wr w.heap.size) ∧ Hid (Below w.heap.size w wr)) (fun _ i _ => ps.length - (intOf i).toNat)
  case atStart => exact ⟨0, by omega, rfl, rfl, RM, BL⟩
  case round =>
    obtain ⟨k, hk, rfl, rfl, RW, BW⟩ := hrel
    clear RM BL
    by_cases hlt : k < ps.length
    · obtain ⟨b, cap, hv, hcap, hcm, hbl, hfz, hE0⟩ := RowA.elem pdL_len (row_grow HR.out BW.out) (by omega)
      injection hv with hv _ hc
      subst hv hc
      have hE := hE0 k hlt
      have c11 : wr.cell? ⟨b, k * 14 + 11, none⟩ = some (.int .i64 ps[k].ps) := hE 11 _ rfl
      have c12 : wr.cell? ⟨b, k * 14 + 12, none⟩ = some (.bool ps[k].mo) := hE 12 _ rfl
      have c13 : wr.cell? ⟨b, k * 14 + 13, none⟩ = some (.string ps[k].da) := hE 13 _ rfl
      have hn := take_map_succ hlt
      obtain ⟨f1, f2, f3⟩ := HB.out _ (List.getElem_mem hlt)
      have hj1 : decide ((k : Int) < (ps.length : Int)) = true := by simp; omega
      have q1 : (0 : Int) ≤ (k : Int) := by omega
      have q2 : (k : Int) < (ps.length : Int) := by omega
      have hwk : IntKind.i64.wrap ((k : Int) + 1) = (k : Int) + 1 := IntWalk.i64_in _ (by omega)
      have hwe : IntKind.i64.wrap (ps[k].ps + (ps[k].da.size : Int)) = ps[k].ps + (ps[k].da.size : Int) := IntWalk.i64_in _ (by omega)
      generalize ps[k].ps = yo at c11 hn hwe f1 f2
      generalize ps[k].da = yd at c13 hn hwe f3
      generalize ps[k].mo = mo at c12 hn
      have hz : yd.size ≤ 9223372036854775807 := by omega
      generalize endP ((ps.map pcOf).take k) = E0 at hn ⊢
      have HN := Lib.hid hn
      clear hE0 hE hfz hcap hcm hbl hn f1 f2
      cases mo
      · go_upto_region 6 with fail
        go_quiet (fail)
        all_goals
          go_wp2_with fail
          go_roundw
          case rel => exact ⟨k + 1, by omega, by rw [HN.out]; rfl, by go_num, Lib.hid (RW.out.grow (below_drewN (Below.refl _ _) _)), Lib.hid (below_drewN BW.out _)⟩
          case measure => simp [intOf]; omega
      · go_wp2_with fail
        go_roundw
        case rel => exact ⟨k + 1, by omega, by rw [HN.out]; rfl, by go_num, RW, BW⟩
        case measure => simp [intOf]; omega
    · obtain rfl : k = ps.length := by omega
      have hj1 : decide ((ps.length : Int) < (ps.length : Int)) = false := by simp
      rw [show (ps.map pcOf).take ps.length = ps.map pcOf by rw [← List.length_map (f := pcOf), List.take_length], HE.out]
      obtain ⟨hst, S6⟩ := RW.out.put pdZ
      have S6 := Lib.hid S6
      have B6 := Lib.hid (below_setRow BW.out (Nat.le_refl _) (pdC pdZ))
      go_wp2_with (refine wpList_storeW 35 (.tmp 2) (.tmp 39) rfl rfl (.agg (pdC pdZ)) w.heap.size rfl rfl hst ?_)
      exact bodyPost_ret (v := .tuple #[.agg (pdC pdZ), .bool false]) (results_row _ 2 3 35 (by kernel_rfl) _ w.heap.size _ _ _ _ rfl rfl S6.out Try.underlying35 rfl (by kernel_rfl)) rfl ⟨rfl, B6.out⟩

end Go.Proofs.Ytbjoibgkhooljaa

namespace Go.Proofs.Ytbjoibgkhooljaa
open Go.RowKit Go.Sort Go.Shelf
set_option linter.unusedVariables false

/-- Marks in a block. -/
def BoolsAt (w : World) (n : Nat) (l : List UInt8) : Prop := w.heap[n]? = some (.cells (l.map fun b => Value.bool (b == 1)).toArray 4 (0, 0))
/-- What 'joined' has made: bytes, marks, the packet. -/
structure JnS (w W : World) (n2 B T O : Nat) (bl tl : List UInt8) (o : Pd) : Prop where
  rm : PdRoom W n2
  by_ : BytesAt W B bl
  th : BoolsAt W T tl
  ou : PdAt W O o
  bl : Below w.heap.size w W
  o1 : w.heap.size ≤ n2
  o2 : n2 < B
  o3 : B < T
  o4 : T < O
section
variable {w W : World} {n2 B T O : Nat} {bl tl : List UInt8} {o : Pd}
theorem JnS.drew (h : JnS w W n2 B T O bl tl o) (n : Nat) : JnS w (W.drewN n) n2 B T O bl tl o := ⟨h.rm, h.by_, h.th, h.ou, below_drewN h.bl n, h.o1, h.o2, h.o3, h.o4⟩
theorem JnS.drew1 (h : JnS w W n2 B T O bl tl o) : JnS w W.drew n2 B T O bl tl o := ⟨h.rm, h.by_, h.th, h.ou, h.bl.drew, h.o1, h.o2, h.o3, h.o4⟩
theorem JnS.ne (h : JnS w W n2 B T O bl tl o) : (n2 ≠ B ∧ n2 ≠ T ∧ n2 ≠ O) ∧ (B ≠ T ∧ B ≠ O ∧ T ≠ B ∧ T ≠ O ∧ O ≠ B ∧ O ≠ T) ∧ w.heap.size ≤ B ∧ w.heap.size ≤ T ∧ w.heap.size ≤ O := by
  have h1 := h.o1; have h2 := h.o2; have h3 := h.o3; have h4 := h.o4
  exact ⟨⟨by omega, by omega, by omega⟩, ⟨by omega, by omega, by omega, by omega, by omega, by omega⟩, by omega, by omega, by omega⟩
theorem JnS.setB (h : JnS w W n2 B T O bl tl o) {i : Nat} (hi : i < bl.length) (x : UInt8) : JnS w (W.setCell ⟨B, i, none⟩ (.int .u8 (x.toNat : Int))) n2 B T O (bl.set i x) tl o := by
  obtain ⟨⟨a1, a2, a3⟩, ⟨b1, b2, b3, b4, b5, b6⟩, g1, g2, g3⟩ := h.ne
  refine ⟨h.rm.kept (Below.heap_setCell _ _ _ _ a1), ?_, (Below.heap_setCell _ _ _ _ b3).trans h.th, h.ou.kept (Below.heap_setCell _ _ _ _ b5), h.bl.setCell g1 _, h.o1, h.o2, h.o3, h.o4⟩
  refine (set_cells h.by_ _ (i := i) (by simp; exact hi)).trans ?_
  rw [List.map_set]
  simp
theorem JnS.setT (h : JnS w W n2 B T O bl tl o) {i : Nat} (hi : i < tl.length) : JnS w (W.setCell ⟨T, i, none⟩ (.bool true)) n2 B T O bl (tl.set i 1) o := by
  obtain ⟨⟨a1, a2, a3⟩, ⟨b1, b2, b3, b4, b5, b6⟩, g1, g2, g3⟩ := h.ne
  refine ⟨h.rm.kept (Below.heap_setCell _ _ _ _ a2), (Below.heap_setCell _ _ _ _ b1).trans h.by_, ?_, h.ou.kept (Below.heap_setCell _ _ _ _ b6), h.bl.setCell g2 _, h.o1, h.o2, h.o3, h.o4⟩
  refine (set_cells h.th _ (i := i) (by simp; exact hi)).trans ?_
  rw [List.map_set]
  simp
theorem JnS.setO (h : JnS w W n2 B T O bl tl o) (q : Pd) : JnS w (W.setRow O (pdC q)) n2 B T O bl tl q ∧ (storeVar 35 ⟨O, 0, none⟩ (.agg (pdC q))).run Try.prog W = .ok () (W.setRow O (pdC q)) := by
  obtain ⟨⟨a1, a2, a3⟩, ⟨b1, b2, b3, b4, b5, b6⟩, g1, g2, g3⟩ := h.ne
  obtain ⟨hst, S⟩ := h.ou.room.put q
  exact ⟨⟨h.rm.kept (setRow_other _ _ _ _ a3), (setRow_other _ _ _ _ b2).trans h.by_, (setRow_other _ _ _ _ b4).trans h.th, S, below_setRow h.bl g3 _, h.o1, h.o2, h.o3, h.o4⟩, hst⟩
theorem JnS.pokeO (h : JnS w W n2 B T O bl tl o) {i : Nat} (hi : i < 14) {v : Value} (q : Pd) (he : (pdC o).setIfInBounds i v = pdC q) : JnS w (W.setCell ⟨O, i, none⟩ v) n2 B T O bl tl q := by
  obtain ⟨⟨a1, a2, a3⟩, ⟨b1, b2, b3, b4, b5, b6⟩, g1, g2, g3⟩ := h.ne
  exact ⟨h.rm.kept (Below.heap_setCell _ _ _ _ a3), (Below.heap_setCell _ _ _ _ b2).trans h.by_, (Below.heap_setCell _ _ _ _ b4).trans h.th, (set_cells h.ou v (i := i) hi).trans (by rw [he]), h.bl.setCell g3 _, h.o1, h.o2, h.o3, h.o4⟩
theorem JnS.byte (h : JnS w W n2 B T O bl tl o) {i : Nat} (hi : i < bl.length) : W.cell? ⟨B, i, none⟩ = some (.int .u8 (bl[i].toNat : Int)) ∧ W.frozen? ⟨B, i, none⟩ = false := by
  have e := h.by_
  refine ⟨?_, by simp [World.frozen?, show W.heap[B]? = _ from e]⟩
  rw [cell_of_row W B i _ _ _ e]
  simp [hi]
theorem JnS.mark (h : JnS w W n2 B T O bl tl o) {i : Nat} (hi : i < tl.length) : W.cell? ⟨T, i, none⟩ = some (.bool (tl[i] == 1)) ∧ W.frozen? ⟨T, i, none⟩ = false := by
  have e := h.th
  refine ⟨?_, by simp [World.frozen?, show W.heap[T]? = _ from e]⟩
  rw [cell_of_row W T i _ _ _ e]
  simp [hi]
theorem JnS.conv (h : JnS w W n2 B T O bl tl o) (n : Nat) (hn : bl.length = n) (cap : Nat) : (convert 61 9 (.slice (some ⟨B, 0, none⟩) n cap)).run Try.prog W = .ok (.string ⟨bl.toArray⟩) W := by
  have e := h.by_.holds bl.length (Nat.le_refl _)
  rw [List.take_length] at e
  exact conv_text W B 0 n cap bl hn e
end
theorem rep_bools (n : Nat) : ((List.replicate n (0 : UInt8)).map fun b => Value.bool (b == 1)).toArray = Array.replicate n (Value.bool false) := by simp
theorem rep_bytes (n : Nat) : ((List.replicate n (0 : UInt8)).map fun b => Value.int .u8 (b.toNat : Int)).toArray = Array.replicate n (Value.int .u8 0) := by simp
theorem make_bools (n : Nat) (hn : n ≤ 65536) (w : World) :
    (Instr.makeSlice 126 (.int .i64 (n : Int)) (.int .i64 (n : Int))).run Try.prog w = .ok (.slice (some ⟨w.heap.size, 0, none⟩) n n) (w.alloc (.cells (Array.replicate n (Value.bool false)) 4)) := by
  have h := run_make_row' (P := Try.prog) 126 4 (.bool false) 1 Try.underlying126 (by kernel_rfl) rfl .i64 .i64 n (by omega) (by omega) w
  rw [h]
  have e : madeCells #[.bool false] n = Array.replicate n (Value.bool false) := by
    apply Array.ext_getElem?
    intro k
    unfold madeCells
    by_cases c : k < n
    · simp [c, Nat.mod_one]
    · simp [c]
  rw [e]
theorem make_bytes9 (n : Nat) (hn : n ≤ 65536) (w : World) :
    (Instr.makeSlice 61 (.int .i64 (n : Int)) (.int .i64 (n : Int))).run Try.prog w = .ok (.slice (some ⟨w.heap.size, 0, none⟩) n n) (w.alloc (.cells (Array.replicate n (Value.int .u8 0)) 5)) := by
  rw [make_bytes n hn w]
  have e : zeros n = Array.replicate n (Value.int .u8 0) := by
    unfold zeros
    simp
  rw [e]
theorem lay_step {a d : List UInt8} {k m : Nat} (h : k + m < a.length) (hm : m < d.length) : (lay a k (d.take m)).set (k + m) d[m] = lay a k (d.take (m + 1)) := by
  have hl : (d.take m).length = m := by rw [List.length_take]; omega
  have hl2 : (d.take (m + 1)).length = m + 1 := by rw [List.length_take]; omega
  apply List.ext_getElem?
  intro j
  have r1 := lay_get (a := a) (s := d.take (m + 1)) (k := k) (j := j) (by rw [hl2]; omega)
  have r2 := lay_get (a := a) (s := d.take m) (k := k) (j := j) (by rw [hl]; omega)
  rw [hl2] at r1
  rw [hl] at r2
  rw [List.getElem?_set, r1]
  have hlen : (lay a k (d.take m)).length = a.length := lay_len (by rw [hl]; omega)
  by_cases e : k + m = j
  · subst e
    rw [if_pos rfl, if_pos (by rw [hlen]; exact h), if_pos (by omega), show k + m - k = m by omega, List.getElem?_take, if_pos (by omega), List.getElem?_eq_getElem hm]
  · rw [if_neg e, r2]
    by_cases c : k ≤ j ∧ j < k + m
    · rw [if_pos c, if_pos (by omega), List.getElem?_take, List.getElem?_take, if_pos (by omega), if_pos (by omega)]
    · rw [if_neg c, if_neg (by omega)]
theorem lay_none (a : List UInt8) (k : Nat) : lay a k [] = a := by simp [lay]
theorem rep_take (n m : Nat) (h : m ≤ n) : (List.replicate n (1 : UInt8)).take m = List.replicate m 1 := by rw [List.take_replicate, Nat.min_eq_left h]
theorem fold_take {g : Pc → List UInt8} {a : List UInt8} {l : List Pc} {k : Nat} (h : k < l.length) : (l.take (k + 1)).foldl (fun a x => lay a x.o.toNat (g x)) a = lay ((l.take k).foldl (fun a x => lay a x.o.toNat (g x)) a) l[k].o.toNat (g l[k]) := by
  rw [take_one h, List.foldl_append]
  rfl
theorem first_take {ps : List Pd} {k : Nat} (h : k < ps.length) : firstD (ps.take (k + 1)) = if ps[k].ps = 0 then some ps[k] else firstD (ps.take k) := by
  rw [take_one h, firstD_snoc]

theorem pk_cells {w W : World} {b cap : Nat} {ps : List Pd} (h : RowA 14 pdL 35 w (.slice (some ⟨b, 0, none⟩) ps.length cap) ps) (bl : Below w.heap.size w W) {k : Nat} (hk : k < ps.length) : W.cell? ⟨b, k * 14 + 11, none⟩ = some (.int .i64 ps[k].ps) ∧ W.cell? ⟨b, k * 14 + 13, none⟩ = some (.string ps[k].da) := by
  obtain ⟨b', cap', hv, -, -, -, -, hE0⟩ := RowA.elem pdL_len (row_grow h bl) (by omega)
  injection hv with hv _ hc
  injection hv with hv
  injection hv with hv
  subst hv
  exact ⟨hE0 k hk 11 _ rfl, hE0 k hk 13 _ rfl⟩
set_option maxRecDepth 100000 in
set_option maxHeartbeats 8000000 in
theorem rjoined_of (w : World) (p : Option Addr) (c : Nat) (ps : List Pd) (h : RowA 14 pdL 35 w (.slice p ps.length c) ps) (hl : ps.length ≤ 100000) (E : Nat) (he : endP (ps.map pcOf) = (E : Int)) (hE0 : 0 < E) (hE2 : E ≤ 1200) (hb : ∀ x ∈ ps, 0 ≤ x.ps ∧ x.ps.toNat + x.da.size ≤ E) (R : Pd) (F : Bool) (hR : joinedD ps = (R, F)) :
    Calls Try.prog 35 #[.slice p ps.length c] w fun e w' => e = .returned (.tuple #[.agg (pdC R), .bool F]) ∧ Below w.heap.size w w' := by
  have HR := Lib.hid h
  have HB := Lib.hid hb
  have HE := Lib.hid he
  have HJ := Lib.hid hR
  clear h hb he hR
  go_enter Try.func35, Try.ntmps35
  go_upto_region 1 with fail
  have RM : Hid (PdRoom (w.alloc (.cells #[.int .i64 0, .int .u8 0, .int .u8 0, .int .u8 0, .int .u8 0, .int .u8 0, .int .u8 0, .int .u8 0, .int .u8 0, .int .i64 0, .int .i64 0, .int .i64 0, .bool false, .string ⟨#[]⟩] 35)) w.heap.size) := Lib.hid (pdroom_new _ _ _ rfl rfl)
  have BL : Hid (Below w.heap.size w (w.alloc (.cells #[.int .i64 0, .int .u8 0, .int .u8 0, .int .u8 0, .int .u8 0, .int .u8 0, .int .u8 0, .int .u8 0, .int .u8 0, .int .i64 0, .int .i64 0, .int .i64 0, .bool false, .string ⟨#[]⟩] 35))) := Lib.hid ((Below.refl _ _).alloc (Nat.le_refl _) _)
  generalize w.alloc _ = W1 at RM BL ⊢
  go_wp2
  go_loopw [4, 5] (fun e i wr => ∃ k : Nat, k ≤ ps.length ∧ e = .int .i64 (endP ((ps.map pcOf).take k)) ∧ i = .int .i64 k ∧ Hid (PdRoom wr w.heap.size) ∧ Hid (Below w.heap.size w wr)) (fun _ i _ => ps.length - (intOf i).toNat)
  case atStart => exact ⟨0, by omega, rfl, rfl, RM, BL⟩
  case round =>
    obtain ⟨k, hk, rfl, rfl, RW, BW⟩ := hrel
    clear RM BL
    by_cases hlt : k < ps.length
    · obtain ⟨b, cap, hv, hcap, hcm, hbl, hfz, hE0⟩ := RowA.elem pdL_len (row_grow HR.out BW.out) (by omega)
      injection hv with hv _ hc
      subst hv hc
      have hE := hE0 k hlt
      have c11 : wr.cell? ⟨b, k * 14 + 11, none⟩ = some (.int .i64 ps[k].ps) := hE 11 _ rfl
      have c12 : wr.cell? ⟨b, k * 14 + 12, none⟩ = some (.bool ps[k].mo) := hE 12 _ rfl
      have c13 : wr.cell? ⟨b, k * 14 + 13, none⟩ = some (.string ps[k].da) := hE 13 _ rfl
      have hn := take_map_succ hlt
      obtain ⟨f1, f2⟩ := HB.out _ (List.getElem_mem hlt)
      have hj1 : decide ((k : Int) < (ps.length : Int)) = true := by simp; omega
      have q1 : (0 : Int) ≤ (k : Int) := by omega
      have q2 : (k : Int) < (ps.length : Int) := by omega
      have hwk : IntKind.i64.wrap ((k : Int) + 1) = (k : Int) + 1 := IntWalk.i64_in _ (by omega)
      have hwe : IntKind.i64.wrap (ps[k].ps + (ps[k].da.size : Int)) = ps[k].ps + (ps[k].da.size : Int) := IntWalk.i64_in _ (by omega)
      generalize ps[k].ps = yo at c11 hn hwe f1 f2
      generalize ps[k].da = yd at c13 hn hwe f2
      generalize ps[k].mo = mo at c12 hn
      have hz : yd.size ≤ 9223372036854775807 := by omega
      generalize endP ((ps.map pcOf).take k) = E0 at hn ⊢
      have HN := Lib.hid hn
      clear hE0 hE hfz hcap hcm hbl hn f1 f2
      cases mo
      · go_upto_region 6 with fail
        go_quiet (fail)
        all_goals
          go_wp2_with fail
          go_roundw
          case rel => exact ⟨k + 1, by omega, by rw [HN.out]; rfl, by go_num, Lib.hid (RW.out.grow (below_drewN (Below.refl _ _) _)), Lib.hid (below_drewN BW.out _)⟩
          case measure => simp [intOf]; omega
      · go_wp2_with fail
        go_roundw
        case rel => exact ⟨k + 1, by omega, by rw [HN.out]; rfl, by go_num, RW, BW⟩
        case measure => simp [intOf]; omega
    · obtain rfl : k = ps.length := by omega
      have hj1 : decide ((ps.length : Int) < (ps.length : Int)) = false := by simp
      rw [show (ps.map pcOf).take ps.length = ps.map pcOf by rw [← List.length_map (f := pcOf), List.take_length], HE.out]
      have hj2 : decide ((E : Int) < 0) = false := decide_eq_false (by omega)
      have mk1 := make_bytes9 E (by omega) wr
      go_upto_region 10 with fail
      have BY0 : Hid (BytesAt (wr.alloc (.cells (Array.replicate E (Value.int .u8 0)) 5)) wr.heap.size (List.replicate E 0)) := Lib.hid (by unfold BytesAt; rw [rep_bytes]; exact heap_alloc_new wr _)
      have RM1 := Lib.hid (RW.out.grow ((Below.refl wr.heap.size wr).alloc (Nat.le_refl _) (.cells (Array.replicate E (Value.int .u8 0)) 5)))
      have BL1 := bstep BW ((Below.refl wr.heap.size wr).alloc (Nat.le_refl _) (.cells (Array.replicate E (Value.int .u8 0)) 5))
      have HS1 := Lib.hid RW.out.lt
      clear mk1 RW BW
      obtain ⟨B, hB⟩ : ∃ n, n = wr.heap.size := ⟨_, rfl⟩
      generalize wr.alloc _ = W2 at BY0 RM1 BL1 ⊢
      rw [← hB] at BY0 HS1 ⊢
      clear hB
      have HB2 := Lib.hid (blkLt BY0.out)
      have mk2 := make_bools E (by omega) W2
      go_upto_region 11 with fail
      have TH0 : Hid (BoolsAt (W2.alloc (.cells (Array.replicate E (Value.bool false)) 4)) W2.heap.size (List.replicate E 0)) := Lib.hid (by unfold BoolsAt; rw [rep_bools]; exact heap_alloc_new W2 _)
      have RM2 := Lib.hid (RM1.out.grow ((Below.refl W2.heap.size W2).alloc (Nat.le_refl _) (.cells (Array.replicate E (Value.bool false)) 4)))
      have BY1 := Lib.hid (BY0.out.kept (((Below.refl W2.heap.size W2).alloc (Nat.le_refl _) (.cells (Array.replicate E (Value.bool false)) 4)).block B HB2.out))
      have BL2 := bstep BL1 ((Below.refl W2.heap.size W2).alloc (Nat.le_refl _) (.cells (Array.replicate E (Value.bool false)) 4))
      clear mk2 RM1 BL1 BY0
      obtain ⟨T, hT⟩ : ∃ n, n = W2.heap.size := ⟨_, rfl⟩
      generalize W2.alloc _ = W3 at TH0 RM2 BY1 BL2 ⊢
      rw [← hT] at TH0 HB2 ⊢
      clear hT
      have HT2 := Lib.hid (blkLt TH0.out)
      have hst := pd_storeZ W3 pdZ
      go_upto_region 12 with (refine wpList_storeW 35 (.tmp 8) (.tmp 44) rfl rfl (.agg (pdC pdZ)) W3.heap.size rfl rfl hst ?_)
      try simp only [Act.put]
      have J0 : Hid (JnS w (W3.alloc (.cells (pdC pdZ) 35)) w.heap.size B T W3.heap.size (List.replicate E 0) (List.replicate E 0) pdZ) := Lib.hid (by
        have bx : Below W3.heap.size W3 (W3.alloc (.cells (pdC pdZ) 35)) := (Below.refl _ _).alloc (Nat.le_refl _) _
        have h2 := HB2.out
        have h3 := HT2.out
        exact ⟨RM2.out.grow bx, BY1.out.kept (bx.block B (by omega)), (bx.block T h3).trans TH0.out, pd_new _ _ _ rfl, BL2.out.trans (bx.mono BL2.out.size), Nat.le_refl _, HS1.out, h2, h3⟩)
      clear hst RM2 BY1 TH0 BL2 HB2 HT2 HS1
      obtain ⟨O, hO⟩ : ∃ n, n = W3.heap.size := ⟨_, rfl⟩
      generalize W3.alloc _ = W4 at J0 ⊢
      rw [← hO] at J0 ⊢
      clear hO
      go_wp2
      go_loopw [9, 10] (fun f i wr => ∃ k : Nat, k ≤ ps.length ∧ f = .bool (firstD (ps.take k)).isSome ∧ i = .int .i64 k ∧ Hid (JnS w wr w.heap.size B T O (bytesD E ((ps.map pcOf).take k)) (thereD E ((ps.map pcOf).take k)) ((firstD (ps.take k)).getD pdZ))) (fun _ i _ => ps.length - (intOf i).toNat)
      case atStart => exact ⟨0, by omega, rfl, rfl, J0⟩
      case round =>
        obtain ⟨k, hk, rfl, rfl, JK⟩ := hrel
        rename World => wq
        clear J0
        by_cases hlt : k < ps.length
        · obtain ⟨b, cap, hv, hcap, hcm, hbl, hfz, hE0⟩ := RowA.elem pdL_len (row_grow HR.out JK.out.bl) (by omega)
          injection hv with hv _ hc
          subst hv hc
          have hE := hE0 k hlt
          have hbw : b < w.heap.size := (HR.out.lt b rfl).2
          obtain ⟨f1, f2⟩ := HB.out _ (List.getElem_mem hlt)
          obtain ⟨a, ha⟩ : ∃ a : Nat, ps[k].ps = (a : Int) := ⟨ps[k].ps.toNat, by omega⟩
          rw [ha, Int.toNat_natCast] at f2
          have hz : ps[k].da.size ≤ 9223372036854775807 := by omega
          have hlm : k < (ps.map pcOf).length := by rw [List.length_map]; exact hlt
          have hpk : (ps.map pcOf)[k] = pcOf ps[k] := List.getElem_map _
          have hb1 : bytesD E ((ps.map pcOf).take (k + 1)) = lay (bytesD E ((ps.map pcOf).take k)) a ps[k].da.data.toList := by
            unfold bytesD
            rw [fold_take (g := fun x => x.da.data.toList) hlm, hpk]
            show lay _ ps[k].ps.toNat _ = _
            rw [ha]; rfl
          have ht1 : thereD E ((ps.map pcOf).take (k + 1)) = lay (thereD E ((ps.map pcOf).take k)) a (List.replicate ps[k].da.size 1) := by
            unfold thereD
            rw [fold_take (g := fun x => List.replicate x.da.size 1) hlm, hpk]
            show lay _ ps[k].ps.toNat _ = _
            rw [ha]; rfl
          have hfs := first_take hlt
          have hin : ∀ x ∈ (ps.map pcOf).take k, x.o.toNat + x.da.size ≤ E := fun x hx => by
            obtain ⟨z, hz, rfl⟩ := List.mem_map.1 (List.mem_of_mem_take hx)
            exact (HB.out z hz).2
          have lb : (bytesD E ((ps.map pcOf).take k)).length = E := by
            unfold bytesD
            rw [fold_len (fun x => x.da.data.toList) _ _ (fun x hx => by rw [List.length_replicate, Array.length_toList]; exact hin x hx), List.length_replicate]
          have lt : (thereD E ((ps.map pcOf).take k)).length = E := by
            unfold thereD
            rw [fold_len (fun x => List.replicate x.da.size 1) _ _ (fun x hx => by rw [List.length_replicate, List.length_replicate]; exact hin x hx), List.length_replicate]
          have HB1 := Lib.hid hb1
          have HT1 := Lib.hid ht1
          have HFS := Lib.hid hfs
          clear hb1 ht1 hfs hin hlm hpk hfz hcap hcm
          have hj1 : decide ((k : Int) < (ps.length : Int)) = true := by simp; omega
          have q1 : (0 : Int) ≤ (k : Int) := by omega
          have q2 : (k : Int) < (ps.length : Int) := by omega
          have hwk : IntKind.i64.wrap ((k : Int) + 1) = (k : Int) + 1 := IntWalk.i64_in _ (by omega)
          have hE2 : wq.rangeAt b (k * 14) [.int .i64 ps[k].id, .int .u8 (ps[k].sr.a.toNat : Int), .int .u8 (ps[k].sr.b.toNat : Int), .int .u8 (ps[k].sr.c.toNat : Int), .int .u8 (ps[k].sr.d.toNat : Int), .int .u8 (ps[k].ds.a.toNat : Int), .int .u8 (ps[k].ds.b.toNat : Int), .int .u8 (ps[k].ds.c.toNat : Int), .int .u8 (ps[k].ds.d.toNat : Int), .int .i64 ps[k].pr, .int .i64 ps[k].tl, .int .i64 ps[k].ps, .bool ps[k].mo, .string ps[k].da] := hE
          have HEK := Lib.hid hE2
          have c11 : wq.cell? ⟨b, k * 14 + 11, none⟩ = some (.int .i64 (a : Int)) := by rw [← ha]; exact hE 11 _ rfl
          have HA := Lib.hid ha
          clear hE0 hE hE2 hbl f1 ha
          have hcase : ∃ z : Bool, ((a : Int) == 0) = z := ⟨_, rfl⟩
          obtain ⟨z, hz0⟩ := hcase
          cases z
          · have e1 : firstD (ps.take (k + 1)) = firstD (ps.take k) := by
              rw [HFS.out, if_neg (by rw [HA.out]; simpa using hz0)]
            go_upto_region 20 with fail
            have JX : Hid (JnS w wq w.heap.size B T O (bytesD E ((ps.map pcOf).take k)) (thereD E ((ps.map pcOf).take k)) ((firstD (ps.take (k + 1))).getD pdZ)) := by rw [e1]; exact JK
            clear JK
            have HE1 := Lib.hid e1
            clear c11 e1 hz0 HEK HFS
            go_wp2
            go_loopw [11] (fun m wr => ∃ m' : Nat, m' ≤ ps[k].da.size ∧ m = .int .i64 m' ∧ Hid (JnS w wr w.heap.size B T O (lay (bytesD E ((ps.map pcOf).take k)) a (ps[k].da.data.toList.take m')) (lay (thereD E ((ps.map pcOf).take k)) a (List.replicate m' 1)) ((firstD (ps.take (k + 1))).getD pdZ))) (fun m _ => ps[k].da.size - (intOf m).toNat)
            case atStart => exact ⟨0, by omega, rfl, by rw [List.take_zero, lay_none, show List.replicate 0 (1 : UInt8) = [] from rfl, lay_none]; exact JX⟩
            case round =>
              obtain ⟨m, hm, rfl, JM⟩ := hrel
              rename World => wm
              clear JX
              obtain ⟨c11, c13⟩ := pk_cells HR.out JM.out.bl hlt
              rw [HA.out] at c11
              by_cases hm2 : m < ps[k].da.size
              · have hjm : decide ((m : Int) < (ps[k].da.size : Int)) = true := by simp; omega
                have hwm : IntKind.i64.wrap ((a : Int) + (m : Int)) = ((a + m : Nat) : Int) := by rw [IntWalk.i64_in _ (by omega)]; omega
                have hwm1 : IntKind.i64.wrap ((m : Int) + 1) = (m : Int) + 1 := IntWalk.i64_in _ (by omega)
                have lz : ps[k].da.data.toList.length = ps[k].da.size := by rw [Array.length_toList]; rfl
                have l1 : (lay (bytesD E ((ps.map pcOf).take k)) a (ps[k].da.data.toList.take m)).length = E := by rw [lay_len (by rw [lb, List.length_take]; omega), lb]
                have l2 : (lay (thereD E ((ps.map pcOf).take k)) a (List.replicate m 1)).length = E := by rw [lay_len (by rw [lt, List.length_replicate]; omega), lt]
                obtain ⟨y1, y2⟩ := JM.out.byte (i := a + m) (by omega)
                have s1 := lay_step (a := bytesD E ((ps.map pcOf).take k)) (d := ps[k].da.data.toList) (k := a) (m := m) (by omega) (by omega)
                have s2 : (lay (thereD E ((ps.map pcOf).take k)) a (List.replicate m 1)).set (a + m) 1 = lay (thereD E ((ps.map pcOf).take k)) a (List.replicate (m + 1) 1) := by
                  have := lay_step (a := thereD E ((ps.map pcOf).take k)) (d := List.replicate ps[k].da.size 1) (k := a) (m := m) (by omega) (by rw [List.length_replicate]; omega)
                  rw [rep_take _ _ (by omega), rep_take _ _ (by omega)] at this
                  simpa using this
                have hby : ps[k].da.data.toList[m]'(by omega) = ps[k].da[m]'hm2 := by rw [Array.getElem_toList]; rfl
                rw [hby] at s1
                have J2 := JM.out.setB (i := a + m) (by omega) (ps[k].da[m]'hm2)
                rw [s1] at J2
                have J2 := Lib.hid J2
                obtain ⟨X, hX⟩ : ∃ X : Nat, (ps[k].da[m]'hm2).toNat = X := ⟨_, rfl⟩
                rw [hX] at J2
                have q3 : (0 : Int) ≤ (m : Int) := by omega
                have q4 : (m : Int) < (ps[k].da.size : Int) := by omega
                have q5 : (0 : Int) ≤ ((a + m : Nat) : Int) := by omega
                have q6 : ((a + m : Nat) : Int) < (E : Int) := by omega
                go_upto_region 22 with fail
                go_region
                have J3 := Lib.hid J2.out.drew1
                clear y1 y2 c11 c13 JM J2
                generalize World.drew _ = w5 at J3 ⊢
                obtain ⟨c11, c13⟩ := pk_cells HR.out J3.out.bl hlt
                rw [HA.out] at c11
                obtain ⟨z1, z2⟩ := J3.out.mark (i := a + m) (by omega)
                have J4 := J3.out.setT (i := a + m) (by omega)
                rw [s2] at J4
                have J4 := Lib.hid J4
                go_wp2_with fail
                go_roundw
                case rel => exact ⟨m + 1, by omega, by go_num, J4⟩
                case measure => simp [intOf]; omega
              · have hjm : decide ((m : Int) < (ps[k].da.size : Int)) = false := by simp; omega
                have hme : m = ps[k].da.size := by omega
                have JN : Hid (JnS w wm w.heap.size B T O (bytesD E ((ps.map pcOf).take (k + 1))) (thereD E ((ps.map pcOf).take (k + 1))) ((firstD (ps.take (k + 1))).getD pdZ)) := Lib.hid (by
                  have := JM.out
                  rw [hme, List.take_of_length_le (l := ps[k].da.data.toList) (by rw [Array.length_toList]; exact Nat.le_refl _), ← HB1.out, ← HT1.out] at this
                  exact this)
                clear hme JM
                go_wp2_with fail
                go_roundw
                case rel => exact ⟨k + 1, by omega, by rw [HE1.out], by go_num, JN⟩
                case measure => simp [intOf]; omega
          · have e1 : firstD (ps.take (k + 1)) = some ps[k] := by
              rw [HFS.out, if_pos (by rw [HA.out]; simpa using hz0)]
            obtain ⟨J1, hst⟩ := JK.out.setO ps[k]
            go_upto_region 20 with (first | (refine wpList_load_mid rfl 35 (.tmp 59) rfl b (k * 14) rfl [.int .i64 ps[k].id, .int .u8 (ps[k].sr.a.toNat : Int), .int .u8 (ps[k].sr.b.toNat : Int), .int .u8 (ps[k].sr.c.toNat : Int), .int .u8 (ps[k].sr.d.toNat : Int), .int .u8 (ps[k].ds.a.toNat : Int), .int .u8 (ps[k].ds.b.toNat : Int), .int .u8 (ps[k].ds.c.toNat : Int), .int .u8 (ps[k].ds.d.toNat : Int), .int .i64 ps[k].pr, .int .i64 ps[k].tl, .int .i64 ps[k].ps, .bool ps[k].mo, .string ps[k].da] _ HEK.out Try.underlying35 rfl (by kernel_rfl) ?_) | (refine wpList_storeW 35 (.tmp 8) (.tmp 60) rfl rfl (.agg (pdC ps[k])) O rfl rfl hst ?_))
            try simp only [Act.put]
            have JX : Hid (JnS w (wq.setRow O (pdC ps[k])) w.heap.size B T O (bytesD E ((ps.map pcOf).take k)) (thereD E ((ps.map pcOf).take k)) ((firstD (ps.take (k + 1))).getD pdZ)) := Lib.hid (by rw [e1]; exact J1)
            clear JK J1 hst
            generalize wq.setRow _ _ = wz at JX ⊢
            have HE1 := Lib.hid e1
            clear c11 e1 hz0 HEK HFS
            go_wp2
            go_loopw [11] (fun m wr => ∃ m' : Nat, m' ≤ ps[k].da.size ∧ m = .int .i64 m' ∧ Hid (JnS w wr w.heap.size B T O (lay (bytesD E ((ps.map pcOf).take k)) a (ps[k].da.data.toList.take m')) (lay (thereD E ((ps.map pcOf).take k)) a (List.replicate m' 1)) ((firstD (ps.take (k + 1))).getD pdZ))) (fun m _ => ps[k].da.size - (intOf m).toNat)
            case atStart => exact ⟨0, by omega, rfl, by rw [List.take_zero, lay_none, show List.replicate 0 (1 : UInt8) = [] from rfl, lay_none]; exact JX⟩
            case round =>
              obtain ⟨m, hm, rfl, JM⟩ := hrel
              rename World => wm
              clear JX
              obtain ⟨c11, c13⟩ := pk_cells HR.out JM.out.bl hlt
              rw [HA.out] at c11
              by_cases hm2 : m < ps[k].da.size
              · have hjm : decide ((m : Int) < (ps[k].da.size : Int)) = true := by simp; omega
                have hwm : IntKind.i64.wrap ((a : Int) + (m : Int)) = ((a + m : Nat) : Int) := by rw [IntWalk.i64_in _ (by omega)]; omega
                have hwm1 : IntKind.i64.wrap ((m : Int) + 1) = (m : Int) + 1 := IntWalk.i64_in _ (by omega)
                have lz : ps[k].da.data.toList.length = ps[k].da.size := by rw [Array.length_toList]; rfl
                have l1 : (lay (bytesD E ((ps.map pcOf).take k)) a (ps[k].da.data.toList.take m)).length = E := by rw [lay_len (by rw [lb, List.length_take]; omega), lb]
                have l2 : (lay (thereD E ((ps.map pcOf).take k)) a (List.replicate m 1)).length = E := by rw [lay_len (by rw [lt, List.length_replicate]; omega), lt]
                obtain ⟨y1, y2⟩ := JM.out.byte (i := a + m) (by omega)
                have s1 := lay_step (a := bytesD E ((ps.map pcOf).take k)) (d := ps[k].da.data.toList) (k := a) (m := m) (by omega) (by omega)
                have s2 : (lay (thereD E ((ps.map pcOf).take k)) a (List.replicate m 1)).set (a + m) 1 = lay (thereD E ((ps.map pcOf).take k)) a (List.replicate (m + 1) 1) := by
                  have := lay_step (a := thereD E ((ps.map pcOf).take k)) (d := List.replicate ps[k].da.size 1) (k := a) (m := m) (by omega) (by rw [List.length_replicate]; omega)
                  rw [rep_take _ _ (by omega), rep_take _ _ (by omega)] at this
                  simpa using this
                have hby : ps[k].da.data.toList[m]'(by omega) = ps[k].da[m]'hm2 := by rw [Array.getElem_toList]; rfl
                rw [hby] at s1
                have J2 := JM.out.setB (i := a + m) (by omega) (ps[k].da[m]'hm2)
                rw [s1] at J2
                have J2 := Lib.hid J2
                obtain ⟨X, hX⟩ : ∃ X : Nat, (ps[k].da[m]'hm2).toNat = X := ⟨_, rfl⟩
                rw [hX] at J2
                have q3 : (0 : Int) ≤ (m : Int) := by omega
                have q4 : (m : Int) < (ps[k].da.size : Int) := by omega
                have q5 : (0 : Int) ≤ ((a + m : Nat) : Int) := by omega
                have q6 : ((a + m : Nat) : Int) < (E : Int) := by omega
                go_upto_region 22 with fail
                go_region
                have J3 := Lib.hid J2.out.drew1
                clear y1 y2 c11 c13 JM J2
                generalize World.drew _ = w5 at J3 ⊢
                obtain ⟨c11, c13⟩ := pk_cells HR.out J3.out.bl hlt
                rw [HA.out] at c11
                obtain ⟨z1, z2⟩ := J3.out.mark (i := a + m) (by omega)
                have J4 := J3.out.setT (i := a + m) (by omega)
                rw [s2] at J4
                have J4 := Lib.hid J4
                go_wp2_with fail
                go_roundw
                case rel => exact ⟨m + 1, by omega, by go_num, J4⟩
                case measure => simp [intOf]; omega
              · have hjm : decide ((m : Int) < (ps[k].da.size : Int)) = false := by simp; omega
                have hme : m = ps[k].da.size := by omega
                have JN : Hid (JnS w wm w.heap.size B T O (bytesD E ((ps.map pcOf).take (k + 1))) (thereD E ((ps.map pcOf).take (k + 1))) ((firstD (ps.take (k + 1))).getD pdZ)) := Lib.hid (by
                  have := JM.out
                  rw [hme, List.take_of_length_le (l := ps[k].da.data.toList) (by rw [Array.length_toList]; exact Nat.le_refl _), ← HB1.out, ← HT1.out] at this
                  exact this)
                clear hme JM
                go_wp2_with fail
                go_roundw
                case rel => exact ⟨k + 1, by omega, by rw [HE1.out]; rfl, by go_num, JN⟩
                case measure => simp [intOf]; omega
        · obtain rfl : k = ps.length := by omega
          have hj1 : decide ((ps.length : Int) < (ps.length : Int)) = false := by simp
          rw [show (ps.map pcOf).take ps.length = ps.map pcOf by rw [← List.length_map (f := pcOf), List.take_length], List.take_length] at JK
          rw [List.take_length]
          have hin : ∀ x ∈ ps.map pcOf, x.o.toNat + x.da.size ≤ E := fun x hx => by
            obtain ⟨z, hz, rfl⟩ := List.mem_map.1 hx
            exact (HB.out z hz).2
          have lt : (thereD E (ps.map pcOf)).length = E := by
            unfold thereD
            rw [fold_len (fun x => List.replicate x.da.size 1) _ _ (fun x hx => by rw [List.length_replicate, List.length_replicate]; exact hin x hx), List.length_replicate]
          have lb : (bytesD E (ps.map pcOf)).length = E := by
            unfold bytesD
            rw [fold_len (fun x => x.da.data.toList) _ _ (fun x hx => by rw [List.length_replicate, Array.length_toList]; exact hin x hx), List.length_replicate]
          have hjd : joinedD ps = if ((firstD ps).isSome && (thereD E (ps.map pcOf)).all (· == 1)) = true then (⟨((firstD ps).getD pdZ).id, ((firstD ps).getD pdZ).sr, ((firstD ps).getD pdZ).ds, ((firstD ps).getD pdZ).pr, ((firstD ps).getD pdZ).tl, ((firstD ps).getD pdZ).ps, false, ⟨(bytesD E (ps.map pcOf)).toArray⟩⟩, true) else (pdZ, false) := by
            unfold joinedD
            rw [HE.out, if_neg (by omega), Int.toNat_natCast]
          rw [HJ.out] at hjd
          have HJD := Lib.hid hjd
          clear hjd hin HJ HR HB HE
          generalize (firstD ps).getD pdZ = o at JK HJD
          generalize (firstD ps).isSome = fs at HJD ⊢
          generalize bytesD E (ps.map pcOf) = bl at JK HJD lb
          generalize thereD E (ps.map pcOf) = tl at JK HJD lt
          go_wp2
          go_loopw [9, 12] (fun f i wr => ∃ k : Nat, k ≤ E ∧ f = .bool (fs && (tl.take k).all (· == 1)) ∧ i = .int .i64 k ∧ Hid (JnS w wr w.heap.size B T O bl tl o)) (fun _ i _ => E - (intOf i).toNat)
          case atStart => exact ⟨0, by omega, by simp, rfl, JK⟩
          case round =>
            obtain ⟨k, hk, rfl, rfl, JL⟩ := hrel
            rename World => wl
            clear JK
            by_cases hlt : k < E
            · obtain ⟨m1, m2⟩ := JL.out.mark (i := k) (by omega)
              have hnx : (fs && (tl.take (k + 1)).all (· == 1)) = ((fs && (tl.take k).all (· == 1)) && (tl[k]'(by omega) == 1)) := by
                rw [List.take_succ_eq_append_getElem (by omega), List.all_append, Bool.and_assoc]
                simp
              have HNX := Lib.hid hnx
              generalize (tl[k]'(by omega) == 1) = mk at m1 HNX
              generalize (fs && (tl.take k).all (· == 1)) = fv at HNX ⊢
              have hj2 : decide ((k : Int) < (E : Int)) = true := by simp; omega
              have q1 : (0 : Int) ≤ (k : Int) := by omega
              have q2 : (k : Int) < (E : Int) := by omega
              have hwk : IntKind.i64.wrap ((k : Int) + 1) = (k : Int) + 1 := IntWalk.i64_in _ (by omega)
              clear hnx
              cases fv
              all_goals
                go_wp2_with fail
                go_roundw
                case rel => exact ⟨k + 1, by omega, by rw [HNX.out]; first | rfl | simp, by go_num, JL⟩
                case measure => simp [intOf]; omega
            · obtain rfl : E = k := by omega
              have hj2 : decide ((E : Int) < (E : Int)) = false := by simp
              rw [List.take_of_length_le (l := tl) (by omega)]
              generalize (fs && tl.all (· == 1)) = fv at HJD ⊢
              have c12 := JL.out.ou.mo
              have f12 := JL.out.ou.free 12
              have J5 := Lib.hid (JL.out.pokeO (i := 12) (by decide) (v := .bool false) ⟨o.id, o.sr, o.ds, o.pr, o.tl, o.ps, false, o.da⟩ rfl)
              clear JL
              go_upto_region 29 with fail
              clear c12 f12
              generalize wl.setCell _ _ = w6 at J5 ⊢
              have c13 := J5.out.ou.da
              have f13 := J5.out.ou.free 13
              have hcv := J5.out.conv E lb E
              have J6 := Lib.hid (J5.out.pokeO (i := 13) (by decide) (v := .string ⟨bl.toArray⟩) ⟨o.id, o.sr, o.ds, o.pr, o.tl, o.ps, false, ⟨bl.toArray⟩⟩ rfl)
              clear J5
              go_upto_region 30 with fail
              clear c13 f13 hcv
              generalize w6.setCell _ _ = w7 at J6 ⊢
              cases fv
              · have hh : (R, F) = (pdZ, false) := by rw [HJD.out, if_neg (by decide)]
                injection hh with hh1 hh2
                subst hh1 hh2
                obtain ⟨hst, S6⟩ := J6.out.rm.put pdZ
                have S6 := Lib.hid S6
                have B6 := Lib.hid (below_setRow J6.out.bl (Nat.le_refl _) (pdC pdZ))
                go_wp2_with (refine wpList_storeW 35 (.tmp 2) (.tmp 114) rfl rfl (.agg (pdC pdZ)) w.heap.size rfl rfl hst ?_)
                exact bodyPost_ret (v := .tuple #[.agg (pdC pdZ), .bool false]) (results_row _ 2 3 35 (by kernel_rfl) _ w.heap.size _ _ _ _ rfl rfl S6.out Try.underlying35 rfl (by kernel_rfl)) rfl ⟨rfl, B6.out⟩
              · have hh : (R, F) = ((⟨o.id, o.sr, o.ds, o.pr, o.tl, o.ps, false, ⟨bl.toArray⟩⟩ : Pd), true) := by rw [HJD.out, if_pos rfl]
                injection hh with hh1 hh2
                rw [← hh1] at J6
                subst hh2
                clear HJD hh1
                obtain ⟨hst, S6⟩ := J6.out.rm.put R
                have hp := J6.out.ou
                have S6 := Lib.hid S6
                have B6 := Lib.hid (below_setRow J6.out.bl (Nat.le_refl _) (pdC R))
                go_wp2_with (first | (refine pd_ld (by rfl) (.tmp 8) rfl O rfl _ hp ?_) | (refine wpList_storeW 35 (.tmp 2) (.tmp 115) rfl rfl (.agg (pdC R)) w.heap.size rfl rfl hst ?_))
                exact bodyPost_ret (v := .tuple #[.agg (pdC R), .bool true]) (results_row _ 2 3 35 (by kernel_rfl) _ w.heap.size _ _ _ _ rfl rfl S6.out Try.underlying35 rfl (by kernel_rfl)) rfl ⟨rfl, B6.out⟩
theorem rjoined_any (w : World) (p : Option Addr) (c : Nat) (ps : List Pd) (h : RowA 14 pdL 35 w (.slice p ps.length c) ps) (hl : ps.length ≤ 100000) (hq : PQ ps) (R : Pd) (F : Bool) (hR : joinedD ps = (R, F)) :
    Calls Try.prog 35 #[.slice p ps.length c] w fun e w' => e = .returned (.tuple #[.agg (pdC R), .bool F]) ∧ Below w.heap.size w w' := by
  rcases hq.ends with he | ⟨h1, h2, h3⟩
  · have e : joinedD ps = (pdZ, false) := by unfold joinedD; rw [he, if_pos (by decide)]
    rw [e] at hR
    injection hR with hR1 hR2
    subst hR1 hR2
    refine rjoined_none w p c ps h hl (fun x hx => ?_) he
    have := pcOf_fine (hq.may x hx)
    exact ⟨this.lo, this.hi, this.sz⟩
  · refine rjoined_of w p c ps h hl (endP (ps.map pcOf)).toNat (by omega) (by omega) (by omega) (fun x hx => ?_) R F hR
    obtain ⟨g1, g2⟩ := h3 x hx
    have e : pEnd (pcOf x) = x.ps + x.da.size := rfl
    have e2 : (pcOf x).o = x.ps := rfl
    omega

end Go.Proofs.Ytbjoibgkhooljaa

namespace Go.Proofs.Ytbjoibgkhooljaa
open Go.RowKit Go.Sort Go.Shelf
set_option linter.unusedVariables false

theorem cells2j {w : World} {n : Nat} {x y : Value} {t : TypeId} (h : w.heap[n]? = some (.cells #[x, y] t (0, 0))) : w.cell? ⟨n, 0, none⟩ = some x ∧ w.cell? ⟨n, 1, none⟩ = some y ∧ w.frozen? ⟨n, 0, none⟩ = false ∧ w.frozen? ⟨n, 1, none⟩ = false :=
  ⟨by rw [cell_of_block h]; rfl, by rw [cell_of_block h]; rfl, by simp [World.frozen?, h], by simp [World.frozen?, h]⟩
/-- A datagram of the document's, and where its packets lie. -/
structure DdOk (W : World) (x : Dd) (d : Dq) : Prop where
  row : RowA 14 pdL 35 W (.slice x.pp x.pn x.pc) d.ps
  age : x.age = d.age
theorem DdOk.grow {W W' : World} {x : Dd} {d : Dq} (h : DdOk W x d) (b : Below W.heap.size W W') : DdOk W' x d := ⟨row_grow h.row b, h.age⟩
theorem DdOk.pn {W : World} {x : Dd} {d : Dq} (h : DdOk W x d) : x.pn = d.ps.length := by
  obtain ⟨p, c, e⟩ := h.row.shape
  injection e
/-- The document's datagrams in memory. -/
structure DJz (W : World) (v : Value) (zs : List (Dd × Dq)) : Prop where
  row : RowA 2 ddE 78 W v (zs.map (·.1))
  ok : ∀ z ∈ zs, DdOk W z.1 z.2
theorem DJz.grow {W W' : World} {v : Value} {zs : List (Dd × Dq)} (h : DJz W v zs) (b : Below W.heap.size W W') : DJz W' v zs := ⟨row_grow h.row b, fun z hz => (h.ok z hz).grow b⟩
def DJ (W : World) (v : Value) (L : List Dq) : Prop := ∃ zs : List (Dd × Dq), DJz W v zs ∧ zs.map (·.2) = L
theorem DJ.grow {W W' : World} {v : Value} {L : List Dq} (h : DJ W v L) (b : Below W.heap.size W W') : DJ W' v L := by
  obtain ⟨zs, h1, h2⟩ := h
  exact ⟨zs, h1.grow b, h2⟩
theorem DJz.elem {W : World} {p : Option Addr} {n c : Nat} {zs : List (Dd × Dq)} (h : DJz W (.slice p n c) zs) {j : Nat} (hj : j < zs.length) : ∃ b, p = some ⟨b, 0, none⟩ ∧ n = zs.length ∧ n ≤ c ∧ b < W.heap.size ∧ W.cell? ⟨b, j * 2, none⟩ = some (.slice zs[j].1.pp zs[j].1.pn zs[j].1.pc) ∧ W.cell? ⟨b, j * 2 + 1, none⟩ = some (.int .i64 zs[j].1.age) := by
  obtain ⟨b, cap, hv, hcap, -, hbl, -, hE⟩ := RowA.elem ddE_len h.row (by rw [List.length_map]; omega)
  injection hv with hv hn hc
  rw [List.length_map] at hn hcap
  have e := hE j (by rw [List.length_map]; exact hj)
  rw [List.getElem_map] at e
  exact ⟨b, hv, hn, by omega, hbl, e 0 _ rfl, e 1 _ rfl⟩
/-- Ticked datagrams. -/
def tkz (lim : Int) (zs : List (Dd × Dq)) : List (Dd × Dq) := (zs.map fun z => ((⟨z.1.pp, z.1.pn, z.1.pc, z.1.age + 1⟩ : Dd), (⟨z.2.ps, z.2.age + 1⟩ : Dq))).filter fun z => decide (z.1.age < lim)
theorem tkz_len (lim : Int) (zs : List (Dd × Dq)) : (tkz lim zs).length ≤ zs.length := Nat.le_trans (List.length_filter_le _ _) (by rw [List.length_map]; exact Nat.le_refl _)
theorem tkz_take {lim : Int} {zs : List (Dd × Dq)} {j : Nat} (h : j < zs.length) : tkz lim (zs.take (j + 1)) = tkz lim (zs.take j) ++ if zs[j].1.age + 1 < lim then [((⟨zs[j].1.pp, zs[j].1.pn, zs[j].1.pc, zs[j].1.age + 1⟩ : Dd), (⟨zs[j].2.ps, zs[j].2.age + 1⟩ : Dq))] else [] := by
  unfold tkz
  rw [take_one h, List.map_append, List.filter_append]
  congr 1
  by_cases c : zs[j].1.age + 1 < lim <;> simp [c]
theorem tkz_snd {W : World} {lim : Int} {zs : List (Dd × Dq)} (h : ∀ z ∈ zs, DdOk W z.1 z.2) : (tkz lim zs).map (·.2) = tickD lim (zs.map (·.2)) := by
  unfold tkz tickD
  induction zs with
  | nil => rfl
  | cons z l ih =>
    have e := (h z (.head _)).age
    have ih := ih (fun y hy => h y (.tail _ hy))
    simp only [List.map_cons, List.filter_cons, e]
    by_cases c : z.2.age + 1 < lim
    · rw [if_pos (decide_eq_true c), if_pos (decide_eq_true c), List.map_cons, ih]
    · have e2 : decide (z.2.age + 1 < lim) = false := decide_eq_false c
      rw [if_neg (by rw [e2]; decide), if_neg (by rw [e2]; decide), ih]
theorem tkz_ok {W : World} {lim : Int} {zs : List (Dd × Dq)} (h : ∀ z ∈ zs, DdOk W z.1 z.2) : ∀ z ∈ tkz lim zs, DdOk W z.1 z.2 := by
  intro z hz
  obtain ⟨hz, _⟩ := List.mem_filter.1 hz
  obtain ⟨y, hy, rfl⟩ := List.mem_map.1 hz
  exact ⟨(h y hy).row, by rw [(h y hy).age]⟩
theorem dd_new (w : World) (y : Dd) : ∀ (j : Nat) (u : Value), (ddE y)[j]? = some u → (w.alloc (.cells #[.slice y.pp y.pn y.pc, .int .i64 y.age] 78)).cell? ((⟨w.heap.size, 0, none⟩ : Addr).add j) = some u := by
  intro j u hu
  rw [add_off, Nat.zero_add, cell_of_block (heap_alloc_new w _)]
  exact (List.getElem?_toArray (xs := ddE y)).trans hu
theorem step_append_dd {ops : Array Oper} {o : Oper} {a : Act} {w : World} {K : Act → World → Prop} {Q : Exit → Act → World → Prop} {E : Prop}
    (hg : o.guard = none) (s x : Operand) (hop : o.op = Op.call { callee := Callee.builtin Builtin.append, args := #[s, x], argTypes := #[29, 29] })
    (v : Value) (l : List Dd) (hs : a.eval s = v) (hown : RowA 2 ddE 78 w v l) (hl : l.length ≤ 1000000) (ad : Addr) (c : Nat) (y : Dd) (hx : a.eval x = .slice (some ad) 1 c) (hc : ∀ j u, (ddE y)[j]? = some u → w.cell? (ad.add j) = some u)
    (hK : ∀ v' w', RowA 2 ddE 78 w' v' (l ++ [y]) → w.grownBy w' v.ownBlock → (v'.ownBlock = v.ownBlock ∨ v'.ownBlock = some w.heap.size) → K (a.put o.dst v') w') :
    if Region.wanted o (yielded ops a.tmps) = true then Oper.wp Try.prog o a w K Q else E := by
  have hw : Region.wanted o (yielded ops a.tmps) = true := by simp [Region.wanted, hg]
  rw [if_pos hw]
  obtain ⟨i, z, h1, h2, h3, h4, h5⟩ := info_dd
  obtain ⟨v', w', hr, g1, g2, g3⟩ := run_append_A (P := Try.prog) (w := w) ddE_len ddE_one (by decide) 29 78 i z i.bytes o.type Try.underlying29 h1 h2 h3 rfl h4 h5 v l hown (by omega) ad c y hc
  unfold Oper.wp
  simp only [execOp, hop, resolve, invoke, builtin, Sem.run_bind, Sem.run_pure, Result.andThen_ok, List.map_toArray, List.map_cons, List.map_nil, hs, hx, hr]
  exact hK v' w' g1 g2 g3
theorem RaG.drew1 {α : Type} {k : Nat} {enc : α → List Value} {TE : TypeId} {w wr : World} {F : List (Nat × Obj)} {va : Value} {la : List α} (h : RaG k enc TE w wr F va la) : RaG k enc TE w wr.drew F va la := h.grow (Below.refl _ _).drew
theorem RaG.drewN {α : Type} {k : Nat} {enc : α → List Value} {TE : TypeId} {w wr : World} {F : List (Nat × Obj)} {va : Value} {la : List α} (h : RaG k enc TE w wr F va la) (n : Nat) : RaG k enc TE w (wr.drewN n) F va la := h.grow (below_drewN (Below.refl _ _) n)
/-- The answer is laid. -/
theorem RaG.laid3 {α : Type} {k : Nat} {enc : α → List Value} {TE : TypeId} {w wr : World} {F : List (Nat × Obj)} {va : Value} {la : List α} (h : RaG k enc TE w wr F va la) {n1 n2 : Nat} {o1 o2 : Obj} (h1 : (n1, o1) ∈ F) (h2 : (n2, o2) ∈ F) (l1 : w.heap.size ≤ n1) (l2 : w.heap.size ≤ n2) (x y z : Value) :
    RowA k enc TE (((wr.setCell ⟨n1, 1, none⟩ x).setCell ⟨n2, 0, none⟩ y).setCell ⟨n2, 1, none⟩ z) va la ∧ Below w.heap.size w (((wr.setCell ⟨n1, 1, none⟩ x).setCell ⟨n2, 0, none⟩ y).setCell ⟨n2, 1, none⟩ z) := by
  refine ⟨h.acc.kept (by simp [World.setCell]) (fun b hb => ?_), ((h.bl.setCell l1 _).setCell l2 _).setCell l2 _⟩
  have e1 := (h.fx _ h1).2 b hb
  have e2 := (h.fx _ h2).2 b hb
  rw [Below.heap_setCell _ _ _ _ e2, Below.heap_setCell _ _ _ _ e2, Below.heap_setCell _ _ _ _ e1]

set_option maxRecDepth 100000 in
set_option maxHeartbeats 4000000 in
/-- The document's Tick. -/
theorem rjtick_z {w : World} {p : Option Addr} {n c : Nat} {lim : Int} {zs : List (Dd × Dq)} (h : DJz w (.slice p n c) zs) (hl : zs.length ≤ 1000) (ha : ∀ z ∈ zs, 0 ≤ z.1.age ∧ z.1.age ≤ 1048576) :
    Calls Try.prog 16 #[.agg #[.int .i64 lim, .slice p n c]] w fun e w' => ∃ v', e = .returned (.agg #[.int .i64 lim, v']) ∧ DJz w' v' (tkz lim zs) ∧ (∀ b, v'.ownBlock = some b → w.heap.size ≤ b) ∧ Below w.heap.size w w' := by
  have S0 := ((RaG.start 2 ddE 78 w).push (.cells #[.int .i64 lim, .slice p n c] 31)).push (.cells #[.int .i64 0, .slice none 0 0] 31)
  rw [show (w.alloc (.cells #[.int .i64 lim, .slice p n c] 31)).heap.size = w.heap.size + 1 from by simp] at S0
  have HS0 := Lib.hid S0
  have HR := Lib.hid h
  have HA := Lib.hid ha
  have hnl : n = zs.length := by
    obtain ⟨p', c', e⟩ := h.row.shape
    injection e with _ e _
    rw [e, List.length_map]
  have HNL := Lib.hid hnl
  clear S0 h ha hnl
  go_enter Try.func16, Try.ntmps16
  go_upto_region 1 with fail
  generalize (w.alloc _).alloc _ = W1 at HS0 ⊢
  go_wp2_with fail
  go_loopw [3, 4] (fun va iv wr => ∃ j : Nat, j ≤ zs.length ∧ iv = .int .i64 j ∧ Hid (RaG 2 ddE 78 w wr [(w.heap.size + 1, .cells #[.int .i64 0, .slice none 0 0] 31), (w.heap.size, .cells #[.int .i64 lim, .slice p n c] 31)] va ((tkz lim (zs.take j)).map (·.1)))) (fun _ iv _ => zs.length - (intOf iv).toNat)
  case atStart => exact ⟨0, Nat.zero_le _, rfl, HS0⟩
  case round =>
    obtain ⟨j, hj, rfl, SS⟩ := hrel
    clear HS0
    obtain ⟨b0, b1, -, -⟩ := cells2j (SS.out.get (.tail _ (.head _)))
    obtain ⟨la, hla⟩ : ∃ la, la = (tkz lim (zs.take j)).map (·.1) := ⟨_, rfl⟩
    have HLA := Lib.hid hla
    rw [← hla] at SS
    have hlen : la.length ≤ 1000000 := by
      have h1 := tkz_len lim (zs.take j)
      rw [List.length_take] at h1
      rw [hla, List.length_map]; omega
    have HLEN := Lib.hid hlen
    clear hla hlen
    obtain ⟨p3, c3, hv3⟩ := RowA.shape SS.out.acc
    subst hv3
    by_cases hlt : j < zs.length
    · obtain ⟨b, hp, -, hnc, hbl, c0, c1⟩ := (HR.out.grow SS.out.bl).elem hlt
      subst hp
      have hag := HA.out zs[j] (List.getElem_mem hlt)
      have hT := Lib.hid (tkz_take (lim := lim) hlt)
      have hj1 : decide ((j : Int) < (n : Int)) = true := by rw [HNL.out]; simp; omega
      have q1 : (0 : Int) ≤ (j : Int) := by omega
      have q2 : (j : Int) < (n : Int) := by rw [HNL.out]; omega
      have hwj : IntKind.i64.wrap ((j : Int) + 1) = (j : Int) + 1 := IntWalk.i64_in _ (by omega)
      obtain ⟨⟨⟨pp, pn, pc, age⟩, dq⟩, hz⟩ : ∃ z, zs[j] = z := ⟨_, rfl⟩
      rw [hz] at c0 c1 hT hag
      dsimp only at c0 c1 hag
      have HZ := Lib.hid hz
      clear hz
      have hwa : IntKind.i64.wrap (age + 1) = age + 1 := IntWalk.i64_in _ (by omega)
      clear hag
      go_upto_region 5 with fail
      go_quiet (fail)
      all_goals
        have S5 := Lib.hid (SS.out.drewN nq)
        clear SS b0 b1 c0 c1
        generalize World.drewN _ _ = W5 at S5 ⊢
        obtain ⟨b0, b1, -, -⟩ := cells2j (S5.out.get (.tail _ (.head _)))
        obtain ⟨b', hp', -, -, -, c0, c1⟩ := (HR.out.grow S5.out.bl).elem hlt
        injection hp' with hp'
        injection hp' with hp'
        subst hp'
        rw [HZ.out] at c0 c1
        dsimp only at c0 c1
        by_cases hq : age + 1 < lim
        · have d1 : decide (age + 1 < lim) = true := decide_eq_true hq
          have S6 := Lib.hid (((S5.out.alloc (.cells #[.slice pp pn pc, .int .i64 (age + 1)] 78))).drew1)
          have HNW : Hid (∀ (j : Nat) (u : Value), (ddE ⟨pp, pn, pc, age + 1⟩)[j]? = some u → ((W5.alloc (.cells #[.slice pp pn pc, .int .i64 (age + 1)] 78)).drew).cell? ((⟨W5.heap.size, 0, none⟩ : Addr).add j) = some u) := Lib.hid (dd_new W5.drew ⟨pp, pn, pc, age + 1⟩)
          go_upto_region 6 with fail
          go_region_law (refine step_append_dd rfl (.tmp 22) (.tmp 37) rfl (.slice p3 la.length c3) la rfl S6.out.acc HLEN.out ⟨W5.heap.size, 0, none⟩ 1 ⟨pp, pn, pc, age + 1⟩ rfl HNW.out ?_; intro v' w7 hrow hgr hbl2; have S7 := Lib.hid (S6.out.app hgr hrow hbl2); clear hrow hgr hbl2)
          all_goals
            go_wp2_with fail
            go_roundw
            case rel => exact ⟨j + 1, by omega, by go_num, Lib.hid (by rw [hT.out, if_pos hq, List.map_append, ← HLA.out]; exact S7.out)⟩
            case measure => simp [intOf]; omega
        · have d1 : decide (age + 1 < lim) = false := decide_eq_false hq
          go_wp2_with fail
          go_roundw
          case rel => exact ⟨j + 1, by omega, by go_num, Lib.hid (by rw [hT.out, if_neg hq, List.append_nil, ← HLA.out]; exact S5.out)⟩
          case measure => simp [intOf]; omega
    · obtain rfl : j = zs.length := by omega
      have hj1 : decide ((zs.length : Int) < (n : Int)) = false := by rw [HNL.out]; simp
      have hj2 : decide (zs.length < n) = false := by rw [HNL.out]; simp
      have HLA : Hid (la = (tkz lim zs).map (·.1)) := Lib.hid (by rw [HLA.out, List.take_length])
      clear b0 b1
      obtain ⟨b0, b1, f0, f1⟩ := cells2j (SS.out.get (.tail _ (.head _)))
      obtain ⟨r0, r1, g0, g1⟩ := cells2j (SS.out.get (.head _))
      have HL := Lib.hid (SS.out.laid3 (.tail _ (.head _)) (.head _) (Nat.le_refl _) (by omega) (.slice p3 la.length c3) (.int .i64 lim) (.slice p3 la.length c3))
      go_wp2_with fail
      refine bodyPost_ret (v := .agg #[.int .i64 lim, .slice p3 la.length c3]) (by simp [results, Try.results16, go_sem, r0, r1]) rfl ⟨_, rfl, ⟨by rw [← HLA.out]; exact HL.out.1, fun z hz => (tkz_ok HR.out.ok z hz).grow HL.out.2⟩, SS.out.own, HL.out.2⟩
theorem rjtick_any {w : World} {v : Value} {lim : Int} {k : Nat} {L : List Dq} (h : DJ w v L) (hI : IQ k L) :
    Calls Try.prog 16 #[.agg #[.int .i64 lim, v]] w fun e w' => ∃ v', e = .returned (.agg #[.int .i64 lim, v']) ∧ DJ w' v' (tickD lim L) ∧ Below w.heap.size w w' := by
  obtain ⟨zs, h1, rfl⟩ := h
  obtain ⟨p, c, hv⟩ := h1.row.shape
  subst hv
  refine (rjtick_z h1 (by have := hI.le; rw [List.length_map] at this; omega) (fun z hz => ?_)).mono ?_
  · rw [(h1.ok z hz).age]
    exact hI.ag _ (List.mem_map_of_mem hz)
  · rintro e w' ⟨v', e1, e2, -, e3⟩
    exact ⟨v', e1, ⟨_, e2, tkz_snd h1.ok⟩, e3⟩

end Go.Proofs.Ytbjoibgkhooljaa

namespace Go.Proofs.Ytbjoibgkhooljaa
open Go.RowKit Go.Sort Go.Shelf
set_option linter.unusedVariables false

/-- What a call answers: two structs in blocks of their own, and a slot. -/
theorem results_two {P : Program} (fn : Func) (a b u : Nat) (t s : TypeId) (hf : fn.results = #[.cell a t, .cell b s, .tmp u]) (tm : Array Value) (n m : Nat) (cs ds : Array Value) (v : Value) (d e : TypeDesc) (w : World)
    (ha : tm[a]?.getD undef = .pointer (some ⟨n, 0, none⟩)) (hb : tm[b]?.getD undef = .pointer (some ⟨m, 0, none⟩)) (hu : tm[u]?.getD undef = v) (hn : w.heap[n]? = some (.cells cs t (0, 0))) (hm : w.heap[m]? = some (.cells ds s (0, 0)))
    (hd : P.underlying t = some d) (hr : (match d with | .struct _ | .array _ _ => true | _ => false) = true) (hi : (P.info? t).map (·.size) = some cs.size)
    (he : P.underlying s = some e) (hr2 : (match e with | .struct _ | .array _ _ => true | _ => false) = true) (hi2 : (P.info? s).map (·.size) = some ds.size) :
    (results fn tm).run P w = .ok (.tuple #[.agg cs, .agg ds, v]) w := by
  have hl := run_loadVar_row (P := P) w n t t cs (0, 0) d hn hd hr hi
  have hl2 := run_loadVar_row (P := P) w m s s ds (0, 0) e hm he hr2 hi2
  unfold results
  rw [hf]
  simp [ha, hb, hu, asAddr, hl, hl2]
abbrev jnT (lim : Int) (v : Value) : Array Value := #[.int .i64 lim, v]
/-- The blocks that Put makes at its beginning. -/
abbrev F5 (m : Nat) (lim : Int) (v : Value) (f : Pd) : List (Nat × Obj) :=
  [(m, .cells #[.int .i64 lim, v] 31 (0, 0)), (m + 1, .cells (pdC f) 35 (0, 0)), (m + 1 + 1, .cells #[.int .i64 0, .slice none 0 0] 31 (0, 0)), (m + 1 + 1 + 1, .cells (pdC pdZ) 35 (0, 0)), (m + 1 + 1 + 1 + 1, .cells (pdC pdZ) 35 (0, 0))]
structure PuS (w W : World) (lim : Int) (v : Value) (f : Pd) : Prop where
  fx : ∀ p ∈ F5 w.heap.size lim v f, W.heap[p.1]? = some p.2
  bl : Below w.heap.size w W
section
variable {w W W' : World} {lim : Int} {v : Value} {f : Pd}
theorem PuS.grow (h : PuS w W lim v f) (b : Below W.heap.size W W') : PuS w W' lim v f := ⟨fun p hp => (b.block p.1 (blkLt (h.fx p hp))).trans (h.fx p hp), h.bl.trans (b.mono h.bl.size)⟩
theorem PuS.j (h : PuS w W lim v f) : W.heap[w.heap.size]? = some (.cells #[.int .i64 lim, v] 31 (0, 0)) := h.fx _ (.head _)
theorem PuS.p (h : PuS w W lim v f) : PdAt W (w.heap.size + 1) f := h.fx _ (.tail _ (.head _))
theorem PuS.rj (h : PuS w W lim v f) : W.heap[w.heap.size + 1 + 1]? = some (.cells #[.int .i64 0, .slice none 0 0] 31 (0, 0)) := h.fx _ (.tail _ (.tail _ (.head _)))
theorem PuS.rp (h : PuS w W lim v f) : PdAt W (w.heap.size + 1 + 1 + 1) pdZ := h.fx _ (.tail _ (.tail _ (.tail _ (.head _))))
theorem PuS.no (h : PuS w W lim v f) : PdAt W (w.heap.size + 1 + 1 + 1 + 1) pdZ := h.fx _ (.tail _ (.tail _ (.tail _ (.tail _ (.head _)))))
theorem PuS.m (h : PuS w W lim v f) : w.heap.size + 4 < W.heap.size := blkLt h.no
end
theorem al_old {w : World} {k : Nat} (o : Obj) (h : k < w.heap.size) : (w.alloc o).heap[k]? = w.heap[k]? := ((Below.refl _ _).alloc (Nat.le_refl _) o).block k h
theorem al_size (w : World) (o : Obj) : (w.alloc o).heap.size = w.heap.size + 1 := by simp
theorem al_new {w : World} {k : Nat} (o : Obj) (h : k = w.heap.size) : (w.alloc o).heap[k]? = some o := by rw [h]; exact heap_alloc_new w o
theorem five_new (w : World) (o1 o2 o3 o4 o5 : Obj) : (∀ p ∈ [(w.heap.size, o1), (w.heap.size + 1, o2), (w.heap.size + 1 + 1, o3), (w.heap.size + 1 + 1 + 1, o4), (w.heap.size + 1 + 1 + 1 + 1, o5)], (((((w.alloc o1).alloc o2).alloc o3).alloc o4).alloc o5).heap[p.1]? = some p.2) ∧ Below w.heap.size w (((((w.alloc o1).alloc o2).alloc o3).alloc o4).alloc o5) := by
  have z1 := al_size w o1
  have z2 := al_size (w.alloc o1) o2
  have z3 := al_size ((w.alloc o1).alloc o2) o3
  have z4 := al_size (((w.alloc o1).alloc o2).alloc o3) o4
  refine ⟨fun p hp => ?_, ((((((Below.refl _ _).alloc (Nat.le_refl _) _).alloc (by omega) _).alloc (by omega) _).alloc (by omega) _).alloc (by omega) _)⟩
  simp only [List.mem_cons, List.not_mem_nil, or_false] at hp
  rcases hp with rfl | rfl | rfl | rfl | rfl
  · exact (al_old _ (by omega)).trans ((al_old _ (by omega)).trans ((al_old _ (by omega)).trans ((al_old _ (by omega)).trans (al_new _ rfl))))
  · exact (al_old _ (by omega)).trans ((al_old _ (by omega)).trans ((al_old _ (by omega)).trans (al_new _ (by omega))))
  · exact (al_old _ (by omega)).trans ((al_old _ (by omega)).trans (al_new _ (by omega)))
  · exact (al_old _ (by omega)).trans (al_new _ (by omega))
  · exact al_new _ (by omega)
theorem pus_new (w : World) (lim : Int) (v : Value) (f : Pd) : PuS w (((((w.alloc (.cells #[.int .i64 lim, v] 31)).alloc (.cells (pdC f) 35)).alloc (.cells #[.int .i64 0, .slice none 0 0] 31)).alloc (.cells #[.int .i64 0, .int .u8 0, .int .u8 0, .int .u8 0, .int .u8 0, .int .u8 0, .int .u8 0, .int .u8 0, .int .u8 0, .int .i64 0, .int .i64 0, .int .i64 0, .bool false, .string ⟨#[]⟩] 35)).alloc (.cells (pdC pdZ) 35)) lim v f :=
  ⟨(five_new w _ _ _ _ _).1, (five_new w _ _ _ _ _).2⟩
/-- The frame of a region that answers: all but the answer's two blocks stays. -/
structure RtS (w WB : World) (lim : Int) (p : Option Addr) (n c : Nat) (k : Nat) (f : Pd) (W : World) : Prop where
  j : W.heap[w.heap.size]? = some (.cells #[.int .i64 lim, .slice p n c] 31 (0, 0))
  pk : PdAt W k f
  r4 : ∃ c4 : Array Value, c4.size = 2 ∧ W.heap[w.heap.size + 1 + 1]? = some (.cells c4 31 (0, 0))
  r5 : PdRoom W (w.heap.size + 1 + 1 + 1)
  bl : Below w.heap.size w W
  sz : WB.heap.size ≤ W.heap.size
  kp : ∀ i, i ≠ w.heap.size + 1 + 1 → i ≠ w.heap.size + 1 + 1 + 1 → i < WB.heap.size → W.heap[i]? = WB.heap[i]?
  hk : k ≠ w.heap.size + 1 + 1 ∧ k ≠ w.heap.size + 1 + 1 + 1
theorem rts_new {w W WB : World} {lim : Int} {p : Option Addr} {n c k : Nat} {f : Pd} (hj : W.heap[w.heap.size]? = some (.cells #[.int .i64 lim, .slice p n c] 31 (0, 0))) (h4 : W.heap[w.heap.size + 1 + 1]? = some (.cells #[.int .i64 0, .slice none 0 0] 31 (0, 0))) (h5 : PdAt W (w.heap.size + 1 + 1 + 1) pdZ) (hp : PdAt W k f) (hb : Below w.heap.size w W) (hk : k ≠ w.heap.size + 1 + 1 ∧ k ≠ w.heap.size + 1 + 1 + 1) (hW : WB = W) : ∀ V, EDrew W V → RtS w WB lim p n c k f V := by
  subst hW
  rintro V d
  exact ⟨(d.block _).trans hj, (d.block _).trans hp, ⟨_, rfl, (d.block _).trans h4⟩, h5.room.kept (d.block _), hb.trans (d.below.mono hb.size), d.below.size, fun i _ _ _ => d.block i, hk⟩
theorem RtS.s1 {w WB W : World} {lim : Int} {p : Option Addr} {n c k : Nat} {f : Pd} (h : RtS w WB lim p n c k f W) : (storeVar 31 ⟨w.heap.size + 1 + 1, 0, none⟩ (.agg #[.int .i64 lim, .slice p n c])).run Try.prog W = .ok () (W.setRow (w.heap.size + 1 + 1) #[.int .i64 lim, .slice p n c]) ∧ RtS w WB lim p n c k f (W.setRow (w.heap.size + 1 + 1) #[.int .i64 lim, .slice p n c]) ∧ (W.setRow (w.heap.size + 1 + 1) #[.int .i64 lim, .slice p n c]).heap[w.heap.size + 1 + 1]? = some (.cells #[.int .i64 lim, .slice p n c] 31 (0, 0)) := by
  obtain ⟨c4, z4, h4⟩ := h.r4
  have e := setRow_heap W (w.heap.size + 1 + 1) c4 #[.int .i64 lim, .slice p n c] _ _ h4
  have h1 := h.hk.1
  refine ⟨run_storeVar_row (P := Try.prog) W _ 31 31 c4 #[.int .i64 lim, .slice p n c] h4 (by kernel_rfl) z4 (by simp [Value.oneCell']), ?_, e⟩
  have n1 : w.heap.size ≠ w.heap.size + 1 + 1 := by omega
  have n2 : w.heap.size + 1 + 1 + 1 ≠ w.heap.size + 1 + 1 := by omega
  have hle : w.heap.size ≤ w.heap.size + 1 + 1 := by omega
  exact ⟨(setRow_other _ _ _ _ n1).trans h.j, h.pk.kept (setRow_other _ _ _ _ h1), ⟨_, rfl, e⟩, h.r5.kept (setRow_other _ _ _ _ n2), below_setRow h.bl hle _, Nat.le_trans h.sz (by simp [World.setRow]), fun i a1 a2 a3 => (setRow_other _ _ _ _ a1).trans (h.kp i a1 a2 a3), h.hk⟩
theorem RtS.s2 {w WB W : World} {lim : Int} {p : Option Addr} {n c k : Nat} {f : Pd} (h : RtS w WB lim p n c k f W) (h4 : W.heap[w.heap.size + 1 + 1]? = some (.cells #[.int .i64 lim, .slice p n c] 31 (0, 0))) : (storeVar 35 ⟨w.heap.size + 1 + 1 + 1, 0, none⟩ (.agg (pdC f))).run Try.prog W = .ok () (W.setRow (w.heap.size + 1 + 1 + 1) (pdC f)) ∧ RtS w WB lim p n c k f (W.setRow (w.heap.size + 1 + 1 + 1) (pdC f)) ∧ (W.setRow (w.heap.size + 1 + 1 + 1) (pdC f)).heap[w.heap.size + 1 + 1]? = some (.cells #[.int .i64 lim, .slice p n c] 31 (0, 0)) ∧ PdAt (W.setRow (w.heap.size + 1 + 1 + 1) (pdC f)) (w.heap.size + 1 + 1 + 1) f := by
  obtain ⟨st, a5⟩ := h.r5.put f
  have h2 := h.hk.2
  have n1 : w.heap.size ≠ w.heap.size + 1 + 1 + 1 := by omega
  have n2 : w.heap.size + 1 + 1 ≠ w.heap.size + 1 + 1 + 1 := by omega
  have hle : w.heap.size ≤ w.heap.size + 1 + 1 + 1 := by omega
  have e := (setRow_other W (w.heap.size + 1 + 1 + 1) (w.heap.size + 1 + 1) (pdC f) n2).trans h4
  refine ⟨st, ?_, e, a5⟩
  exact ⟨(setRow_other _ _ _ _ n1).trans h.j, h.pk.kept (setRow_other _ _ _ _ h2), ⟨_, rfl, e⟩, a5.room, below_setRow h.bl hle _, Nat.le_trans h.sz (by simp [World.setRow]), fun i b1 b2 b3 => (setRow_other _ _ _ _ b2).trans (h.kp i b1 b2 b3), h.hk⟩
section
variable {ops : Array Oper} {S : World → Prop} {o : Oper} {a : Act}
theorem yields_jn (hw : Region.wanted o (yielded ops a.tmps) = true) (x : Operand) (ho : o.op = .load 31 x) (b : Nat) (hx : a.eval x = .pointer (some ⟨b, 0, none⟩)) (lim : Int) (v : Value) (hS : ∀ w, S w → w.heap[b]? = some (.cells #[.int .i64 lim, v] 31 (0, 0))) : YieldsIf Try.prog ops S o (.agg #[.int .i64 lim, v]) a :=
  .inl ⟨hw, fun w h => exec_load 31 x ho b hx #[.int .i64 lim, v] _ (hS w h) Try.underlying31 rfl (by kernel_rfl)⟩
end

set_option maxRecDepth 100000 in
set_option maxHeartbeats 8000000 in
theorem rjput_bad (w : World) (lim : Int) (p : Option Addr) (n c : Nat) (f : Pd) (hz : f.da.size ≤ 140737488355328) (hm : mayB f = false) :
    Calls Try.prog 13 #[.agg #[.int .i64 lim, .slice p n c], .agg (pdC f)] w fun e w' => e = .returned (.tuple #[.agg #[.int .i64 lim, .slice p n c], .agg (pdC pdZ), .bool false]) ∧ Below w.heap.size w w' := by
  have kM := Lib.hid (fun w => rMay_any w f hz)
  rw [hm] at kM
  have S0 := Lib.hid (pus_new w lim (.slice p n c) f)
  have hst := pd_storeZ ((((w.alloc (.cells #[.int .i64 lim, .slice p n c] 31)).alloc (.cells (pdC f) 35)).alloc (.cells #[.int .i64 0, .slice none 0 0] 31)).alloc (.cells #[.int .i64 0, .int .u8 0, .int .u8 0, .int .u8 0, .int .u8 0, .int .u8 0, .int .u8 0, .int .u8 0, .int .u8 0, .int .i64 0, .int .i64 0, .int .i64 0, .bool false, .string ⟨#[]⟩] 35)) pdZ
  rw [al_size, al_size, al_size, al_size] at hst
  go_enter Try.func13, Try.ntmps13
  go_upto_region 1 with fail
  go_upto_region 2 with (refine wpList_storeW 35 (.tmp 7) (.tmp 20) rfl rfl (.agg (pdC pdZ)) (w.heap.size + 1 + 1 + 1 + 1) rfl rfl hst ?_)
  try simp only [Act.put]
  clear hst
  generalize World.alloc _ _ = W1 at S0 ⊢
  have hp := S0.out.p
  go_wp2_with (refine pd_ld (by rfl) (.tmp 3) rfl (w.heap.size + 1) rfl _ hp ?_)
  refine (kM.out _).mono ?_
  rintro e w2 ⟨rfl, b2⟩
  have S2 := Lib.hid (S0.out.grow b2)
  clear b2 hp S0
  go_upto_region 3 with fail
  refine wp_region_noPanic ?_
  refine region_heldE (S := RtS w w2 lim p n c (w.heap.size + 1 + 1 + 1 + 1) pdZ) (by kernel_rfl) (rts_new S2.out.j S2.out.rj S2.out.rp S2.out.no S2.out.bl (by constructor <;> omega) rfl) (fun V d hS => ?_)
  clear d
  refine wpAnyH_take (i := 0) (oi := ⟨some 24, Op.load 31 (Operand.tmp 2), _, _, _, none⟩) (v := (.agg #[.int .i64 lim, .slice p n c])) rfl (by kernel_rfl) (by kernel_rfl) (by kernel_rfl) (fun _ _ _ h => h) (yields_jn (by kernel_rfl) (Operand.tmp 2) (by kernel_rfl) w.heap.size (by kernel_rfl) lim (.slice p n c) (fun _ h => h.j)) hS ?_
  simp only [Act.put]
  refine wpAnyH_take (i := 1) (oi := ⟨some 25, Op.load 35 (Operand.tmp 7), _, _, _, none⟩) (v := (.agg (pdC pdZ))) rfl (by kernel_rfl) (by kernel_rfl) (by kernel_rfl) (fun _ _ _ h => h) (yields_pd (by kernel_rfl) (Operand.tmp 7) (by kernel_rfl) (w.heap.size + 1 + 1 + 1 + 1) (by kernel_rfl) pdZ (fun _ h => h.pk)) hS ?_
  simp only [Act.put]
  obtain ⟨st1, T1, k4⟩ := hS.s1
  refine wpAnyH_ready (rs := [2]) (by kernel_rfl) (by simp) ?_
  refine rdy_store9 (n := 2) rfl rfl 31 (Operand.tmp 4) (Operand.tmp 24) rfl rfl (.agg #[.int .i64 lim, .slice p n c]) (w.heap.size + 1 + 1) (by kernel_rfl) (by kernel_rfl) st1 T1 ?_
  obtain ⟨st2, T2, k5, k6⟩ := T1.s2 k4
  refine wpAnyH_ready (rs := [3]) (by kernel_rfl) (by simp) ?_
  refine rdy_store9 (n := 3) rfl rfl 35 (Operand.tmp 5) (Operand.tmp 25) rfl rfl (.agg (pdC pdZ)) (w.heap.size + 1 + 1 + 1) (by kernel_rfl) (by kernel_rfl) st2 T2 ?_
  refine wpAnyH_take (i := 4) (oi := ⟨some 6, Op.assign (Operand.const (Value.bool false)), _, _, _, none⟩) (v := (.bool false)) rfl (by kernel_rfl) (by kernel_rfl) (by kernel_rfl) (fun _ _ _ h => h) (Or.inl ⟨by rfl, fun w' h' => ?_⟩) T2 ?_
  · clear h'
    go_simp
  simp only [Act.put]
  refine wpAnyH_done (by kernel_rfl) (NoPanic.normal ?_) _
  simp only [List.setIfInBounds_toArray, List.set_cons_zero, List.set_cons_succ]
  go_wp2_with fail
  exact bodyPost_ret (v := .tuple #[.agg #[.int .i64 lim, .slice p n c], .agg (pdC pdZ), .bool false]) (results_two _ 4 5 6 31 35 (by kernel_rfl) _ (w.heap.size + 1 + 1) (w.heap.size + 1 + 1 + 1) #[.int .i64 lim, .slice p n c] (pdC pdZ) (.bool false) _ _ _ rfl rfl rfl k5 k6 Try.underlying31 rfl (by kernel_rfl) Try.underlying35 rfl (by kernel_rfl)) rfl ⟨rfl, T2.bl⟩
set_option maxRecDepth 100000 in
set_option maxHeartbeats 8000000 in
theorem rjput_one (w : World) (lim : Int) (p : Option Addr) (n c : Nat) (f : Pd) (hz : f.da.size ≤ 140737488355328) (hm : mayB f = true) (h0 : f.ps = 0) (h1 : f.mo = false) :
    Calls Try.prog 13 #[.agg #[.int .i64 lim, .slice p n c], .agg (pdC f)] w fun e w' => e = .returned (.tuple #[.agg #[.int .i64 lim, .slice p n c], .agg (pdC f), .bool true]) ∧ Below w.heap.size w w' := by
  have kM := Lib.hid (fun w => rMay_any w f hz)
  rw [hm] at kM
  have S0 := Lib.hid (pus_new w lim (.slice p n c) f)
  have hst := pd_storeZ ((((w.alloc (.cells #[.int .i64 lim, .slice p n c] 31)).alloc (.cells (pdC f) 35)).alloc (.cells #[.int .i64 0, .slice none 0 0] 31)).alloc (.cells #[.int .i64 0, .int .u8 0, .int .u8 0, .int .u8 0, .int .u8 0, .int .u8 0, .int .u8 0, .int .u8 0, .int .u8 0, .int .i64 0, .int .i64 0, .int .i64 0, .bool false, .string ⟨#[]⟩] 35)) pdZ
  rw [al_size, al_size, al_size, al_size] at hst
  go_enter Try.func13, Try.ntmps13
  go_upto_region 1 with fail
  go_upto_region 2 with (refine wpList_storeW 35 (.tmp 7) (.tmp 20) rfl rfl (.agg (pdC pdZ)) (w.heap.size + 1 + 1 + 1 + 1) rfl rfl hst ?_)
  try simp only [Act.put]
  clear hst
  generalize World.alloc _ _ = W1 at S0 ⊢
  have hp := S0.out.p
  go_wp2_with (refine pd_ld (by rfl) (.tmp 3) rfl (w.heap.size + 1) rfl _ hp ?_)
  refine (kM.out _).mono ?_
  rintro e w2 ⟨rfl, b2⟩
  have S2 := Lib.hid (S0.out.grow b2)
  clear b2 hp S0
  have c11 := S2.out.p.ps
  have c12 := S2.out.p.mo
  rw [h0] at c11
  rw [h1] at c12
  go_upto_region 5 with fail
  clear c11 c12
  refine wp_region_noPanic ?_
  refine region_heldE (S := RtS w w2 lim p n c (w.heap.size + 1) f) (by kernel_rfl) (rts_new S2.out.j S2.out.rj S2.out.rp S2.out.p S2.out.bl (by constructor <;> omega) rfl) (fun V d hS => ?_)
  clear d
  refine wpAnyH_take (i := 0) (oi := ⟨some 34, Op.load 31 (Operand.tmp 2), _, _, _, none⟩) (v := (.agg #[.int .i64 lim, .slice p n c])) rfl (by kernel_rfl) (by kernel_rfl) (by kernel_rfl) (fun _ _ _ h => h) (yields_jn (by kernel_rfl) (Operand.tmp 2) (by kernel_rfl) w.heap.size (by kernel_rfl) lim (.slice p n c) (fun _ h => h.j)) hS ?_
  simp only [Act.put]
  refine wpAnyH_take (i := 1) (oi := ⟨some 35, Op.load 35 (Operand.tmp 3), _, _, _, none⟩) (v := (.agg (pdC f))) rfl (by kernel_rfl) (by kernel_rfl) (by kernel_rfl) (fun _ _ _ h => h) (yields_pd (by kernel_rfl) (Operand.tmp 3) (by kernel_rfl) (w.heap.size + 1) (by kernel_rfl) f (fun _ h => h.pk)) hS ?_
  simp only [Act.put]
  obtain ⟨st1, T1, k4⟩ := hS.s1
  refine wpAnyH_ready (rs := [2]) (by kernel_rfl) (by simp) ?_
  refine rdy_store9 (n := 2) rfl rfl 31 (Operand.tmp 4) (Operand.tmp 34) rfl rfl (.agg #[.int .i64 lim, .slice p n c]) (w.heap.size + 1 + 1) (by kernel_rfl) (by kernel_rfl) st1 T1 ?_
  obtain ⟨st2, T2, k5, k6⟩ := T1.s2 k4
  refine wpAnyH_ready (rs := [3]) (by kernel_rfl) (by simp) ?_
  refine rdy_store9 (n := 3) rfl rfl 35 (Operand.tmp 5) (Operand.tmp 35) rfl rfl (.agg (pdC f)) (w.heap.size + 1 + 1 + 1) (by kernel_rfl) (by kernel_rfl) st2 T2 ?_
  refine wpAnyH_take (i := 4) (oi := ⟨some 6, Op.assign (Operand.const (Value.bool true)), _, _, _, none⟩) (v := (.bool true)) rfl (by kernel_rfl) (by kernel_rfl) (by kernel_rfl) (fun _ _ _ h => h) (Or.inl ⟨by rfl, fun w' h' => ?_⟩) T2 ?_
  · clear h'
    go_simp
  simp only [Act.put]
  refine wpAnyH_done (by kernel_rfl) (NoPanic.normal ?_) _
  simp only [List.setIfInBounds_toArray, List.set_cons_zero, List.set_cons_succ]
  go_wp2_with fail
  exact bodyPost_ret (v := .tuple #[.agg #[.int .i64 lim, .slice p n c], .agg (pdC f), .bool true]) (results_two _ 4 5 6 31 35 (by kernel_rfl) _ (w.heap.size + 1 + 1) (w.heap.size + 1 + 1 + 1) #[.int .i64 lim, .slice p n c] (pdC f) (.bool true) _ _ _ rfl rfl rfl k5 k6 Try.underlying31 rfl (by kernel_rfl) Try.underlying35 rfl (by kernel_rfl)) rfl ⟨rfl, T2.bl⟩

end Go.Proofs.Ytbjoibgkhooljaa

namespace Go.Proofs.Ytbjoibgkhooljaa
open Go.RowKit Go.Sort Go.Shelf
set_option linter.unusedVariables false

section
variable {P : Program} {ops : Array Oper} {rest : List Oper} {o : Oper} {a : Act} {w : World} {Q : Exit → Act → World → Prop} {α : Type} {k : Nat} {enc : α → List Value} {TE : TypeId}
/-- A row is appended to nothing. -/
theorem wpList_copy_row (hk : ∀ x, (enc x).length = k) (h1e : ∀ x, ∀ u ∈ enc x, u.oneCell' = true) (hk0 : 0 < k) (hg : o.guard = none) (s x : Operand) (t : TypeId) (hop : o.op = Op.call { callee := Callee.builtin Builtin.append, args := #[s, x], argTypes := #[t, t] })
    (i : TypeInfo) (z : Value) (ht : P.underlying t = some (.slice TE)) (hi : P.info? TE = some i) (hz : i.zero = some z) (hsize : i.size = k) (hb2 : i.bytes ≤ 1000) (hzs : z.cells.size = k)
    (hs : a.eval s = .slice none 0 0) (v : Value) (l : List α) (hx : a.eval x = v) (hv : RowA k enc TE w v l) (hl : l.length ≤ 1000000)
    (hK : ∀ v' w', RowA k enc TE w' v' l → w.grownBy w' none → (v'.ownBlock = none ∨ v'.ownBlock = some w.heap.size) → wpList P ops Q rest (a.put o.dst v') w') : wpList P ops Q (o :: rest) a w := by
  refine wpList_plain hg fun K hKK => ?_
  rcases hv.2 with ⟨rfl, h0⟩ | ⟨b, cap, cur, rfl, _⟩
  · obtain rfl : l = [] := List.length_eq_zero_iff.1 h0
    have hr : (Builtin.append_ #[t, t] o.type #[.slice none 0 0, .slice none 0 0]).run P w = .ok (.slice none 0 0) w := by
      simp [Builtin.append_, run_underlying ht, sizeOf, typeInfo, hi, Builtin.lenOf, Builtin.firstCells]
    unfold Oper.wp
    simp only [execOp, hop, resolve, invoke, builtin, Sem.run_bind, Sem.run_pure, Result.andThen_ok, List.map_toArray, List.map_cons, List.map_nil, hs, hx, hr]
    exact hKK _ _ (hK _ _ (World.ownsRow_nil _ _ _ _) (World.grownBy.refl _ _) (.inl rfl))
  · obtain ⟨v', w', hr, h2, h3, _, h5⟩ := run_append_own_at (P := P) w 0 t o.type TE i z k i.bytes ht hi hz hsize rfl hzs hk0 (.slice none 0 0) 0 [] (World.ownsRow_nil _ _ _ _) ⟨b, 0, none⟩ l.length cap (encA enc l) (encA_length hk l) (hv.cells (g := b) rfl)
      (fun u hu => by
        obtain ⟨tm, _, hu⟩ := List.mem_flatMap.1 hu
        exact h1e tm u hu) (by unfold maxLen; omega) (by have := Nat.mul_le_mul (show 0 + l.length ≤ 1000000 by omega) hb2; omega) (Nat.zero_le _)
    unfold Oper.wp
    simp only [execOp, hop, resolve, invoke, builtin, Sem.run_bind, Sem.run_pure, Result.andThen_ok, List.map_toArray, List.map_cons, List.map_nil, hs, hx, hr]
    refine hKK _ _ (hK v' w' ?_ h3 h5)
    simp only [Nat.zero_add, List.nil_append] at h2
    exact h2
/-- A struct that lies in the midst of a row is read whole. -/
theorem yields_mid {S : World → Prop} (hw : Region.wanted o (yielded ops a.tmps) = true) (t : TypeId) (x : Operand) (ho : o.op = .load t x) (b j : Nat) (hx : a.eval x = .pointer (some ⟨b, j, none⟩)) (cs : Array Value) (d : TypeDesc) (hS : ∀ w, S w → w.rangeAt b j cs.toList)
    (hu : P.underlying t = some d) (hd : d.isRow = true) (hi : (P.info? t).map (·.size) = some cs.size) : YieldsIf P ops S o (.agg cs) a :=
  .inl ⟨hw, fun w h => by
    have hl := run_loadVar_mid (P := P) w b j t cs.toList d (hS w h) hu hd (by simpa using hi)
    unfold execOp
    simp only [ho, hx, Instr.loadAt, Instr.sureAddr, Sem.run_bind, Sem.run_pure, Result.andThen_ok, hl]⟩
end
theorem rangeAt_below {w w' : World} {b j : Nat} {cs : List Value} (h : w.rangeAt b j cs) (bl : Below w.heap.size w w') : w'.rangeAt b j cs := rangeAt_grow h bl
theorem head_get : ∀ (l : List Pd) (h : 0 < l.length), l.headD pdZ = l[0]
  | a :: l, _ => rfl
/-- The first packet of a datagram that is there. -/
theorem DdOk.head {W : World} {x : Dd} {d : Dq} (h : DdOk W x d) (hne : d.ps ≠ []) : ∃ pb, x.pp = some ⟨pb, 0, none⟩ ∧ 0 < x.pn ∧ x.pn ≤ x.pc ∧ W.rangeAt pb 0 (pdC (d.ps.headD pdZ)).toList := by
  have h0 : 0 < d.ps.length := by
    cases hd : d.ps with
    | nil => exact absurd hd hne
    | cons a l => simp
  obtain ⟨b, cap, hv, hcap, -, -, -, hE⟩ := RowA.elem pdL_len h.row h0
  injection hv with hv hn hc
  refine ⟨b, hv, by omega, by omega, ?_⟩
  have e := hE 0 h0
  rw [head_get d.ps h0]
  simpa [pdL] using e
/-- What stands where the datagram is found or begun: its list l, its pieces. -/
structure CsS (w W : World) (lim : Int) (v : Value) (f : Pd) (bl capl : Nat) (cur : Array Value) (ys : List (Dd × Dq)) (vp : Value) (ps : List Pd) : Prop where
  ra : RaG 14 pdL 35 w W ((bl, .cells cur 78 (0, 0)) :: F5 w.heap.size lim v f) vp ps
  dj : DJz W (.slice (some ⟨bl, 0, none⟩) ys.length capl) ys
  hb : w.heap.size + 1 + 1 + 1 + 1 < bl
  ok0 : ∀ z ∈ ys, DdOk w z.1 z.2
section
variable {w W W' : World} {lim : Int} {v : Value} {f : Pd} {bl capl : Nat} {cur : Array Value} {ys : List (Dd × Dq)} {vp : Value} {ps : List Pd}
theorem CsS.grow (h : CsS w W lim v f bl capl cur ys vp ps) (b : Below W.heap.size W W') : CsS w W' lim v f bl capl cur ys vp ps := ⟨h.ra.grow b, h.dj.grow b, h.hb, h.ok0⟩
theorem CsS.pu (h : CsS w W lim v f bl capl cur ys vp ps) : PuS w W lim v f := ⟨fun p hp => (h.ra.fx p (.tail _ hp)).1, h.ra.bl⟩
end
/-- The joiner's list is laid anew. -/
theorem PuS.laid {w W : World} {lim : Int} {v : Value} {f : Pd} (h : PuS w W lim v f) (v' : Value) : PuS w (W.setCell ⟨w.heap.size, 1, none⟩ v') lim v' f := by
  refine ⟨fun p hp => ?_, h.bl.setCell (Nat.le_refl _) _⟩
  simp only [F5, List.mem_cons, List.not_mem_nil, or_false] at hp
  rcases hp with rfl | rfl | rfl | rfl | rfl
  · exact set_cells h.j v' (i := 1) (by simp)
  · exact (Below.heap_setCell _ _ _ _ (by dsimp only; omega)).trans h.p
  · exact (Below.heap_setCell _ _ _ _ (by dsimp only; omega)).trans h.rj
  · exact (Below.heap_setCell _ _ _ _ (by dsimp only; omega)).trans h.rp
  · exact (Below.heap_setCell _ _ _ _ (by dsimp only; omega)).trans h.no
section
variable {w WB W' : World} {lim : Int} {p : Option Addr} {n c k q : Nat} {f : Pd} {α : Type} {enc : α → List Value} {TE : TypeId} {v : Value} {l : List α}
/-- A row that Put made stays when the answer is laid. -/
theorem RtS.row (T : RtS w WB lim p n c k f W') (h : RowA q enc TE WB v l) (hb : ∀ b, v.ownBlock = some b → w.heap.size + 4 < b) : RowA q enc TE W' v l :=
  h.kept T.sz (fun b e => T.kp b (by have := hb b e; omega) (by have := hb b e; omega) (h.lt b e).2)
theorem RtS.dj {ys : List (Dd × Dq)} (T : RtS w WB lim p n c k f W') (hr : RowA 2 ddE 78 WB v (ys.map (·.1))) (hb : ∀ b, v.ownBlock = some b → w.heap.size + 4 < b) (hok : ∀ z ∈ ys, DdOk w z.1 z.2 ∨ (DdOk WB z.1 z.2 ∧ ∀ b, (Value.slice z.1.pp z.1.pn z.1.pc).ownBlock = some b → w.heap.size + 4 < b)) : DJz W' v ys :=
  ⟨T.row hr hb, fun z hz => (hok z hz).elim (fun h => h.grow T.bl) (fun h => ⟨T.row h.1.row h.2, h.1.age⟩)⟩
end
theorem f5_le {m : Nat} {lim : Int} {v : Value} {f : Pd} {p : Nat × Obj} (hp : p ∈ F5 m lim v f) : p.1 ≤ m + 4 := by
  simp only [F5, List.mem_cons, List.not_mem_nil, or_false] at hp
  rcases hp with rfl | rfl | rfl | rfl | rfl <;> dsimp only <;> omega
theorem CsS.app {w W W' : World} {lim : Int} {v : Value} {f : Pd} {bl capl : Nat} {cur : Array Value} {ys : List (Dd × Dq)} {vp vp' : Value} {ps ps' : List Pd} (h : CsS w W lim v f bl capl cur ys vp ps) (hR : RaG 14 pdL 35 w W' ((bl, .cells cur 78 (0, 0)) :: F5 w.heap.size lim v f) vp' ps') (hs : W.heap.size ≤ W'.heap.size) : CsS w W' lim v f bl capl cur ys vp' ps' :=
  ⟨hR, ⟨h.dj.row.kept hs (fun b e => by
    injection e with e
    subst e
    exact (hR.fx _ (.head _)).1.trans (h.ra.fx _ (.head _)).1.symm), fun z hz => (h.ok0 z hz).grow hR.bl⟩, h.hb, h.ok0⟩
theorem CsS.rowL {w W : World} {lim : Int} {v : Value} {f : Pd} {bl capl : Nat} {cur : Array Value} {ys : List (Dd × Dq)} {vp : Value} {ps : List Pd} (h : CsS w W lim v f bl capl cur ys vp ps) : RowA 2 ddE 78 W (.slice (some ⟨bl, 0, none⟩) (ys.map (·.1)).length capl) (ys.map (·.1)) := by
  have := h.dj.row
  rw [← List.length_map (f := fun z : Dd × Dq => z.1)] at this
  exact this
theorem pd_newA (w : World) (f : Pd) : ∀ (j : Nat) (u : Value), (encA pdL [f])[j]? = some u → (w.alloc (.cells (pdC f) 35)).cell? ((⟨w.heap.size, 0, none⟩ : Addr).add j) = some u := by
  intro j u hu
  rw [add_off, Nat.zero_add, cell_of_block (heap_alloc_new w _)]
  have e : encA pdL [f] = (pdC f).toList := by simp [encA, pdL]
  rw [e, Array.getElem?_toList] at hu
  exact hu
/-- What the document's Put leaves: its datagrams, and where they lie: in blocks that are new, or where they lay. -/
def DJs (w : World) (v0 : Value) (zs : List (Dd × Dq)) (W : World) (v : Value) (L : List Dq) : Prop := ∃ zs' : List (Dd × Dq), DJz W v zs' ∧ zs'.map (·.2) = L ∧ (∀ b, v.ownBlock = some b → w.heap.size ≤ b ∨ v0.ownBlock = some b) ∧ ∀ z ∈ zs', ∀ b, (Value.slice z.1.pp z.1.pn z.1.pc).ownBlock = some b → w.heap.size ≤ b ∨ z ∈ zs
theorem sub_own {zs : List (Dd × Dq)} {z : Dd × Dq} {m : Nat} (h : z ∈ zs ∨ z.1.pp = none) : ∀ b, (Value.slice z.1.pp z.1.pn z.1.pc).ownBlock = some b → m ≤ b ∨ z ∈ zs := fun b e => h.elim .inr (fun h => by rw [h] at e; cases e)
/-- A datagram is laid in a row. -/
theorem dd_put {w : World} {l : List Dd} {b cap : Nat} (h : RowA 2 ddE 78 w (.slice (some ⟨b, 0, none⟩) l.length cap) l) {j : Nat} (hj : j < l.length) (y : Dd) :
    ∃ W, (storeVar 78 ⟨b, j * 2, none⟩ (.agg #[.slice y.pp y.pn y.pc, .int .i64 y.age])).run Try.prog w = .ok () W ∧ RowA 2 ddE 78 W (.slice (some ⟨b, 0, none⟩) l.length cap) (l.set j y) ∧ (∀ k, k ≠ b → W.heap[k]? = w.heap[k]?) ∧ w.heap.size ≤ W.heap.size ∧ ∀ w0 : World, w0.heap.size ≤ b → Below w0.heap.size w0 w → Below w0.heap.size w0 W := by
  obtain ⟨b', cap', cur, hv, h1, h2, h3, h4, h5⟩ := h.block (by omega)
  injection hv with hv _ hc; injection hv with hv; injection hv with hv
  subst hv hc
  have hfit : j * 2 + (ddE y).length ≤ cur.size := by rw [ddE_len, h4]; omega
  have hst := run_storeCells_at Try.prog b (j * 2) 78 (ddE y) 0 cur w h1 (by simpa using hfit) (ddE_one y)
  simp only [Nat.add_zero] at hst
  rw [ddE_len] at hst
  have hi : (Try.prog.info? 78).map (·.size) = some 2 := by kernel_rfl
  refine ⟨w.setRow b (cur.toList.take (j * 2) ++ ddE y ++ cur.toList.drop (j * 2 + 2)).toArray, ?_, ?_, fun k hk => setRow_other _ _ _ _ hk, by simp [World.setRow], fun w0 h0 hb => below_setRow hb h0 _⟩
  · cases hq : Try.prog.info? 78 with
    | none => simp [hq] at hi
    | some q =>
      have hs : q.size = 2 := by simpa [hq] using hi
      have hst2 : Sem.run Try.prog (storeCells ⟨b, j * 2, none⟩ [.slice y.pp y.pn y.pc, .int .i64 y.age]) w = .ok () (w.setRow b (cur.toList.take (j * 2) ++ ddE y ++ cur.toList.drop (j * 2 + 2)).toArray) := hst
      simp [storeVar, sizeOf, typeInfo, hq, Value.cells, hs, hst2]
  · refine RowA.put ddE_len (cur' := (cur.toList.take (j * 2) ++ ddE y ++ cur.toList.drop (j * 2 + 2)).toArray) h hj y (fun cur2 hc2 => ?_)
    rw [h1] at hc2
    injection hc2 with hc2; injection hc2 with hc2
    subst hc2
    exact ⟨setRow_heap w b cur _ _ _ h1, rfl⟩
/-- What stands where a packet belongs. -/
theorem begD_ok {K : Nat} {L : List Dq} (h : IQ K L) {f : Pd} (hf : mayB f = true) : PQ ((begD f L).1.getD (begD f L).2 ⟨[], 0⟩).ps ∧ ((begD f L).1.getD (begD f L).2 ⟨[], 0⟩).ps.length ≤ K ∧ (((begD f L).1.getD (begD f L).2 ⟨[], 0⟩).ps ≠ [] → nmOf (((begD f L).1.getD (begD f L).2 ⟨[], 0⟩).ps.headD pdZ) = nmOf f) := by
  by_cases hx : idxD f L < L.length
  · have b2 : begD f L = (L, idxD f L) := by unfold begD; rw [if_pos hx]
    have hd : L.getD (idxD f L) ⟨[], 0⟩ = L[idxD f L] := by rw [List.getD_eq_getElem?_getD, List.getElem?_eq_getElem hx]; rfl
    rw [b2]
    show PQ (L.getD (idxD f L) ⟨[], 0⟩).ps ∧ _
    rw [hd]
    have hdm : L[idxD f L] ∈ L := List.getElem_mem hx
    have hsm : sameB ((L[idxD f L]).ps.headD pdZ) f = true := List.findIdx_getElem (w := hx)
    have hpq := h.pq _ hdm
    exact ⟨hpq, h.pn _ hdm, fun hne => of_decide_eq_true (by rw [nm_same (hpq.may _ (head_mem hne)) hf]; exact hsm)⟩
  · have b2 : begD f L = (drop4 L ++ [⟨[], 0⟩], (drop4 L).length) := by unfold begD; rw [if_neg hx]
    have g2 : (drop4 L ++ [(⟨[], 0⟩ : Dq)]).getD (drop4 L).length ⟨[], 0⟩ = ⟨[], 0⟩ := by
      rw [List.getD_eq_getElem?_getD, List.getElem?_append_right (Nat.le_refl _), Nat.sub_self]; rfl
    rw [b2]
    show PQ ((drop4 L ++ [(⟨[], 0⟩ : Dq)]).getD (drop4 L).length ⟨[], 0⟩).ps ∧ _
    rw [g2]
    exact ⟨PQ.nil, Nat.zero_le _, fun hne => absurd rfl hne⟩
theorem info_pk2 : ∃ i z, Try.prog.info? 35 = some i ∧ i.zero = some z ∧ i.size = 14 ∧ i.bytes ≤ 100 ∧ z.cells.size = 14 := by
  obtain ⟨i, z, h1, h2, h3, h4, h5⟩ := info_pk
  exact ⟨i, z, h1, h2, h3, by omega, h5⟩
theorem RaG.all {α : Type} {k : Nat} {enc : α → List Value} {TE : TypeId} {w wr : World} {F : List (Nat × Obj)} {va : Value} {la : List α} (h : RaG k enc TE w wr [] va la) (hF : ∀ p ∈ F, wr.heap[p.1]? = some p.2 ∧ ∀ k, va.ownBlock = some k → k ≠ p.1) : RaG k enc TE w wr F va la := ⟨h.acc, h.own, h.bl, hF⟩

end Go.Proofs.Ytbjoibgkhooljaa
