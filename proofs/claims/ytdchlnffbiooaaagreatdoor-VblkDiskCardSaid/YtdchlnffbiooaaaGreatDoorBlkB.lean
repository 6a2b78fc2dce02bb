/-
  Layer 3: the table of shapes, and the shape of a kind. Conditions: the package's table lies as its initialiser lays it.
-/
import Derived.Test.YtdchlnffbiooaaaGreatDoorBlkA
import Derived.Deep.MidRow
import Derived.Deep.LoopGhost
import Derived.Deep.DeepCutAuto
namespace Go.Proofs.YtdchlnffbiooaaaGreatDoor
open Go.RowKit Go.Sort

/-- How an order of a kind lies. -/
structure Shp where
  kind : Int
  num : Int
  len : Int
  back : Bool
  sec : Int
def Shp.cells (s : Shp) : List Value := [.int .i64 s.kind, .int .u64 s.num, .int .i64 s.len, .bool s.back, .int .i64 s.sec]
def Shp.val (s : Shp) : Value := .agg #[.int .i64 s.kind, .int .u64 s.num, .int .i64 s.len, .bool s.back, .int .i64 s.sec]
def shp1 : Shp := ⟨1, 0, 64, true, 1⟩
def shp2 : Shp := ⟨2, 1, 64, false, 1⟩
def shp3 : Shp := ⟨3, 4, 0, false, 0⟩
def shp4 : Shp := ⟨4, 11, 16, false, 2⟩
def shp5 : Shp := ⟨5, 13, 16, false, 2⟩
/-- The table lies. -/
def Shapes (w : World) : Prop :=
  ∀ (j : Nat) (v : Value), ([shp1, shp2, shp3, shp4, shp5].flatMap Shp.cells)[j]? = some v → w.cell? ⟨0, j, none⟩ = some v
theorem Shapes.kept {w w' : World} (h : Shapes w) (k : w'.heap[0]? = w.heap[0]?) : Shapes w' := fun j v hv => (World.cell?_of_block (w := w) (a := ⟨0, j, none⟩) k).trans (h j v hv)
theorem Shapes.pos {w : World} (h : Shapes w) : 0 < w.heap.size := World.block_lt_of_cell? w _ (h 0 (.int .i64 1) rfl)
theorem Shapes.grown {w w' : World} (h : Shapes w) (k : w.grownBy w' none) : Shapes w' := h.kept (k.block 0 h.pos (by simp))

/-- The table's cells. -/
def shapesL : List Value := [shp1, shp2, shp3, shp4, shp5].flatMap Shp.cells
theorem Shapes.range {w : World} (h : Shapes w) : w.rangeAt 0 0 shapesL := fun j v hv => by
  rw [Nat.zero_add]
  exact h j v hv
/-- The shape of a kind. -/
def ofK (k : Int) : Option Shp := if k = 1 then some shp1 else if k = 2 then some shp2 else if k = 3 then some shp3 else if k = 4 then some shp4 else if k = 5 then some shp5 else none
def noShp : Shp := ⟨0, 0, 0, false, 0⟩
/-- The shape that lies k-th. -/
def shpAt (k : Nat) : Shp := match k with | 0 => shp1 | 1 => shp2 | 2 => shp3 | 3 => shp4 | _ => shp5

/-- Five cells of one block written anew. -/
theorem out5 {w : World} {g : Nat} {t : TypeId} {y0 y1 y2 y3 y4 : Value} (h : w.heap[g]? = some (.cells #[y0, y1, y2, y3, y4] t (0, 0))) (x0 x1 x2 x3 x4 : Value) :
    (((((w.setCell ⟨g, 0, none⟩ x0).setCell ⟨g, 1, none⟩ x1).setCell ⟨g, 2, none⟩ x2).setCell ⟨g, 3, none⟩ x3).setCell ⟨g, 4, none⟩ x4).heap[g]? = some (.cells #[x0, x1, x2, x3, x4] t (0, 0)) :=
  set_block (set_block (set_block (set_block (set_block h 0 x0) 1 x1) 2 x2) 3 x3) 4 x4
theorem grown5 {v w : World} {g : Nat} (h : v.grownBy w none) (hg : v.heap.size ≤ g) (x0 x1 x2 x3 x4 : Value) :
    v.grownBy (((((w.setCell ⟨g, 0, none⟩ x0).setCell ⟨g, 1, none⟩ x1).setCell ⟨g, 2, none⟩ x2).setCell ⟨g, 3, none⟩ x3).setCell ⟨g, 4, none⟩ x4) none := by
  have b : Below v.heap.size v w := ⟨h.os, h.tape, h.output, h.size, fun k hk => h.block k hk (by simp)⟩
  have c := ((((b.setCell (p := ⟨g, 0, none⟩) hg x0).setCell (p := ⟨g, 1, none⟩) hg x1).setCell (p := ⟨g, 2, none⟩) hg x2).setCell (p := ⟨g, 3, none⟩) hg x3).setCell (p := ⟨g, 4, none⟩) hg x4
  exact ⟨c.os, c.tape, c.output, c.size, fun k hk _ => c.block k hk⟩

/-- The shape that is to be answered is nothing yet. -/
def Zs (w wr : World) : Prop := w.grownBy wr none ∧ wr.heap[w.heap.size]? = some (.cells #[.int .i64 0, .int .u64 0, .int .i64 0, .bool false, .int .i64 0] 74 (0, 0))
theorem Zs.alloc {w wr : World} (h : Zs w wr) (o : Obj) : Zs w (wr.alloc o) := ⟨h.1.trans (World.grownBy_alloc wr o none), (Below.heap_alloc _ _ _ (lt_of_block h.2)).trans h.2⟩
theorem Zs.all {w wr : World} (h : Zs w wr) : (wr.frozen? ⟨w.heap.size, 0, none⟩ = false ∧ wr.frozen? ⟨w.heap.size, 1, none⟩ = false ∧ wr.frozen? ⟨w.heap.size, 2, none⟩ = false ∧ wr.frozen? ⟨w.heap.size, 3, none⟩ = false ∧ wr.frozen? ⟨w.heap.size, 4, none⟩ = false) ∧
    wr.cell? ⟨w.heap.size, 0, none⟩ = some (.int .i64 0) ∧ wr.cell? ⟨w.heap.size, 1, none⟩ = some (.int .u64 0) ∧ wr.cell? ⟨w.heap.size, 2, none⟩ = some (.int .i64 0) ∧ wr.cell? ⟨w.heap.size, 3, none⟩ = some (.bool false) ∧ wr.cell? ⟨w.heap.size, 4, none⟩ = some (.int .i64 0) :=
  ⟨⟨frozen_of_block h.2, frozen_of_block h.2, frozen_of_block h.2, frozen_of_block h.2, frozen_of_block h.2⟩, cell_of_block h.2, cell_of_block h.2, cell_of_block h.2, cell_of_block h.2, cell_of_block h.2⟩

-- GEN
theorem index0 (w : World) : (Instr.index 121 (.agg #[.int .i64 1, .int .u64 0, .int .i64 64, .bool true, .int .i64 1, .int .i64 2, .int .u64 1, .int .i64 64, .bool false, .int .i64 1, .int .i64 3, .int .u64 4, .int .i64 0, .bool false, .int .i64 0, .int .i64 4, .int .u64 11, .int .i64 16, .bool false, .int .i64 2, .int .i64 5, .int .u64 13, .int .i64 16, .bool false, .int .i64 2]) (.int .i64 0)).run Tryz.prog w = .ok (.agg #[.int .i64 1, .int .u64 0, .int .i64 64, .bool true, .int .i64 1]) w := by kernel_rfl
theorem index1 (w : World) : (Instr.index 121 (.agg #[.int .i64 1, .int .u64 0, .int .i64 64, .bool true, .int .i64 1, .int .i64 2, .int .u64 1, .int .i64 64, .bool false, .int .i64 1, .int .i64 3, .int .u64 4, .int .i64 0, .bool false, .int .i64 0, .int .i64 4, .int .u64 11, .int .i64 16, .bool false, .int .i64 2, .int .i64 5, .int .u64 13, .int .i64 16, .bool false, .int .i64 2]) (.int .i64 1)).run Tryz.prog w = .ok (.agg #[.int .i64 2, .int .u64 1, .int .i64 64, .bool false, .int .i64 1]) w := by kernel_rfl
theorem index2 (w : World) : (Instr.index 121 (.agg #[.int .i64 1, .int .u64 0, .int .i64 64, .bool true, .int .i64 1, .int .i64 2, .int .u64 1, .int .i64 64, .bool false, .int .i64 1, .int .i64 3, .int .u64 4, .int .i64 0, .bool false, .int .i64 0, .int .i64 4, .int .u64 11, .int .i64 16, .bool false, .int .i64 2, .int .i64 5, .int .u64 13, .int .i64 16, .bool false, .int .i64 2]) (.int .i64 2)).run Tryz.prog w = .ok (.agg #[.int .i64 3, .int .u64 4, .int .i64 0, .bool false, .int .i64 0]) w := by kernel_rfl
theorem index3 (w : World) : (Instr.index 121 (.agg #[.int .i64 1, .int .u64 0, .int .i64 64, .bool true, .int .i64 1, .int .i64 2, .int .u64 1, .int .i64 64, .bool false, .int .i64 1, .int .i64 3, .int .u64 4, .int .i64 0, .bool false, .int .i64 0, .int .i64 4, .int .u64 11, .int .i64 16, .bool false, .int .i64 2, .int .i64 5, .int .u64 13, .int .i64 16, .bool false, .int .i64 2]) (.int .i64 3)).run Tryz.prog w = .ok (.agg #[.int .i64 4, .int .u64 11, .int .i64 16, .bool false, .int .i64 2]) w := by kernel_rfl
theorem index4 (w : World) : (Instr.index 121 (.agg #[.int .i64 1, .int .u64 0, .int .i64 64, .bool true, .int .i64 1, .int .i64 2, .int .u64 1, .int .i64 64, .bool false, .int .i64 1, .int .i64 3, .int .u64 4, .int .i64 0, .bool false, .int .i64 0, .int .i64 4, .int .u64 11, .int .i64 16, .bool false, .int .i64 2, .int .i64 5, .int .u64 13, .int .i64 16, .bool false, .int .i64 2]) (.int .i64 4)).run Tryz.prog w = .ok (.agg #[.int .i64 5, .int .u64 13, .int .i64 16, .bool false, .int .i64 2]) w := by kernel_rfl

set_option maxRecDepth 100000 in
set_option maxHeartbeats 1600000 in
theorem ofKind_yes (w : World) (hS : Shapes w) (k : Nat) (hk : k < 5) :
    Calls Tryz.prog 21 #[.int .i64 (shpAt k).kind] w fun e w' => e = .returned (.tuple #[(shpAt k).val, .bool true]) ∧ w.grownBy w' none := by
  obtain ⟨kind, hkd⟩ : ∃ x : Int, x = (shpAt k).kind := ⟨_, rfl⟩
  rw [← hkd]
  have HK := Lib.hid hkd
  clear hkd
  have hR := Lib.hid hS.range
  have hp := hS.pos
  clear hS
  go_enter Tryz.func21, Tryz.ntmps21
  go_upto_region 1 with fail
  have ka := World.grownBy_alloc w (.cells #[.int .i64 0, .int .u64 0, .int .i64 0, .bool false, .int .i64 0] 74) none
  have hR1 : (w.alloc (.cells #[.int .i64 0, .int .u64 0, .int .i64 0, .bool false, .int .i64 0] 74)).rangeAt 0 0 shapesL := fun j v hv => (World.cell?_of_block (w := w) (a := ⟨0, 0 + j, none⟩) (ka.block 0 hp (by simp))).trans (hR.out j v hv)
  have hZ : Zs w (w.alloc (.cells #[.int .i64 0, .int .u64 0, .int .i64 0, .bool false, .int .i64 0] 74)) := ⟨ka, heap_alloc_new w _⟩
  go_wp2_with (refine wpList_load_mid rfl 121 _ rfl 0 0 rfl shapesL _ hR1 Tryz.underlying121 rfl (by kernel_rfl) ?_)
  clear ka hR hR1 hp
  have hsl : shapesL = [.int .i64 1, .int .u64 0, .int .i64 64, .bool true, .int .i64 1, .int .i64 2, .int .u64 1, .int .i64 64, .bool false, .int .i64 1, .int .i64 3, .int .u64 4, .int .i64 0, .bool false, .int .i64 0, .int .i64 4, .int .u64 11, .int .i64 16, .bool false, .int .i64 2, .int .i64 5, .int .u64 13, .int .i64 16, .bool false, .int .i64 2] := rfl
  rw [hsl]
  clear hsl
  generalize w.alloc (.cells #[.int .i64 0, .int .u64 0, .int .i64 0, .bool false, .int .i64 0] 74) = w1 at hZ ⊢
  go_loopw [7] (fun jv wr => ∃ j : Nat, jv = .int .i64 j ∧ j ≤ k ∧ Zs w wr) (fun jv _ => 5 - (intOf jv).toNat)
  case atStart => exact ⟨0, rfl, Nat.zero_le _, hZ⟩
  case round =>
    clear hZ
    obtain ⟨j, rfl, hj, hZ⟩ := hrel
    have hsz := lt_of_block hZ.2
    by_cases hm : j = k
    · subst hm
      clear hj
      rcases (show j = 0 ∨ j = 1 ∨ j = 2 ∨ j = 3 ∨ j = 4 by omega) with rfl | rfl | rfl | rfl | rfl
      · have e1 : kind = 1 := HK.out
        subst e1
        obtain ⟨⟨f0, f1, f2, f3, f4⟩, c0, c1, c2, c3, c4⟩ := hZ.all
        have HZ2 := Lib.hid hZ
        clear hZ
        have ix := index0 wr
        go_wp2_with fail
        have o0 := out5 HZ2.out.2 (.int .i64 1) (.int .u64 0) (.int .i64 64) (.bool true) (.int .i64 1)
        have o := (Below.heap_alloc _ (.cells #[.int .i64 1, .int .u64 0, .int .i64 64, .bool true, .int .i64 1] 74) _ (lt_of_block o0)).trans o0
        have kg := (grown5 HZ2.out.1 (Nat.le_refl _) (.int .i64 1) (.int .u64 0) (.int .i64 64) (.bool true) (.int .i64 1)).trans (World.grownBy_alloc _ (.cells #[.int .i64 1, .int .u64 0, .int .i64 64, .bool true, .int .i64 1] 74) none)
        have p0 := cell_of_block (i := 0) o
        have p1 := cell_of_block (i := 1) o
        have p2 := cell_of_block (i := 2) o
        have p3 := cell_of_block (i := 3) o
        have p4 := cell_of_block (i := 4) o
        clear o o0
        simp only [List.getElem?_toArray, List.getElem?_cons_zero, List.getElem?_cons_succ] at p0 p1 p2 p3 p4
        exact bodyPost_ret (v := .tuple #[.agg #[.int .i64 1, .int .u64 0, .int .i64 64, .bool true, .int .i64 1], .bool true]) (by simp [results, Tryz.results21, go_sem, p0, p1, p2, p3, p4]) rfl ⟨rfl, kg⟩
      · have e1 : kind = 2 := HK.out
        subst e1
        obtain ⟨⟨f0, f1, f2, f3, f4⟩, c0, c1, c2, c3, c4⟩ := hZ.all
        have HZ2 := Lib.hid hZ
        clear hZ
        have ix := index1 wr
        go_wp2_with fail
        have o0 := out5 HZ2.out.2 (.int .i64 2) (.int .u64 1) (.int .i64 64) (.bool false) (.int .i64 1)
        have o := (Below.heap_alloc _ (.cells #[.int .i64 2, .int .u64 1, .int .i64 64, .bool false, .int .i64 1] 74) _ (lt_of_block o0)).trans o0
        have kg := (grown5 HZ2.out.1 (Nat.le_refl _) (.int .i64 2) (.int .u64 1) (.int .i64 64) (.bool false) (.int .i64 1)).trans (World.grownBy_alloc _ (.cells #[.int .i64 2, .int .u64 1, .int .i64 64, .bool false, .int .i64 1] 74) none)
        have p0 := cell_of_block (i := 0) o
        have p1 := cell_of_block (i := 1) o
        have p2 := cell_of_block (i := 2) o
        have p3 := cell_of_block (i := 3) o
        have p4 := cell_of_block (i := 4) o
        clear o o0
        simp only [List.getElem?_toArray, List.getElem?_cons_zero, List.getElem?_cons_succ] at p0 p1 p2 p3 p4
        exact bodyPost_ret (v := .tuple #[.agg #[.int .i64 2, .int .u64 1, .int .i64 64, .bool false, .int .i64 1], .bool true]) (by simp [results, Tryz.results21, go_sem, p0, p1, p2, p3, p4]) rfl ⟨rfl, kg⟩
      · have e1 : kind = 3 := HK.out
        subst e1
        obtain ⟨⟨f0, f1, f2, f3, f4⟩, c0, c1, c2, c3, c4⟩ := hZ.all
        have HZ2 := Lib.hid hZ
        clear hZ
        have ix := index2 wr
        go_wp2_with fail
        have o0 := out5 HZ2.out.2 (.int .i64 3) (.int .u64 4) (.int .i64 0) (.bool false) (.int .i64 0)
        have o := (Below.heap_alloc _ (.cells #[.int .i64 3, .int .u64 4, .int .i64 0, .bool false, .int .i64 0] 74) _ (lt_of_block o0)).trans o0
        have kg := (grown5 HZ2.out.1 (Nat.le_refl _) (.int .i64 3) (.int .u64 4) (.int .i64 0) (.bool false) (.int .i64 0)).trans (World.grownBy_alloc _ (.cells #[.int .i64 3, .int .u64 4, .int .i64 0, .bool false, .int .i64 0] 74) none)
        have p0 := cell_of_block (i := 0) o
        have p1 := cell_of_block (i := 1) o
        have p2 := cell_of_block (i := 2) o
        have p3 := cell_of_block (i := 3) o
        have p4 := cell_of_block (i := 4) o
        clear o o0
        simp only [List.getElem?_toArray, List.getElem?_cons_zero, List.getElem?_cons_succ] at p0 p1 p2 p3 p4
        exact bodyPost_ret (v := .tuple #[.agg #[.int .i64 3, .int .u64 4, .int .i64 0, .bool false, .int .i64 0], .bool true]) (by simp [results, Tryz.results21, go_sem, p0, p1, p2, p3, p4]) rfl ⟨rfl, kg⟩
      · have e1 : kind = 4 := HK.out
        subst e1
        obtain ⟨⟨f0, f1, f2, f3, f4⟩, c0, c1, c2, c3, c4⟩ := hZ.all
        have HZ2 := Lib.hid hZ
        clear hZ
        have ix := index3 wr
        go_wp2_with fail
        have o0 := out5 HZ2.out.2 (.int .i64 4) (.int .u64 11) (.int .i64 16) (.bool false) (.int .i64 2)
        have o := (Below.heap_alloc _ (.cells #[.int .i64 4, .int .u64 11, .int .i64 16, .bool false, .int .i64 2] 74) _ (lt_of_block o0)).trans o0
        have kg := (grown5 HZ2.out.1 (Nat.le_refl _) (.int .i64 4) (.int .u64 11) (.int .i64 16) (.bool false) (.int .i64 2)).trans (World.grownBy_alloc _ (.cells #[.int .i64 4, .int .u64 11, .int .i64 16, .bool false, .int .i64 2] 74) none)
        have p0 := cell_of_block (i := 0) o
        have p1 := cell_of_block (i := 1) o
        have p2 := cell_of_block (i := 2) o
        have p3 := cell_of_block (i := 3) o
        have p4 := cell_of_block (i := 4) o
        clear o o0
        simp only [List.getElem?_toArray, List.getElem?_cons_zero, List.getElem?_cons_succ] at p0 p1 p2 p3 p4
        exact bodyPost_ret (v := .tuple #[.agg #[.int .i64 4, .int .u64 11, .int .i64 16, .bool false, .int .i64 2], .bool true]) (by simp [results, Tryz.results21, go_sem, p0, p1, p2, p3, p4]) rfl ⟨rfl, kg⟩
      · have e1 : kind = 5 := HK.out
        subst e1
        obtain ⟨⟨f0, f1, f2, f3, f4⟩, c0, c1, c2, c3, c4⟩ := hZ.all
        have HZ2 := Lib.hid hZ
        clear hZ
        have ix := index4 wr
        go_wp2_with fail
        have o0 := out5 HZ2.out.2 (.int .i64 5) (.int .u64 13) (.int .i64 16) (.bool false) (.int .i64 2)
        have o := (Below.heap_alloc _ (.cells #[.int .i64 5, .int .u64 13, .int .i64 16, .bool false, .int .i64 2] 74) _ (lt_of_block o0)).trans o0
        have kg := (grown5 HZ2.out.1 (Nat.le_refl _) (.int .i64 5) (.int .u64 13) (.int .i64 16) (.bool false) (.int .i64 2)).trans (World.grownBy_alloc _ (.cells #[.int .i64 5, .int .u64 13, .int .i64 16, .bool false, .int .i64 2] 74) none)
        have p0 := cell_of_block (i := 0) o
        have p1 := cell_of_block (i := 1) o
        have p2 := cell_of_block (i := 2) o
        have p3 := cell_of_block (i := 3) o
        have p4 := cell_of_block (i := 4) o
        clear o o0
        simp only [List.getElem?_toArray, List.getElem?_cons_zero, List.getElem?_cons_succ] at p0 p1 p2 p3 p4
        exact bodyPost_ret (v := .tuple #[.agg #[.int .i64 5, .int .u64 13, .int .i64 16, .bool false, .int .i64 2], .bool true]) (by simp [results, Tryz.results21, go_sem, p0, p1, p2, p3, p4]) rfl ⟨rfl, kg⟩
    · have hlt : j < k := by omega
      clear hj hm
      rcases (show j = 0 ∨ j = 1 ∨ j = 2 ∨ j = 3 by omega) with rfl | rfl | rfl | rfl
      · have hne : ((1 : Int) == kind) = false := by
          rw [HK.out]
          rcases (show k = 1 ∨ k = 2 ∨ k = 3 ∨ k = 4 by omega) with rfl | rfl | rfl | rfl <;> first | rfl | omega
        have hZ2 := hZ.alloc (.cells #[.int .i64 1, .int .u64 0, .int .i64 64, .bool true, .int .i64 1] 74)
        clear hZ
        have ix := index0 wr
        go_wp2_with fail
        go_roundw
        case rel => exact ⟨1, by go_num, by omega, hZ2⟩
        case measure => simp [intOf]
      · have hne : ((2 : Int) == kind) = false := by
          rw [HK.out]
          rcases (show k = 1 ∨ k = 2 ∨ k = 3 ∨ k = 4 by omega) with rfl | rfl | rfl | rfl <;> first | rfl | omega
        have hZ2 := hZ.alloc (.cells #[.int .i64 2, .int .u64 1, .int .i64 64, .bool false, .int .i64 1] 74)
        clear hZ
        have ix := index1 wr
        go_wp2_with fail
        go_roundw
        case rel => exact ⟨2, by go_num, by omega, hZ2⟩
        case measure => simp [intOf]
      · have hne : ((3 : Int) == kind) = false := by
          rw [HK.out]
          rcases (show k = 1 ∨ k = 2 ∨ k = 3 ∨ k = 4 by omega) with rfl | rfl | rfl | rfl <;> first | rfl | omega
        have hZ2 := hZ.alloc (.cells #[.int .i64 3, .int .u64 4, .int .i64 0, .bool false, .int .i64 0] 74)
        clear hZ
        have ix := index2 wr
        go_wp2_with fail
        go_roundw
        case rel => exact ⟨3, by go_num, by omega, hZ2⟩
        case measure => simp [intOf]
      · have hne : ((4 : Int) == kind) = false := by
          rw [HK.out]
          rcases (show k = 1 ∨ k = 2 ∨ k = 3 ∨ k = 4 by omega) with rfl | rfl | rfl | rfl <;> first | rfl | omega
        have hZ2 := hZ.alloc (.cells #[.int .i64 4, .int .u64 11, .int .i64 16, .bool false, .int .i64 2] 74)
        clear hZ
        have ix := index3 wr
        go_wp2_with fail
        go_roundw
        case rel => exact ⟨4, by go_num, by omega, hZ2⟩
        case measure => simp [intOf]

set_option maxRecDepth 100000 in
set_option maxHeartbeats 1600000 in
theorem ofKind_no (w : World) (hS : Shapes w) (kind : Int) (hk : ∀ k, k < 5 → kind ≠ (shpAt k).kind) :
    Calls Tryz.prog 21 #[.int .i64 kind] w fun e w' => e = .returned (.tuple #[noShp.val, .bool false]) ∧ w.grownBy w' none := by
  have n0 : ((1 : Int) == kind) = false := beq_eq_false_iff_ne.2 (fun e => hk 0 (by decide) e.symm)
  have n1 : ((2 : Int) == kind) = false := beq_eq_false_iff_ne.2 (fun e => hk 1 (by decide) e.symm)
  have n2 : ((3 : Int) == kind) = false := beq_eq_false_iff_ne.2 (fun e => hk 2 (by decide) e.symm)
  have n3 : ((4 : Int) == kind) = false := beq_eq_false_iff_ne.2 (fun e => hk 3 (by decide) e.symm)
  have n4 : ((5 : Int) == kind) = false := beq_eq_false_iff_ne.2 (fun e => hk 4 (by decide) e.symm)
  clear hk
  have hR := Lib.hid hS.range
  have hp := hS.pos
  clear hS
  go_enter Tryz.func21, Tryz.ntmps21
  go_upto_region 1 with fail
  have ka := World.grownBy_alloc w (.cells #[.int .i64 0, .int .u64 0, .int .i64 0, .bool false, .int .i64 0] 74) none
  have hR1 : (w.alloc (.cells #[.int .i64 0, .int .u64 0, .int .i64 0, .bool false, .int .i64 0] 74)).rangeAt 0 0 shapesL := fun j v hv => (World.cell?_of_block (w := w) (a := ⟨0, 0 + j, none⟩) (ka.block 0 hp (by simp))).trans (hR.out j v hv)
  have hZ : Zs w (w.alloc (.cells #[.int .i64 0, .int .u64 0, .int .i64 0, .bool false, .int .i64 0] 74)) := ⟨ka, heap_alloc_new w _⟩
  go_wp2_with (refine wpList_load_mid rfl 121 _ rfl 0 0 rfl shapesL _ hR1 Tryz.underlying121 rfl (by kernel_rfl) ?_)
  clear ka hR hR1 hp
  have hsl : shapesL = [.int .i64 1, .int .u64 0, .int .i64 64, .bool true, .int .i64 1, .int .i64 2, .int .u64 1, .int .i64 64, .bool false, .int .i64 1, .int .i64 3, .int .u64 4, .int .i64 0, .bool false, .int .i64 0, .int .i64 4, .int .u64 11, .int .i64 16, .bool false, .int .i64 2, .int .i64 5, .int .u64 13, .int .i64 16, .bool false, .int .i64 2] := rfl
  rw [hsl]
  clear hsl
  generalize w.alloc (.cells #[.int .i64 0, .int .u64 0, .int .i64 0, .bool false, .int .i64 0] 74) = w1 at hZ ⊢
  go_loopw [7] (fun jv wr => ∃ j : Nat, jv = .int .i64 j ∧ j ≤ 5 ∧ Zs w wr) (fun jv _ => 5 - (intOf jv).toNat)
  case atStart => exact ⟨0, rfl, Nat.zero_le _, hZ⟩
  case round =>
    clear hZ
    obtain ⟨j, rfl, hj, hZ⟩ := hrel
    have hsz := lt_of_block hZ.2
    rcases (show j = 0 ∨ j = 1 ∨ j = 2 ∨ j = 3 ∨ j = 4 ∨ j = 5 by omega) with rfl | rfl | rfl | rfl | rfl | rfl
    · have hZ2 := hZ.alloc (.cells #[.int .i64 1, .int .u64 0, .int .i64 64, .bool true, .int .i64 1] 74)
      clear hZ
      have ix := index0 wr
      go_wp2_with fail
      go_roundw
      case rel => exact ⟨1, by go_num, by omega, hZ2⟩
      case measure => simp [intOf]
    · have hZ2 := hZ.alloc (.cells #[.int .i64 2, .int .u64 1, .int .i64 64, .bool false, .int .i64 1] 74)
      clear hZ
      have ix := index1 wr
      go_wp2_with fail
      go_roundw
      case rel => exact ⟨2, by go_num, by omega, hZ2⟩
      case measure => simp [intOf]
    · have hZ2 := hZ.alloc (.cells #[.int .i64 3, .int .u64 4, .int .i64 0, .bool false, .int .i64 0] 74)
      clear hZ
      have ix := index2 wr
      go_wp2_with fail
      go_roundw
      case rel => exact ⟨3, by go_num, by omega, hZ2⟩
      case measure => simp [intOf]
    · have hZ2 := hZ.alloc (.cells #[.int .i64 4, .int .u64 11, .int .i64 16, .bool false, .int .i64 2] 74)
      clear hZ
      have ix := index3 wr
      go_wp2_with fail
      go_roundw
      case rel => exact ⟨4, by go_num, by omega, hZ2⟩
      case measure => simp [intOf]
    · have hZ2 := hZ.alloc (.cells #[.int .i64 5, .int .u64 13, .int .i64 16, .bool false, .int .i64 2] 74)
      clear hZ
      have ix := index4 wr
      go_wp2_with fail
      go_roundw
      case rel => exact ⟨5, by go_num, by omega, hZ2⟩
      case measure => simp [intOf]
    · obtain ⟨⟨f0, f1, f2, f3, f4⟩, c0, c1, c2, c3, c4⟩ := hZ.all
      have HZ2 := Lib.hid hZ
      clear hZ
      go_wp2_with fail
      have o := out5 HZ2.out.2 (.int .i64 0) (.int .u64 0) (.int .i64 0) (.bool false) (.int .i64 0)
      have kg := grown5 HZ2.out.1 (Nat.le_refl _) (.int .i64 0) (.int .u64 0) (.int .i64 0) (.bool false) (.int .i64 0)
      have p0 := cell_of_block (i := 0) o
      have p1 := cell_of_block (i := 1) o
      have p2 := cell_of_block (i := 2) o
      have p3 := cell_of_block (i := 3) o
      have p4 := cell_of_block (i := 4) o
      simp only [List.getElem?_toArray, List.getElem?_cons_zero, List.getElem?_cons_succ] at p0 p1 p2 p3 p4
      exact bodyPost_ret (v := .tuple #[.agg #[.int .i64 0, .int .u64 0, .int .i64 0, .bool false, .int .i64 0], .bool false]) (by simp [results, Tryz.results21, go_sem, p0, p1, p2, p3, p4]) rfl ⟨rfl, kg⟩

set_option maxRecDepth 100000 in
set_option maxHeartbeats 1600000 in
theorem ofType_yes (w : World) (hS : Shapes w) (k : Nat) (hk : k < 5) :
    Calls Tryz.prog 62 #[.int .u64 (shpAt k).num] w fun e w' => e = .returned (.tuple #[(shpAt k).val, .bool true]) ∧ w.grownBy w' none := by
  obtain ⟨num, hkd⟩ : ∃ x : Int, x = (shpAt k).num := ⟨_, rfl⟩
  rw [← hkd]
  have HK := Lib.hid hkd
  clear hkd
  have hR := Lib.hid hS.range
  have hp := hS.pos
  clear hS
  go_enter Tryz.func62, Tryz.ntmps62
  go_upto_region 1 with fail
  have ka := World.grownBy_alloc w (.cells #[.int .i64 0, .int .u64 0, .int .i64 0, .bool false, .int .i64 0] 74) none
  have hR1 : (w.alloc (.cells #[.int .i64 0, .int .u64 0, .int .i64 0, .bool false, .int .i64 0] 74)).rangeAt 0 0 shapesL := fun j v hv => (World.cell?_of_block (w := w) (a := ⟨0, 0 + j, none⟩) (ka.block 0 hp (by simp))).trans (hR.out j v hv)
  have hZ : Zs w (w.alloc (.cells #[.int .i64 0, .int .u64 0, .int .i64 0, .bool false, .int .i64 0] 74)) := ⟨ka, heap_alloc_new w _⟩
  go_wp2_with (refine wpList_load_mid rfl 121 _ rfl 0 0 rfl shapesL _ hR1 Tryz.underlying121 rfl (by kernel_rfl) ?_)
  clear ka hR hR1 hp
  have hsl : shapesL = [.int .i64 1, .int .u64 0, .int .i64 64, .bool true, .int .i64 1, .int .i64 2, .int .u64 1, .int .i64 64, .bool false, .int .i64 1, .int .i64 3, .int .u64 4, .int .i64 0, .bool false, .int .i64 0, .int .i64 4, .int .u64 11, .int .i64 16, .bool false, .int .i64 2, .int .i64 5, .int .u64 13, .int .i64 16, .bool false, .int .i64 2] := rfl
  rw [hsl]
  clear hsl
  generalize w.alloc (.cells #[.int .i64 0, .int .u64 0, .int .i64 0, .bool false, .int .i64 0] 74) = w1 at hZ ⊢
  go_loopw [7] (fun jv wr => ∃ j : Nat, jv = .int .i64 j ∧ j ≤ k ∧ Zs w wr) (fun jv _ => 5 - (intOf jv).toNat)
  case atStart => exact ⟨0, rfl, Nat.zero_le _, hZ⟩
  case round =>
    clear hZ
    obtain ⟨j, rfl, hj, hZ⟩ := hrel
    have hsz := lt_of_block hZ.2
    by_cases hm : j = k
    · subst hm
      clear hj
      rcases (show j = 0 ∨ j = 1 ∨ j = 2 ∨ j = 3 ∨ j = 4 by omega) with rfl | rfl | rfl | rfl | rfl
      · have e1 : num = 0 := HK.out
        subst e1
        obtain ⟨⟨f0, f1, f2, f3, f4⟩, c0, c1, c2, c3, c4⟩ := hZ.all
        have HZ2 := Lib.hid hZ
        clear hZ
        have ix := index0 wr
        go_wp2_with fail
        have o0 := out5 HZ2.out.2 (.int .i64 1) (.int .u64 0) (.int .i64 64) (.bool true) (.int .i64 1)
        have o := (Below.heap_alloc _ (.cells #[.int .i64 1, .int .u64 0, .int .i64 64, .bool true, .int .i64 1] 74) _ (lt_of_block o0)).trans o0
        have kg := (grown5 HZ2.out.1 (Nat.le_refl _) (.int .i64 1) (.int .u64 0) (.int .i64 64) (.bool true) (.int .i64 1)).trans (World.grownBy_alloc _ (.cells #[.int .i64 1, .int .u64 0, .int .i64 64, .bool true, .int .i64 1] 74) none)
        have p0 := cell_of_block (i := 0) o
        have p1 := cell_of_block (i := 1) o
        have p2 := cell_of_block (i := 2) o
        have p3 := cell_of_block (i := 3) o
        have p4 := cell_of_block (i := 4) o
        clear o o0
        simp only [List.getElem?_toArray, List.getElem?_cons_zero, List.getElem?_cons_succ] at p0 p1 p2 p3 p4
        exact bodyPost_ret (v := .tuple #[.agg #[.int .i64 1, .int .u64 0, .int .i64 64, .bool true, .int .i64 1], .bool true]) (by simp [results, Tryz.results62, go_sem, p0, p1, p2, p3, p4]) rfl ⟨rfl, kg⟩
      · have e1 : num = 1 := HK.out
        subst e1
        obtain ⟨⟨f0, f1, f2, f3, f4⟩, c0, c1, c2, c3, c4⟩ := hZ.all
        have HZ2 := Lib.hid hZ
        clear hZ
        have ix := index1 wr
        go_wp2_with fail
        have o0 := out5 HZ2.out.2 (.int .i64 2) (.int .u64 1) (.int .i64 64) (.bool false) (.int .i64 1)
        have o := (Below.heap_alloc _ (.cells #[.int .i64 2, .int .u64 1, .int .i64 64, .bool false, .int .i64 1] 74) _ (lt_of_block o0)).trans o0
        have kg := (grown5 HZ2.out.1 (Nat.le_refl _) (.int .i64 2) (.int .u64 1) (.int .i64 64) (.bool false) (.int .i64 1)).trans (World.grownBy_alloc _ (.cells #[.int .i64 2, .int .u64 1, .int .i64 64, .bool false, .int .i64 1] 74) none)
        have p0 := cell_of_block (i := 0) o
        have p1 := cell_of_block (i := 1) o
        have p2 := cell_of_block (i := 2) o
        have p3 := cell_of_block (i := 3) o
        have p4 := cell_of_block (i := 4) o
        clear o o0
        simp only [List.getElem?_toArray, List.getElem?_cons_zero, List.getElem?_cons_succ] at p0 p1 p2 p3 p4
        exact bodyPost_ret (v := .tuple #[.agg #[.int .i64 2, .int .u64 1, .int .i64 64, .bool false, .int .i64 1], .bool true]) (by simp [results, Tryz.results62, go_sem, p0, p1, p2, p3, p4]) rfl ⟨rfl, kg⟩
      · have e1 : num = 4 := HK.out
        subst e1
        obtain ⟨⟨f0, f1, f2, f3, f4⟩, c0, c1, c2, c3, c4⟩ := hZ.all
        have HZ2 := Lib.hid hZ
        clear hZ
        have ix := index2 wr
        go_wp2_with fail
        have o0 := out5 HZ2.out.2 (.int .i64 3) (.int .u64 4) (.int .i64 0) (.bool false) (.int .i64 0)
        have o := (Below.heap_alloc _ (.cells #[.int .i64 3, .int .u64 4, .int .i64 0, .bool false, .int .i64 0] 74) _ (lt_of_block o0)).trans o0
        have kg := (grown5 HZ2.out.1 (Nat.le_refl _) (.int .i64 3) (.int .u64 4) (.int .i64 0) (.bool false) (.int .i64 0)).trans (World.grownBy_alloc _ (.cells #[.int .i64 3, .int .u64 4, .int .i64 0, .bool false, .int .i64 0] 74) none)
        have p0 := cell_of_block (i := 0) o
        have p1 := cell_of_block (i := 1) o
        have p2 := cell_of_block (i := 2) o
        have p3 := cell_of_block (i := 3) o
        have p4 := cell_of_block (i := 4) o
        clear o o0
        simp only [List.getElem?_toArray, List.getElem?_cons_zero, List.getElem?_cons_succ] at p0 p1 p2 p3 p4
        exact bodyPost_ret (v := .tuple #[.agg #[.int .i64 3, .int .u64 4, .int .i64 0, .bool false, .int .i64 0], .bool true]) (by simp [results, Tryz.results62, go_sem, p0, p1, p2, p3, p4]) rfl ⟨rfl, kg⟩
      · have e1 : num = 11 := HK.out
        subst e1
        obtain ⟨⟨f0, f1, f2, f3, f4⟩, c0, c1, c2, c3, c4⟩ := hZ.all
        have HZ2 := Lib.hid hZ
        clear hZ
        have ix := index3 wr
        go_wp2_with fail
        have o0 := out5 HZ2.out.2 (.int .i64 4) (.int .u64 11) (.int .i64 16) (.bool false) (.int .i64 2)
        have o := (Below.heap_alloc _ (.cells #[.int .i64 4, .int .u64 11, .int .i64 16, .bool false, .int .i64 2] 74) _ (lt_of_block o0)).trans o0
        have kg := (grown5 HZ2.out.1 (Nat.le_refl _) (.int .i64 4) (.int .u64 11) (.int .i64 16) (.bool false) (.int .i64 2)).trans (World.grownBy_alloc _ (.cells #[.int .i64 4, .int .u64 11, .int .i64 16, .bool false, .int .i64 2] 74) none)
        have p0 := cell_of_block (i := 0) o
        have p1 := cell_of_block (i := 1) o
        have p2 := cell_of_block (i := 2) o
        have p3 := cell_of_block (i := 3) o
        have p4 := cell_of_block (i := 4) o
        clear o o0
        simp only [List.getElem?_toArray, List.getElem?_cons_zero, List.getElem?_cons_succ] at p0 p1 p2 p3 p4
        exact bodyPost_ret (v := .tuple #[.agg #[.int .i64 4, .int .u64 11, .int .i64 16, .bool false, .int .i64 2], .bool true]) (by simp [results, Tryz.results62, go_sem, p0, p1, p2, p3, p4]) rfl ⟨rfl, kg⟩
      · have e1 : num = 13 := HK.out
        subst e1
        obtain ⟨⟨f0, f1, f2, f3, f4⟩, c0, c1, c2, c3, c4⟩ := hZ.all
        have HZ2 := Lib.hid hZ
        clear hZ
        have ix := index4 wr
        go_wp2_with fail
        have o0 := out5 HZ2.out.2 (.int .i64 5) (.int .u64 13) (.int .i64 16) (.bool false) (.int .i64 2)
        have o := (Below.heap_alloc _ (.cells #[.int .i64 5, .int .u64 13, .int .i64 16, .bool false, .int .i64 2] 74) _ (lt_of_block o0)).trans o0
        have kg := (grown5 HZ2.out.1 (Nat.le_refl _) (.int .i64 5) (.int .u64 13) (.int .i64 16) (.bool false) (.int .i64 2)).trans (World.grownBy_alloc _ (.cells #[.int .i64 5, .int .u64 13, .int .i64 16, .bool false, .int .i64 2] 74) none)
        have p0 := cell_of_block (i := 0) o
        have p1 := cell_of_block (i := 1) o
        have p2 := cell_of_block (i := 2) o
        have p3 := cell_of_block (i := 3) o
        have p4 := cell_of_block (i := 4) o
        clear o o0
        simp only [List.getElem?_toArray, List.getElem?_cons_zero, List.getElem?_cons_succ] at p0 p1 p2 p3 p4
        exact bodyPost_ret (v := .tuple #[.agg #[.int .i64 5, .int .u64 13, .int .i64 16, .bool false, .int .i64 2], .bool true]) (by simp [results, Tryz.results62, go_sem, p0, p1, p2, p3, p4]) rfl ⟨rfl, kg⟩
    · have hlt : j < k := by omega
      clear hj hm
      rcases (show j = 0 ∨ j = 1 ∨ j = 2 ∨ j = 3 by omega) with rfl | rfl | rfl | rfl
      · have hne : ((0 : Int) == num) = false := by
          rw [HK.out]
          rcases (show k = 1 ∨ k = 2 ∨ k = 3 ∨ k = 4 by omega) with rfl | rfl | rfl | rfl <;> first | rfl | omega
        have hZ2 := hZ.alloc (.cells #[.int .i64 1, .int .u64 0, .int .i64 64, .bool true, .int .i64 1] 74)
        clear hZ
        have ix := index0 wr
        go_wp2_with fail
        go_roundw
        case rel => exact ⟨1, by go_num, by omega, hZ2⟩
        case measure => simp [intOf]
      · have hne : ((1 : Int) == num) = false := by
          rw [HK.out]
          rcases (show k = 1 ∨ k = 2 ∨ k = 3 ∨ k = 4 by omega) with rfl | rfl | rfl | rfl <;> first | rfl | omega
        have hZ2 := hZ.alloc (.cells #[.int .i64 2, .int .u64 1, .int .i64 64, .bool false, .int .i64 1] 74)
        clear hZ
        have ix := index1 wr
        go_wp2_with fail
        go_roundw
        case rel => exact ⟨2, by go_num, by omega, hZ2⟩
        case measure => simp [intOf]
      · have hne : ((4 : Int) == num) = false := by
          rw [HK.out]
          rcases (show k = 1 ∨ k = 2 ∨ k = 3 ∨ k = 4 by omega) with rfl | rfl | rfl | rfl <;> first | rfl | omega
        have hZ2 := hZ.alloc (.cells #[.int .i64 3, .int .u64 4, .int .i64 0, .bool false, .int .i64 0] 74)
        clear hZ
        have ix := index2 wr
        go_wp2_with fail
        go_roundw
        case rel => exact ⟨3, by go_num, by omega, hZ2⟩
        case measure => simp [intOf]
      · have hne : ((11 : Int) == num) = false := by
          rw [HK.out]
          rcases (show k = 1 ∨ k = 2 ∨ k = 3 ∨ k = 4 by omega) with rfl | rfl | rfl | rfl <;> first | rfl | omega
        have hZ2 := hZ.alloc (.cells #[.int .i64 4, .int .u64 11, .int .i64 16, .bool false, .int .i64 2] 74)
        clear hZ
        have ix := index3 wr
        go_wp2_with fail
        go_roundw
        case rel => exact ⟨4, by go_num, by omega, hZ2⟩
        case measure => simp [intOf]

set_option maxRecDepth 100000 in
set_option maxHeartbeats 1600000 in
theorem ofType_no (w : World) (hS : Shapes w) (num : Int) (hk : ∀ k, k < 5 → num ≠ (shpAt k).num) :
    Calls Tryz.prog 62 #[.int .u64 num] w fun e w' => e = .returned (.tuple #[noShp.val, .bool false]) ∧ w.grownBy w' none := by
  have n0 : ((0 : Int) == num) = false := beq_eq_false_iff_ne.2 (fun e => hk 0 (by decide) e.symm)
  have n1 : ((1 : Int) == num) = false := beq_eq_false_iff_ne.2 (fun e => hk 1 (by decide) e.symm)
  have n2 : ((4 : Int) == num) = false := beq_eq_false_iff_ne.2 (fun e => hk 2 (by decide) e.symm)
  have n3 : ((11 : Int) == num) = false := beq_eq_false_iff_ne.2 (fun e => hk 3 (by decide) e.symm)
  have n4 : ((13 : Int) == num) = false := beq_eq_false_iff_ne.2 (fun e => hk 4 (by decide) e.symm)
  clear hk
  have hR := Lib.hid hS.range
  have hp := hS.pos
  clear hS
  go_enter Tryz.func62, Tryz.ntmps62
  go_upto_region 1 with fail
  have ka := World.grownBy_alloc w (.cells #[.int .i64 0, .int .u64 0, .int .i64 0, .bool false, .int .i64 0] 74) none
  have hR1 : (w.alloc (.cells #[.int .i64 0, .int .u64 0, .int .i64 0, .bool false, .int .i64 0] 74)).rangeAt 0 0 shapesL := fun j v hv => (World.cell?_of_block (w := w) (a := ⟨0, 0 + j, none⟩) (ka.block 0 hp (by simp))).trans (hR.out j v hv)
  have hZ : Zs w (w.alloc (.cells #[.int .i64 0, .int .u64 0, .int .i64 0, .bool false, .int .i64 0] 74)) := ⟨ka, heap_alloc_new w _⟩
  go_wp2_with (refine wpList_load_mid rfl 121 _ rfl 0 0 rfl shapesL _ hR1 Tryz.underlying121 rfl (by kernel_rfl) ?_)
  clear ka hR hR1 hp
  have hsl : shapesL = [.int .i64 1, .int .u64 0, .int .i64 64, .bool true, .int .i64 1, .int .i64 2, .int .u64 1, .int .i64 64, .bool false, .int .i64 1, .int .i64 3, .int .u64 4, .int .i64 0, .bool false, .int .i64 0, .int .i64 4, .int .u64 11, .int .i64 16, .bool false, .int .i64 2, .int .i64 5, .int .u64 13, .int .i64 16, .bool false, .int .i64 2] := rfl
  rw [hsl]
  clear hsl
  generalize w.alloc (.cells #[.int .i64 0, .int .u64 0, .int .i64 0, .bool false, .int .i64 0] 74) = w1 at hZ ⊢
  go_loopw [7] (fun jv wr => ∃ j : Nat, jv = .int .i64 j ∧ j ≤ 5 ∧ Zs w wr) (fun jv _ => 5 - (intOf jv).toNat)
  case atStart => exact ⟨0, rfl, Nat.zero_le _, hZ⟩
  case round =>
    clear hZ
    obtain ⟨j, rfl, hj, hZ⟩ := hrel
    have hsz := lt_of_block hZ.2
    rcases (show j = 0 ∨ j = 1 ∨ j = 2 ∨ j = 3 ∨ j = 4 ∨ j = 5 by omega) with rfl | rfl | rfl | rfl | rfl | rfl
    · have hZ2 := hZ.alloc (.cells #[.int .i64 1, .int .u64 0, .int .i64 64, .bool true, .int .i64 1] 74)
      clear hZ
      have ix := index0 wr
      go_wp2_with fail
      go_roundw
      case rel => exact ⟨1, by go_num, by omega, hZ2⟩
      case measure => simp [intOf]
    · have hZ2 := hZ.alloc (.cells #[.int .i64 2, .int .u64 1, .int .i64 64, .bool false, .int .i64 1] 74)
      clear hZ
      have ix := index1 wr
      go_wp2_with fail
      go_roundw
      case rel => exact ⟨2, by go_num, by omega, hZ2⟩
      case measure => simp [intOf]
    · have hZ2 := hZ.alloc (.cells #[.int .i64 3, .int .u64 4, .int .i64 0, .bool false, .int .i64 0] 74)
      clear hZ
      have ix := index2 wr
      go_wp2_with fail
      go_roundw
      case rel => exact ⟨3, by go_num, by omega, hZ2⟩
      case measure => simp [intOf]
    · have hZ2 := hZ.alloc (.cells #[.int .i64 4, .int .u64 11, .int .i64 16, .bool false, .int .i64 2] 74)
      clear hZ
      have ix := index3 wr
      go_wp2_with fail
      go_roundw
      case rel => exact ⟨4, by go_num, by omega, hZ2⟩
      case measure => simp [intOf]
    · have hZ2 := hZ.alloc (.cells #[.int .i64 5, .int .u64 13, .int .i64 16, .bool false, .int .i64 2] 74)
      clear hZ
      have ix := index4 wr
      go_wp2_with fail
      go_roundw
      case rel => exact ⟨5, by go_num, by omega, hZ2⟩
      case measure => simp [intOf]
    · obtain ⟨⟨f0, f1, f2, f3, f4⟩, c0, c1, c2, c3, c4⟩ := hZ.all
      have HZ2 := Lib.hid hZ
      clear hZ
      go_wp2_with fail
      have o := out5 HZ2.out.2 (.int .i64 0) (.int .u64 0) (.int .i64 0) (.bool false) (.int .i64 0)
      have kg := grown5 HZ2.out.1 (Nat.le_refl _) (.int .i64 0) (.int .u64 0) (.int .i64 0) (.bool false) (.int .i64 0)
      have p0 := cell_of_block (i := 0) o
      have p1 := cell_of_block (i := 1) o
      have p2 := cell_of_block (i := 2) o
      have p3 := cell_of_block (i := 3) o
      have p4 := cell_of_block (i := 4) o
      simp only [List.getElem?_toArray, List.getElem?_cons_zero, List.getElem?_cons_succ] at p0 p1 p2 p3 p4
      exact bodyPost_ret (v := .tuple #[.agg #[.int .i64 0, .int .u64 0, .int .i64 0, .bool false, .int .i64 0], .bool false]) (by simp [results, Tryz.results62, go_sem, p0, p1, p2, p3, p4]) rfl ⟨rfl, kg⟩

end Go.Proofs.YtdchlnffbiooaaaGreatDoor
