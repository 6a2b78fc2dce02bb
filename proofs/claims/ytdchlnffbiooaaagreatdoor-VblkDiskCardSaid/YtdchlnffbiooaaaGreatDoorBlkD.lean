/-
  Layer 3: the buffers of an order's chain. Conditions: where the order lies is from 0 to 65536.
-/
import Derived.Test.YtdchlnffbiooaaaGreatDoorBlkC
import Derived.Test.YtdchlnffbiooaaaGreatDoorAwake
import Derived.Test.YtdchlnffbiooaaaGreatDoorVBackF
import Derived.Deep.DeepCutAuto
namespace Go.Proofs.YtdchlnffbiooaaaGreatDoor
open Go.RowKit Go.Sort

/-- A row of buffers of one's own, in a block from B on. -/
def OwnBufs (B : Nat) (w : World) (v : Value) (l : List Bf) : Prop := w.ownsRow B 90 3 v l.length (l.flatMap bfCells) ∧ l.length ≤ 100
theorem bfd_len (l : List Bf) : (l.flatMap bfCells).length = l.length * 3 := by
  induction l with
  | nil => rfl
  | cons a l ih => simp only [List.flatMap_cons, List.length_append, ih, List.length_cons]; simp [bfCells]; omega
theorem bfs_one (l : List Bf) : ∀ u ∈ l.flatMap bfCells, u.oneCell' = true := by
  intro u hu
  obtain ⟨x, _, hx⟩ := List.mem_flatMap.1 hu
  simp [bfCells] at hx
  rcases hx with rfl | rfl | rfl <;> rfl
theorem OwnBufs.new {B : Nat} (w : World) (hB : B ≤ w.heap.size) (x : Bf) : OwnBufs B (w.alloc (.cells #[.int .i64 x.a, .int .i64 x.n, .bool x.wr] 90)) (.slice (some ⟨w.heap.size, 0, none⟩) 1 1) [x] :=
  ⟨⟨bfd_len [x], .inr ⟨w.heap.size, 1, _, rfl, hB, heap_alloc_new w _, Nat.le_refl _, by unfold maxLen; omega, rfl, rfl⟩⟩, by simp⟩
theorem OwnBufs.bufs {B : Nat} {w : World} {v : Value} {l : List Bf} (h : OwnBufs B w v l) : IsBufs w v l := by
  rcases h.1.2 with ⟨rfl, h0⟩ | ⟨g, cap, cur, rfl, hg, hb, r⟩
  · have : l = [] := List.eq_nil_of_length_eq_zero h0
    subst this
    exact bufs_nil w
  · refine ⟨_, cap, rfl, by have := h.2; omega, fun _ => ⟨g, 0, rfl, fun i hi => ?_⟩⟩
    have hc : ∀ j, j < 3 → w.cell? ⟨g, 0 + (i * 3 + j), none⟩ = (bfCells l[i])[j]? := fun j hj => by
      have h1 := bf_cell l i hi j hj
      have hlt : j < (bfCells l[i]).length := by simp [bfCells]; omega
      rw [List.getElem?_eq_getElem hlt] at h1 ⊢
      have h2 := h.1.cells (g := g) rfl (i * 3 + j) _ h1
      rw [Addr.add_mid] at h2
      exact h2
    exact ⟨hc 0 (by omega), hc 1 (by omega), hc 2 (by omega)⟩
theorem OwnBufs.grown {B : Nat} {w w' : World} {v : Value} {l : List Bf} (h : OwnBufs B w v l) (k : w.grownBy w' none) : OwnBufs B w' v l := ⟨h.1.kept k (by
  by_cases hn : v.ownBlock = none
  · exact .inl hn
  · exact .inr hn), h.2⟩
/-- 'append(v, x)'. -/
theorem OwnBufs.push {B : Nat} {w : World} {v : Value} {l : List Bf} (h : OwnBufs B w v l) (hB : B ≤ w.heap.size) (x : Bf) (hl : l.length + 1 ≤ 100) :
    ∃ v' w', (Builtin.append_ #[81, 81] 81 #[v, .slice (some ⟨w.heap.size, 0, none⟩) 1 1]).run Tryz.prog (w.alloc (.cells #[.int .i64 x.a, .int .i64 x.n, .bool x.wr] 90)) = .ok v' w' ∧ OwnBufs B w' v' (l ++ [x]) ∧ w.grownBy w' v.ownBlock := by
  have ka := World.grownBy_alloc w (.cells #[.int .i64 x.a, .int .i64 x.n, .bool x.wr] 90) none
  obtain ⟨i0, hi⟩ : ∃ j, Tryz.prog.info? 90 = some j := Option.isSome_iff_exists.1 (by kernel_rfl)
  have hz : (Tryz.prog.info? 90).bind (·.zero) = some (.agg #[.int .i64 0, .int .i64 0, .bool false]) := by kernel_rfl
  have hs : (Tryz.prog.info? 90).map (·.size) = some 3 := by kernel_rfl
  have hb : (Tryz.prog.info? 90).map (·.bytes) = some 24 := by kernel_rfl
  rw [hi] at hz hs hb
  simp only [Option.bind_some, Option.map_some, Option.some.injEq] at hz hs hb
  obtain ⟨v', w', h1, h2, h3, _⟩ := run_append_own (P := Tryz.prog) (w.alloc (.cells #[.int .i64 x.a, .int .i64 x.n, .bool x.wr] 90)) B 81 81 90 i0 (.agg #[.int .i64 0, .int .i64 0, .bool false]) 3 24 Tryz.underlying81 hi hz hs hb rfl (by decide) v l.length (l.flatMap bfCells) (h.grown ka).1
    ⟨w.heap.size, 0, none⟩ 1 1 (bfCells x) rfl (fun j u hu => by
      rw [Addr.add_mid, Nat.zero_add, cell_of_block (heap_alloc_new w _)]
      simpa [bfCells] using hu) (by simpa using bfs_one [x]) (by unfold maxLen; omega) (by omega) (by have := ka.size; omega)
  refine ⟨v', w', h1, ⟨by rw [List.length_append, List.flatMap_append]; simpa using h2, by simpa using hl⟩, ⟨h3.os.trans ka.os, h3.tape.trans ka.tape, h3.output.trans ka.output, Nat.le_trans ka.size h3.size, fun j hj hn => (h3.block j (Nat.lt_of_lt_of_le hj ka.size) hn).trans (ka.block j hj (by simp))⟩⟩

/-- The chain of an order that lies at 'at_'. -/
def chainL (s : Shp) (at_ : Int) : List Bf := ⟨at_, 16, false⟩ :: ((if 0 < s.len then [⟨at_ + 16, s.len, s.back⟩] else []) ++ [⟨at_ + 80, 1, true⟩])

set_option maxRecDepth 100000 in
set_option maxHeartbeats 1600000 in
theorem chain_any (w : World) (s : Shp) (at_ : Int) (a0 : 0 ≤ at_) (a1 : at_ ≤ 65536) :
    Calls Tryz.prog 27 #[s.val, .int .i64 at_] w fun e w' => ∃ v, e = .returned v ∧ IsBufs w' v (chainL s at_) ∧ w.grownBy w' none := by
  obtain ⟨L, hL⟩ : ∃ L, L = chainL s at_ := ⟨_, rfl⟩
  rw [← hL]
  obtain ⟨sk, sn, sl, sb, ss⟩ := s
  unfold chainL at hL
  simp only at hL
  have HL := Lib.hid hL
  clear hL
  unfold Shp.val
  have ka := World.grownBy_alloc w (.cells #[.int .i64 sk, .int .u64 sn, .int .i64 sl, .bool sb, .int .i64 ss] 74) none
  have o1 := OwnBufs.new (B := w.heap.size) (w.alloc (.cells #[.int .i64 sk, .int .u64 sn, .int .i64 sl, .bool sb, .int .i64 ss] 74)) ka.size ⟨at_, 16, false⟩
  have kb := ka.trans (World.grownBy_alloc (w.alloc (.cells #[.int .i64 sk, .int .u64 sn, .int .i64 sl, .bool sb, .int .i64 ss] 74)) (.cells #[.int .i64 at_, .int .i64 16, .bool false] 90) none)
  have h1 : ((w.alloc (.cells #[.int .i64 sk, .int .u64 sn, .int .i64 sl, .bool sb, .int .i64 ss] 74)).alloc (.cells #[.int .i64 at_, .int .i64 16, .bool false] 90)).heap[w.heap.size]? = some (.cells #[.int .i64 sk, .int .u64 sn, .int .i64 sl, .bool sb, .int .i64 ss] 74 (0, 0)) :=
    (Below.heap_alloc _ _ _ (lt_of_block (heap_alloc_new w _))).trans (heap_alloc_new w _)
  rw [World.size_alloc] at o1
  clear ka
  go_enter Tryz.func27, Tryz.ntmps27
  go_upto_region 2 with fail
  generalize (w.alloc _).alloc _ = W1 at o1 kb h1 ⊢
  have c2 : W1.cell? ⟨w.heap.size, 2, none⟩ = some (.int .i64 sl) := cell_of_block h1
  have c3 : W1.cell? ⟨w.heap.size, 3, none⟩ = some (.bool sb) := cell_of_block h1
  clear h1
  by_cases hl : 0 < sl
  · obtain ⟨v2, w2, r2, o2, k2⟩ := o1.push kb.size ⟨at_ + 16, sl, sb⟩ (by simp)
    obtain ⟨v3, w3, r3, o3, k3⟩ := o2.push (Nat.le_trans kb.size k2.size) ⟨at_ + 80, 1, true⟩ (by simp)
    have g2 := grown_fresh kb k2 (fun j hj => (o1.1.lt j hj).1)
    have g3 := grown_fresh g2 k3 (fun j hj => (o2.1.lt j hj).1)
    have O3 := Lib.hid o3.bufs
    have G3 := Lib.hid g3
    clear o1 o2 o3 k2 k3 g2 g3 kb
    go_wp2_with (at_builtin; first | (refine wpList_append_run _ rfl _ _ 81 rfl _ _ v2 w2 rfl rfl r2 ?_; clear r2) | (refine wpList_append_run _ rfl _ _ 81 rfl _ _ v3 w3 rfl rfl r3 ?_; clear r3))
    go_ret
    exact ⟨v3, rfl, by rw [HL.out, if_pos hl]; exact O3.out, G3.out⟩
  · have d1 : decide (0 < sl) = false := decide_eq_false hl
    obtain ⟨v3, w3, r3, o3, k3⟩ := o1.push kb.size ⟨at_ + 80, 1, true⟩ (by simp)
    have g3 := grown_fresh kb k3 (fun j hj => (o1.1.lt j hj).1)
    have O3 := Lib.hid o3.bufs
    have G3 := Lib.hid g3
    clear o1 o3 k3 g3 kb
    have HN := Lib.hid hl
    clear hl
    go_wp2_with (at_builtin; (refine wpList_append_run _ rfl _ _ 81 rfl _ _ v3 w3 rfl rfl r3 ?_; clear r3))
    go_ret
    exact ⟨v3, rfl, by rw [HL.out, if_neg (Int.not_lt.2 HN.out)]; exact O3.out, G3.out⟩

end Go.Proofs.YtdchlnffbiooaaaGreatDoor
