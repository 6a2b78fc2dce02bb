/-
  Layer 12: a buffer in memory; what is none; New, Ready, Next, Window, the window's places, Held. Conditions: as said.
-/
import Derived.Test.YtlajalfalepbhaaRbA
import Derived.Laws.CopyRow
import Derived.Deep.CutBlock
import Derived.Deep.DeepCutAuto
import Derived.Deep.QuietTactic
import Derived.Laws.MakeOwn
import Derived.BigQuiet
import Derived.WalkSmall
namespace Go.Proofs.Ytlajalfalepbhaa
open Go.RowKit
set_option linter.unusedVariables false

theorem cell_of_block {w : World} {g i : Nat} {cs : Array Value} {t : TypeId} {m : Nat × Nat} (h : w.heap[g]? = some (.cells cs t m)) : w.cell? ⟨g, i, none⟩ = cs[i]? := by
  simp [World.cell?, h]
theorem set_cellsB {w : World} {b i : Nat} {cs : Array Value} {t : TypeId} (h : w.heap[b]? = some (.cells cs t (0, 0))) (v : Value) (hi : i < cs.size) : (w.setCell ⟨b, i, none⟩ v).heap[b]? = some (.cells (cs.setIfInBounds i v) t (0, 0)) := by
  rw [setCell_eq_setRow w b i cs t (0, 0) v h]
  exact setRow_heap _ _ _ _ _ _ h
/-- A place. -/
def enP (o : Option UInt8) : List Value := [.int .u8 ((o.getD 0).toNat : Int), .bool o.isSome]
theorem enP_len (o : Option UInt8) : (enP o).length = 2 := rfl
theorem enP_one (o : Option UInt8) : ∀ u ∈ enP o, u.oneCell' = true := by
  intro u hu
  simp only [enP, List.mem_cons, List.not_mem_nil, or_false] at hu
  rcases hu with rfl | rfl <;> rfl
/-- A buffer that 'New' made: its struct is block g, its places are block b; the bytes that are ready, the window's places. -/
structure Rb (w : World) (g b n : Nat) (nx : Int) (R : List UInt8) (W : List (Option UInt8)) : Prop where
  at_ : w.heap[g]? = some (.cells #[.int .u32 nx, .int .i64 R.length, .slice (some ⟨b, 0, none⟩) n n, .pointer (some ⟨g, 0, none⟩)] 83 (0, 0))
  row : w.heap[b]? = some (.cells (encA enP (R.map some ++ W)).toArray 91 (0, 0))
  ne : b ≠ g
  len : R.length + W.length = n
  n1 : 1 ≤ n
  n2 : n ≤ 2048
  x0 : 0 ≤ nx
  x1 : nx < 4294967296
/-- A pointer to no buffer that 'New' made: nil, or to a struct that names no maker. -/
def RbNone (w : World) (p : Option Addr) : Prop := p = none ∨ ∃ g, p = some ⟨g, 0, none⟩ ∧ w.cell? ⟨g, 3, none⟩ = some (.pointer none)
section
variable {w w' : World} {g b n : Nat} {nx : Int} {R : List UInt8} {W : List (Option UInt8)}
theorem Rb.c0 (h : Rb w g b n nx R W) : w.cell? ⟨g, 0, none⟩ = some (.int .u32 nx) := by rw [cell_of_block h.at_]; rfl
theorem Rb.c1 (h : Rb w g b n nx R W) : w.cell? ⟨g, 1, none⟩ = some (.int .i64 R.length) := by rw [cell_of_block h.at_]; rfl
theorem Rb.c2 (h : Rb w g b n nx R W) : w.cell? ⟨g, 2, none⟩ = some (.slice (some ⟨b, 0, none⟩) n n) := by rw [cell_of_block h.at_]; rfl
theorem Rb.c3 (h : Rb w g b n nx R W) : w.cell? ⟨g, 3, none⟩ = some (.pointer (some ⟨g, 0, none⟩)) := by rw [cell_of_block h.at_]; rfl
theorem Rb.f (h : Rb w g b n nx R W) (i : Nat) : w.frozen? ⟨g, i, none⟩ = false := by simp [World.frozen?, h.at_]
theorem Rb.fb (h : Rb w g b n nx R W) (i : Nat) : w.frozen? ⟨b, i, none⟩ = false := by simp [World.frozen?, h.row]
theorem Rb.lt (h : Rb w g b n nx R W) : g < w.heap.size := (Array.getElem?_eq_some_iff.1 h.at_).1
theorem Rb.ltb (h : Rb w g b n nx R W) : b < w.heap.size := (Array.getElem?_eq_some_iff.1 h.row).1
theorem Rb.kept (h : Rb w g b n nx R W) (k : ∀ j, j = g ∨ j = b → w'.heap[j]? = w.heap[j]?) : Rb w' g b n nx R W :=
  ⟨(k g (.inl rfl)).trans h.at_, (k b (.inr rfl)).trans h.row, h.ne, h.len, h.n1, h.n2, h.x0, h.x1⟩
theorem Rb.grow (h : Rb w g b n nx R W) {B : Nat} (k : Below B w w') (h1 : g < B) (h2 : b < B) : Rb w' g b n nx R W := h.kept (fun j hj => by
  rcases hj with rfl | rfl
  · exact k.block _ h1
  · exact k.block _ h2)
theorem Rb.below (h : Rb w g b n nx R W) (k : Below w.heap.size w w') : Rb w' g b n nx R W := h.grow k h.lt h.ltb
theorem Rb.places (h : Rb w g b n nx R W) : (R.map some ++ W).length = n := by rw [List.length_append, List.length_map]; exact h.len
theorem Rb.cellA (h : Rb w g b n nx R W) {j : Nat} {o : Option UInt8} (hj : (R.map some ++ W)[j]? = some o) {i : Nat} (hi : i < 2) : w.cell? ⟨b, j * 2 + i, none⟩ = (enP o)[i]? := by
  obtain ⟨hl, rfl⟩ := List.getElem?_eq_some_iff.1 hj
  rw [cell_of_block h.row, List.getElem?_toArray]
  exact encA_at enP_len _ j i hl hi
/-- The place that stands j behind next. -/
theorem Rb.cellW (h : Rb w g b n nx R W) {j : Nat} {o : Option UInt8} (hj : W[j]? = some o) {i : Nat} (hi : i < 2) : w.cell? ⟨b, R.length * 2 + j * 2 + i, none⟩ = (enP o)[i]? := by
  have := h.cellA (j := R.length + j) (o := o) (by rw [List.getElem?_append_right (by rw [List.length_map]; omega), List.length_map, Nat.add_sub_cancel_left]; exact hj) hi
  rw [← this]
  congr 2
  omega
end

theorem info_rb : ∃ j, Try.prog.info? 83 = some j := Option.isSome_iff_exists.1 (by kernel_rfl)
set_option maxHeartbeats 400000 in
theorem bnone_no {w : World} {g b n : Nat} {nx : Int} {R : List UInt8} {W : List (Option UInt8)} (h : Rb w g b n nx R W) :
    Calls Try.prog 72 #[.pointer (some ⟨g, 0, none⟩)] w fun e w' => e = .returned (.bool false) ∧ w = w' := by
  have hm := h.c3
  obtain ⟨j, hj⟩ := info_rb
  have hq := Lib.run_neq_ptr_same (P := Try.prog) (w := w) ⟨g, 0, none⟩ Try.underlying44 hj
  clear h hj
  go_enter Try.func72, Try.ntmps72
  go_wp2
  go_ret
  exact ⟨rfl, rfl⟩
theorem neq_nil_ptr {P : Program} (w : World) {tp te : TypeId} (a : Addr) (hp : P.underlying tp = some (.pointer te)) :
    (binOp .neq tp (.pointer none) (.pointer (some a))).run P w = .ok (.bool true) w := by
  have h : ∀ d : Nat, (Op.equalIn (d + 1) tp (.pointer none) (.pointer (some a))).run P w = .ok false w := fun d => by
    simp [Op.equalIn, run_underlying hp, sizeOf, typeInfo]
  simp only [binOp]
  simp [Op.equal, Op.maxDepth, h 9999]
set_option maxHeartbeats 400000 in
theorem bnone_yes (w : World) (p : Option Addr) (hp : RbNone w p) :
    Calls Try.prog 72 #[.pointer p] w fun e w' => e = .returned (.bool true) ∧ w = w' := by
  rcases hp with rfl | ⟨g, rfl, hc⟩
  · go_enter Try.func72, Try.ntmps72
    go_wp2
    go_ret
    exact ⟨rfl, rfl⟩
  · have hq := neq_nil_ptr (P := Try.prog) w ⟨g, 0, none⟩ Try.underlying44
    go_enter Try.func72, Try.ntmps72
    go_wp2
    go_ret
    exact ⟨rfl, rfl⟩

set_option maxHeartbeats 400000 in
theorem bnew_bad (w : World) (nx n : Int) (h : n < 1 ∨ 2048 < n) :
    Calls Try.prog 34 #[.int .u32 nx, .int .i64 n] w fun e w' => e = .returned (.tuple #[.pointer none, .int .i64 1]) ∧ w = w' := by
  rcases h with h | h
  · go_enter Try.func34, Try.ntmps34
    go_wp2
    go_ret2
    exact ⟨rfl, rfl⟩
  · have h1 : ¬ n < 1 := by omega
    go_enter Try.func34, Try.ntmps34
    go_wp2
    go_ret2
    exact ⟨rfl, rfl⟩
theorem info_pl : ∃ i z, Try.prog.info? 91 = some i ∧ i.zero = some z ∧ i.size = 2 ∧ i.bytes = 2 ∧ z.cells = #[.int .u8 0, .bool false] := by
  have h : (Try.prog.info? 91).map (fun i => (i.zero.map (fun z => z.cells), i.size, i.bytes)) = some (some #[.int .u8 0, .bool false], 2, 2) := by kernel_rfl
  cases hi : Try.prog.info? 91 with
  | none => rw [hi] at h; cases h
  | some i =>
    rw [hi] at h
    simp only [Option.map_some, Option.some.injEq, Prod.mk.injEq] at h
    obtain ⟨h1, h2, h3⟩ := h
    cases hz : i.zero with
    | none => rw [hz] at h1; cases h1
    | some z => rw [hz] at h1; exact ⟨i, z, rfl, hz, h2, h3, by simpa using h1⟩
theorem enc_nones : ∀ n : Nat, encA enP (List.replicate n none) = (List.range (n * 2)).map fun i => (#[Value.int .u8 0, .bool false])[i % 2]!
  | 0 => rfl
  | n + 1 => by
    rw [show List.replicate (n + 1) (none : Option UInt8) = List.replicate n none ++ [none] from List.replicate_succ', encA_append, enc_nones n, Nat.add_one_mul, List.range_succ, List.range_succ, List.map_append, List.map_append, List.append_assoc]
    congr 1
    have e1 : n * 2 % 2 = 0 := by omega
    have e2 : (n * 2 + 1) % 2 = 1 := by omega
    simp only [List.map_cons, List.map_nil, e1, e2]
    rfl
theorem made_places (n : Nat) : madeCells #[Value.int .u8 0, .bool false] (n * 2) = (encA enP (List.replicate n none)).toArray := by
  rw [enc_nones]
  apply Array.ext'
  apply List.ext_getElem?
  intro k
  unfold madeCells
  by_cases c : k < n * 2
  · simp [c]
  · simp [c]
theorem make_places (n : Nat) (hn : n ≤ 2048) (w : World) :
    (Instr.makeSlice 81 (.int .i64 (n : Int)) (.int .i64 (n : Int))).run Try.prog w = .ok (.slice (some ⟨w.heap.size, 0, none⟩) n n) (w.alloc (.cells (encA enP (List.replicate n none)).toArray 91)) := by
  obtain ⟨i, z, hi, hz, h1, h2, h3⟩ := info_pl
  have hr := run_make (P := Try.prog) w 81 91 i z Try.underlying81 hi hz .i64 .i64 n n (by omega) (by omega) (by rw [h2]; omega) (by omega)
  rw [h1, h3, Int.toNat_natCast, made_places] at hr
  exact hr
set_option maxHeartbeats 800000 in
theorem bnew_ok (w : World) (nx : Int) (n : Nat) (h1 : 1 ≤ n) (h2 : n ≤ 2048) (x0 : 0 ≤ nx) (x1 : nx < 4294967296) :
    Calls Try.prog 34 #[.int .u32 nx, .int .i64 n] w fun e w' => e = .returned (.tuple #[.pointer (some ⟨w.heap.size + 1, 0, none⟩), .int .i64 0]) ∧ Rb w' (w.heap.size + 1) w.heap.size n nx [] (List.replicate n none) ∧ Below w.heap.size w w' := by
  have mk := make_places n h2 w
  have h3 : ¬ (n : Int) < 1 := by omega
  have h4 : ¬ 2048 < (n : Int) := by omega
  have hsz : (w.alloc (.cells (encA enP (List.replicate n none)).toArray 91)).heap.size = w.heap.size + 1 := by simp
  have hb : (w.alloc (.cells (encA enP (List.replicate n none)).toArray 91)).heap[w.heap.size]? = _ := heap_alloc_new w _
  obtain ⟨S, hS⟩ : ∃ S : Obj, S = .cells #[.int .u32 nx, .int .i64 0, .slice (some ⟨w.heap.size, 0, none⟩) n n, .pointer none] 83 := ⟨_, rfl⟩
  have HB0 := Lib.hid (heap_alloc_new (w.alloc (.cells (encA enP (List.replicate n none)).toArray 91)) S)
  rw [hsz] at HB0
  have HB1 := Lib.hid ((Below.heap_alloc (w.alloc (.cells (encA enP (List.replicate n none)).toArray 91)) S w.heap.size (by omega)).trans hb)
  have BL := Lib.hid (((Below.refl w.heap.size w).alloc (Nat.le_refl _) (.cells (encA enP (List.replicate n none)).toArray 91)).alloc (by omega) S)
  clear hb hsz
  subst hS
  go_enter Try.func34, Try.ntmps34
  go_upto_region 4 with fail
  clear mk
  generalize (w.alloc (.cells (encA enP (List.replicate n none)).toArray 91)).alloc _ = W1 at HB0 HB1 BL ⊢
  obtain ⟨g, hg⟩ : ∃ g, g = w.heap.size + 1 := ⟨_, rfl⟩
  rw [← hg] at HB0 ⊢
  have HG := Lib.hid hg
  clear hg
  have k0 : W1.cell? ⟨g, 3, none⟩ = some (.pointer none) := by rw [cell_of_block HB0.out]; rfl
  have k1 : W1.frozen? ⟨g, 3, none⟩ = false := by simp [World.frozen?, HB0.out]
  go_wp2
  go_ret2
  have hg := HG.out
  subst hg
  refine ⟨rfl, ⟨?_, ?_, by omega, by simp, h1, h2, x0, x1⟩, BL.out.setCell (by show w.heap.size ≤ w.heap.size + 1; omega) _⟩
  · rw [set_cellsB HB0.out _ (by show 3 < 4; omega)]
    rfl
  · rw [Below.heap_setCell _ _ _ _ (by show w.heap.size ≠ w.heap.size + 1; omega)]
    exact HB1.out
set_option maxHeartbeats 400000 in
theorem window_ok {w : World} {g b n : Nat} {nx : Int} {R : List UInt8} {W : List (Option UInt8)} (h : Rb w g b n nx R W) :
    Calls Try.prog 74 #[.pointer (some ⟨g, 0, none⟩)] w fun e w' => ∃ o : Nat, e = .returned (.slice (some ⟨b, o, none⟩) W.length W.length) ∧ (W = [] ∨ o = R.length * 2) ∧ Below w.heap.size w w' := by
  have c1 := h.c1
  have c2 := h.c2
  have hl := h.len
  have hn := h.n2
  generalize hr : R.length = r at c1 hl ⊢
  generalize hv : W.length = v at hl ⊢
  clear h
  go_enter Try.func74, Try.ntmps74
  go_wp2_with fail
  go_quiet (fail)
  go_wp2_with fail
  · go_ret
    have hv0 : v = 0 := by omega
    subst hv0
    exact ⟨0, rfl, .inl (List.length_eq_zero_iff.1 hv), below_drewN (Below.refl _ _) _⟩
  · go_ret
    have e : n - r = v := by omega
    rw [e]
    exact ⟨r * 2, rfl, .inr rfl, below_drewN (Below.refl _ _) _⟩
section
variable {w : World} {g b n : Nat} {nx : Int} {R : List UInt8} {W : List (Option UInt8)}
set_option maxHeartbeats 400000 in
theorem bready_ok (h : Rb w g b n nx R W) :
    Calls Try.prog 54 #[.pointer (some ⟨g, 0, none⟩)] w fun e w' => e = .returned (.int .i64 R.length) ∧ w = w' := by
  have c1 := h.c1
  have HH := Lib.hid h
  clear h
  go_enter Try.func54, Try.ntmps54
  go_wp2_with (go_at_call 72; refine (bnone_no HH.out).mono ?_; rintro e w' ⟨rfl, rfl⟩)
  go_ret
  exact ⟨rfl, rfl⟩
set_option maxHeartbeats 400000 in
theorem bnext_ok (h : Rb w g b n nx R W) :
    Calls Try.prog 85 #[.pointer (some ⟨g, 0, none⟩)] w fun e w' => e = .returned (.int .u32 nx) ∧ w = w' := by
  have c1 := h.c0
  have HH := Lib.hid h
  clear h
  go_enter Try.func85, Try.ntmps85
  go_wp2_with (go_at_call 72; refine (bnone_no HH.out).mono ?_; rintro e w' ⟨rfl, rfl⟩)
  go_ret
  exact ⟨rfl, rfl⟩
set_option maxHeartbeats 400000 in
theorem bwindow_ok (h : Rb w g b n nx R W) :
    Calls Try.prog 49 #[.pointer (some ⟨g, 0, none⟩)] w fun e w' => e = .returned (.int .i64 W.length) ∧ Below w.heap.size w w' := by
  have HH := Lib.hid h
  clear h
  go_enter Try.func49, Try.ntmps49
  go_wp2_with (first | (go_at_call 72; refine (bnone_no HH.out).mono ?_; rintro e w' ⟨rfl, rfl⟩) | (go_at_call 74; refine (window_ok HH.out).mono ?_; rintro e w' ⟨o, rfl, q1, q2⟩))
  go_ret
  exact ⟨rfl, q2⟩
set_option maxHeartbeats 400000 in
theorem bready_no (w : World) (p : Option Addr) (h : RbNone w p) :
    Calls Try.prog 54 #[.pointer p] w fun e w' => e = .returned (.int .i64 0) ∧ w = w' := by
  go_enter Try.func54, Try.ntmps54
  go_wp2_with (go_at_call 72; refine (bnone_yes _ _ h).mono ?_; rintro e w' ⟨rfl, rfl⟩)
  go_ret
  exact ⟨rfl, rfl⟩
set_option maxHeartbeats 400000 in
theorem bnext_no (w : World) (p : Option Addr) (h : RbNone w p) :
    Calls Try.prog 85 #[.pointer p] w fun e w' => e = .returned (.int .u32 0) ∧ w = w' := by
  go_enter Try.func85, Try.ntmps85
  go_wp2_with (go_at_call 72; refine (bnone_yes _ _ h).mono ?_; rintro e w' ⟨rfl, rfl⟩)
  go_ret
  exact ⟨rfl, rfl⟩
set_option maxHeartbeats 400000 in
theorem bwindow_no (w : World) (p : Option Addr) (h : RbNone w p) :
    Calls Try.prog 49 #[.pointer p] w fun e w' => e = .returned (.int .i64 0) ∧ w = w' := by
  go_enter Try.func49, Try.ntmps49
  go_wp2_with (go_at_call 72; refine (bnone_yes _ _ h).mono ?_; rintro e w' ⟨rfl, rfl⟩)
  go_ret
  exact ⟨rfl, rfl⟩
set_option maxHeartbeats 400000 in
theorem bput_no (w : World) (p : Option Addr) (h : RbNone w p) (s : Int) (d : ByteArray) :
    Calls Try.prog 92 #[.pointer p, .int .u32 s, .string d] w fun e w' => e = .returned (.int .i64 0) ∧ w = w' := by
  go_enter Try.func92, Try.ntmps92
  go_wp2_with (go_at_call 72; refine (bnone_yes _ _ h).mono ?_; rintro e w' ⟨rfl, rfl⟩)
  go_ret
  exact ⟨rfl, rfl⟩
set_option maxHeartbeats 400000 in
theorem bread_no (w : World) (p : Option Addr) (h : RbNone w p) (k : Int) :
    Calls Try.prog 47 #[.pointer p, .int .i64 k] w fun e w' => e = .returned (.string ⟨#[]⟩) ∧ w = w' := by
  go_enter Try.func47, Try.ntmps47
  go_wp2_with (go_at_call 72; refine (bnone_yes _ _ h).mono ?_; rintro e w' ⟨rfl, rfl⟩)
  go_ret
  exact ⟨rfl, rfl⟩
end

section
variable {w : World} {g b n : Nat} {nx : Int} {R : List UInt8} {W : List (Option UInt8)}
end
end Go.Proofs.Ytlajalfalepbhaa
