/-
  Layer 13: a buffer in memory; what is none; New, Una, Len, Room, End. Conditions: as said.
-/
import Derived.Test.YtlajalfalepbhaaRbH
namespace Go.Proofs.Ytlajalfalepbhaa
open Go.RowKit
set_option linter.unusedVariables false

def ebS (x : UInt8) : Value := .int .u8 (x.toNat : Int)
/-- Some bytes, and noughts behind them. -/
def padB (L : List UInt8) (n : Nat) : List Value := L.map ebS ++ List.replicate (n - L.length) (.int .u8 0)
theorem padB_len {L : List UInt8} {n : Nat} (h : L.length ≤ n) : (padB L n).length = n := by simp [padB]; omega
theorem padB_one (L : List UInt8) : ∀ u ∈ L.map ebS, u.oneCell' = true := fun u hu => by
  obtain ⟨x, _, rfl⟩ := List.mem_map.1 hu
  rfl
theorem padB_at {L : List UInt8} {n j : Nat} {x : UInt8} (h : L[j]? = some x) : (padB L n)[j]? = some (ebS x) := by
  have hj : j < L.length := (List.getElem?_eq_some_iff.1 h).1
  unfold padB
  rw [List.getElem?_append_left (by rw [List.length_map]; exact hj), List.getElem?_map, h]
  rfl
/-- A buffer that 'New' made: its struct is block g, its bytes are block b; the bytes that are there. -/
structure Sb (w : World) (g b n : Nat) (u : Int) (L : List UInt8) : Prop where
  at_ : w.heap[g]? = some (.cells #[.int .u32 u, .int .i64 n, .slice (some ⟨b, 0, none⟩) L.length n, .pointer (some ⟨g, 0, none⟩)] 85 (0, 0))
  row : w.heap[b]? = some (.cells (padB L n).toArray 5 (0, 0))
  ne : b ≠ g
  le : L.length ≤ n
  n1 : 1 ≤ n
  n2 : n ≤ 2048
  x0 : 0 ≤ u
  x1 : u < 4294967296
/-- A pointer to no buffer that 'New' made: nil, or to a struct that names no maker. -/
def SbNone (w : World) (p : Option Addr) : Prop := p = none ∨ ∃ g, p = some ⟨g, 0, none⟩ ∧ w.cell? ⟨g, 3, none⟩ = some (.pointer none)
section
variable {w w' : World} {g b n : Nat} {u : Int} {L : List UInt8}
theorem Sb.c0 (h : Sb w g b n u L) : w.cell? ⟨g, 0, none⟩ = some (.int .u32 u) := by rw [cell_of_block h.at_]; rfl
theorem Sb.c1 (h : Sb w g b n u L) : w.cell? ⟨g, 1, none⟩ = some (.int .i64 n) := by rw [cell_of_block h.at_]; rfl
theorem Sb.c2 (h : Sb w g b n u L) : w.cell? ⟨g, 2, none⟩ = some (.slice (some ⟨b, 0, none⟩) L.length n) := by rw [cell_of_block h.at_]; rfl
theorem Sb.c3 (h : Sb w g b n u L) : w.cell? ⟨g, 3, none⟩ = some (.pointer (some ⟨g, 0, none⟩)) := by rw [cell_of_block h.at_]; rfl
theorem Sb.f (h : Sb w g b n u L) (i : Nat) : w.frozen? ⟨g, i, none⟩ = false := by simp [World.frozen?, h.at_]
theorem Sb.lt (h : Sb w g b n u L) : g < w.heap.size := (Array.getElem?_eq_some_iff.1 h.at_).1
theorem Sb.ltb (h : Sb w g b n u L) : b < w.heap.size := (Array.getElem?_eq_some_iff.1 h.row).1
theorem Sb.kept (h : Sb w g b n u L) (k : ∀ j, j = g ∨ j = b → w'.heap[j]? = w.heap[j]?) : Sb w' g b n u L :=
  ⟨(k g (.inl rfl)).trans h.at_, (k b (.inr rfl)).trans h.row, h.ne, h.le, h.n1, h.n2, h.x0, h.x1⟩
theorem Sb.grow (h : Sb w g b n u L) {B : Nat} (k : Below B w w') (h1 : g < B) (h2 : b < B) : Sb w' g b n u L := h.kept (fun j hj => by
  rcases hj with rfl | rfl
  · exact k.block _ h1
  · exact k.block _ h2)
theorem Sb.below (h : Sb w g b n u L) (k : Below w.heap.size w w') : Sb w' g b n u L := h.grow k h.lt h.ltb
end

theorem info_sb : ∃ j, Try.prog.info? 85 = some j := Option.isSome_iff_exists.1 (by kernel_rfl)
set_option maxHeartbeats 400000 in
theorem snone_no {w : World} {g b n : Nat} {u : Int} {L : List UInt8} (h : Sb w g b n u L) :
    Calls Try.prog 75 #[.pointer (some ⟨g, 0, none⟩)] w fun e w' => e = .returned (.bool false) ∧ w = w' := by
  have hm := h.c3
  obtain ⟨j, hj⟩ := info_sb
  have hq := Lib.run_neq_ptr_same (P := Try.prog) (w := w) ⟨g, 0, none⟩ Try.underlying41 hj
  clear h hj
  go_enter Try.func75, Try.ntmps75
  go_wp2
  go_ret
  exact ⟨rfl, rfl⟩
set_option maxHeartbeats 400000 in
theorem snone_yes (w : World) (p : Option Addr) (hp : SbNone w p) :
    Calls Try.prog 75 #[.pointer p] w fun e w' => e = .returned (.bool true) ∧ w = w' := by
  rcases hp with rfl | ⟨g, rfl, hc⟩
  · go_enter Try.func75, Try.ntmps75
    go_wp2
    go_ret
    exact ⟨rfl, rfl⟩
  · have hq := neq_nil_ptr (P := Try.prog) w ⟨g, 0, none⟩ Try.underlying41
    go_enter Try.func75, Try.ntmps75
    go_wp2
    go_ret
    exact ⟨rfl, rfl⟩

set_option maxHeartbeats 400000 in
theorem snew_bad (w : World) (u n : Int) (h : n < 1 ∨ 2048 < n) :
    Calls Try.prog 35 #[.int .u32 u, .int .i64 n] w fun e w' => e = .returned (.tuple #[.pointer none, .int .i64 1]) ∧ w = w' := by
  rcases h with h | h
  · go_enter Try.func35, Try.ntmps35
    go_wp2
    go_ret2
    exact ⟨rfl, rfl⟩
  · have h1 : ¬ n < 1 := by omega
    go_enter Try.func35, Try.ntmps35
    go_wp2
    go_ret2
    exact ⟨rfl, rfl⟩
theorem make_bytes0 (n : Nat) (hn : n ≤ 2048) (w : World) :
    (Instr.makeSlice 51 (.int .i64 0) (.int .i64 (n : Int))).run Try.prog w = .ok (.slice (some ⟨w.heap.size, 0, none⟩) 0 n) (w.alloc (.cells (padB [] n).toArray 5)) := by
  obtain ⟨i, z, hi, hz, h1, h2, h3⟩ := info_u8
  have hr := run_make (P := Try.prog) w 51 5 i z Try.underlying51 hi hz .i64 .i64 0 n (by omega) (by omega) (by rw [h2]; omega) (by omega)
  rw [h1, h3, Int.toNat_natCast, Nat.mul_one] at hr
  rw [hr]
  have e : madeCells #[Value.int .u8 0] n = (padB [] n).toArray := by
    apply Array.ext'
    apply List.ext_getElem?
    intro k
    unfold madeCells padB
    by_cases c : k < n
    · simp [c, Nat.mod_one]
    · simp [c]
  rw [e]
  rfl
set_option maxHeartbeats 800000 in
theorem snew_ok (w : World) (u : Int) (n : Nat) (h1 : 1 ≤ n) (h2 : n ≤ 2048) (x0 : 0 ≤ u) (x1 : u < 4294967296) :
    Calls Try.prog 35 #[.int .u32 u, .int .i64 n] w fun e w' => e = .returned (.tuple #[.pointer (some ⟨w.heap.size + 1, 0, none⟩), .int .i64 0]) ∧ Sb w' (w.heap.size + 1) w.heap.size n u [] ∧ Below w.heap.size w w' := by
  have mk := make_bytes0 n h2 w
  have h3 : ¬ (n : Int) < 1 := by omega
  have h4 : ¬ 2048 < (n : Int) := by omega
  have hsz : (w.alloc (.cells (padB [] n).toArray 5)).heap.size = w.heap.size + 1 := by simp
  have hb : (w.alloc (.cells (padB [] n).toArray 5)).heap[w.heap.size]? = _ := heap_alloc_new w _
  obtain ⟨S, hS⟩ : ∃ S : Obj, S = .cells #[.int .u32 u, .int .i64 n, .slice (some ⟨w.heap.size, 0, none⟩) 0 n, .pointer none] 85 := ⟨_, rfl⟩
  have HB0 := Lib.hid (heap_alloc_new (w.alloc (.cells (padB [] n).toArray 5)) S)
  rw [hsz] at HB0
  have HB1 := Lib.hid ((Below.heap_alloc (w.alloc (.cells (padB [] n).toArray 5)) S w.heap.size (by omega)).trans hb)
  have BL := Lib.hid (((Below.refl w.heap.size w).alloc (Nat.le_refl _) (.cells (padB [] n).toArray 5)).alloc (by omega) S)
  clear hb hsz
  subst hS
  go_enter Try.func35, Try.ntmps35
  go_upto_region 4 with fail
  clear mk
  generalize (w.alloc (.cells (padB [] n).toArray 5)).alloc _ = W1 at HB0 HB1 BL ⊢
  obtain ⟨g, hg⟩ : ∃ g, g = w.heap.size + 1 := ⟨_, rfl⟩
  rw [← hg] at HB0 ⊢
  have HG := Lib.hid hg
  clear hg
  have k0 : W1.cell? ⟨g, 3, none⟩ = some (.pointer none) := by rw [cell_of_block HB0.out]; rfl
  have k1 : W1.frozen? ⟨g, 3, none⟩ = false := by simp [World.frozen?, HB0.out]
  go_wp2
  go_ret2
  have hg := HG.out
  subst hg
  refine ⟨rfl, ⟨?_, ?_, by omega, Nat.zero_le _, h1, h2, x0, x1⟩, BL.out.setCell (by show w.heap.size ≤ w.heap.size + 1; omega) _⟩
  · rw [set_cellsB HB0.out _ (by show 3 < 4; omega)]
    rfl
  · rw [Below.heap_setCell _ _ _ _ (by show w.heap.size ≠ w.heap.size + 1; omega)]
    exact HB1.out
section
variable {w : World} {g b n : Nat} {u : Int} {L : List UInt8}
set_option maxHeartbeats 400000 in
theorem sauna_ok (h : Sb w g b n u L) :
    Calls Try.prog 89 #[.pointer (some ⟨g, 0, none⟩)] w fun e w' => e = .returned (.int .u32 u) ∧ w = w' := by
  have c1 := h.c0
  have HH := Lib.hid h
  clear h
  go_enter Try.func89, Try.ntmps89
  go_wp2_with (go_at_call 75; refine (snone_no HH.out).mono ?_; rintro e w' ⟨rfl, rfl⟩)
  go_ret
  exact ⟨rfl, rfl⟩
set_option maxHeartbeats 400000 in
theorem salen_ok (h : Sb w g b n u L) :
    Calls Try.prog 90 #[.pointer (some ⟨g, 0, none⟩)] w fun e w' => e = .returned (.int .i64 L.length) ∧ w = w' := by
  have c1 := h.c2
  have HH := Lib.hid h
  clear h
  go_enter Try.func90, Try.ntmps90
  go_wp2_with (go_at_call 75; refine (snone_no HH.out).mono ?_; rintro e w' ⟨rfl, rfl⟩)
  go_ret
  exact ⟨rfl, rfl⟩
set_option maxHeartbeats 400000 in
theorem saroom_ok (h : Sb w g b n u L) (k : Nat) (hk : L.length + k = n) :
    Calls Try.prog 57 #[.pointer (some ⟨g, 0, none⟩)] w fun e w' => e = .returned (.int .i64 k) ∧ Below w.heap.size w w' := by
  have c1 := h.c1
  have c2 := h.c2
  have hn := h.n2
  have e1 : IntKind.i64.wrap ((n : Int) - L.length) = (k : Int) := by rw [IntWalk.i64_in _ (by omega)]; omega
  have HH := Lib.hid h
  clear h hk hn
  go_enter Try.func57, Try.ntmps57
  go_wp2_with (go_at_call 75; refine (snone_no HH.out).mono ?_; rintro e w' ⟨rfl, rfl⟩)
  go_quiet (fail)
  go_wp2_with fail
  go_ret
  exact ⟨rfl, below_drewN (Below.refl _ _) _⟩
set_option maxHeartbeats 400000 in
theorem saend_ok (h : Sb w g b n u L) (x : Int) (hx : x = (u + L.length) % 4294967296) :
    Calls Try.prog 68 #[.pointer (some ⟨g, 0, none⟩)] w fun e w' => e = .returned (.int .u32 x) ∧ w = w' := by
  have hn := h.n2
  have hl := h.le
  have HH := Lib.hid h
  have e1 : IntKind.u32.wrap (L.length : Int) = (L.length : Int) := by rw [IntKind.wrap_u32]; omega
  have e2 : IntKind.u32.wrap (u + L.length) = x := by rw [IntKind.wrap_u32, hx]
  clear h hx hn hl
  go_enter Try.func68, Try.ntmps68
  go_wp2_with (first | (go_at_call 89; refine (sauna_ok HH.out).mono ?_; rintro e w' ⟨rfl, rfl⟩) | (go_at_call 90; refine (salen_ok HH.out).mono ?_; rintro e w' ⟨rfl, rfl⟩))
  go_ret
  exact ⟨rfl, rfl⟩
set_option maxHeartbeats 400000 in
theorem sauna_no (w : World) (p : Option Addr) (h : SbNone w p) :
    Calls Try.prog 89 #[.pointer p] w fun e w' => e = .returned (.int .u32 0) ∧ w = w' := by
  go_enter Try.func89, Try.ntmps89
  go_wp2_with (go_at_call 75; refine (snone_yes _ _ h).mono ?_; rintro e w' ⟨rfl, rfl⟩)
  go_ret
  exact ⟨rfl, rfl⟩
set_option maxHeartbeats 400000 in
theorem salen_no (w : World) (p : Option Addr) (h : SbNone w p) :
    Calls Try.prog 90 #[.pointer p] w fun e w' => e = .returned (.int .i64 0) ∧ w = w' := by
  go_enter Try.func90, Try.ntmps90
  go_wp2_with (go_at_call 75; refine (snone_yes _ _ h).mono ?_; rintro e w' ⟨rfl, rfl⟩)
  go_ret
  exact ⟨rfl, rfl⟩
set_option maxHeartbeats 400000 in
theorem saroom_no (w : World) (p : Option Addr) (h : SbNone w p) :
    Calls Try.prog 57 #[.pointer p] w fun e w' => e = .returned (.int .i64 0) ∧ w = w' := by
  go_enter Try.func57, Try.ntmps57
  go_wp2_with (go_at_call 75; refine (snone_yes _ _ h).mono ?_; rintro e w' ⟨rfl, rfl⟩)
  go_ret
  exact ⟨rfl, rfl⟩
set_option maxHeartbeats 400000 in
theorem saend_no (w : World) (p : Option Addr) (h : SbNone w p) :
    Calls Try.prog 68 #[.pointer p] w fun e w' => e = .returned (.int .u32 0) ∧ w = w' := by
  have e1 : IntKind.u32.wrap (0 : Int) = 0 := by decide
  go_enter Try.func68, Try.ntmps68
  go_wp2_with (first | (go_at_call 89; refine (sauna_no _ _ h).mono ?_; rintro e w' ⟨rfl, rfl⟩) | (go_at_call 90; refine (salen_no _ _ h).mono ?_; rintro e w' ⟨rfl, rfl⟩))
  go_ret
  exact ⟨rfl, rfl⟩
set_option maxHeartbeats 400000 in
theorem sawrite_no (w : World) (p : Option Addr) (h : SbNone w p) (d : ByteArray) :
    Calls Try.prog 51 #[.pointer p, .string d] w fun e w' => e = .returned (.int .i64 0) ∧ w = w' := by
  go_enter Try.func51, Try.ntmps51
  go_wp2_with (go_at_call 75; refine (snone_yes _ _ h).mono ?_; rintro e w' ⟨rfl, rfl⟩)
  go_ret
  exact ⟨rfl, rfl⟩
set_option maxHeartbeats 400000 in
theorem saack_no (w : World) (p : Option Addr) (h : SbNone w p) (x : Int) :
    Calls Try.prog 87 #[.pointer p, .int .u32 x] w fun e w' => e = .returned (.int .i64 0) ∧ w = w' := by
  go_enter Try.func87, Try.ntmps87
  go_wp2_with (go_at_call 75; refine (snone_yes _ _ h).mono ?_; rintro e w' ⟨rfl, rfl⟩)
  go_ret
  exact ⟨rfl, rfl⟩
end
end Go.Proofs.Ytlajalfalepbhaa
