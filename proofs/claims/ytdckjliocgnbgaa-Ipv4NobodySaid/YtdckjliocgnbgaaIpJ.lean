/-
  Layer 8: a joiner that is none. Conditions: as said.
-/
import Derived.Test.YtdckjliocgnbgaaIpI
import Derived.Test.YtdckjliocgnbgaaIpO
import Derived.Laws.Tables
namespace Go.Proofs.Ytdckjliocgnbgaa
open Go.RowKit Go.Sort
set_option linter.unusedVariables false

/-- A pointer to no joiner that 'New' made: nil, or to a struct that names no maker. -/
def NoJo (w : World) (p : Option Addr) : Prop := p = none ∨ ∃ g, p = some ⟨g, 0, none⟩ ∧ w.cell? ⟨g, 2, none⟩ = some (.pointer none)
theorem NoJo.grow {w w' : World} {p : Option Addr} (h : NoJo w p) (b : Below w.heap.size w w') (hp : ∀ g, p = some ⟨g, 0, none⟩ → g < w.heap.size) : NoJo w' p := by
  rcases h with h | ⟨g, h1, h2⟩
  · exact .inl h
  · exact .inr ⟨g, h1, (b.cell (p := ⟨g, 2, none⟩) (hp g h1)).trans h2⟩
set_option maxRecDepth 100000 in
set_option maxHeartbeats 400000 in
theorem jnone_yes (w : World) (p : Option Addr) (hp : NoJo w p) :
    Calls Try.prog 28 #[.pointer p] w fun e w' => e = .returned (.bool true) ∧ w = w' := by
  rcases hp with rfl | ⟨g, rfl, hc⟩
  · go_enter Try.func28, Try.ntmps28
    go_wp2
    go_ret
    exact ⟨rfl, rfl⟩
  · have hq := neq_nil_ptr (P := Try.prog) w ⟨g, 0, none⟩ Try.underlying22
    go_enter Try.func28, Try.ntmps28
    go_wp2
    go_ret
    exact ⟨rfl, rfl⟩
set_option maxRecDepth 100000 in
set_option maxHeartbeats 400000 in
theorem jtick_none (w : World) (p : Option Addr) (hp : NoJo w p) (hg : ∀ g, p = some ⟨g, 0, none⟩ → g < w.heap.size) :
    Calls Try.prog 26 #[.pointer p] w fun e w' => e = .returned (.tuple #[]) ∧ Below w.heap.size w w' := by
  have bl : Below w.heap.size w (w.alloc (.cells #[.pointer p] 22)) := (Below.refl _ _).alloc (Nat.le_refl _) _
  have HP := Lib.hid (hp.grow bl hg)
  have BL := Lib.hid bl
  have hc : (w.alloc (.cells #[.pointer p] 22)).cell? ⟨w.heap.size, 0, none⟩ = some (.pointer p) := by rw [cell_of_block (heap_alloc_new w _)]; rfl
  clear hp hg bl
  go_enter Try.func26, Try.ntmps26
  go_upto_region 1 with fail
  generalize w.alloc _ = W1 at HP BL hc ⊢
  go_wp2_with (go_at_call 28; refine (jnone_yes _ _ HP.out).mono ?_; rintro e w' ⟨rfl, rfl⟩)
  exact bodyPost_ret (v := .tuple #[]) (results_none rfl _ _ _) rfl ⟨rfl, BL.out⟩
set_option maxRecDepth 100000 in
set_option maxHeartbeats 400000 in
theorem jput_none (w : World) (p : Option Addr) (hp : NoJo w p) (hg : ∀ g, p = some ⟨g, 0, none⟩ → g < w.heap.size) (f : Pd) :
    Calls Try.prog 14 #[.pointer p, .agg (pdC f)] w fun e w' => e = .returned (.tuple #[.agg (pdC pdZ), .bool false]) ∧ Below w.heap.size w w' := by
  have bl : Below w.heap.size w ((w.alloc (.cells (pdC f) 29)).alloc (.cells #[.int .i64 0, .int .u8 0, .int .u8 0, .int .u8 0, .int .u8 0, .int .u8 0, .int .u8 0, .int .u8 0, .int .u8 0, .int .i64 0, .int .i64 0, .int .i64 0, .bool false, .string ⟨#[]⟩] 29)) := ((Below.refl _ _).alloc (Nat.le_refl _) _).alloc (by simp) _
  have RM : Hid (PdRoom ((w.alloc (.cells (pdC f) 29)).alloc (.cells #[.int .i64 0, .int .u8 0, .int .u8 0, .int .u8 0, .int .u8 0, .int .u8 0, .int .u8 0, .int .u8 0, .int .u8 0, .int .i64 0, .int .i64 0, .int .i64 0, .bool false, .string ⟨#[]⟩] 29)) (w.heap.size + 1)) := Lib.hid (pdroom_new _ _ _ rfl (by simp))
  have HP := Lib.hid (hp.grow bl hg)
  have BL := Lib.hid bl
  clear hp hg bl
  go_enter Try.func14, Try.ntmps14
  go_upto_region 1 with fail
  obtain ⟨n, hn⟩ : ∃ n, n = w.heap.size + 1 := ⟨_, rfl⟩
  have hb : w.heap.size ≤ n := by omega
  generalize (w.alloc _).alloc _ = W1 at HP BL RM ⊢
  rw [← hn] at RM ⊢
  clear hn
  obtain ⟨hst, S6⟩ := RM.out.put pdZ
  have S6 := Lib.hid S6
  have B6 := Lib.hid (below_setRow BL.out hb (pdC pdZ))
  go_wp2_with fail
  refine (jnone_yes _ _ HP.out).mono ?_
  rintro e w' ⟨rfl, rfl⟩
  go_wp2_with (refine wpList_storeW 29 _ _ rfl rfl _ n rfl rfl hst ?_)
  exact bodyPost_ret (v := .tuple #[.agg (pdC pdZ), .bool false]) (results_row _ 4 5 29 (by kernel_rfl) _ n _ _ _ _ rfl rfl S6.out Try.underlying29 rfl (by kernel_rfl)) rfl ⟨rfl, B6.out⟩
set_option maxRecDepth 100000 in
set_option maxHeartbeats 400000 in
theorem jlen_none (w : World) (p : Option Addr) (hp : NoJo w p) :
    Calls Try.prog 19 #[.pointer p] w fun e w' => e = .returned (.int .i64 0) ∧ w = w' := by
  go_enter Try.func19, Try.ntmps19
  go_wp2_with (go_at_call 28; refine (jnone_yes _ _ hp).mono ?_; rintro e w' ⟨rfl, rfl⟩)
  go_ret
  exact ⟨rfl, rfl⟩

end Go.Proofs.Ytdckjliocgnbgaa
