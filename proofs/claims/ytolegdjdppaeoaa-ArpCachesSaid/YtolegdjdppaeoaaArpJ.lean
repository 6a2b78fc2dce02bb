/-
  Layer 7: a cache that is none. Conditions: as said.
-/
import Derived.Test.YtolegdjdppaeoaaArpH
import Derived.Test.YtolegdjdppaeoaaRowsA
import Derived.Laws.Tables
namespace Go.Proofs.Ytolegdjdppaeoaa
open Go.RowKit Go.Sort
set_option linter.unusedVariables false

/-- A pointer to no cache that 'New' made: nil, or to a struct that names no maker. -/
def NoCa (w : World) (p : Option Addr) : Prop := p = none ∨ ∃ g, p = some ⟨g, 0, none⟩ ∧ w.cell? ⟨g, 2, none⟩ = some (.pointer none)
theorem NoCa.grow {w w' : World} {p : Option Addr} (h : NoCa w p) (b : Below w.heap.size w w') (hp : ∀ g, p = some ⟨g, 0, none⟩ → g < w.heap.size) : NoCa w' p := by
  rcases h with h | ⟨g, h1, h2⟩
  · exact .inl h
  · exact .inr ⟨g, h1, (b.cell (p := ⟨g, 2, none⟩) (hp g h1)).trans h2⟩
set_option maxHeartbeats 400000 in
theorem cnone_yes (w : World) (p : Option Addr) (hp : NoCa w p) :
    Calls Try.prog 24 #[.pointer p] w fun e w' => e = .returned (.bool true) ∧ w = w' := by
  rcases hp with rfl | ⟨g, rfl, hc⟩
  · go_enter Try.func24, Try.ntmps24
    go_wp2
    go_ret
    exact ⟨rfl, rfl⟩
  · have hq := neq_nil_ptr (P := Try.prog) w ⟨g, 0, none⟩ Try.underlying31
    go_enter Try.func24, Try.ntmps24
    go_wp2
    go_ret
    exact ⟨rfl, rfl⟩
set_option maxHeartbeats 400000 in
theorem learn_none (w : World) (p : Option Addr) (hp : NoCa w p) (hg : ∀ g, p = some ⟨g, 0, none⟩ → g < w.heap.size) (i : Ip4) (m : Mac6) :
    Calls Try.prog 12 #[.pointer p, .agg #[.int .u8 (i.a.toNat : Int), .int .u8 (i.b.toNat : Int), .int .u8 (i.c.toNat : Int), .int .u8 (i.d.toNat : Int)], .agg #[.int .u8 (m.a.toNat : Int), .int .u8 (m.b.toNat : Int), .int .u8 (m.c.toNat : Int), .int .u8 (m.d.toNat : Int), .int .u8 (m.e.toNat : Int), .int .u8 (m.f.toNat : Int)]] w fun e w' => e = .returned (.tuple #[]) ∧ Below w.heap.size w w' := by
  have bl : Below w.heap.size w ((w.alloc (.cells #[.int .u8 (i.a.toNat : Int), .int .u8 (i.b.toNat : Int), .int .u8 (i.c.toNat : Int), .int .u8 (i.d.toNat : Int)] 25)).alloc (.cells #[.int .u8 (m.a.toNat : Int), .int .u8 (m.b.toNat : Int), .int .u8 (m.c.toNat : Int), .int .u8 (m.d.toNat : Int), .int .u8 (m.e.toNat : Int), .int .u8 (m.f.toNat : Int)] 23)) := ((Below.refl _ _).alloc (Nat.le_refl _) _).alloc (by simp) _
  have HP := Lib.hid (hp.grow bl hg)
  have BL := Lib.hid bl
  clear hp hg bl
  go_enter Try.func12, Try.ntmps12
  go_upto_region 1 with fail
  generalize (w.alloc _).alloc _ = W1 at HP BL ⊢
  go_wp2_with (go_at_call 24; refine (cnone_yes _ _ HP.out).mono ?_; rintro e w' ⟨rfl, rfl⟩)
  exact bodyPost_ret (v := .tuple #[]) (results_none rfl _ _ _) rfl ⟨rfl, BL.out⟩
set_option maxHeartbeats 400000 in
theorem tick_none (w : World) (p : Option Addr) (hp : NoCa w p) (hg : ∀ g, p = some ⟨g, 0, none⟩ → g < w.heap.size) :
    Calls Try.prog 13 #[.pointer p] w fun e w' => e = .returned (.tuple #[]) ∧ Below w.heap.size w w' := by
  have bl : Below w.heap.size w (w.alloc (.cells #[.pointer p] 31)) := (Below.refl _ _).alloc (Nat.le_refl _) _
  have HP := Lib.hid (hp.grow bl hg)
  have BL := Lib.hid bl
  have hc : (w.alloc (.cells #[.pointer p] 31)).cell? ⟨w.heap.size, 0, none⟩ = some (.pointer p) := by rw [cell_of_block (heap_alloc_new w _)]; rfl
  clear hp hg bl
  go_enter Try.func13, Try.ntmps13
  go_upto_region 1 with fail
  generalize w.alloc _ = W1 at HP BL hc ⊢
  go_wp2_with (go_at_call 24; refine (cnone_yes _ _ HP.out).mono ?_; rintro e w' ⟨rfl, rfl⟩)
  exact bodyPost_ret (v := .tuple #[]) (results_none rfl _ _ _) rfl ⟨rfl, BL.out⟩
set_option maxHeartbeats 400000 in
theorem find_none (w : World) (p : Option Addr) (hp : NoCa w p) (hg : ∀ g, p = some ⟨g, 0, none⟩ → g < w.heap.size) (i : Ip4) :
    Calls Try.prog 14 #[.pointer p, .agg #[.int .u8 (i.a.toNat : Int), .int .u8 (i.b.toNat : Int), .int .u8 (i.c.toNat : Int), .int .u8 (i.d.toNat : Int)]] w fun e w' => e = .returned (.tuple #[.agg #[.int .u8 0, .int .u8 0, .int .u8 0, .int .u8 0, .int .u8 0, .int .u8 0], .bool false]) ∧ Below w.heap.size w w' := by
  have bl : Below w.heap.size w ((w.alloc (.cells #[.int .u8 (i.a.toNat : Int), .int .u8 (i.b.toNat : Int), .int .u8 (i.c.toNat : Int), .int .u8 (i.d.toNat : Int)] 25)).alloc (.cells #[.int .u8 0, .int .u8 0, .int .u8 0, .int .u8 0, .int .u8 0, .int .u8 0] 23)) := ((Below.refl _ _).alloc (Nat.le_refl _) _).alloc (by simp) _
  have HP := Lib.hid (hp.grow bl hg)
  have BL := Lib.hid bl
  clear hp hg bl
  go_enter Try.func14, Try.ntmps14
  go_wp2_with (go_at_call 24; refine (cnone_yes _ _ HP.out).mono ?_; rintro e w' ⟨rfl, rfl⟩)
  exact bodyPost_ret (v := .tuple #[.agg #[.int .u8 0, .int .u8 0, .int .u8 0, .int .u8 0, .int .u8 0, .int .u8 0], .bool false]) (by simp [results, Try.results14, go_sem]) rfl ⟨rfl, BL.out⟩
set_option maxHeartbeats 400000 in
theorem len_none (w : World) (p : Option Addr) (hp : NoCa w p) :
    Calls Try.prog 17 #[.pointer p] w fun e w' => e = .returned (.int .i64 0) ∧ w = w' := by
  go_enter Try.func17, Try.ntmps17
  go_wp2_with (go_at_call 24; refine (cnone_yes _ _ hp).mono ?_; rintro e w' ⟨rfl, rfl⟩)
  go_ret
  exact ⟨rfl, rfl⟩

end Go.Proofs.Ytolegdjdppaeoaa
