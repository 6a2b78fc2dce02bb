/-
  Layer 12, the document's own buffer: Read. Conditions: as said.
-/
import Derived.Test.YtgbjedngmdpheaaRbJ
namespace Go.Proofs.Ytgbjedngmdpheaa
open Go.RowKit
set_option linter.unusedVariables false

/-- A whole buffer is stored. -/
theorem st_buf {w : World} {n : Nat} {a b c d : Value} {s : ByteArray} {p : Option Addr} {m k : Nat} {i j : Int} (h : w.heap[n]? = some (.cells #[a, b, c, d] 36 (0, 0))) :
    (storeVar 36 ⟨n, 0, none⟩ (.agg #[.int .i64 i, .int .u32 j, .string s, .slice p m k])).run Try.prog w = .ok () (w.setRow n #[.int .i64 i, .int .u32 j, .string s, .slice p m k]) :=
  run_storeVar_row (P := Try.prog) w n 36 36 _ #[.int .i64 i, .int .u32 j, .string s, .slice p m k] h (by kernel_rfl) rfl (by simp [Value.oneCell'])
theorem below_setRowB {B : Nat} {w w' : World} (h : Below B w w') {n : Nat} (hn : B ≤ n) (cs : Array Value) : Below B w (w'.setRow n cs) :=
  ⟨h.os, h.tape, h.output, by rw [size_setRow]; exact h.size, fun k hk => by rw [setRow_other _ _ _ _ (by omega)]; exact h.block k hk⟩
set_option maxRecDepth 100000 in
set_option maxHeartbeats 2000000 in
/-- What is left where the first k bytes are read. -/
theorem rRead (w : World) (n nx : Int) (S : ByteArray) (p : Option Addr) (m c : Nat) (x : Int) (K : Nat) (hK : (K : Int) = max 0 (min x S.size)) :
    Calls Try.prog 18 #[.agg #[.int .i64 n, .int .u32 nx, .string S, .slice p m c], .int .i64 x] w fun e w' => e = .returned (.tuple #[.agg #[.int .i64 n, .int .u32 nx, .string (S.extract K S.size), .slice p m c], .string (S.extract 0 K)]) ∧ Below w.heap.size w w' := by
  have B0 := ((Below.refl w.heap.size w).alloc (Nat.le_refl _) (.cells #[.int .i64 n, .int .u32 nx, .string S, .slice p m c] 36))
  have e0 := heap_alloc_new w (.cells #[.int .i64 n, .int .u32 nx, .string S, .slice p m c] 36)
  have hsz : (w.alloc (.cells #[.int .i64 n, .int .u32 nx, .string S, .slice p m c] 36)).heap.size = w.heap.size + 1 := by simp
  have e1 := heap_alloc_new (w.alloc (.cells #[.int .i64 n, .int .u32 nx, .string S, .slice p m c] 36)) (.cells #[.int .i64 0, .int .u32 0, .string ⟨#[]⟩, .slice none 0 0] 36)
  rw [hsz] at e1
  have HB0 := Lib.hid ((Below.heap_alloc (w.alloc (.cells #[.int .i64 n, .int .u32 nx, .string S, .slice p m c] 36)) (.cells #[.int .i64 0, .int .u32 0, .string ⟨#[]⟩, .slice none 0 0] 36) w.heap.size (by omega)).trans e0)
  have HB1 := Lib.hid e1
  have BL := Lib.hid (B0.alloc (by omega) (.cells #[.int .i64 0, .int .u32 0, .string ⟨#[]⟩, .slice none 0 0] 36))
  clear e0 e1 B0 hsz
  go_enter Try.func18, Try.ntmps18
  go_upto_region 1 with fail
  generalize (w.alloc _).alloc _ = W1 at HB0 HB1 BL ⊢
  obtain ⟨n1, hn1⟩ : ∃ n1, n1 = w.heap.size + 1 := ⟨_, rfl⟩
  rw [← hn1] at HB1 ⊢
  have HN : Hid (w.heap.size ≤ n1 ∧ w.heap.size ≠ n1) := Lib.hid ⟨by omega, by omega⟩
  clear hn1
  generalize hn0 : w.heap.size = n0 at HB0 HN ⊢
  have HN0 := Lib.hid hn0
  clear hn0
  obtain ⟨-, -, b2, -, f0⟩ := cells4 HB0.out
  have f2 := f0 2
  clear f0
  obtain ⟨X, hX⟩ : ∃ X, X = S.extract 0 K := ⟨_, rfl⟩
  obtain ⟨Y, hY⟩ : ∃ Y, Y = S.extract K S.size := ⟨_, rfl⟩
  have k1 : (0 : Int) ≤ (K : Int) := by omega
  have k2 : (K : Int) ≤ (S.size : Int) := by omega
  have HW2 := Lib.hid ((set_cellsB HB0.out (.string Y) (i := 2) (by show 2 < 4; omega)))
  have HW3 := Lib.hid ((Below.heap_setCell W1 ⟨n0, 2, none⟩ (.string Y) n1 (by show n1 ≠ n0; exact fun e => HN.out.2 e.symm)).trans HB1.out)
  have BL2 := Lib.hid (BL.out.setCell (p := ⟨n0, 2, none⟩) (by show w.heap.size ≤ n0; rw [HN0.out]; exact Nat.le_refl _) (.string Y))
  have hst := st_buf (s := Y) (i := n) (j := nx) (p := p) (m := m) (k := c) HW3.out
  have r2 := range4 HW2.out
  have HW4 := Lib.hid (setRow_heap _ n1 _ #[.int .i64 n, .int .u32 nx, .string Y, .slice p m c] _ _ HW3.out)
  have BL4 := Lib.hid (below_setRowB BL2.out (show w.heap.size ≤ n1 by have := HN.out.1; have := HN0.out; omega) #[.int .i64 n, .int .u32 nx, .string Y, .slice p m c])
  have HST := Lib.hid hst
  have R2 := Lib.hid r2
  clear hst r2
  have HX := Lib.hid hX
  have HY := Lib.hid hY
  by_cases hx : x < 0
  · have hK0 : K = 0 := by omega
    subst hK0
    have d1 : decide (x < 0) = true := decide_eq_true hx
    have d2 : decide ((S.size : Int) < 0) = false := decide_eq_false (by omega)
    have g2 : S.extract 0 S.size = Y := hY.symm
    have hX0 : X = ByteArray.empty := by rw [hX]; apply ByteArray.ext; simp
    have HX0 := Lib.hid (hX0.symm.trans hX)
    subst hX0
    clear hK hx hX hY HX
    go_wp2_with (first | (refine wpList_load_mid rfl 36 _ rfl n0 0 rfl [.int .i64 n, .int .u32 nx, .string Y, .slice p m c] _ R2.out Try.underlying36 rfl (by kernel_rfl) ?_) | (refine wpList_storeW 36 _ _ rfl rfl (.agg #[.int .i64 n, .int .u32 nx, .string Y, .slice p m c]) n1 rfl rfl HST.out ?_))
    exact bodyPost_ret (v := .tuple #[.agg #[.int .i64 n, .int .u32 nx, .string Y, .slice p m c], .string ByteArray.empty]) (results_row _ 4 5 36 (by kernel_rfl) _ n1 _ _ _ _ rfl rfl HW4.out Try.underlying36 rfl (by kernel_rfl)) rfl ⟨by rw [HX0.out, HY.out], BL4.out⟩
  by_cases hy : (S.size : Int) < x
  · obtain rfl : K = S.size := by omega
    have d1 : decide (x < 0) = false := decide_eq_false hx
    have d2 : decide ((S.size : Int) < x) = true := decide_eq_true hy
    have g1 : S.extract 0 S.size = X := hX.symm
    have hY0 : Y = ByteArray.empty := by rw [hY]; apply ByteArray.ext; simp
    have HY0 := Lib.hid (hY0.symm.trans hY)
    subst hY0
    clear hK hx hX hY hy HY
    go_wp2_with (first | (refine wpList_load_mid rfl 36 _ rfl n0 0 rfl [.int .i64 n, .int .u32 nx, .string ByteArray.empty, .slice p m c] _ R2.out Try.underlying36 rfl (by kernel_rfl) ?_) | (refine wpList_storeW 36 _ _ rfl rfl (.agg #[.int .i64 n, .int .u32 nx, .string ByteArray.empty, .slice p m c]) n1 rfl rfl HST.out ?_))
    exact bodyPost_ret (v := .tuple #[.agg #[.int .i64 n, .int .u32 nx, .string ByteArray.empty, .slice p m c], .string X]) (results_row _ 4 5 36 (by kernel_rfl) _ n1 _ _ _ _ rfl rfl HW4.out Try.underlying36 rfl (by kernel_rfl)) rfl ⟨by rw [HX.out, HY0.out], BL4.out⟩
  · obtain rfl : x = (K : Int) := by omega
    have d1 : decide ((K : Int) < 0) = false := decide_eq_false hx
    have d2 : decide ((S.size : Int) < (K : Int)) = false := decide_eq_false hy
    have g1 : S.extract 0 K = X := hX.symm
    have g2 : S.extract K S.size = Y := hY.symm
    clear hK hx hX hY hy
    go_wp2_with (first | (refine wpList_load_mid rfl 36 _ rfl n0 0 rfl [.int .i64 n, .int .u32 nx, .string Y, .slice p m c] _ R2.out Try.underlying36 rfl (by kernel_rfl) ?_) | (refine wpList_storeW 36 _ _ rfl rfl (.agg #[.int .i64 n, .int .u32 nx, .string Y, .slice p m c]) n1 rfl rfl HST.out ?_))
    exact bodyPost_ret (v := .tuple #[.agg #[.int .i64 n, .int .u32 nx, .string Y, .slice p m c], .string X]) (results_row _ 4 5 36 (by kernel_rfl) _ n1 _ _ _ _ rfl rfl HW4.out Try.underlying36 rfl (by kernel_rfl)) rfl ⟨by rw [HX.out, HY.out], BL4.out⟩
end Go.Proofs.Ytgbjedngmdpheaa
