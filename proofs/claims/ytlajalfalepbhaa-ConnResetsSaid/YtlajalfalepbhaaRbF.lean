/-
  Layer 12: Read. Conditions: as said.
-/
import Derived.Test.YtlajalfalepbhaaRbE
namespace Go.Proofs.Ytlajalfalepbhaa
open Go.RowKit
set_option linter.unusedVariables false

theorem info_u8 : ∃ i z, Try.prog.info? 5 = some i ∧ i.zero = some z ∧ i.size = 1 ∧ i.bytes = 1 ∧ z.cells = #[.int .u8 0] := by
  have h : (Try.prog.info? 5).map (fun i => (i.zero.map (fun z => z.cells), i.size, i.bytes)) = some (some #[.int .u8 0], 1, 1) := by kernel_rfl
  cases hi : Try.prog.info? 5 with
  | none => rw [hi] at h; cases h
  | some i =>
    rw [hi] at h
    simp only [Option.map_some, Option.some.injEq, Prod.mk.injEq] at h
    obtain ⟨h1, h2, h3⟩ := h
    cases hz : i.zero with
    | none => rw [hz] at h1; cases h1
    | some z => rw [hz] at h1; exact ⟨i, z, rfl, hz, h2, h3, by simpa using h1⟩
/-- Some bytes, and noughts behind them. -/
def fillR (R : List UInt8) (k K : Nat) : List Value := (R.take k).map (fun b => Value.int .u8 (b.toNat : Int)) ++ List.replicate (K - k) (.int .u8 0)
theorem fillR_len {R : List UInt8} {k K : Nat} (h : k ≤ K) (hK : K ≤ R.length) : (fillR R k K).length = K := by simp [fillR]; omega
theorem fillR_set {R : List UInt8} {k K : Nat} (h : k < K) (hK : K ≤ R.length) {x : UInt8} (hx : R[k]? = some x) : (fillR R k K).set k (.int .u8 (x.toNat : Int)) = fillR R (k + 1) K := by
  unfold fillR
  have hl : ((R.take k).map (fun b => Value.int .u8 (b.toNat : Int))).length = k := by rw [List.length_map, List.length_take]; omega
  rw [List.set_append_right _ _ (by omega), hl, Nat.sub_self, show K - k = (K - (k + 1)) + 1 by omega, List.replicate_succ, List.set_cons_zero, List.take_add_one, hx]
  simp
theorem fillR_full {R : List UInt8} {K : Nat} : fillR R K K = (R.take K).map (fun b => Value.int .u8 (b.toNat : Int)) := by simp [fillR]
theorem make_fill (R : List UInt8) (K : Nat) (hn : K ≤ 65536) (w : World) :
    (Instr.makeSlice 51 (.int .i64 (K : Int)) (.int .i64 (K : Int))).run Try.prog w = .ok (.slice (some ⟨w.heap.size, 0, none⟩) K K) (w.alloc (.cells (fillR R 0 K).toArray 5)) := by
  obtain ⟨i, z, hi, hz, h1, h2, h3⟩ := info_u8
  have hr := run_make (P := Try.prog) w 51 5 i z Try.underlying51 hi hz .i64 .i64 K K (by omega) (by omega) (by rw [h2]; omega) (by omega)
  rw [h1, h3, Int.toNat_natCast, Nat.mul_one] at hr
  rw [hr]
  have e : madeCells #[Value.int .u8 0] K = (fillR R 0 K).toArray := by
    apply Array.ext'
    apply List.ext_getElem?
    intro k
    unfold madeCells fillR
    by_cases c : k < K
    · simp [c, Nat.mod_one]
    · simp [c]
  rw [e]
theorem conv_bytesR (w : World) (h K : Nat) (d : List UInt8) (hd : d.length = K) (hh : w.heap[h]? = some (.cells (d.map (fun b => Value.int .u8 (b.toNat : Int))).toArray 5 (0, 0))) :
    (convert 51 9 (.slice (some ⟨h, 0, none⟩) K K)).run Try.prog w = .ok (.string ⟨d.toArray⟩) w := by
  subst hd
  refine run_convert_bytes_back (P := Try.prog) w _ _ 5 ⟨h, 0, none⟩ _ d Try.underlying51 Try.underlying5 Try.underlying9 fun j hj => ?_
  rw [add_off, Nat.zero_add, cell_of_block hh, List.getElem?_toArray, List.getElem?_map, List.getElem?_eq_getElem hj]
  rfl
set_option maxRecDepth 100000 in
set_option maxHeartbeats 2000000 in
theorem bread_ok {w : World} {g b n : Nat} {nx : Int} {R : List UInt8} {W : List (Option UInt8)} (h : Rb w g b n nx R W) (x : Int) (K : Nat) (hK : (K : Int) = max 0 (min x R.length)) :
    Calls Try.prog 47 #[.pointer (some ⟨g, 0, none⟩), .int .i64 x] w fun e w' => e = .returned (.string ⟨(R.take K).toArray⟩) ∧ Rb w' g b n nx (R.drop K) (W ++ List.replicate K none) ∧ Turn w w' (fun k => k = g ∨ k = b) := by
  have hln := h.len
  have hn2 := h.n2
  have HH := Lib.hid h
  have hgl := h.lt
  have hbl := h.ltb
  have c1 := h.c1
  have hKR : K ≤ R.length := by omega
  obtain ⟨r, hr⟩ : ∃ r, r = R.length := ⟨_, rfl⟩
  rw [← hr] at hK hKR hln c1
  obtain ⟨y, hy⟩ : ∃ y, min x (r : Int) = y := ⟨_, rfl⟩
  have hy2 : max 0 y = (K : Int) := by rw [← hy]; exact hK.symm
  have mk := make_fill R K (by omega) w
  have HR := Lib.hid hr
  have HB := Lib.hid (heap_alloc_new w (.cells (fillR R 0 K).toArray 5))
  have BL := Lib.hid ((Below.refl w.heap.size w).alloc (Nat.le_refl _) (.cells (fillR R 0 K).toArray 5))
  have HL := Lib.hid (show g ≠ w.heap.size ∧ b ≠ w.heap.size from ⟨by omega, by omega⟩)
  clear hr h hK hgl hbl
  go_enter Try.func47, Try.ntmps47
  go_upto_region 6 with (go_at_call 72; refine (bnone_no HH.out).mono ?_; rintro e w' ⟨rfl, rfl⟩)
  clear mk
  generalize w.alloc _ = W1 at HB BL ⊢
  obtain ⟨B, hB⟩ : ∃ B, B = w.heap.size := ⟨_, rfl⟩
  rw [← hB] at HB HL ⊢
  have HBW := Lib.hid hB
  clear hB
  go_loopw [19] (fun i wr => ∃ k : Nat, k ≤ K ∧ i = .int .i64 k ∧ Hid (Below w.heap.size w wr) ∧ Hid (wr.heap[B]? = some (.cells (fillR R k K).toArray 5 (0, 0)))) (fun i _ => K - (intOf i).toNat)
  case atStart => exact ⟨0, by omega, rfl, BL, HB⟩
  case round =>
    obtain ⟨k, hk, rfl, BR, HF⟩ := hrel
    have RB := Lib.hid (HH.out.below BR.out)
    by_cases hlt : k < K
    · have q1 : (0 : Int) ≤ (k : Int) := by omega
      have q2 : (k : Int) < (K : Int) := by omega
      have q3 : decide ((k : Int) < (K : Int)) = true := decide_eq_true q2
      have q4 : (k : Int) < (n : Int) := by omega
      have hkR : k < R.length := by rw [← HR.out]; omega
      obtain ⟨z, hz⟩ : ∃ z, R[k]? = some z := ⟨_, List.getElem?_eq_getElem hkR⟩
      have d2 := RB.out.c2
      have d0 : wr.cell? ⟨b, k * 2, none⟩ = some (.int .u8 (z.toNat : Int)) := by
        have := RB.out.cellA (j := k) (o := some z) (by rw [List.getElem?_append_left (by rw [List.length_map]; exact hkR), List.getElem?_map, hz]; rfl) (i := 0) (by omega)
        exact this
      obtain ⟨v0, hv0⟩ : ∃ v, (fillR R k K)[k]? = some v := ⟨_, List.getElem?_eq_getElem (by rw [fillR_len hk (by rw [← HR.out]; exact hKR)]; exact hlt)⟩
      have d3 : wr.cell? ⟨B, k, none⟩ = some v0 := by rw [cell_of_block HF.out, List.getElem?_toArray]; exact hv0
      have f3 : wr.frozen? ⟨B, k, none⟩ = false := by simp [World.frozen?, HF.out]
      have hwj : IntKind.i64.wrap ((k : Int) + 1) = (k : Int) + 1 := IntWalk.i64_in _ (by omega)
      have HS : Hid ((wr.setCell ⟨B, k, none⟩ (.int .u8 (z.toNat : Int))).heap[B]? = some (.cells (fillR R (k + 1) K).toArray 5 (0, 0))) := Lib.hid (by
        rw [set_cellsB HF.out _ (by rw [List.size_toArray, fillR_len hk (by rw [← HR.out]; exact hKR)]; exact hlt), List.setIfInBounds_toArray, fillR_set hlt (by rw [← HR.out]; exact hKR) hz])
      have B2 := Lib.hid (BR.out.setCell (p := ⟨B, k, none⟩) (by show w.heap.size ≤ B; rw [HBW.out]; exact Nat.le_refl _) (.int .u8 (z.toNat : Int)))
      clear hz hkR hv0
      go_wp2_with fail
      go_roundw
      case rel => exact ⟨k + 1, by omega, by go_num, B2, HS⟩
      case measure => simp [intOf]; omega
    · obtain rfl : k = K := by omega
      have q3 : decide ((k : Int) < (k : Int)) = false := by simp
      have KD := Lib.hid (drop_ok RB.out k (by rw [← HR.out]; exact hKR))
      rw [fillR_full] at HF
      clear BL HB
      go_upto_region 11 with (go_at_call 73; refine KD.out.mono ?_; rintro e W2 ⟨rfl, p1, p2⟩; have P1 := Lib.hid p1; have P2 := Lib.hid p2; clear p1 p2)
      have HF2 := (P2.out.block B (Array.getElem?_eq_some_iff.1 HF.out).1 (fun e => e.elim (fun e => HL.out.1 e.symm) (fun e => HL.out.2 e.symm))).trans HF.out
      have hcv := conv_bytesR W2 B k (R.take k) (by rw [List.length_take, ← HR.out]; omega) HF2
      have T3 := Lib.hid ((Turn.of_below (O := fun k => k = g ∨ k = b) BR.out).trans P2.out)
      clear HF2 HF
      go_wp2_with fail
      go_ret
      exact ⟨rfl, P1.out, T3.out⟩
end Go.Proofs.Ytlajalfalepbhaa
