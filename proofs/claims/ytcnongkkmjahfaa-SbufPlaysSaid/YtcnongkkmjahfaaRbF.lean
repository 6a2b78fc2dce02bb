/-
  Layer 12: Read. Conditions: as said.
-/
import Derived.Test.YtcnongkkmjahfaaRbE
namespace Go.Proofs.Ytcnongkkmjahfaa
open Go.RowKit
set_option linter.unusedVariables false

theorem info_u8 : ∃ i z, Try.prog.info? 5 = some i ∧ i.zero = some z ∧ i.size = 1 ∧ i.bytes = 1 ∧ z.cells = #[.int .u8 0] := by
  have h : (Try.prog.info? 5).map (fun i => (i.zero.map (fun z => z.cells), i.size, i.bytes)) = some (some #[.int .u8 0], 1, 1) := by kernel_rfl
  cases hi : Try.prog.info? 5 with
  | none => rw [hi] at h; cases h
  | some i =>
    rw [hi] at h
    simp only [Option.map_some, Option.some.injEq, Prod.mk.injEq] at h
    obtain ⟨h1, h2, h3⟩ := h
    cases hz : i.zero with
    | none => rw [hz] at h1; cases h1
    | some z => rw [hz] at h1; exact ⟨i, z, rfl, hz, h2, h3, by simpa using h1⟩
/-- Some bytes, and noughts behind them. -/
def fillR (R : List UInt8) (k K : Nat) : List Value := (R.take k).map (fun b => Value.int .u8 (b.toNat : Int)) ++ List.replicate (K - k) (.int .u8 0)
theorem fillR_len {R : List UInt8} {k K : Nat} (h : k ≤ K) (hK : K ≤ R.length) : (fillR R k K).length = K := by simp [fillR]; omega
theorem fillR_set {R : List UInt8} {k K : Nat} (h : k < K) (hK : K ≤ R.length) {x : UInt8} (hx : R[k]? = some x) : (fillR R k K).set k (.int .u8 (x.toNat : Int)) = fillR R (k + 1) K := by
  unfold fillR
  have hl : ((R.take k).map (fun b => Value.int .u8 (b.toNat : Int))).length = k := by rw [List.length_map, List.length_take]; omega
  rw [List.set_append_right _ _ (by omega), hl, Nat.sub_self, show K - k = (K - (k + 1)) + 1 by omega, List.replicate_succ, List.set_cons_zero, List.take_add_one, hx]
  simp
theorem fillR_full {R : List UInt8} {K : Nat} : fillR R K K = (R.take K).map (fun b => Value.int .u8 (b.toNat : Int)) := by simp [fillR]
theorem make_fill (R : List UInt8) (K : Nat) (hn : K ≤ 65536) (w : World) :
    (Instr.makeSlice 44 (.int .i64 (K : Int)) (.int .i64 (K : Int))).run Try.prog w = .ok (.slice (some ⟨w.heap.size, 0, none⟩) K K) (w.alloc (.cells (fillR R 0 K).toArray 5)) := by
  obtain ⟨i, z, hi, hz, h1, h2, h3⟩ := info_u8
  have hr := run_make (P := Try.prog) w 44 5 i z Try.underlying44 hi hz .i64 .i64 K K (by omega) (by omega) (by rw [h2]; omega) (by omega)
  rw [h1, h3, Int.toNat_natCast, Nat.mul_one] at hr
  rw [hr]
  have e : madeCells #[Value.int .u8 0] K = (fillR R 0 K).toArray := by
    apply Array.ext'
    apply List.ext_getElem?
    intro k
    unfold madeCells fillR
    by_cases c : k < K
    · simp [c, Nat.mod_one]
    · simp [c]
  rw [e]
theorem conv_bytesR (w : World) (h K : Nat) (d : List UInt8) (hd : d.length = K) (hh : w.heap[h]? = some (.cells (d.map (fun b => Value.int .u8 (b.toNat : Int))).toArray 5 (0, 0))) :
    (convert 44 9 (.slice (some ⟨h, 0, none⟩) K K)).run Try.prog w = .ok (.string ⟨d.toArray⟩) w := by
  subst hd
  refine run_convert_bytes_back (P := Try.prog) w _ _ 5 ⟨h, 0, none⟩ _ d Try.underlying44 Try.underlying5 Try.underlying9 fun j hj => ?_
  rw [add_off, Nat.zero_add, cell_of_block hh, List.getElem?_toArray, List.getElem?_map, List.getElem?_eq_getElem hj]
  rfl
end Go.Proofs.Ytcnongkkmjahfaa
