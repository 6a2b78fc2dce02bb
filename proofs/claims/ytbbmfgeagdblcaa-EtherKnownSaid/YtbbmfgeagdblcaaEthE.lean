/-
  Layer 6: the statements' example, and that the program is awake. No conditions.
-/
import Derived.Test.YtbbmfgeagdblcaaEthD
namespace Go.Proofs.Ytbbmfgeagdblcaa
open Go.RowKit Go.Sort
set_option linter.unusedVariables false

/-- The chapter's frame. -/
def exF : Fr := ⟨⟨1, 2, 3, 4, 5, 6⟩, ⟨10, 11, 12, 13, 14, 15⟩, 2048, ⟨#[104, 105]⟩⟩
theorem ex_ok : exF.ok := ⟨by decide, by decide⟩

set_option maxHeartbeats 400000 in
theorem example_any (w : World) :
    Calls Try.prog 27 #[] w fun e w' => e = .returned (.agg #[.int .u8 1, .int .u8 2, .int .u8 3, .int .u8 4, .int .u8 5, .int .u8 6, .int .u8 10, .int .u8 11, .int .u8 12, .int .u8 13, .int .u8 14, .int .u8 15, .int .i64 2048, .string ⟨#[104, 105]⟩]) ∧ Below w.heap.size w w' := by
  go_enter Try.func27, Try.ntmps27
  go_wp2_with fail
  exact bodyPost_ret (v := .agg #[.int .u8 1, .int .u8 2, .int .u8 3, .int .u8 4, .int .u8 5, .int .u8 6, .int .u8 10, .int .u8 11, .int .u8 12, .int .u8 13, .int .u8 14, .int .u8 15, .int .i64 2048, .string ⟨#[104, 105]⟩]) (by simp [results, Try.results27, go_sem]) rfl ⟨rfl, (Below.refl _ _).alloc (Nat.le_refl _) _⟩
theorem ex_bytes : frS exF = ⟨#[1, 2, 3, 4, 5, 6, 10, 11, 12, 13, 14, 15, 8, 0, 104, 105]⟩ := by decide +kernel
theorem ex_err : frE exF = 0 := by decide +kernel
theorem ex_read : exF = rdR ⟨#[1, 2, 3, 4, 5, 6, 10, 11, 12, 13, 14, 15, 8, 0, 104, 105]⟩ := by decide +kernel
theorem ex_rerr : rdE ⟨#[1, 2, 3, 4, 5, 6, 10, 11, 12, 13, 14, 15, 8, 0, 104, 105]⟩ = 0 := by decide +kernel
theorem Bytes_ex (w : World) :
    Calls Try.prog 24 #[.agg #[.int .u8 1, .int .u8 2, .int .u8 3, .int .u8 4, .int .u8 5, .int .u8 6, .int .u8 10, .int .u8 11, .int .u8 12, .int .u8 13, .int .u8 14, .int .u8 15, .int .i64 2048, .string ⟨#[104, 105]⟩]] w fun e w' => e = .returned (.tuple #[.string ⟨#[1, 2, 3, 4, 5, 6, 10, 11, 12, 13, 14, 15, 8, 0, 104, 105]⟩, .int .i64 0]) ∧ Below w.heap.size w w' := by
  have h := Bytes_any w exF ex_ok
  rw [ex_bytes, ex_err] at h
  exact h
theorem Read_ex (w : World) :
    Calls Try.prog 22 #[.string ⟨#[1, 2, 3, 4, 5, 6, 10, 11, 12, 13, 14, 15, 8, 0, 104, 105]⟩] w fun e w' => e = .returned (.tuple #[.agg #[.int .u8 1, .int .u8 2, .int .u8 3, .int .u8 4, .int .u8 5, .int .u8 6, .int .u8 10, .int .u8 11, .int .u8 12, .int .u8 13, .int .u8 14, .int .u8 15, .int .i64 2048, .string ⟨#[104, 105]⟩], .int .i64 0]) ∧ Below w.heap.size w w' := by
  have h := Read_any w _ exF ex_read
  rw [ex_rerr] at h
  exact h
theorem eql_ex (w : World) : (Op.equalIn 10000 51 (.agg #[.int .u8 1, .int .u8 2, .int .u8 3, .int .u8 4, .int .u8 5, .int .u8 6, .int .u8 10, .int .u8 11, .int .u8 12, .int .u8 13, .int .u8 14, .int .u8 15, .int .i64 2048, .string ⟨#[104, 105]⟩]) (.agg #[.int .u8 1, .int .u8 2, .int .u8 3, .int .u8 4, .int .u8 5, .int .u8 6, .int .u8 10, .int .u8 11, .int .u8 12, .int .u8 13, .int .u8 14, .int .u8 15, .int .i64 2048, .string ⟨#[104, 105]⟩])).run Try.prog w = .ok true w := by
  have h := run_eql_fr w exF exF ex_ok ex_ok
  rw [decide_eq_true rfl] at h
  exact h

set_option maxRecDepth 100000 in
set_option maxHeartbeats 2000000 in
theorem awakeE_any (w : World) :
    Calls Try.prog 25 #[] w fun e w' => e = .returned (.bool true) ∧ Below w.heap.size w w' := by
  go_enter Try.func25, Try.ntmps25
  go_wp2_with fail
  refine (example_any _).mono ?_
  rintro e w1 ⟨rfl, b1⟩
  have B1 := Lib.hid b1
  clear b1
  go_wp2_with fail
  refine (Bytes_ex _).mono ?_
  rintro e w2 ⟨rfl, b2⟩
  have B2 := Lib.hid (B1.out.trans (b2.mono B1.out.size))
  clear b2 B1
  go_wp2_with fail
  refine (Read_ex _).mono ?_
  rintro e w3 ⟨rfl, b3⟩
  have B3 := Lib.hid (B2.out.trans (b3.mono B2.out.size))
  clear b3 B2
  have he := fun w => eql_ex w
  go_wp2_with fail
  have B4 := Lib.hid (B3.out.alloc B3.out.size (.cells #[.int .u8 1, .int .u8 2, .int .u8 3, .int .u8 4, .int .u8 5, .int .u8 6, .int .u8 10, .int .u8 11, .int .u8 12, .int .u8 13, .int .u8 14, .int .u8 15, .int .i64 2048, .string ⟨#[104, 105]⟩] 51))
  clear B3
  go_region_held3 (fun w' => w'.cell? ⟨w3.heap.size, 0, none⟩ = some (.int .u8 1) ∧ w'.cell? ⟨w3.heap.size, 1, none⟩ = some (.int .u8 2) ∧ w'.cell? ⟨w3.heap.size, 2, none⟩ = some (.int .u8 3) ∧ w'.cell? ⟨w3.heap.size, 3, none⟩ = some (.int .u8 4) ∧ w'.cell? ⟨w3.heap.size, 4, none⟩ = some (.int .u8 5) ∧ w'.cell? ⟨w3.heap.size, 5, none⟩ = some (.int .u8 6) ∧ w'.cell? ⟨w3.heap.size, 6, none⟩ = some (.int .u8 10) ∧ w'.cell? ⟨w3.heap.size, 7, none⟩ = some (.int .u8 11) ∧ w'.cell? ⟨w3.heap.size, 8, none⟩ = some (.int .u8 12) ∧ w'.cell? ⟨w3.heap.size, 9, none⟩ = some (.int .u8 13) ∧ w'.cell? ⟨w3.heap.size, 10, none⟩ = some (.int .u8 14) ∧ w'.cell? ⟨w3.heap.size, 11, none⟩ = some (.int .u8 15) ∧ w'.cell? ⟨w3.heap.size, 12, none⟩ = some (.int .i64 2048) ∧ w'.cell? ⟨w3.heap.size, 13, none⟩ = some (.string ⟨#[104, 105]⟩))
    (first | go_keep | (go_split_ands; refine ⟨?_, ?_, ?_, ?_, ?_, ?_, ?_, ?_, ?_, ?_, ?_, ?_, ?_, ?_⟩ <;> (rw [hb.cell (by simp <;> omega)]; assumption)))
    (first | (go_at_call 27; refine (example_any _).mono ?_; rintro e w5 ⟨rfl, hb⟩))
  go_wp2
  go_ret
  exact ⟨rfl, B4.out.drew.trans (hb.mono B4.out.drew.size)⟩

end Go.Proofs.Ytbbmfgeagdblcaa
