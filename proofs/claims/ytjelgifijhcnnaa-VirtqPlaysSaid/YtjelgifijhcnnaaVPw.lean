/-
  Layer 2, the document's own queue: New. Conditions: the memory has at most 5000 bytes.
-/
import Derived.Test.YtjelgifijhcnnaaVPd
namespace Go.Proofs.Ytjelgifijhcnnaa
open Go.RowKit Go.Sort
set_option linter.unusedVariables false

/-- The memory behind the document's New. -/
def newL (l : List UInt8) (base n : Int) : List UInt8 := writeL l base (List.replicate (bytesOf n).toNat 0)
/-- The document's queue, in a block. -/
abbrev qCells (base n : Int) (v : Value) (told back : Int) (broken : Bool) : Array Value := #[.int .i64 base, .int .i64 n, v, .int .i64 told, .int .i64 back, .bool broken]

set_option maxRecDepth 100000 in
set_option maxHeartbeats 2000000 in
theorem rNew_any (w : World) (l : List UInt8) (base n : Int) (hl : l.length ≤ 5000) :
    Calls Try.prog 44 #[.string ⟨l.toArray⟩, .int .i64 base, .int .i64 n] w
      fun e w' => e = .returned (.tuple #[.agg (qCells base n (.slice none 0 0) 0 0 false), .string ⟨(newL l base n).toArray⟩]) ∧ Below w.heap.size w w' := by
  have BLH : Hid (Below w.heap.size w (w.alloc (.cells (qCells 0 0 (.slice none 0 0) 0 0 false) 40))) := Lib.hid ((Below.refl _ _).alloc (Nat.le_refl _) _)
  have HQ : Hid ((w.alloc (.cells (qCells 0 0 (.slice none 0 0) 0 0 false) 40)).heap[w.heap.size]? = some (.cells (qCells 0 0 (.slice none 0 0) 0 0 false) 40 (0, 0))) := Lib.hid (heap_alloc_new w _)
  have hbd := bytesOf_bd n
  obtain ⟨k, hk⟩ : ∃ k : Nat, bytesOf n = (k : Int) := ⟨(bytesOf n).toNat, by omega⟩
  have hk2 : k ≤ 2000 := by omega
  have hN : Hid (newL l base n = writeL l base (List.replicate k 0)) := Lib.hid (by unfold newL; rw [hk]; rfl)
  have HB := Lib.hid (fun W => bytes_any n W)
  rw [hk] at HB
  clear hk hbd
  go_enter Try.func44, Try.ntmps44
  go_upto_region 1 with fail
  obtain ⟨m, hm⟩ : ∃ m, m = w.heap.size := ⟨_, rfl⟩
  have hmw : w.heap.size ≤ m := by omega
  generalize w.alloc _ = W1 at BLH HQ ⊢
  rw [← hm] at HQ ⊢
  clear hm
  have hmk := make_bytes k (by omega) W1
  have hcv := conv_zeros W1 k
  have HW := Lib.hid (refWrite_all (W1.alloc (.cells (zeros k) 5)) l base ⟨(List.replicate k (0 : UInt8)).toArray⟩ hl (by show (List.replicate k (0 : UInt8)).toArray.size ≤ 5000; rw [List.size_toArray, List.length_replicate]; omega))
  have BZ := Lib.hid ((Below.refl W1.heap.size W1).alloc (Nat.le_refl _) (.cells (zeros k) 5))
  go_upto_region 2 with (first | (go_at_call 38; refine (HB.out _).mono ?_; rintro e w2 ⟨rfl, rfl⟩) | (go_at_call 74; refine HW.out.mono ?_; rintro e w3 ⟨rfl, k3⟩; have B3 := Lib.hid (BZ.out.trans ((below_grown k3).mono BZ.out.size)); clear k3))
  have hq3 := (B3.out.block m (lt_of_block HQ.out)).trans HQ.out
  have BL3 := Lib.hid (BLH.out.trans (B3.out.mono BLH.out.size))
  have hst := run_storeVar_row (P := Try.prog) w3 m 40 40 _ (qCells base n (.slice none 0 0) 0 0 false) hq3 (by kernel_rfl) rfl (by simp [Value.oneCell'])
  have HQ2 := setRow_heap w3 m _ (qCells base n (.slice none 0 0) 0 0 false) _ _ hq3
  clear hmk hcv HW BZ B3 HB HQ BLH
  go_wp2_with (refine wpl_store_at 40 _ _ rfl rfl rfl _ m 0 rfl rfl hst ?_)
  rw [hN.out]
  exact bodyPost_ret (v := .tuple #[.agg (qCells base n (.slice none 0 0) 0 0 false), .string ⟨(writeL l base (List.replicate k 0)).toArray⟩]) (results_row2 _ 6 7 40 (by kernel_rfl) _ m _ _ _ _ rfl rfl HQ2 Try.underlying40 rfl (by kernel_rfl)) rfl ⟨rfl, below_setRow BL3.out hmw _⟩

end Go.Proofs.Ytjelgifijhcnnaa
