/-
  Layer 15: an acknowledgement, a first segment, one that asks, one that ends it. Conditions: as said.
-/
import Derived.Test.YtlajalfalepbhaaCnC
namespace Go.Proofs.Ytlajalfalepbhaa
open Go.RowKit
set_option linter.unusedVariables false

section
variable {w0 w w' : World} {fx : List (Nat × Obj)} {q : Bq} {v v' : Cn}
/-- An acknowledgement, a first segment, one that asks, one that ends it. -/
theorem hor0 : bits .or .i64 0 16 = 16 := by kernel_rfl
theorem hor1 : bits .or .i64 1 16 = 17 := by kernel_rfl
theorem hor2 : bits .or .i64 2 16 = 18 := by kernel_rfl
theorem hor4 : bits .or .i64 4 16 = 20 := by kernel_rfl
theorem hor8 : bits .or .i64 8 16 = 24 := by kernel_rfl
set_option maxHeartbeats 400000 in
theorem ack_ok (h : CB w0 fx q v w) (hs : v.sent.length ≤ 100000000) :
    Calls Try.prog 42 #[.pointer (some ⟨q.c, 0, none⟩)] w fun e w' => e = .returned (.tuple #[]) ∧ CB w0 fx q (ackV v) w' := by
  have c6 := h.c 6 (.int .u32 v.nxt) (fun _ => rfl)
  have KS := Lib.hid (send_ok h (segOf v.nxt 0 0 ⟨#[]⟩) 16 hor0 hs)
  clear h hs
  go_enter Try.func42, Try.ntmps42
  go_wp2_with fail
  refine KS.out.mono ?_
  rintro e W2 ⟨rfl, h2⟩
  have H2 := Lib.hid h2
  clear h2
  go_wp2_with fail
  go_end0
  exact ⟨rfl, H2.out⟩
set_option maxHeartbeats 400000 in
theorem syn_ok (h : CB w0 fx q v w) (hs : v.sent.length ≤ 100000000) :
    Calls Try.prog 38 #[.pointer (some ⟨q.c, 0, none⟩)] w fun e w' => e = .returned (.tuple #[]) ∧ CB w0 fx q (synV v) w' := by
  have c4 := h.c 4 (.int .u32 v.iss) (fun _ => rfl)
  have KS := Lib.hid (send_ok h (segOf v.iss 2 536 ⟨#[]⟩) 18 hor2 hs)
  clear h hs
  go_enter Try.func38, Try.ntmps38
  go_wp2_with fail
  refine KS.out.mono ?_
  rintro e W2 ⟨rfl, h2⟩
  have H2 := Lib.hid h2
  clear h2
  go_wp2_with fail
  go_end0
  exact ⟨rfl, H2.out⟩
set_option maxHeartbeats 400000 in
theorem probe_ok (h : CB w0 fx q v w) (hs : v.sent.length ≤ 100000000) :
    Calls Try.prog 56 #[.pointer (some ⟨q.c, 0, none⟩)] w fun e w' => e = .returned (.tuple #[]) ∧ CB w0 fx q (probeV v) w' := by
  have c5 := h.c 5 (.int .u32 v.una) (fun _ => rfl)
  have e1 : IntKind.u32.wrap (v.una - 1) = (v.una - 1) % 4294967296 := IntKind.wrap_u32 _
  have KS := Lib.hid (send_ok h (segOf ((v.una - 1) % 4294967296) 0 0 ⟨#[]⟩) 16 hor0 hs)
  clear h hs
  go_enter Try.func56, Try.ntmps56
  go_wp2_with fail
  refine KS.out.mono ?_
  rintro e W2 ⟨rfl, h2⟩
  have H2 := Lib.hid h2
  clear h2
  go_wp2_with fail
  go_end0
  exact ⟨rfl, H2.out⟩
set_option maxHeartbeats 400000 in
theorem rst_ok (h : CB w0 fx q v w) (hs : v.sent.length ≤ 100000000) :
    Calls Try.prog 55 #[.pointer (some ⟨q.c, 0, none⟩)] w fun e w' => e = .returned (.tuple #[]) ∧ CB w0 fx q (rstV v) w' := by
  have c7 := h.c 7 (.int .u32 v.top) (fun _ => rfl)
  have KS := Lib.hid (send_ok h (segOf v.top 4 0 ⟨#[]⟩) 20 hor4 hs)
  clear h hs
  go_enter Try.func55, Try.ntmps55
  go_wp2_with fail
  refine KS.out.mono ?_
  rintro e W2 ⟨rfl, h2⟩
  have H2 := Lib.hid h2
  clear h2
  go_wp2_with fail
  go_end0
  exact ⟨rfl, H2.out⟩
end
end Go.Proofs.Ytlajalfalepbhaa
