/-
  Layer 15: how much room there is, what is next, whether anything waits. Conditions: as said.
-/
import Derived.Test.YtlajalfalepbhaaCnE
namespace Go.Proofs.Ytlajalfalepbhaa
open Go.RowKit
set_option linter.unusedVariables false

section
variable {w0 w w' : World} {fx : List (Nat × Obj)} {q : Bq} {v v' : Cn}
theorem beq_i (a b : Int) : (a == b) = decide (a = b) := by
  by_cases h : a = b
  · subst h; simp
  · rw [decide_eq_false h]; exact beq_eq_false_iff_ne.2 h
set_option maxRecDepth 100000 in
set_option maxHeartbeats 1000000 in
theorem room_ok (h : CB w0 fx q v w) :
    Calls Try.prog 76 #[.pointer (some ⟨q.c, 0, none⟩)] w fun e w' => e = .returned (.int .i64 (roomV v)) ∧ Dr w w' := by
  have c11 := h.c 11 (.int .i64 v.win) (fun _ => rfl)
  have c5 := h.c 5 (.int .u32 v.una) (fun _ => rfl)
  have c6 := h.c 6 (.int .u32 v.nxt) (fun _ => rfl)
  have o1 := h.ok.w1
  have o2 := h.ok.w2
  have a1 := ahN_lo v.una v.nxt
  have a2 := ahN_hi v.una v.nxt
  have e1 : IntKind.i64.wrap (max 0 v.win - ahN v.una v.nxt) = roomV v := by unfold roomV; exact IntWalk.i64_in _ (by omega)
  have kA := Lib.hid (fun wr => ah_any wr v.una v.nxt)
  generalize roomV v = r at e1 ⊢
  generalize ahN v.una v.nxt = a at e1 kA
  generalize hm : max 0 v.win = m at e1
  clear h o1 o2 a1 a2
  go_enter Try.func76, Try.ntmps76
  go_wp2_with fail
  go_quiet (first | (go_at_call 86; exact Calls.quiet_of_same (kA.out _)))
  go_wp2_with fail
  go_ret
  exact ⟨rfl, drN _ _⟩
set_option maxRecDepth 100000 in
set_option maxHeartbeats 1000000 in
theorem finNext_ok (h : CB w0 fx q v w) :
    Calls Try.prog 96 #[.pointer (some ⟨q.c, 0, none⟩)] w fun e w' => e = .returned (.bool (finNextV v)) ∧ Dr w w' := by
  have c9 := h.c 9 (.bool v.cl) (fun _ => rfl)
  have c6 := h.c 6 (.int .u32 v.nxt) (fun _ => rfl)
  have c8 := h.c 8 (.pointer (some ⟨q.g, 0, none⟩)) (fun _ => rfl)
  have kE : Hid (∀ k, Calls Try.prog 68 #[.pointer (some ⟨q.g, 0, none⟩)] (w.drewN k) fun e w' => e = .returned (.int .u32 (endV v)) ∧ w' = w.drewN k) := Lib.hid (fun k => (h.drewN k).rEnd)
  unfold finNextV
  generalize endV v = x at kE ⊢
  generalize hb : v.cl = b at c9 ⊢
  generalize v.nxt = y at c6 ⊢
  clear h hb
  cases b with
  | true =>
    generalize hr : (y == x) = r
    go_enter Try.func96, Try.ntmps96
    go_wp2_with fail
    go_quiet (first | (go_at_call 68; exact Calls.quiet_of_same (kE.out _)))
    go_wp2_with fail
    go_ret
    exact ⟨rfl, drN _ _⟩
  | false =>
    go_enter Try.func96, Try.ntmps96
    go_wp2_with fail
    go_quiet (fail)
    go_wp2_with fail
    go_ret
    exact ⟨rfl, drN _ _⟩
theorem str_e (L : List UInt8) : (⟨L.toArray⟩ : ByteArray).toList.isEmpty = L.isEmpty := by rw [ByteArray.toList_eq]
set_option maxRecDepth 100000 in
set_option maxHeartbeats 1000000 in
theorem waits_ok (h : CB w0 fx q v w) :
    Calls Try.prog 79 #[.pointer (some ⟨q.c, 0, none⟩)] w fun e w' => e = .returned (.bool (waitsV v)) ∧ Dr w w' := by
  have c6 := h.c 6 (.int .u32 v.nxt) (fun _ => rfl)
  have c8 := h.c 8 (.pointer (some ⟨q.g, 0, none⟩)) (fun _ => rfl)
  have kG : Hid (∀ k, Calls Try.prog 94 #[.pointer (some ⟨q.g, 0, none⟩), .int .u32 v.nxt, .int .i64 1] (w.drewN k) fun e w' => e = .returned (.string ⟨(getS v.u v.nxt 1 v.L).toArray⟩) ∧ Dr (w.drewN k) w') := Lib.hid (fun k => (h.drewN k).rGet _ _ (by omega))
  have kF : Hid (∀ k, Calls Try.prog 96 #[.pointer (some ⟨q.c, 0, none⟩)] (w.drewN k) fun e w' => e = .returned (.bool (finNextV v)) ∧ Dr (w.drewN k) w') := Lib.hid (fun k => finNext_ok (h.drewN k))
  have hs := str_e (getS v.u v.nxt 1 v.L)
  unfold waitsV
  generalize finNextV v = f at kF ⊢
  rw [← hs]
  generalize (⟨(getS v.u v.nxt 1 v.L).toArray⟩ : ByteArray) = S at kG ⊢
  generalize v.nxt = y at c6 kG
  clear h hs
  cases hb : S.toList.isEmpty with
  | false =>
    go_enter Try.func79, Try.ntmps79
    go_wp2_with fail
    go_quiet (first | (go_at_call 94; exact Calls.quietDr (kG.out _)))
    go_wp2_with fail
    go_ret
    exact ⟨rfl, drN _ _⟩
  | true =>
    go_enter Try.func79, Try.ntmps79
    go_wp2_with fail
    go_quiet (first | (go_at_call 94; exact Calls.quietDr (kG.out _)) | (go_at_call 96; exact Calls.quietDr (kF.out _)))
    go_wp2_with fail
    go_ret
    exact ⟨rfl, drN _ _⟩
end
end Go.Proofs.Ytlajalfalepbhaa
