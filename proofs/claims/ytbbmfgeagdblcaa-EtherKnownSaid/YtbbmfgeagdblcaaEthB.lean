/-
  Layer 6: the program's functions on frames and addresses. Conditions: a text is no longer than a string may be.
-/
import Derived.Test.YtbbmfgeagdblcaaEthA
import Derived.Test.YtbbmfgeagdblcaaNumber
import Derived.Lib.SlBuf
import Derived.Deep.WholeRow
namespace Go.Proofs.Ytbbmfgeagdblcaa
open Go.RowKit

/-- The address of all. -/
def Mac6.all : Mac6 := ⟨255, 255, 255, 255, 255, 255⟩
theorem run_eql_all (w : World) (x : Mac6) : (Op.equalIn 10000 49 (.agg #[.int .u8 (x.a.toNat : Int), .int .u8 (x.b.toNat : Int), .int .u8 (x.c.toNat : Int), .int .u8 (x.d.toNat : Int), .int .u8 (x.e.toNat : Int), .int .u8 (x.f.toNat : Int)]) (.agg #[.int .u8 255, .int .u8 255, .int .u8 255, .int .u8 255, .int .u8 255, .int .u8 255])).run Try.prog w = .ok (decide (x = Mac6.all)) w := run_eql_mac w x Mac6.all

set_option maxHeartbeats 400000 in
theorem every_any (w : World) :
    Calls Try.prog 30 #[] w fun e w' => e = .returned (.agg #[.int .u8 255, .int .u8 255, .int .u8 255, .int .u8 255, .int .u8 255, .int .u8 255]) ∧ Below w.heap.size w w' := by
  go_enter Try.func30, Try.ntmps30
  go_wp2_with fail
  exact bodyPost_ret (v := .agg #[.int .u8 255, .int .u8 255, .int .u8 255, .int .u8 255, .int .u8 255, .int .u8 255]) (by simp [results, Try.results30, go_sem]) rfl ⟨rfl, (Below.refl _ _).alloc (Nat.le_refl _) _⟩

theorem take_list (s : ByteArray) (m : Mac6) (r : List UInt8) (hs : s.data.toList = m.list ++ r) : s.data.toList.take 6 = m.list := by rw [hs]; rfl
theorem run_copy_six (w : World) (s : ByteArray) (m : Mac6) (r : List UInt8) (hs : s.data.toList = m.list ++ r) (cs : Array Value) (hc : cs.size = 6) (n : Nat) (hn : n = w.heap.size) :
    (Builtin.copy_ #[96, 9] 3 #[.slice (some ⟨n, 0, none⟩) 6 6, .string s]).run Try.prog (w.alloc (.cells cs 49)) = .ok (.int .i64 6) (w.alloc (.cells #[.int .u8 (m.a.toNat : Int), .int .u8 (m.b.toNat : Int), .int .u8 (m.c.toNat : Int), .int .u8 (m.d.toNat : Int), .int .u8 (m.e.toNat : Int), .int .u8 (m.f.toNat : Int)] 49)) := by
  have hl : 6 ≤ s.size := by
    have := congrArg List.length hs
    simp only [List.length_append] at this
    have h2 : m.list.length = 6 := rfl
    rw [h2] at this
    simp only [Array.length_toList] at this
    show 6 ≤ s.data.size
    omega
  have h := run_copy_part (P := Try.prog) (w.alloc (.cells cs 49)) 96 9 3 5 n 0 6 6 s cs 49 Try.underlying96 (by kernel_rfl) (by rw [hn]; exact heap_alloc_new w _) hl (by omega)
  rw [h, hn, World.setRow_alloc_new, take_list s m r hs]
  have h0 : cs.toList.drop (0 + 6) = [] := List.drop_of_length_le (by simp [hc])
  rw [h0]
  rfl

set_option maxRecDepth 100000 in
set_option maxHeartbeats 400000 in
theorem address_six (w : World) (s : ByteArray) (m : Mac6) (r : List UInt8) (hs : s.data.toList = m.list ++ r) :
    Calls Try.prog 44 #[.string s] w fun e w' => e = .returned (.agg #[.int .u8 (m.a.toNat : Int), .int .u8 (m.b.toNat : Int), .int .u8 (m.c.toNat : Int), .int .u8 (m.d.toNat : Int), .int .u8 (m.e.toNat : Int), .int .u8 (m.f.toNat : Int)]) ∧ Below w.heap.size w w' := by
  have hr := run_copy_six (w.alloc (.cells #[.int .u8 0, .int .u8 0, .int .u8 0, .int .u8 0, .int .u8 0, .int .u8 0] 49)) s m r hs #[.int .u8 0, .int .u8 0, .int .u8 0, .int .u8 0, .int .u8 0, .int .u8 0] rfl (w.heap.size + 1) (by simp)
  clear hs
  go_enter Try.func44, Try.ntmps44
  go_wp2_with fail
  exact bodyPost_ret (v := .agg #[.int .u8 (m.a.toNat : Int), .int .u8 (m.b.toNat : Int), .int .u8 (m.c.toNat : Int), .int .u8 (m.d.toNat : Int), .int .u8 (m.e.toNat : Int), .int .u8 (m.f.toNat : Int)]) (by simp [results, Try.results44, go_sem]) rfl ⟨rfl, ((Below.refl _ _).alloc (Nat.le_refl _) _).alloc (by simp) _⟩

theorem below_drewN {B : Nat} {a w : World} (h : Below B a w) (n : Nat) : Below B a (w.drewN n) := ⟨h.os, h.tape, h.output, h.size, h.block⟩
def forB (f : Fr) (me : Mac6) : Bool := decide (f.to = me) || decide (f.to = Mac6.all)
set_option maxRecDepth 100000 in
set_option maxHeartbeats 1000000 in
theorem For_any (w : World) (f : Fr) (me : Mac6) :
    Calls Try.prog 26 #[.agg #[.int .u8 (f.to.a.toNat : Int), .int .u8 (f.to.b.toNat : Int), .int .u8 (f.to.c.toNat : Int), .int .u8 (f.to.d.toNat : Int), .int .u8 (f.to.e.toNat : Int), .int .u8 (f.to.f.toNat : Int), .int .u8 (f.fr.a.toNat : Int), .int .u8 (f.fr.b.toNat : Int), .int .u8 (f.fr.c.toNat : Int), .int .u8 (f.fr.d.toNat : Int), .int .u8 (f.fr.e.toNat : Int), .int .u8 (f.fr.f.toNat : Int), .int .i64 f.ty, .string f.da], .agg #[.int .u8 (me.a.toNat : Int), .int .u8 (me.b.toNat : Int), .int .u8 (me.c.toNat : Int), .int .u8 (me.d.toNat : Int), .int .u8 (me.e.toNat : Int), .int .u8 (me.f.toNat : Int)]] w fun e w' => e = .returned (.bool (forB f me)) ∧ Below w.heap.size w w' := by
  have h1 : ∀ w, (Op.equalIn 10000 49 (.agg #[.int .u8 (f.to.a.toNat : Int), .int .u8 (f.to.b.toNat : Int), .int .u8 (f.to.c.toNat : Int), .int .u8 (f.to.d.toNat : Int), .int .u8 (f.to.e.toNat : Int), .int .u8 (f.to.f.toNat : Int)]) (.agg #[.int .u8 (me.a.toNat : Int), .int .u8 (me.b.toNat : Int), .int .u8 (me.c.toNat : Int), .int .u8 (me.d.toNat : Int), .int .u8 (me.e.toNat : Int), .int .u8 (me.f.toNat : Int)])).run Try.prog w = .ok (decide (f.to = me)) w := fun w => run_eql_mac w f.to me
  by_cases he : f.to = me
  · have hp : forB f me = true := by simp [forB, he]
    rw [hp]
    rw [decide_eq_true he] at h1
    clear he hp
    go_enter Try.func26, Try.ntmps26
    go_wp2_with fail
    go_quiet (fail)
    go_wp2
    go_ret
    exact ⟨rfl, below_drewN (((Below.refl _ _).alloc (Nat.le_refl _) _).alloc (by simp) _) _⟩
  · have h2 := fun w => run_eql_all w f.to
    have hp : forB f me = decide (f.to = Mac6.all) := by simp [forB, he]
    rw [hp]
    rw [decide_eq_false he] at h1
    clear he hp
    go_enter Try.func26, Try.ntmps26
    go_wp2_with fail
    go_region_held3 (fun w' => (w'.cell? ⟨w.heap.size, 0, none⟩ = some (.int .u8 (f.to.a.toNat : Int)) ∧ w'.cell? ⟨w.heap.size, 1, none⟩ = some (.int .u8 (f.to.b.toNat : Int)) ∧ w'.cell? ⟨w.heap.size, 2, none⟩ = some (.int .u8 (f.to.c.toNat : Int)) ∧ w'.cell? ⟨w.heap.size, 3, none⟩ = some (.int .u8 (f.to.d.toNat : Int)) ∧ w'.cell? ⟨w.heap.size, 4, none⟩ = some (.int .u8 (f.to.e.toNat : Int)) ∧ w'.cell? ⟨w.heap.size, 5, none⟩ = some (.int .u8 (f.to.f.toNat : Int))) ∧ (w'.cell? ⟨w.heap.size + 1, 0, none⟩ = some (.int .u8 (me.a.toNat : Int)) ∧ w'.cell? ⟨w.heap.size + 1, 1, none⟩ = some (.int .u8 (me.b.toNat : Int)) ∧ w'.cell? ⟨w.heap.size + 1, 2, none⟩ = some (.int .u8 (me.c.toNat : Int)) ∧ w'.cell? ⟨w.heap.size + 1, 3, none⟩ = some (.int .u8 (me.d.toNat : Int)) ∧ w'.cell? ⟨w.heap.size + 1, 4, none⟩ = some (.int .u8 (me.e.toNat : Int)) ∧ w'.cell? ⟨w.heap.size + 1, 5, none⟩ = some (.int .u8 (me.f.toNat : Int))))
      (first | go_keep | (go_split_ands; refine ⟨⟨?_, ?_, ?_, ?_, ?_, ?_⟩, ?_, ?_, ?_, ?_, ?_, ?_⟩ <;> (rw [hb.cell (by simp <;> omega)]; assumption)))
      (first | (go_at_call 30; refine (every_any _).mono ?_; rintro e w1 ⟨rfl, hb⟩))
    go_wp2
    go_ret
    exact ⟨rfl, ((((Below.refl _ _).alloc (Nat.le_refl _) _).alloc (by simp) _).drew).trans (hb.mono (by simp <;> omega))⟩

end Go.Proofs.Ytbbmfgeagdblcaa
