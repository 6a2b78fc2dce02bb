/-
  The contracts of package virtq: whether a queue or a port is none, New, Open, Reset, Out, Broken. Conditions: the memory is one that New made, of at most 65536 bytes, or none.
-/
import Derived.Test.YtmlicejhkdkhnaaVirtE
import Derived.Test.YtmlicejhkdkhnaaVirtF
import Derived.Test.YtmlicejhkdkhnaaTab
namespace Go.Proofs.Ytmlicejhkdkhnaa
open Go.RowKit Go.Sort

/-- Of what was there nothing has turned but the blocks of S. -/
structure Turned (S : Nat → Prop) (w w' : World) : Prop where
  os : w'.os = w.os
  tape : w'.tape = w.tape
  output : w'.output = w.output
  size : w.heap.size ≤ w'.heap.size
  block : ∀ k, k < w.heap.size → ¬ S k → w'.heap[k]? = w.heap[k]?

theorem Turned.refl (S : Nat → Prop) (w : World) : Turned S w w := ⟨rfl, rfl, rfl, Nat.le_refl _, fun _ _ _ => rfl⟩
theorem Turned.step {S : Nat → Prop} {a b c : World} {r : Option Nat} (t : Turned S a b) (k : b.grownBy c r) (h : ∀ j, r = some j → S j ∨ a.heap.size ≤ j) : Turned S a c :=
  ⟨k.os.trans t.os, k.tape.trans t.tape, k.output.trans t.output, Nat.le_trans t.size k.size, fun i hi hs => (k.block i (Nat.lt_of_lt_of_le hi t.size) (fun e => by
    rcases h i e.symm with h1 | h1
    · exact hs h1
    · omega)).trans (t.block i hi hs)⟩
theorem Turned.of {S : Nat → Prop} {w w' : World} {r : Option Nat} (k : w.grownBy w' r) (h : ∀ j, r = some j → S j) : Turned S w w' := (Turned.refl S w).step k fun j e => .inl (h j e)
theorem Turned.trans {S : Nat → Prop} {a b c : World} (t : Turned S a b) (k : Turned S b c) : Turned S a c :=
  ⟨k.os.trans t.os, k.tape.trans t.tape, k.output.trans t.output, Nat.le_trans t.size k.size, fun i hi hs => (k.block i (Nat.lt_of_lt_of_le hi t.size) hs).trans (t.block i hi hs)⟩
theorem Turned.mono {S S' : Nat → Prop} {a b : World} (t : Turned S a b) (h : ∀ k, k < a.heap.size → S k → S' k) : Turned S' a b := ⟨t.os, t.tape, t.output, t.size, fun k hk hs => t.block k hk fun s => hs (h k hk s)⟩
/-- Two steps, the second one of which may turn blocks that are new since the first began. -/
theorem Turned.then {S S' : Nat → Prop} {a b c : World} (t : Turned S a b) (k : Turned S' b c) (h : ∀ j, S' j → S j ∨ a.heap.size ≤ j) : Turned S a c :=
  ⟨k.os.trans t.os, k.tape.trans t.tape, k.output.trans t.output, Nat.le_trans t.size k.size, fun i hi hs => (k.block i (Nat.lt_of_lt_of_le hi t.size) (fun s => by
    rcases h i s with h1 | h1
    · exact hs h1
    · omega)).trans (t.block i hi hs)⟩
theorem Turned.below {S : Nat → Prop} {w w' : World} (t : Turned S w w') {B : Nat} (hB : B ≤ w.heap.size) (h : ∀ k, S k → B ≤ k) : Below B w w' :=
  ⟨t.os, t.tape, t.output, t.size, fun k hk => t.block k (by omega) fun s => by have := h k s; omega⟩
theorem Turned.kept {S : Nat → Prop} {w w' : World} (t : Turned S w w') {k : Nat} {o : Obj} (e : w.heap[k]? = some o) (h : ¬ S k) : w'.heap[k]? = some o := (t.block k (lt_of_block e) h).trans e
theorem Turned.mem {S : Nat → Prop} {w w' : World} (t : Turned S w w') {g h : Nat} {l : List UInt8} (m : Mem w g h l) (h1 : ¬ S g) (h2 : ¬ S h) : Mem w' g h l := ⟨t.kept m.1 h1, t.kept m.2 h2⟩
theorem grown_setCell (w : World) (g i : Nat) (v : Value) : w.grownBy (w.setCell ⟨g, i, none⟩ v) (some g) :=
  ⟨rfl, rfl, rfl, by simp [World.setCell], fun k _ hk => Below.heap_setCell _ _ _ _ (fun e => hk (by rw [e]))⟩

/-- A queue that New made. -/
def QAt (w : World) (q g : Nat) (base n : Int) (mp : Option Nat) (off back : Int) (broken : Bool) : Prop :=
  w.heap[q]? = some (.cells #[.pointer (some ⟨g, 0, none⟩), .int .i64 base, .int .i64 n, .map mp, .int .u16 off, .int .u16 back, .bool broken, .pointer (some ⟨q, 0, none⟩)] 112 (0, 0))
/-- A port that Open made. -/
def PAt (w : World) (p g : Nat) (base n taken told : Int) : Prop :=
  w.heap[p]? = some (.cells #[.pointer (some ⟨g, 0, none⟩), .int .i64 base, .int .i64 n, .int .u16 taken, .int .u16 told, .pointer (some ⟨p, 0, none⟩)] 114 (0, 0))

section
variable {w : World} {q g : Nat} {base n : Int} {mp : Option Nat} {off back : Int} {broken : Bool}
theorem QAt.c0 (h : QAt w q g base n mp off back broken) : w.cell? ⟨q, 0, none⟩ = some (.pointer (some ⟨g, 0, none⟩)) := cell_of_block h
theorem QAt.c1 (h : QAt w q g base n mp off back broken) : w.cell? ⟨q, 1, none⟩ = some (.int .i64 base) := cell_of_block h
theorem QAt.c2 (h : QAt w q g base n mp off back broken) : w.cell? ⟨q, 2, none⟩ = some (.int .i64 n) := cell_of_block h
theorem QAt.c3 (h : QAt w q g base n mp off back broken) : w.cell? ⟨q, 3, none⟩ = some (.map mp) := cell_of_block h
theorem QAt.c4 (h : QAt w q g base n mp off back broken) : w.cell? ⟨q, 4, none⟩ = some (.int .u16 off) := cell_of_block h
theorem QAt.c5 (h : QAt w q g base n mp off back broken) : w.cell? ⟨q, 5, none⟩ = some (.int .u16 back) := cell_of_block h
theorem QAt.c6 (h : QAt w q g base n mp off back broken) : w.cell? ⟨q, 6, none⟩ = some (.bool broken) := cell_of_block h
theorem QAt.c7 (h : QAt w q g base n mp off back broken) : w.cell? ⟨q, 7, none⟩ = some (.pointer (some ⟨q, 0, none⟩)) := cell_of_block h
theorem QAt.fz (h : QAt w q g base n mp off back broken) (i : Nat) : w.frozen? ⟨q, i, none⟩ = false := frozen_of_block h
theorem QAt.kept {w' : World} (h : QAt w q g base n mp off back broken) (k : w'.heap[q]? = w.heap[q]?) : QAt w' q g base n mp off back broken := k.trans h
end
section
variable {w : World} {p g : Nat} {base n taken told : Int}
theorem PAt.c0 (h : PAt w p g base n taken told) : w.cell? ⟨p, 0, none⟩ = some (.pointer (some ⟨g, 0, none⟩)) := cell_of_block h
theorem PAt.c1 (h : PAt w p g base n taken told) : w.cell? ⟨p, 1, none⟩ = some (.int .i64 base) := cell_of_block h
theorem PAt.c2 (h : PAt w p g base n taken told) : w.cell? ⟨p, 2, none⟩ = some (.int .i64 n) := cell_of_block h
theorem PAt.c3 (h : PAt w p g base n taken told) : w.cell? ⟨p, 3, none⟩ = some (.int .u16 taken) := cell_of_block h
theorem PAt.c4 (h : PAt w p g base n taken told) : w.cell? ⟨p, 4, none⟩ = some (.int .u16 told) := cell_of_block h
theorem PAt.c5 (h : PAt w p g base n taken told) : w.cell? ⟨p, 5, none⟩ = some (.pointer (some ⟨p, 0, none⟩)) := cell_of_block h
theorem PAt.fz (h : PAt w p g base n taken told) (i : Nat) : w.frozen? ⟨p, i, none⟩ = false := frozen_of_block h
theorem PAt.kept {w' : World} (h : PAt w p g base n taken told) (k : w'.heap[p]? = w.heap[p]?) : PAt w' p g base n taken told := k.trans h
end

/-- A pointer to no queue that New made. -/
def NoQ (w : World) (p : Option Addr) : Prop := p = none ∨ ∃ g, p = some ⟨g, 0, none⟩ ∧ w.cell? ⟨g, 7, none⟩ = some (.pointer none)
/-- A pointer to no port that Open made. -/
def NoP (w : World) (p : Option Addr) : Prop := p = none ∨ ∃ g, p = some ⟨g, 0, none⟩ ∧ w.cell? ⟨g, 5, none⟩ = some (.pointer none)

theorem info_queue : ∃ j, Try.prog.info? 112 = some j := Option.isSome_iff_exists.1 (by kernel_rfl)
theorem info_port : ∃ j, Try.prog.info? 114 = some j := Option.isSome_iff_exists.1 (by kernel_rfl)

set_option maxHeartbeats 400000 in
theorem qnone_yes (w : World) (p : Option Addr) (hp : NoQ w p) :
    Calls Try.prog 87 #[.pointer p] w fun e w' => e = .returned (.bool true) ∧ w = w' := by
  rcases hp with rfl | ⟨g, rfl, hc⟩
  · go_enter Try.func87, Try.ntmps87
    go_wp2
    go_ret
    exact ⟨rfl, rfl⟩
  · have hq := neq_nil_ptr (P := Try.prog) w ⟨g, 0, none⟩ Try.underlying50
    go_enter Try.func87, Try.ntmps87
    go_wp2
    go_ret
    exact ⟨rfl, rfl⟩

set_option maxHeartbeats 400000 in
theorem qnone_no (w : World) (q : Nat) (hm : w.cell? ⟨q, 7, none⟩ = some (.pointer (some ⟨q, 0, none⟩))) :
    Calls Try.prog 87 #[.pointer (some ⟨q, 0, none⟩)] w fun e w' => e = .returned (.bool false) ∧ w = w' := by
  obtain ⟨j, hj⟩ := info_queue
  have hq := Lib.run_neq_ptr_same (P := Try.prog) (w := w) ⟨q, 0, none⟩ Try.underlying50 hj
  clear hj
  go_enter Try.func87, Try.ntmps87
  go_wp2
  go_ret
  exact ⟨rfl, rfl⟩

set_option maxHeartbeats 400000 in
theorem pnone_yes (w : World) (p : Option Addr) (hp : NoP w p) :
    Calls Try.prog 72 #[.pointer p] w fun e w' => e = .returned (.bool true) ∧ w = w' := by
  rcases hp with rfl | ⟨g, rfl, hc⟩
  · go_enter Try.func72, Try.ntmps72
    go_wp2
    go_ret
    exact ⟨rfl, rfl⟩
  · have hq := neq_nil_ptr (P := Try.prog) w ⟨g, 0, none⟩ Try.underlying54
    go_enter Try.func72, Try.ntmps72
    go_wp2
    go_ret
    exact ⟨rfl, rfl⟩

set_option maxHeartbeats 400000 in
theorem pnone_no (w : World) (q : Nat) (hm : w.cell? ⟨q, 5, none⟩ = some (.pointer (some ⟨q, 0, none⟩))) :
    Calls Try.prog 72 #[.pointer (some ⟨q, 0, none⟩)] w fun e w' => e = .returned (.bool false) ∧ w = w' := by
  obtain ⟨j, hj⟩ := info_port
  have hq := Lib.run_neq_ptr_same (P := Try.prog) (w := w) ⟨q, 0, none⟩ Try.underlying54 hj
  clear hj
  go_enter Try.func72, Try.ntmps72
  go_wp2
  go_ret
  exact ⟨rfl, rfl⟩

set_option maxHeartbeats 400000 in
theorem closed_none (w : World) (p : Option Addr) (hp : NoQ w p) :
    Calls Try.prog 65 #[.pointer p] w fun e w' => e = .returned (.int .i64 2) ∧ w = w' := by
  go_enter Try.func65, Try.ntmps65
  go_wp2_with (go_at_call 87; refine (qnone_yes _ _ hp).mono ?_; rintro e w' ⟨rfl, rfl⟩)
  go_ret
  exact ⟨rfl, rfl⟩

set_option maxHeartbeats 400000 in
theorem closed_any (w : World) (q g : Nat) (base n : Int) (mp : Option Nat) (off back : Int) (broken : Bool) (h : QAt w q g base n mp off back broken) :
    Calls Try.prog 65 #[.pointer (some ⟨q, 0, none⟩)] w fun e w' => e = .returned (.int .i64 (if broken then 11 else 0)) ∧ w = w' := by
  have h7 := h.c7
  have h6 := h.c6
  cases broken
  all_goals
    go_enter Try.func65, Try.ntmps65
    go_wp2_with (go_at_call 87; refine (qnone_no _ _ h7).mono ?_; rintro e w' ⟨rfl, rfl⟩)
    go_ret
    exact ⟨rfl, rfl⟩

set_option maxHeartbeats 400000 in
theorem Reset_none (w : World) (p : Option Addr) (hp : NoQ w p) :
    Calls Try.prog 58 #[.pointer p] w fun e w' => e = .returned (.tuple #[]) ∧ w = w' := by
  go_enter Try.func58, Try.ntmps58
  go_wp2_with (go_at_call 87; refine (qnone_yes _ _ hp).mono ?_; rintro e w' ⟨rfl, rfl⟩)
  refine bodyPost_ret (results_none rfl _ _ _) rfl ?_
  exact ⟨rfl, rfl⟩





set_option maxHeartbeats 400000 in
theorem Free_none (w : World) (p : Option Addr) (hp : NoQ w p) :
    Calls Try.prog 95 #[.pointer p] w fun e w' => e = .returned (.int .i64 0) ∧ w = w' := by
  go_enter Try.func95, Try.ntmps95
  go_wp2_with (go_at_call 87; refine (qnone_yes _ _ hp).mono ?_; rintro e w' ⟨rfl, rfl⟩)
  go_ret
  exact ⟨rfl, rfl⟩

set_option maxHeartbeats 400000 in
theorem Add_none (w : World) (p : Option Addr) (hp : NoQ w p) (v : Value) :
    Calls Try.prog 41 #[.pointer p, v] w fun e w' => e = .returned (.tuple #[.int .i64 0, .int .i64 2]) ∧ w = w' := by
  go_enter Try.func41, Try.ntmps41
  go_wp2_with (go_at_call 65; refine (closed_none _ _ hp).mono ?_; rintro e w' ⟨rfl, rfl⟩)
  go_ret2
  exact ⟨rfl, rfl⟩

set_option maxHeartbeats 400000 in
theorem Pop_none (w : World) (p : Option Addr) (hp : NoQ w p) :
    Calls Try.prog 46 #[.pointer p] w fun e w' => e = .returned (.tuple #[.int .i64 0, .int .i64 0, .int .i64 2]) ∧ w = w' := by
  go_enter Try.func46, Try.ntmps46
  go_wp2_with (go_at_call 65; refine (closed_none _ _ hp).mono ?_; rintro e w' ⟨rfl, rfl⟩)
  go_ret3
  exact ⟨rfl, rfl⟩

set_option maxHeartbeats 400000 in
theorem Next_none (w : World) (p : Option Addr) (hp : NoP w p) :
    Calls Try.prog 43 #[.pointer p] w fun e w' => e = .returned (.tuple #[.int .i64 0, .slice none 0 0, .int .i64 2]) ∧ w = w' := by
  go_enter Try.func43, Try.ntmps43
  go_wp2_with (go_at_call 72; refine (pnone_yes _ _ hp).mono ?_; rintro e w' ⟨rfl, rfl⟩)
  go_ret3
  exact ⟨rfl, rfl⟩

set_option maxHeartbeats 400000 in
theorem Done_none (w : World) (p : Option Addr) (hp : NoP w p) (a b : Int) :
    Calls Try.prog 45 #[.pointer p, .int .u32 a, .int .u32 b] w fun e w' => e = .returned (.int .i64 2) ∧ w = w' := by
  go_enter Try.func45, Try.ntmps45
  go_wp2_with (go_at_call 72; refine (pnone_yes _ _ hp).mono ?_; rintro e w' ⟨rfl, rfl⟩)
  go_ret
  exact ⟨rfl, rfl⟩

end Go.Proofs.Ytmlicejhkdkhnaa
