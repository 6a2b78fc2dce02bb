/-
  Layer 7: a packet in memory; Answer; a packet's bytes. Conditions: a packet's kind is a number of its kind.
-/
import Derived.Test.YtolegdjdppaeoaaArpA
import Derived.Test.YtolegdjdppaeoaaEthG
namespace Go.Proofs.Ytolegdjdppaeoaa
open Go.RowKit Go.Sort
set_option linter.unusedVariables false

theorem ip_len (m : Ip4) : m.list.length = 4 := rfl
/-- What all packets begin with. -/
def hd6 : List UInt8 := [0, 1, 8, 0, 6, 4]
/-- A packet that lies in a block of its own. -/
def PkAt (w : World) (n : Nat) (f : Pk) : Prop := w.heap[n]? = some (.cells #[.int .i64 f.op, .int .u8 (f.ma.a.toNat : Int), .int .u8 (f.ma.b.toNat : Int), .int .u8 (f.ma.c.toNat : Int), .int .u8 (f.ma.d.toNat : Int), .int .u8 (f.ma.e.toNat : Int), .int .u8 (f.ma.f.toNat : Int), .int .u8 (f.ip.a.toNat : Int), .int .u8 (f.ip.b.toNat : Int), .int .u8 (f.ip.c.toNat : Int), .int .u8 (f.ip.d.toNat : Int), .int .u8 (f.tm.a.toNat : Int), .int .u8 (f.tm.b.toNat : Int), .int .u8 (f.tm.c.toNat : Int), .int .u8 (f.tm.d.toNat : Int), .int .u8 (f.tm.e.toNat : Int), .int .u8 (f.tm.f.toNat : Int), .int .u8 (f.ti.a.toNat : Int), .int .u8 (f.ti.b.toNat : Int), .int .u8 (f.ti.c.toNat : Int), .int .u8 (f.ti.d.toNat : Int)] 27 (0, 0))
section
variable {w w' : World} {n : Nat} {f : Pk}
theorem PkAt.op (h : PkAt w n f) : w.cell? ⟨n, 0, none⟩ = some (.int .i64 f.op) := by rw [cell_of_block h]; rfl
theorem PkAt.free (h : PkAt w n f) (k : Nat) : w.frozen? ⟨n, k, none⟩ = false := by simp [World.frozen?, show w.heap[n]? = _ from h]
theorem PkAt.ma (h : PkAt w n f) : Holds eb w n 1 f.ma.list.toArray := by
  intro j hj
  have hj6 : j < 6 := hj
  refine ⟨?_, h.free _⟩
  rw [cell_of_block h]
  rcases j with _ | _ | _ | _ | _ | _ | j <;> first | rfl | omega
theorem PkAt.ip (h : PkAt w n f) : Holds eb w n 7 f.ip.list.toArray := by
  intro j hj
  have hj6 : j < 4 := hj
  refine ⟨?_, h.free _⟩
  rw [cell_of_block h]
  rcases j with _ | _ | _ | _ | j <;> first | rfl | omega
theorem PkAt.tm (h : PkAt w n f) : Holds eb w n 11 f.tm.list.toArray := by
  intro j hj
  have hj6 : j < 6 := hj
  refine ⟨?_, h.free _⟩
  rw [cell_of_block h]
  rcases j with _ | _ | _ | _ | _ | _ | j <;> first | rfl | omega
theorem PkAt.ti (h : PkAt w n f) : Holds eb w n 17 f.ti.list.toArray := by
  intro j hj
  have hj6 : j < 4 := hj
  refine ⟨?_, h.free _⟩
  rw [cell_of_block h]
  rcases j with _ | _ | _ | _ | j <;> first | rfl | omega
theorem PkAt.grow (h : PkAt w n f) (hb : Below w.heap.size w w') : PkAt w' n f := (hb.block n (lt_of_block h)).trans h
theorem PkAt.all (h : PkAt w n f) : w.cell? ⟨n, 0, none⟩ = some (.int .i64 f.op) ∧ (w.cell? ⟨n, 1, none⟩ = some (.int .u8 (f.ma.a.toNat : Int)) ∧ w.cell? ⟨n, 2, none⟩ = some (.int .u8 (f.ma.b.toNat : Int)) ∧ w.cell? ⟨n, 3, none⟩ = some (.int .u8 (f.ma.c.toNat : Int)) ∧ w.cell? ⟨n, 4, none⟩ = some (.int .u8 (f.ma.d.toNat : Int)) ∧ w.cell? ⟨n, 5, none⟩ = some (.int .u8 (f.ma.e.toNat : Int)) ∧ w.cell? ⟨n, 6, none⟩ = some (.int .u8 (f.ma.f.toNat : Int))) ∧ (w.cell? ⟨n, 7, none⟩ = some (.int .u8 (f.ip.a.toNat : Int)) ∧ w.cell? ⟨n, 8, none⟩ = some (.int .u8 (f.ip.b.toNat : Int)) ∧ w.cell? ⟨n, 9, none⟩ = some (.int .u8 (f.ip.c.toNat : Int)) ∧ w.cell? ⟨n, 10, none⟩ = some (.int .u8 (f.ip.d.toNat : Int))) ∧ (w.cell? ⟨n, 11, none⟩ = some (.int .u8 (f.tm.a.toNat : Int)) ∧ w.cell? ⟨n, 12, none⟩ = some (.int .u8 (f.tm.b.toNat : Int)) ∧ w.cell? ⟨n, 13, none⟩ = some (.int .u8 (f.tm.c.toNat : Int)) ∧ w.cell? ⟨n, 14, none⟩ = some (.int .u8 (f.tm.d.toNat : Int)) ∧ w.cell? ⟨n, 15, none⟩ = some (.int .u8 (f.tm.e.toNat : Int)) ∧ w.cell? ⟨n, 16, none⟩ = some (.int .u8 (f.tm.f.toNat : Int))) ∧ (w.cell? ⟨n, 17, none⟩ = some (.int .u8 (f.ti.a.toNat : Int)) ∧ w.cell? ⟨n, 18, none⟩ = some (.int .u8 (f.ti.b.toNat : Int)) ∧ w.cell? ⟨n, 19, none⟩ = some (.int .u8 (f.ti.c.toNat : Int)) ∧ w.cell? ⟨n, 20, none⟩ = some (.int .u8 (f.ti.d.toNat : Int))) := by
  refine ⟨?_, ⟨?_, ?_, ?_, ?_, ?_, ?_⟩, ⟨?_, ?_, ?_, ?_⟩, ⟨?_, ?_, ?_, ?_, ?_, ?_⟩, ?_, ?_, ?_, ?_⟩ <;> (rw [cell_of_block h]; rfl)
/-- A block of a packet's size. -/
def PkRoom (w : World) (n : Nat) : Prop := ∃ cs : Array Value, cs.size = 21 ∧ w.heap[n]? = some (.cells cs 27 (0, 0))
theorem PkRoom.lt (h : PkRoom w n) : n < w.heap.size := by
  obtain ⟨cs, _, h⟩ := h
  exact (Array.getElem?_eq_some_iff.1 h).1
theorem PkRoom.kept (h : PkRoom w n) (k : w'.heap[n]? = w.heap[n]?) : PkRoom w' n := by
  obtain ⟨cs, h0, h⟩ := h
  exact ⟨cs, h0, k.trans h⟩
theorem PkAt.room (h : PkAt w n f) : PkRoom w n := ⟨_, rfl, h⟩
theorem PkRoom.put (h : PkRoom w n) (f : Pk) :
    (storeVar 27 ⟨n, 0, none⟩ (.agg #[.int .i64 f.op, .int .u8 (f.ma.a.toNat : Int), .int .u8 (f.ma.b.toNat : Int), .int .u8 (f.ma.c.toNat : Int), .int .u8 (f.ma.d.toNat : Int), .int .u8 (f.ma.e.toNat : Int), .int .u8 (f.ma.f.toNat : Int), .int .u8 (f.ip.a.toNat : Int), .int .u8 (f.ip.b.toNat : Int), .int .u8 (f.ip.c.toNat : Int), .int .u8 (f.ip.d.toNat : Int), .int .u8 (f.tm.a.toNat : Int), .int .u8 (f.tm.b.toNat : Int), .int .u8 (f.tm.c.toNat : Int), .int .u8 (f.tm.d.toNat : Int), .int .u8 (f.tm.e.toNat : Int), .int .u8 (f.tm.f.toNat : Int), .int .u8 (f.ti.a.toNat : Int), .int .u8 (f.ti.b.toNat : Int), .int .u8 (f.ti.c.toNat : Int), .int .u8 (f.ti.d.toNat : Int)])).run Try.prog w = .ok () (w.setRow n #[.int .i64 f.op, .int .u8 (f.ma.a.toNat : Int), .int .u8 (f.ma.b.toNat : Int), .int .u8 (f.ma.c.toNat : Int), .int .u8 (f.ma.d.toNat : Int), .int .u8 (f.ma.e.toNat : Int), .int .u8 (f.ma.f.toNat : Int), .int .u8 (f.ip.a.toNat : Int), .int .u8 (f.ip.b.toNat : Int), .int .u8 (f.ip.c.toNat : Int), .int .u8 (f.ip.d.toNat : Int), .int .u8 (f.tm.a.toNat : Int), .int .u8 (f.tm.b.toNat : Int), .int .u8 (f.tm.c.toNat : Int), .int .u8 (f.tm.d.toNat : Int), .int .u8 (f.tm.e.toNat : Int), .int .u8 (f.tm.f.toNat : Int), .int .u8 (f.ti.a.toNat : Int), .int .u8 (f.ti.b.toNat : Int), .int .u8 (f.ti.c.toNat : Int), .int .u8 (f.ti.d.toNat : Int)]) ∧ PkAt (w.setRow n #[.int .i64 f.op, .int .u8 (f.ma.a.toNat : Int), .int .u8 (f.ma.b.toNat : Int), .int .u8 (f.ma.c.toNat : Int), .int .u8 (f.ma.d.toNat : Int), .int .u8 (f.ma.e.toNat : Int), .int .u8 (f.ma.f.toNat : Int), .int .u8 (f.ip.a.toNat : Int), .int .u8 (f.ip.b.toNat : Int), .int .u8 (f.ip.c.toNat : Int), .int .u8 (f.ip.d.toNat : Int), .int .u8 (f.tm.a.toNat : Int), .int .u8 (f.tm.b.toNat : Int), .int .u8 (f.tm.c.toNat : Int), .int .u8 (f.tm.d.toNat : Int), .int .u8 (f.tm.e.toNat : Int), .int .u8 (f.tm.f.toNat : Int), .int .u8 (f.ti.a.toNat : Int), .int .u8 (f.ti.b.toNat : Int), .int .u8 (f.ti.c.toNat : Int), .int .u8 (f.ti.d.toNat : Int)]) n f := by
  obtain ⟨cs, h0, h⟩ := h
  refine ⟨run_storeVar_row (P := Try.prog) w n 27 27 cs #[.int .i64 f.op, .int .u8 (f.ma.a.toNat : Int), .int .u8 (f.ma.b.toNat : Int), .int .u8 (f.ma.c.toNat : Int), .int .u8 (f.ma.d.toNat : Int), .int .u8 (f.ma.e.toNat : Int), .int .u8 (f.ma.f.toNat : Int), .int .u8 (f.ip.a.toNat : Int), .int .u8 (f.ip.b.toNat : Int), .int .u8 (f.ip.c.toNat : Int), .int .u8 (f.ip.d.toNat : Int), .int .u8 (f.tm.a.toNat : Int), .int .u8 (f.tm.b.toNat : Int), .int .u8 (f.tm.c.toNat : Int), .int .u8 (f.tm.d.toNat : Int), .int .u8 (f.tm.e.toNat : Int), .int .u8 (f.tm.f.toNat : Int), .int .u8 (f.ti.a.toNat : Int), .int .u8 (f.ti.b.toNat : Int), .int .u8 (f.ti.c.toNat : Int), .int .u8 (f.ti.d.toNat : Int)] h (by kernel_rfl) h0 (by simp [Value.oneCell']), ?_⟩
  exact setRow_heap w n cs _ _ _ h
end

theorem room_new (w : World) (n : Nat) (cs : Array Value) (hs : cs.size = 21) (h : n = w.heap.size) : PkRoom (w.alloc (.cells cs 27)) n := by rw [h]; exact ⟨cs, hs, heap_alloc_new w _⟩
theorem pk_new (w : World) (n : Nat) (f : Pk) (h : n = w.heap.size) : PkAt (w.alloc (.cells #[.int .i64 f.op, .int .u8 (f.ma.a.toNat : Int), .int .u8 (f.ma.b.toNat : Int), .int .u8 (f.ma.c.toNat : Int), .int .u8 (f.ma.d.toNat : Int), .int .u8 (f.ma.e.toNat : Int), .int .u8 (f.ma.f.toNat : Int), .int .u8 (f.ip.a.toNat : Int), .int .u8 (f.ip.b.toNat : Int), .int .u8 (f.ip.c.toNat : Int), .int .u8 (f.ip.d.toNat : Int), .int .u8 (f.tm.a.toNat : Int), .int .u8 (f.tm.b.toNat : Int), .int .u8 (f.tm.c.toNat : Int), .int .u8 (f.tm.d.toNat : Int), .int .u8 (f.tm.e.toNat : Int), .int .u8 (f.tm.f.toNat : Int), .int .u8 (f.ti.a.toNat : Int), .int .u8 (f.ti.b.toNat : Int), .int .u8 (f.ti.c.toNat : Int), .int .u8 (f.ti.d.toNat : Int)] 27)) n f := by rw [h]; exact heap_alloc_new w _
/-- An Internet address that lies in a block of its own. -/
def IpAt (w : World) (n : Nat) (m : Ip4) : Prop := w.heap[n]? = some (.cells #[.int .u8 (m.a.toNat : Int), .int .u8 (m.b.toNat : Int), .int .u8 (m.c.toNat : Int), .int .u8 (m.d.toNat : Int)] 25 (0, 0))
theorem ip_new (w : World) (n : Nat) (m : Ip4) (h : n = w.heap.size) : IpAt (w.alloc (.cells #[.int .u8 (m.a.toNat : Int), .int .u8 (m.b.toNat : Int), .int .u8 (m.c.toNat : Int), .int .u8 (m.d.toNat : Int)] 25)) n m := by rw [h]; exact heap_alloc_new w _
theorem IpAt.grow {w w' : World} {n : Nat} {m : Ip4} (h : IpAt w n m) (hb : Below w.heap.size w w') : IpAt w' n m := (hb.block n (lt_of_block h)).trans h
theorem IpAt.all {w : World} {n : Nat} {m : Ip4} (h : IpAt w n m) : w.cell? ⟨n, 0, none⟩ = some (.int .u8 (m.a.toNat : Int)) ∧ w.cell? ⟨n, 1, none⟩ = some (.int .u8 (m.b.toNat : Int)) ∧ w.cell? ⟨n, 2, none⟩ = some (.int .u8 (m.c.toNat : Int)) ∧ w.cell? ⟨n, 3, none⟩ = some (.int .u8 (m.d.toNat : Int)) := by
  refine ⟨?_, ?_, ?_, ?_⟩ <;> (rw [cell_of_block h]; rfl)
theorem MacAt.grow {w w' : World} {n : Nat} {m : Mac6} (h : MacAt w n m) (hb : Below w.heap.size w w') : MacAt w' n m := (hb.block n (lt_of_block h)).trans h
theorem MacAt.all {w : World} {n : Nat} {m : Mac6} (h : MacAt w n m) : w.cell? ⟨n, 0, none⟩ = some (.int .u8 (m.a.toNat : Int)) ∧ w.cell? ⟨n, 1, none⟩ = some (.int .u8 (m.b.toNat : Int)) ∧ w.cell? ⟨n, 2, none⟩ = some (.int .u8 (m.c.toNat : Int)) ∧ w.cell? ⟨n, 3, none⟩ = some (.int .u8 (m.d.toNat : Int)) ∧ w.cell? ⟨n, 4, none⟩ = some (.int .u8 (m.e.toNat : Int)) ∧ w.cell? ⟨n, 5, none⟩ = some (.int .u8 (m.f.toNat : Int)) := by
  refine ⟨?_, ?_, ?_, ?_, ?_, ?_⟩ <;> (rw [cell_of_block h]; rfl)

/-- What a call answers whose first result is a struct that lies in a block of its own, and whose second one is a slot. -/
theorem results_row {P : Program} (fn : Func) (a u : Nat) (t : TypeId) (hf : fn.results = #[.cell a t, .tmp u]) (tm : Array Value) (n : Nat) (cs : Array Value) (v : Value) (d : TypeDesc) (w : World)
    (ha : tm[a]?.getD undef = .pointer (some ⟨n, 0, none⟩)) (hu : tm[u]?.getD undef = v) (hb : w.heap[n]? = some (.cells cs t (0, 0))) (hd : P.underlying t = some d) (hr : (match d with | .struct _ | .array _ _ => true | _ => false) = true) (hi : (P.info? t).map (·.size) = some cs.size) :
    (results fn tm).run P w = .ok (.tuple #[.agg cs, v]) w := by
  have hl := run_loadVar_row (P := P) w n t t cs (0, 0) d hb hd hr hi
  unfold results
  rw [hf]
  simp [ha, hu, asAddr, hl]

set_option maxHeartbeats 400000 in
theorem known_any (w : World) (x : Int) :
    Calls Try.prog 30 #[.int .i64 x] w fun e w' => e = .returned (.bool (decide (x = 1 ∨ x = 2))) ∧ w = w' := by
  by_cases h1 : x = 1
  · subst h1
    go_enter Try.func30, Try.ntmps30
    go_wp2
    go_ret
    exact ⟨rfl, rfl⟩
  · have hx : (x == 1) = false := by simpa using h1
    have hd : decide (x = 1 ∨ x = 2) = (x == 2) := by by_cases h2 : x = 2 <;> simp [h1, h2]
    rw [hd]
    clear hd h1
    go_enter Try.func30, Try.ntmps30
    go_wp2
    go_ret
    exact ⟨rfl, rfl⟩

def pkZ : Pk := ⟨0, ⟨0, 0, 0, 0, 0, 0⟩, ⟨0, 0, 0, 0⟩, ⟨0, 0, 0, 0, 0, 0⟩, ⟨0, 0, 0, 0⟩⟩
/-- Whether a packet asks for an address; how it is answered. -/
def ask (f : Pk) (i : Ip4) : Bool := decide (f.op = 1 ∧ f.ti = i)
def ansP (f : Pk) (i : Ip4) (m : Mac6) : Pk := if ask f i then ⟨2, m, i, f.ma, f.ip⟩ else pkZ

set_option maxRecDepth 100000 in
set_option maxHeartbeats 4000000 in
theorem Answer_yes (w : World) (f : Pk) (i : Ip4) (m : Mac6) (h1 : f.op = 1) (h2 : f.ti = i) (cf : Array Value) (hcf : cf = #[.int .i64 f.op, .int .u8 (f.ma.a.toNat : Int), .int .u8 (f.ma.b.toNat : Int), .int .u8 (f.ma.c.toNat : Int), .int .u8 (f.ma.d.toNat : Int), .int .u8 (f.ma.e.toNat : Int), .int .u8 (f.ma.f.toNat : Int), .int .u8 (f.ip.a.toNat : Int), .int .u8 (f.ip.b.toNat : Int), .int .u8 (f.ip.c.toNat : Int), .int .u8 (f.ip.d.toNat : Int), .int .u8 (f.tm.a.toNat : Int), .int .u8 (f.tm.b.toNat : Int), .int .u8 (f.tm.c.toNat : Int), .int .u8 (f.tm.d.toNat : Int), .int .u8 (f.tm.e.toNat : Int), .int .u8 (f.tm.f.toNat : Int), .int .u8 (f.ti.a.toNat : Int), .int .u8 (f.ti.b.toNat : Int), .int .u8 (f.ti.c.toNat : Int), .int .u8 (f.ti.d.toNat : Int)]) :
    Calls Try.prog 9 #[.agg cf, .agg #[.int .u8 (i.a.toNat : Int), .int .u8 (i.b.toNat : Int), .int .u8 (i.c.toNat : Int), .int .u8 (i.d.toNat : Int)], .agg #[.int .u8 (m.a.toNat : Int), .int .u8 (m.b.toNat : Int), .int .u8 (m.c.toNat : Int), .int .u8 (m.d.toNat : Int), .int .u8 (m.e.toNat : Int), .int .u8 (m.f.toNat : Int)]] w fun e w' => e = .returned (.tuple #[.agg #[.int .i64 2, .int .u8 (m.a.toNat : Int), .int .u8 (m.b.toNat : Int), .int .u8 (m.c.toNat : Int), .int .u8 (m.d.toNat : Int), .int .u8 (m.e.toNat : Int), .int .u8 (m.f.toNat : Int), .int .u8 (i.a.toNat : Int), .int .u8 (i.b.toNat : Int), .int .u8 (i.c.toNat : Int), .int .u8 (i.d.toNat : Int), .int .u8 (f.ma.a.toNat : Int), .int .u8 (f.ma.b.toNat : Int), .int .u8 (f.ma.c.toNat : Int), .int .u8 (f.ma.d.toNat : Int), .int .u8 (f.ma.e.toNat : Int), .int .u8 (f.ma.f.toNat : Int), .int .u8 (f.ip.a.toNat : Int), .int .u8 (f.ip.b.toNat : Int), .int .u8 (f.ip.c.toNat : Int), .int .u8 (f.ip.d.toNat : Int)], .bool true]) ∧ Below w.heap.size w w' := by
  have he : ∀ w, (Op.equalIn 10000 25 (.agg #[.int .u8 (f.ti.a.toNat : Int), .int .u8 (f.ti.b.toNat : Int), .int .u8 (f.ti.c.toNat : Int), .int .u8 (f.ti.d.toNat : Int)]) (.agg #[.int .u8 (i.a.toNat : Int), .int .u8 (i.b.toNat : Int), .int .u8 (i.c.toNat : Int), .int .u8 (i.d.toNat : Int)])).run Try.prog w = .ok (decide (f.ti = i)) w := fun w => run_eql_ip w f.ti i
  rw [decide_eq_true h2] at he
  have hx : (f.op != 1) = false := by simpa using h1
  clear h1 h2
  have HCF := Lib.hid hcf
  clear hcf
  go_enter Try.func9, Try.ntmps9
  go_upto_region 1 with fail
  have RM : Hid (PkRoom ((((w.alloc (.cells cf 27)).alloc (.cells #[.int .u8 (i.a.toNat : Int), .int .u8 (i.b.toNat : Int), .int .u8 (i.c.toNat : Int), .int .u8 (i.d.toNat : Int)] 25)).alloc (.cells #[.int .u8 (m.a.toNat : Int), .int .u8 (m.b.toNat : Int), .int .u8 (m.c.toNat : Int), .int .u8 (m.d.toNat : Int), .int .u8 (m.e.toNat : Int), .int .u8 (m.f.toNat : Int)] 23)).alloc (.cells #[.int .i64 0, .int .u8 0, .int .u8 0, .int .u8 0, .int .u8 0, .int .u8 0, .int .u8 0, .int .u8 0, .int .u8 0, .int .u8 0, .int .u8 0, .int .u8 0, .int .u8 0, .int .u8 0, .int .u8 0, .int .u8 0, .int .u8 0, .int .u8 0, .int .u8 0, .int .u8 0, .int .u8 0] 27)) (w.heap.size + 1 + 1 + 1)) := Lib.hid (room_new _ _ _ rfl (by simp))
  have BL : Hid (Below w.heap.size w ((((w.alloc (.cells cf 27)).alloc (.cells #[.int .u8 (i.a.toNat : Int), .int .u8 (i.b.toNat : Int), .int .u8 (i.c.toNat : Int), .int .u8 (i.d.toNat : Int)] 25)).alloc (.cells #[.int .u8 (m.a.toNat : Int), .int .u8 (m.b.toNat : Int), .int .u8 (m.c.toNat : Int), .int .u8 (m.d.toNat : Int), .int .u8 (m.e.toNat : Int), .int .u8 (m.f.toNat : Int)] 23)).alloc (.cells #[.int .i64 0, .int .u8 0, .int .u8 0, .int .u8 0, .int .u8 0, .int .u8 0, .int .u8 0, .int .u8 0, .int .u8 0, .int .u8 0, .int .u8 0, .int .u8 0, .int .u8 0, .int .u8 0, .int .u8 0, .int .u8 0, .int .u8 0, .int .u8 0, .int .u8 0, .int .u8 0, .int .u8 0] 27))) := Lib.hid (((((Below.refl _ _).alloc (Nat.le_refl _) _).alloc (by simp) _).alloc (by simp <;> omega) _).alloc (by simp <;> omega) _)
  have F1 : Hid (PkAt ((((w.alloc (.cells cf 27)).alloc (.cells #[.int .u8 (i.a.toNat : Int), .int .u8 (i.b.toNat : Int), .int .u8 (i.c.toNat : Int), .int .u8 (i.d.toNat : Int)] 25)).alloc (.cells #[.int .u8 (m.a.toNat : Int), .int .u8 (m.b.toNat : Int), .int .u8 (m.c.toNat : Int), .int .u8 (m.d.toNat : Int), .int .u8 (m.e.toNat : Int), .int .u8 (m.f.toNat : Int)] 23)).alloc (.cells #[.int .i64 0, .int .u8 0, .int .u8 0, .int .u8 0, .int .u8 0, .int .u8 0, .int .u8 0, .int .u8 0, .int .u8 0, .int .u8 0, .int .u8 0, .int .u8 0, .int .u8 0, .int .u8 0, .int .u8 0, .int .u8 0, .int .u8 0, .int .u8 0, .int .u8 0, .int .u8 0, .int .u8 0] 27)) w.heap.size f) := Lib.hid (((PkAt.grow (by rw [HCF.out]; exact heap_alloc_new w _) ((Below.refl _ _).alloc (Nat.le_refl _) _)).grow ((Below.refl _ _).alloc (Nat.le_refl _) _)).grow ((Below.refl _ _).alloc (Nat.le_refl _) _))
  have F2 : Hid (IpAt ((((w.alloc (.cells cf 27)).alloc (.cells #[.int .u8 (i.a.toNat : Int), .int .u8 (i.b.toNat : Int), .int .u8 (i.c.toNat : Int), .int .u8 (i.d.toNat : Int)] 25)).alloc (.cells #[.int .u8 (m.a.toNat : Int), .int .u8 (m.b.toNat : Int), .int .u8 (m.c.toNat : Int), .int .u8 (m.d.toNat : Int), .int .u8 (m.e.toNat : Int), .int .u8 (m.f.toNat : Int)] 23)).alloc (.cells #[.int .i64 0, .int .u8 0, .int .u8 0, .int .u8 0, .int .u8 0, .int .u8 0, .int .u8 0, .int .u8 0, .int .u8 0, .int .u8 0, .int .u8 0, .int .u8 0, .int .u8 0, .int .u8 0, .int .u8 0, .int .u8 0, .int .u8 0, .int .u8 0, .int .u8 0, .int .u8 0, .int .u8 0] 27)) (w.heap.size + 1) i) := Lib.hid ((IpAt.grow (ip_new _ _ _ (by simp)) ((Below.refl _ _).alloc (Nat.le_refl _) _)).grow ((Below.refl _ _).alloc (Nat.le_refl _) _))
  have F3 : Hid (MacAt ((((w.alloc (.cells cf 27)).alloc (.cells #[.int .u8 (i.a.toNat : Int), .int .u8 (i.b.toNat : Int), .int .u8 (i.c.toNat : Int), .int .u8 (i.d.toNat : Int)] 25)).alloc (.cells #[.int .u8 (m.a.toNat : Int), .int .u8 (m.b.toNat : Int), .int .u8 (m.c.toNat : Int), .int .u8 (m.d.toNat : Int), .int .u8 (m.e.toNat : Int), .int .u8 (m.f.toNat : Int)] 23)).alloc (.cells #[.int .i64 0, .int .u8 0, .int .u8 0, .int .u8 0, .int .u8 0, .int .u8 0, .int .u8 0, .int .u8 0, .int .u8 0, .int .u8 0, .int .u8 0, .int .u8 0, .int .u8 0, .int .u8 0, .int .u8 0, .int .u8 0, .int .u8 0, .int .u8 0, .int .u8 0, .int .u8 0, .int .u8 0] 27)) (w.heap.size + 1 + 1) m) := Lib.hid (MacAt.grow (mac_new _ _ _ (by simp)) ((Below.refl _ _).alloc (Nat.le_refl _) _))
  generalize (((w.alloc _).alloc _).alloc _).alloc _ = W1 at RM BL F1 F2 F3 ⊢
  obtain ⟨n3, h3⟩ : ∃ n, n = w.heap.size + 1 + 1 + 1 := ⟨_, rfl⟩
  obtain ⟨n2, h2⟩ : ∃ n, n = w.heap.size + 1 + 1 := ⟨_, rfl⟩
  obtain ⟨n1, h1⟩ : ∃ n, n = w.heap.size + 1 := ⟨_, rfl⟩
  have hb : w.heap.size ≤ n3 := by omega
  rw [← h3] at RM ⊢
  rw [← h2] at F3 ⊢
  rw [← h1] at F2 ⊢
  clear h1 h2 h3
  obtain ⟨c0, ⟨c1, c2, c3, c4, c5, c6⟩, ⟨c7, c8, c9, c10⟩, -, ⟨c17, c18, c19, c20⟩⟩ := F1.out.all
  obtain ⟨d0, d1, d2, d3⟩ := F2.out.all
  obtain ⟨e0, e1, e2, e3, e4, e5⟩ := F3.out.all
  obtain ⟨hst, S6⟩ := RM.out.put ⟨2, m, i, f.ma, f.ip⟩
  have S6 := Lib.hid S6
  have B6 := Lib.hid (below_setRow BL.out hb #[.int .i64 2, .int .u8 (m.a.toNat : Int), .int .u8 (m.b.toNat : Int), .int .u8 (m.c.toNat : Int), .int .u8 (m.d.toNat : Int), .int .u8 (m.e.toNat : Int), .int .u8 (m.f.toNat : Int), .int .u8 (i.a.toNat : Int), .int .u8 (i.b.toNat : Int), .int .u8 (i.c.toNat : Int), .int .u8 (i.d.toNat : Int), .int .u8 (f.ma.a.toNat : Int), .int .u8 (f.ma.b.toNat : Int), .int .u8 (f.ma.c.toNat : Int), .int .u8 (f.ma.d.toNat : Int), .int .u8 (f.ma.e.toNat : Int), .int .u8 (f.ma.f.toNat : Int), .int .u8 (f.ip.a.toNat : Int), .int .u8 (f.ip.b.toNat : Int), .int .u8 (f.ip.c.toNat : Int), .int .u8 (f.ip.d.toNat : Int)])
  go_wp2_with (refine wpList_storeW 27 _ _ rfl rfl _ n3 rfl rfl hst ?_)
  refine bodyPost_ret (v := .tuple #[.agg #[.int .i64 2, .int .u8 (m.a.toNat : Int), .int .u8 (m.b.toNat : Int), .int .u8 (m.c.toNat : Int), .int .u8 (m.d.toNat : Int), .int .u8 (m.e.toNat : Int), .int .u8 (m.f.toNat : Int), .int .u8 (i.a.toNat : Int), .int .u8 (i.b.toNat : Int), .int .u8 (i.c.toNat : Int), .int .u8 (i.d.toNat : Int), .int .u8 (f.ma.a.toNat : Int), .int .u8 (f.ma.b.toNat : Int), .int .u8 (f.ma.c.toNat : Int), .int .u8 (f.ma.d.toNat : Int), .int .u8 (f.ma.e.toNat : Int), .int .u8 (f.ma.f.toNat : Int), .int .u8 (f.ip.a.toNat : Int), .int .u8 (f.ip.b.toNat : Int), .int .u8 (f.ip.c.toNat : Int), .int .u8 (f.ip.d.toNat : Int)], .bool true]) (results_row _ 6 7 27 (by kernel_rfl) _ n3 _ _ _ _ rfl rfl S6.out Try.underlying27 rfl (by kernel_rfl)) rfl ⟨rfl, B6.out⟩
set_option maxRecDepth 100000 in
set_option maxHeartbeats 4000000 in
theorem Answer_other (w : World) (f : Pk) (i : Ip4) (m : Mac6) (h1 : f.op = 1) (h2 : ¬ f.ti = i) (cf : Array Value) (hcf : cf = #[.int .i64 f.op, .int .u8 (f.ma.a.toNat : Int), .int .u8 (f.ma.b.toNat : Int), .int .u8 (f.ma.c.toNat : Int), .int .u8 (f.ma.d.toNat : Int), .int .u8 (f.ma.e.toNat : Int), .int .u8 (f.ma.f.toNat : Int), .int .u8 (f.ip.a.toNat : Int), .int .u8 (f.ip.b.toNat : Int), .int .u8 (f.ip.c.toNat : Int), .int .u8 (f.ip.d.toNat : Int), .int .u8 (f.tm.a.toNat : Int), .int .u8 (f.tm.b.toNat : Int), .int .u8 (f.tm.c.toNat : Int), .int .u8 (f.tm.d.toNat : Int), .int .u8 (f.tm.e.toNat : Int), .int .u8 (f.tm.f.toNat : Int), .int .u8 (f.ti.a.toNat : Int), .int .u8 (f.ti.b.toNat : Int), .int .u8 (f.ti.c.toNat : Int), .int .u8 (f.ti.d.toNat : Int)]) :
    Calls Try.prog 9 #[.agg cf, .agg #[.int .u8 (i.a.toNat : Int), .int .u8 (i.b.toNat : Int), .int .u8 (i.c.toNat : Int), .int .u8 (i.d.toNat : Int)], .agg #[.int .u8 (m.a.toNat : Int), .int .u8 (m.b.toNat : Int), .int .u8 (m.c.toNat : Int), .int .u8 (m.d.toNat : Int), .int .u8 (m.e.toNat : Int), .int .u8 (m.f.toNat : Int)]] w fun e w' => e = .returned (.tuple #[.agg #[.int .i64 0, .int .u8 0, .int .u8 0, .int .u8 0, .int .u8 0, .int .u8 0, .int .u8 0, .int .u8 0, .int .u8 0, .int .u8 0, .int .u8 0, .int .u8 0, .int .u8 0, .int .u8 0, .int .u8 0, .int .u8 0, .int .u8 0, .int .u8 0, .int .u8 0, .int .u8 0, .int .u8 0], .bool false]) ∧ Below w.heap.size w w' := by
  have he : ∀ w, (Op.equalIn 10000 25 (.agg #[.int .u8 (f.ti.a.toNat : Int), .int .u8 (f.ti.b.toNat : Int), .int .u8 (f.ti.c.toNat : Int), .int .u8 (f.ti.d.toNat : Int)]) (.agg #[.int .u8 (i.a.toNat : Int), .int .u8 (i.b.toNat : Int), .int .u8 (i.c.toNat : Int), .int .u8 (i.d.toNat : Int)])).run Try.prog w = .ok (decide (f.ti = i)) w := fun w => run_eql_ip w f.ti i
  rw [decide_eq_false h2] at he
  have hx : (f.op != 1) = false := by simpa using h1
  clear h1 h2
  have HCF := Lib.hid hcf
  clear hcf
  go_enter Try.func9, Try.ntmps9
  go_upto_region 1 with fail
  have RM : Hid (PkRoom ((((w.alloc (.cells cf 27)).alloc (.cells #[.int .u8 (i.a.toNat : Int), .int .u8 (i.b.toNat : Int), .int .u8 (i.c.toNat : Int), .int .u8 (i.d.toNat : Int)] 25)).alloc (.cells #[.int .u8 (m.a.toNat : Int), .int .u8 (m.b.toNat : Int), .int .u8 (m.c.toNat : Int), .int .u8 (m.d.toNat : Int), .int .u8 (m.e.toNat : Int), .int .u8 (m.f.toNat : Int)] 23)).alloc (.cells #[.int .i64 0, .int .u8 0, .int .u8 0, .int .u8 0, .int .u8 0, .int .u8 0, .int .u8 0, .int .u8 0, .int .u8 0, .int .u8 0, .int .u8 0, .int .u8 0, .int .u8 0, .int .u8 0, .int .u8 0, .int .u8 0, .int .u8 0, .int .u8 0, .int .u8 0, .int .u8 0, .int .u8 0] 27)) (w.heap.size + 1 + 1 + 1)) := Lib.hid (room_new _ _ _ rfl (by simp))
  have BL : Hid (Below w.heap.size w ((((w.alloc (.cells cf 27)).alloc (.cells #[.int .u8 (i.a.toNat : Int), .int .u8 (i.b.toNat : Int), .int .u8 (i.c.toNat : Int), .int .u8 (i.d.toNat : Int)] 25)).alloc (.cells #[.int .u8 (m.a.toNat : Int), .int .u8 (m.b.toNat : Int), .int .u8 (m.c.toNat : Int), .int .u8 (m.d.toNat : Int), .int .u8 (m.e.toNat : Int), .int .u8 (m.f.toNat : Int)] 23)).alloc (.cells #[.int .i64 0, .int .u8 0, .int .u8 0, .int .u8 0, .int .u8 0, .int .u8 0, .int .u8 0, .int .u8 0, .int .u8 0, .int .u8 0, .int .u8 0, .int .u8 0, .int .u8 0, .int .u8 0, .int .u8 0, .int .u8 0, .int .u8 0, .int .u8 0, .int .u8 0, .int .u8 0, .int .u8 0] 27))) := Lib.hid (((((Below.refl _ _).alloc (Nat.le_refl _) _).alloc (by simp) _).alloc (by simp <;> omega) _).alloc (by simp <;> omega) _)
  have F1 : Hid (PkAt ((((w.alloc (.cells cf 27)).alloc (.cells #[.int .u8 (i.a.toNat : Int), .int .u8 (i.b.toNat : Int), .int .u8 (i.c.toNat : Int), .int .u8 (i.d.toNat : Int)] 25)).alloc (.cells #[.int .u8 (m.a.toNat : Int), .int .u8 (m.b.toNat : Int), .int .u8 (m.c.toNat : Int), .int .u8 (m.d.toNat : Int), .int .u8 (m.e.toNat : Int), .int .u8 (m.f.toNat : Int)] 23)).alloc (.cells #[.int .i64 0, .int .u8 0, .int .u8 0, .int .u8 0, .int .u8 0, .int .u8 0, .int .u8 0, .int .u8 0, .int .u8 0, .int .u8 0, .int .u8 0, .int .u8 0, .int .u8 0, .int .u8 0, .int .u8 0, .int .u8 0, .int .u8 0, .int .u8 0, .int .u8 0, .int .u8 0, .int .u8 0] 27)) w.heap.size f) := Lib.hid (((PkAt.grow (by rw [HCF.out]; exact heap_alloc_new w _) ((Below.refl _ _).alloc (Nat.le_refl _) _)).grow ((Below.refl _ _).alloc (Nat.le_refl _) _)).grow ((Below.refl _ _).alloc (Nat.le_refl _) _))
  have F2 : Hid (IpAt ((((w.alloc (.cells cf 27)).alloc (.cells #[.int .u8 (i.a.toNat : Int), .int .u8 (i.b.toNat : Int), .int .u8 (i.c.toNat : Int), .int .u8 (i.d.toNat : Int)] 25)).alloc (.cells #[.int .u8 (m.a.toNat : Int), .int .u8 (m.b.toNat : Int), .int .u8 (m.c.toNat : Int), .int .u8 (m.d.toNat : Int), .int .u8 (m.e.toNat : Int), .int .u8 (m.f.toNat : Int)] 23)).alloc (.cells #[.int .i64 0, .int .u8 0, .int .u8 0, .int .u8 0, .int .u8 0, .int .u8 0, .int .u8 0, .int .u8 0, .int .u8 0, .int .u8 0, .int .u8 0, .int .u8 0, .int .u8 0, .int .u8 0, .int .u8 0, .int .u8 0, .int .u8 0, .int .u8 0, .int .u8 0, .int .u8 0, .int .u8 0] 27)) (w.heap.size + 1) i) := Lib.hid ((IpAt.grow (ip_new _ _ _ (by simp)) ((Below.refl _ _).alloc (Nat.le_refl _) _)).grow ((Below.refl _ _).alloc (Nat.le_refl _) _))
  have F3 : Hid (MacAt ((((w.alloc (.cells cf 27)).alloc (.cells #[.int .u8 (i.a.toNat : Int), .int .u8 (i.b.toNat : Int), .int .u8 (i.c.toNat : Int), .int .u8 (i.d.toNat : Int)] 25)).alloc (.cells #[.int .u8 (m.a.toNat : Int), .int .u8 (m.b.toNat : Int), .int .u8 (m.c.toNat : Int), .int .u8 (m.d.toNat : Int), .int .u8 (m.e.toNat : Int), .int .u8 (m.f.toNat : Int)] 23)).alloc (.cells #[.int .i64 0, .int .u8 0, .int .u8 0, .int .u8 0, .int .u8 0, .int .u8 0, .int .u8 0, .int .u8 0, .int .u8 0, .int .u8 0, .int .u8 0, .int .u8 0, .int .u8 0, .int .u8 0, .int .u8 0, .int .u8 0, .int .u8 0, .int .u8 0, .int .u8 0, .int .u8 0, .int .u8 0] 27)) (w.heap.size + 1 + 1) m) := Lib.hid (MacAt.grow (mac_new _ _ _ (by simp)) ((Below.refl _ _).alloc (Nat.le_refl _) _))
  generalize (((w.alloc _).alloc _).alloc _).alloc _ = W1 at RM BL F1 F2 F3 ⊢
  obtain ⟨n3, h3⟩ : ∃ n, n = w.heap.size + 1 + 1 + 1 := ⟨_, rfl⟩
  obtain ⟨n2, h2⟩ : ∃ n, n = w.heap.size + 1 + 1 := ⟨_, rfl⟩
  obtain ⟨n1, h1⟩ : ∃ n, n = w.heap.size + 1 := ⟨_, rfl⟩
  have hb : w.heap.size ≤ n3 := by omega
  rw [← h3] at RM ⊢
  rw [← h2] at F3 ⊢
  rw [← h1] at F2 ⊢
  clear h1 h2 h3
  obtain ⟨c0, ⟨c1, c2, c3, c4, c5, c6⟩, ⟨c7, c8, c9, c10⟩, -, ⟨c17, c18, c19, c20⟩⟩ := F1.out.all
  obtain ⟨d0, d1, d2, d3⟩ := F2.out.all
  obtain ⟨e0, e1, e2, e3, e4, e5⟩ := F3.out.all
  obtain ⟨hst, S6⟩ := RM.out.put pkZ
  have S6 := Lib.hid S6
  have B6 := Lib.hid (below_setRow BL.out hb #[.int .i64 0, .int .u8 0, .int .u8 0, .int .u8 0, .int .u8 0, .int .u8 0, .int .u8 0, .int .u8 0, .int .u8 0, .int .u8 0, .int .u8 0, .int .u8 0, .int .u8 0, .int .u8 0, .int .u8 0, .int .u8 0, .int .u8 0, .int .u8 0, .int .u8 0, .int .u8 0, .int .u8 0])
  go_wp2_with (refine wpList_storeW 27 _ _ rfl rfl _ n3 rfl rfl hst ?_)
  refine bodyPost_ret (v := .tuple #[.agg #[.int .i64 0, .int .u8 0, .int .u8 0, .int .u8 0, .int .u8 0, .int .u8 0, .int .u8 0, .int .u8 0, .int .u8 0, .int .u8 0, .int .u8 0, .int .u8 0, .int .u8 0, .int .u8 0, .int .u8 0, .int .u8 0, .int .u8 0, .int .u8 0, .int .u8 0, .int .u8 0, .int .u8 0], .bool false]) (results_row _ 6 7 27 (by kernel_rfl) _ n3 _ _ _ _ rfl rfl S6.out Try.underlying27 rfl (by kernel_rfl)) rfl ⟨rfl, B6.out⟩
set_option maxRecDepth 100000 in
set_option maxHeartbeats 4000000 in
theorem Answer_not (w : World) (f : Pk) (i : Ip4) (m : Mac6) (h1 : ¬ f.op = 1) (cf : Array Value) (hcf : cf = #[.int .i64 f.op, .int .u8 (f.ma.a.toNat : Int), .int .u8 (f.ma.b.toNat : Int), .int .u8 (f.ma.c.toNat : Int), .int .u8 (f.ma.d.toNat : Int), .int .u8 (f.ma.e.toNat : Int), .int .u8 (f.ma.f.toNat : Int), .int .u8 (f.ip.a.toNat : Int), .int .u8 (f.ip.b.toNat : Int), .int .u8 (f.ip.c.toNat : Int), .int .u8 (f.ip.d.toNat : Int), .int .u8 (f.tm.a.toNat : Int), .int .u8 (f.tm.b.toNat : Int), .int .u8 (f.tm.c.toNat : Int), .int .u8 (f.tm.d.toNat : Int), .int .u8 (f.tm.e.toNat : Int), .int .u8 (f.tm.f.toNat : Int), .int .u8 (f.ti.a.toNat : Int), .int .u8 (f.ti.b.toNat : Int), .int .u8 (f.ti.c.toNat : Int), .int .u8 (f.ti.d.toNat : Int)]) :
    Calls Try.prog 9 #[.agg cf, .agg #[.int .u8 (i.a.toNat : Int), .int .u8 (i.b.toNat : Int), .int .u8 (i.c.toNat : Int), .int .u8 (i.d.toNat : Int)], .agg #[.int .u8 (m.a.toNat : Int), .int .u8 (m.b.toNat : Int), .int .u8 (m.c.toNat : Int), .int .u8 (m.d.toNat : Int), .int .u8 (m.e.toNat : Int), .int .u8 (m.f.toNat : Int)]] w fun e w' => e = .returned (.tuple #[.agg #[.int .i64 0, .int .u8 0, .int .u8 0, .int .u8 0, .int .u8 0, .int .u8 0, .int .u8 0, .int .u8 0, .int .u8 0, .int .u8 0, .int .u8 0, .int .u8 0, .int .u8 0, .int .u8 0, .int .u8 0, .int .u8 0, .int .u8 0, .int .u8 0, .int .u8 0, .int .u8 0, .int .u8 0], .bool false]) ∧ Below w.heap.size w w' := by
  have hx : (f.op != 1) = true := by simpa using h1
  clear h1
  have HCF := Lib.hid hcf
  clear hcf
  go_enter Try.func9, Try.ntmps9
  go_upto_region 1 with fail
  have RM : Hid (PkRoom ((((w.alloc (.cells cf 27)).alloc (.cells #[.int .u8 (i.a.toNat : Int), .int .u8 (i.b.toNat : Int), .int .u8 (i.c.toNat : Int), .int .u8 (i.d.toNat : Int)] 25)).alloc (.cells #[.int .u8 (m.a.toNat : Int), .int .u8 (m.b.toNat : Int), .int .u8 (m.c.toNat : Int), .int .u8 (m.d.toNat : Int), .int .u8 (m.e.toNat : Int), .int .u8 (m.f.toNat : Int)] 23)).alloc (.cells #[.int .i64 0, .int .u8 0, .int .u8 0, .int .u8 0, .int .u8 0, .int .u8 0, .int .u8 0, .int .u8 0, .int .u8 0, .int .u8 0, .int .u8 0, .int .u8 0, .int .u8 0, .int .u8 0, .int .u8 0, .int .u8 0, .int .u8 0, .int .u8 0, .int .u8 0, .int .u8 0, .int .u8 0] 27)) (w.heap.size + 1 + 1 + 1)) := Lib.hid (room_new _ _ _ rfl (by simp))
  have BL : Hid (Below w.heap.size w ((((w.alloc (.cells cf 27)).alloc (.cells #[.int .u8 (i.a.toNat : Int), .int .u8 (i.b.toNat : Int), .int .u8 (i.c.toNat : Int), .int .u8 (i.d.toNat : Int)] 25)).alloc (.cells #[.int .u8 (m.a.toNat : Int), .int .u8 (m.b.toNat : Int), .int .u8 (m.c.toNat : Int), .int .u8 (m.d.toNat : Int), .int .u8 (m.e.toNat : Int), .int .u8 (m.f.toNat : Int)] 23)).alloc (.cells #[.int .i64 0, .int .u8 0, .int .u8 0, .int .u8 0, .int .u8 0, .int .u8 0, .int .u8 0, .int .u8 0, .int .u8 0, .int .u8 0, .int .u8 0, .int .u8 0, .int .u8 0, .int .u8 0, .int .u8 0, .int .u8 0, .int .u8 0, .int .u8 0, .int .u8 0, .int .u8 0, .int .u8 0] 27))) := Lib.hid (((((Below.refl _ _).alloc (Nat.le_refl _) _).alloc (by simp) _).alloc (by simp <;> omega) _).alloc (by simp <;> omega) _)
  have F1 : Hid (PkAt ((((w.alloc (.cells cf 27)).alloc (.cells #[.int .u8 (i.a.toNat : Int), .int .u8 (i.b.toNat : Int), .int .u8 (i.c.toNat : Int), .int .u8 (i.d.toNat : Int)] 25)).alloc (.cells #[.int .u8 (m.a.toNat : Int), .int .u8 (m.b.toNat : Int), .int .u8 (m.c.toNat : Int), .int .u8 (m.d.toNat : Int), .int .u8 (m.e.toNat : Int), .int .u8 (m.f.toNat : Int)] 23)).alloc (.cells #[.int .i64 0, .int .u8 0, .int .u8 0, .int .u8 0, .int .u8 0, .int .u8 0, .int .u8 0, .int .u8 0, .int .u8 0, .int .u8 0, .int .u8 0, .int .u8 0, .int .u8 0, .int .u8 0, .int .u8 0, .int .u8 0, .int .u8 0, .int .u8 0, .int .u8 0, .int .u8 0, .int .u8 0] 27)) w.heap.size f) := Lib.hid (((PkAt.grow (by rw [HCF.out]; exact heap_alloc_new w _) ((Below.refl _ _).alloc (Nat.le_refl _) _)).grow ((Below.refl _ _).alloc (Nat.le_refl _) _)).grow ((Below.refl _ _).alloc (Nat.le_refl _) _))
  have F2 : Hid (IpAt ((((w.alloc (.cells cf 27)).alloc (.cells #[.int .u8 (i.a.toNat : Int), .int .u8 (i.b.toNat : Int), .int .u8 (i.c.toNat : Int), .int .u8 (i.d.toNat : Int)] 25)).alloc (.cells #[.int .u8 (m.a.toNat : Int), .int .u8 (m.b.toNat : Int), .int .u8 (m.c.toNat : Int), .int .u8 (m.d.toNat : Int), .int .u8 (m.e.toNat : Int), .int .u8 (m.f.toNat : Int)] 23)).alloc (.cells #[.int .i64 0, .int .u8 0, .int .u8 0, .int .u8 0, .int .u8 0, .int .u8 0, .int .u8 0, .int .u8 0, .int .u8 0, .int .u8 0, .int .u8 0, .int .u8 0, .int .u8 0, .int .u8 0, .int .u8 0, .int .u8 0, .int .u8 0, .int .u8 0, .int .u8 0, .int .u8 0, .int .u8 0] 27)) (w.heap.size + 1) i) := Lib.hid ((IpAt.grow (ip_new _ _ _ (by simp)) ((Below.refl _ _).alloc (Nat.le_refl _) _)).grow ((Below.refl _ _).alloc (Nat.le_refl _) _))
  have F3 : Hid (MacAt ((((w.alloc (.cells cf 27)).alloc (.cells #[.int .u8 (i.a.toNat : Int), .int .u8 (i.b.toNat : Int), .int .u8 (i.c.toNat : Int), .int .u8 (i.d.toNat : Int)] 25)).alloc (.cells #[.int .u8 (m.a.toNat : Int), .int .u8 (m.b.toNat : Int), .int .u8 (m.c.toNat : Int), .int .u8 (m.d.toNat : Int), .int .u8 (m.e.toNat : Int), .int .u8 (m.f.toNat : Int)] 23)).alloc (.cells #[.int .i64 0, .int .u8 0, .int .u8 0, .int .u8 0, .int .u8 0, .int .u8 0, .int .u8 0, .int .u8 0, .int .u8 0, .int .u8 0, .int .u8 0, .int .u8 0, .int .u8 0, .int .u8 0, .int .u8 0, .int .u8 0, .int .u8 0, .int .u8 0, .int .u8 0, .int .u8 0, .int .u8 0] 27)) (w.heap.size + 1 + 1) m) := Lib.hid (MacAt.grow (mac_new _ _ _ (by simp)) ((Below.refl _ _).alloc (Nat.le_refl _) _))
  generalize (((w.alloc _).alloc _).alloc _).alloc _ = W1 at RM BL F1 F2 F3 ⊢
  obtain ⟨n3, h3⟩ : ∃ n, n = w.heap.size + 1 + 1 + 1 := ⟨_, rfl⟩
  obtain ⟨n2, h2⟩ : ∃ n, n = w.heap.size + 1 + 1 := ⟨_, rfl⟩
  obtain ⟨n1, h1⟩ : ∃ n, n = w.heap.size + 1 := ⟨_, rfl⟩
  have hb : w.heap.size ≤ n3 := by omega
  rw [← h3] at RM ⊢
  rw [← h2] at F3 ⊢
  rw [← h1] at F2 ⊢
  clear h1 h2 h3
  obtain ⟨c0, ⟨c1, c2, c3, c4, c5, c6⟩, ⟨c7, c8, c9, c10⟩, -, ⟨c17, c18, c19, c20⟩⟩ := F1.out.all
  obtain ⟨d0, d1, d2, d3⟩ := F2.out.all
  obtain ⟨e0, e1, e2, e3, e4, e5⟩ := F3.out.all
  obtain ⟨hst, S6⟩ := RM.out.put pkZ
  have S6 := Lib.hid S6
  have B6 := Lib.hid (below_setRow BL.out hb #[.int .i64 0, .int .u8 0, .int .u8 0, .int .u8 0, .int .u8 0, .int .u8 0, .int .u8 0, .int .u8 0, .int .u8 0, .int .u8 0, .int .u8 0, .int .u8 0, .int .u8 0, .int .u8 0, .int .u8 0, .int .u8 0, .int .u8 0, .int .u8 0, .int .u8 0, .int .u8 0, .int .u8 0])
  go_wp2_with (refine wpList_storeW 27 _ _ rfl rfl _ n3 rfl rfl hst ?_)
  refine bodyPost_ret (v := .tuple #[.agg #[.int .i64 0, .int .u8 0, .int .u8 0, .int .u8 0, .int .u8 0, .int .u8 0, .int .u8 0, .int .u8 0, .int .u8 0, .int .u8 0, .int .u8 0, .int .u8 0, .int .u8 0, .int .u8 0, .int .u8 0, .int .u8 0, .int .u8 0, .int .u8 0, .int .u8 0, .int .u8 0, .int .u8 0], .bool false]) (results_row _ 6 7 27 (by kernel_rfl) _ n3 _ _ _ _ rfl rfl S6.out Try.underlying27 rfl (by kernel_rfl)) rfl ⟨rfl, B6.out⟩
theorem Answer_any (w : World) (f : Pk) (i : Ip4) (m : Mac6) (R : Pk) (hR : R = ansP f i m) :
    Calls Try.prog 9 #[.agg #[.int .i64 f.op, .int .u8 (f.ma.a.toNat : Int), .int .u8 (f.ma.b.toNat : Int), .int .u8 (f.ma.c.toNat : Int), .int .u8 (f.ma.d.toNat : Int), .int .u8 (f.ma.e.toNat : Int), .int .u8 (f.ma.f.toNat : Int), .int .u8 (f.ip.a.toNat : Int), .int .u8 (f.ip.b.toNat : Int), .int .u8 (f.ip.c.toNat : Int), .int .u8 (f.ip.d.toNat : Int), .int .u8 (f.tm.a.toNat : Int), .int .u8 (f.tm.b.toNat : Int), .int .u8 (f.tm.c.toNat : Int), .int .u8 (f.tm.d.toNat : Int), .int .u8 (f.tm.e.toNat : Int), .int .u8 (f.tm.f.toNat : Int), .int .u8 (f.ti.a.toNat : Int), .int .u8 (f.ti.b.toNat : Int), .int .u8 (f.ti.c.toNat : Int), .int .u8 (f.ti.d.toNat : Int)], .agg #[.int .u8 (i.a.toNat : Int), .int .u8 (i.b.toNat : Int), .int .u8 (i.c.toNat : Int), .int .u8 (i.d.toNat : Int)], .agg #[.int .u8 (m.a.toNat : Int), .int .u8 (m.b.toNat : Int), .int .u8 (m.c.toNat : Int), .int .u8 (m.d.toNat : Int), .int .u8 (m.e.toNat : Int), .int .u8 (m.f.toNat : Int)]] w fun e w' => e = .returned (.tuple #[.agg #[.int .i64 R.op, .int .u8 (R.ma.a.toNat : Int), .int .u8 (R.ma.b.toNat : Int), .int .u8 (R.ma.c.toNat : Int), .int .u8 (R.ma.d.toNat : Int), .int .u8 (R.ma.e.toNat : Int), .int .u8 (R.ma.f.toNat : Int), .int .u8 (R.ip.a.toNat : Int), .int .u8 (R.ip.b.toNat : Int), .int .u8 (R.ip.c.toNat : Int), .int .u8 (R.ip.d.toNat : Int), .int .u8 (R.tm.a.toNat : Int), .int .u8 (R.tm.b.toNat : Int), .int .u8 (R.tm.c.toNat : Int), .int .u8 (R.tm.d.toNat : Int), .int .u8 (R.tm.e.toNat : Int), .int .u8 (R.tm.f.toNat : Int), .int .u8 (R.ti.a.toNat : Int), .int .u8 (R.ti.b.toNat : Int), .int .u8 (R.ti.c.toNat : Int), .int .u8 (R.ti.d.toNat : Int)], .bool (ask f i)]) ∧ Below w.heap.size w w' := by
  by_cases h1 : f.op = 1
  · by_cases h2 : f.ti = i
    · have hq : ask f i = true := by simp [ask, h1, h2]
      have hP : R = ⟨2, m, i, f.ma, f.ip⟩ := by rw [hR, ansP, hq]; rfl
      subst hP
      rw [hq]
      exact Answer_yes w f i m h1 h2 _ rfl
    · have hq : ask f i = false := by simp [ask, h2]
      have hP : R = pkZ := by rw [hR, ansP, hq]; rfl
      subst hP
      rw [hq]
      exact Answer_other w f i m h1 h2 _ rfl
  · have hq : ask f i = false := by simp [ask, h1]
    have hP : R = pkZ := by rw [hR, ansP, hq]; rfl
    subst hP
    rw [hq]
    exact Answer_not w f i m h1 _ rfl

end Go.Proofs.Ytolegdjdppaeoaa
