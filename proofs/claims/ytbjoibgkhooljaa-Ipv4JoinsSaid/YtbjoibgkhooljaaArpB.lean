/-
  Layer 7: a packet in memory; Answer; a packet's bytes. Conditions: a packet's kind is a number of its kind.
-/
import Derived.Test.YtbjoibgkhooljaaArpA
import Derived.Test.YtbjoibgkhooljaaEthG
namespace Go.Proofs.Ytbjoibgkhooljaa
open Go.RowKit Go.Sort
set_option linter.unusedVariables false

theorem ip_len (m : Ip4) : m.list.length = 4 := rfl
/-- What all packets begin with. -/
def hd6 : List UInt8 := [0, 1, 8, 0, 6, 4]
section
variable {w w' : World} {n : Nat} {f : Pk}
end

/-- An Internet address that lies in a block of its own. -/
def IpAt (w : World) (n : Nat) (m : Ip4) : Prop := w.heap[n]? = some (.cells #[.int .u8 (m.a.toNat : Int), .int .u8 (m.b.toNat : Int), .int .u8 (m.c.toNat : Int), .int .u8 (m.d.toNat : Int)] 33 (0, 0))
theorem ip_new (w : World) (n : Nat) (m : Ip4) (h : n = w.heap.size) : IpAt (w.alloc (.cells #[.int .u8 (m.a.toNat : Int), .int .u8 (m.b.toNat : Int), .int .u8 (m.c.toNat : Int), .int .u8 (m.d.toNat : Int)] 33)) n m := by rw [h]; exact heap_alloc_new w _
theorem IpAt.grow {w w' : World} {n : Nat} {m : Ip4} (h : IpAt w n m) (hb : Below w.heap.size w w') : IpAt w' n m := (hb.block n (lt_of_block h)).trans h
theorem IpAt.all {w : World} {n : Nat} {m : Ip4} (h : IpAt w n m) : w.cell? ⟨n, 0, none⟩ = some (.int .u8 (m.a.toNat : Int)) ∧ w.cell? ⟨n, 1, none⟩ = some (.int .u8 (m.b.toNat : Int)) ∧ w.cell? ⟨n, 2, none⟩ = some (.int .u8 (m.c.toNat : Int)) ∧ w.cell? ⟨n, 3, none⟩ = some (.int .u8 (m.d.toNat : Int)) := by
  refine ⟨?_, ?_, ?_, ?_⟩ <;> (rw [cell_of_block h]; rfl)

/-- What a call answers whose first result is a struct that lies in a block of its own, and whose second one is a slot. -/
theorem results_row {P : Program} (fn : Func) (a u : Nat) (t : TypeId) (hf : fn.results = #[.cell a t, .tmp u]) (tm : Array Value) (n : Nat) (cs : Array Value) (v : Value) (d : TypeDesc) (w : World)
    (ha : tm[a]?.getD undef = .pointer (some ⟨n, 0, none⟩)) (hu : tm[u]?.getD undef = v) (hb : w.heap[n]? = some (.cells cs t (0, 0))) (hd : P.underlying t = some d) (hr : (match d with | .struct _ | .array _ _ => true | _ => false) = true) (hi : (P.info? t).map (·.size) = some cs.size) :
    (results fn tm).run P w = .ok (.tuple #[.agg cs, v]) w := by
  have hl := run_loadVar_row (P := P) w n t t cs (0, 0) d hb hd hr hi
  unfold results
  rw [hf]
  simp [ha, hu, asAddr, hl]


def pkZ : Pk := ⟨0, ⟨0, 0, 0, 0, 0, 0⟩, ⟨0, 0, 0, 0⟩, ⟨0, 0, 0, 0, 0, 0⟩, ⟨0, 0, 0, 0⟩⟩
/-- Whether a packet asks for an address; how it is answered. -/
def ask (f : Pk) (i : Ip4) : Bool := decide (f.op = 1 ∧ f.ti = i)
def ansP (f : Pk) (i : Ip4) (m : Mac6) : Pk := if ask f i then ⟨2, m, i, f.ma, f.ip⟩ else pkZ


end Go.Proofs.Ytbjoibgkhooljaa
