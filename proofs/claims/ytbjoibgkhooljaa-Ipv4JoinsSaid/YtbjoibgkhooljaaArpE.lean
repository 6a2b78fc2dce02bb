/-
  Layer 7: packets kept closed; the statements' example, and that the program is awake. Conditions: as said.
-/
import Derived.Test.YtbjoibgkhooljaaArpD
import Derived.Test.YtbjoibgkhooljaaKeep
namespace Go.Proofs.Ytbjoibgkhooljaa
open Go.RowKit Go.Sort
set_option linter.unusedVariables false

theorem below_step {w W W' : World} (h : Hid (Below w.heap.size w W)) (hb : Below W.heap.size W W') : Hid (Below w.heap.size w W') := Lib.hid (h.out.trans (hb.mono h.out.size))
/-- The cells of a packet, kept closed. -/
def pkC (f : Pk) : Array Value := #[.int .i64 f.op, .int .u8 (f.ma.a.toNat : Int), .int .u8 (f.ma.b.toNat : Int), .int .u8 (f.ma.c.toNat : Int), .int .u8 (f.ma.d.toNat : Int), .int .u8 (f.ma.e.toNat : Int), .int .u8 (f.ma.f.toNat : Int), .int .u8 (f.ip.a.toNat : Int), .int .u8 (f.ip.b.toNat : Int), .int .u8 (f.ip.c.toNat : Int), .int .u8 (f.ip.d.toNat : Int), .int .u8 (f.tm.a.toNat : Int), .int .u8 (f.tm.b.toNat : Int), .int .u8 (f.tm.c.toNat : Int), .int .u8 (f.tm.d.toNat : Int), .int .u8 (f.tm.e.toNat : Int), .int .u8 (f.tm.f.toNat : Int), .int .u8 (f.ti.a.toNat : Int), .int .u8 (f.ti.b.toNat : Int), .int .u8 (f.ti.c.toNat : Int), .int .u8 (f.ti.d.toNat : Int)]
theorem pkC_one (f : Pk) : (pkC f).all (·.oneCell') = true := by simp [pkC, Value.oneCell']
/-- What a call answers that is a struct in a block of its own. -/
theorem results_row1 {P : Program} (fn : Func) (a : Nat) (t : TypeId) (hf : fn.results = #[.cell a t]) (tm : Array Value) (n : Nat) (cs : Array Value) (d : TypeDesc) (w : World)
    (ha : tm[a]?.getD undef = .pointer (some ⟨n, 0, none⟩)) (hb : w.heap[n]? = some (.cells cs t (0, 0))) (hd : P.underlying t = some d) (hr : (match d with | .struct _ | .array _ _ => true | _ => false) = true) (hi : (P.info? t).map (·.size) = some cs.size) :
    (results fn tm).run P w = .ok (.agg cs) w := by
  have hl := run_loadVar_row (P := P) w n t t cs (0, 0) d hb hd hr hi
  unfold results
  rw [hf]
  simp [ha, asAddr, hl]


/-- The chapter's packet. -/
def exP : Pk := ⟨1, ⟨2, 0, 0, 0, 0, 1⟩, ⟨10, 0, 0, 1⟩, ⟨0, 0, 0, 0, 0, 0⟩, ⟨10, 0, 0, 2⟩⟩
theorem exP_ok : exP.ok := by show (Lit.int .i64 1).wf = true; decide
theorem ex_pbytes : pkS exP = ⟨#[0, 1, 8, 0, 6, 4, 0, 1, 2, 0, 0, 0, 0, 1, 10, 0, 0, 1, 0, 0, 0, 0, 0, 0, 10, 0, 0, 2]⟩ := by decide +kernel
theorem ex_perr : pkE exP = 0 := by decide +kernel
theorem ex_pread : rkR ⟨#[0, 1, 8, 0, 6, 4, 0, 1, 2, 0, 0, 0, 0, 1, 10, 0, 0, 1, 0, 0, 0, 0, 0, 0, 10, 0, 0, 2]⟩ = exP := by decide +kernel
theorem ex_prerr : rkE ⟨#[0, 1, 8, 0, 6, 4, 0, 1, 2, 0, 0, 0, 0, 1, 10, 0, 0, 1, 0, 0, 0, 0, 0, 0, 10, 0, 0, 2]⟩ = 0 := by decide +kernel
section
variable {ops : Array Oper} {rest : List Oper} {S : World → Prop} {o : Oper} {a : Act} {w : World} {Q : Exit → Act → World → Prop}
theorem guard_ip : Try.prog.eqGuardType Try.prog.depth 33 = false := by kernel_rfl
end


end Go.Proofs.Ytbjoibgkhooljaa
