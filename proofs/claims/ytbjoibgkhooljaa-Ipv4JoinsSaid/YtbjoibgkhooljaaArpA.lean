/-
  Layer 7: Internet addresses and packets as values; two of a kind are equal in Go just if they are the same. Conditions: a packet's kind is a number of its kind.
-/
import Derived.Test.YtbjoibgkhooljaaEthA
namespace Go.Proofs.Ytbjoibgkhooljaa
open Go.RowKit

/-- An address of four bytes. -/
structure Ip4 where
  a : UInt8
  b : UInt8
  c : UInt8
  d : UInt8
def Ip4.list (m : Ip4) : List UInt8 := [m.a, m.b, m.c, m.d]
theorem Ip4.same {x y : Ip4} (h : x.list = y.list) : x = y := by
  cases x; cases y
  simp only [Ip4.list, List.cons.injEq, and_true] at h
  obtain ⟨rfl, rfl, rfl, rfl⟩ := h
  rfl
instance : DecidableEq Ip4 := fun x y => decidable_of_iff (x.list = y.list) ⟨Ip4.same, fun h => by rw [h]⟩

/-- A packet. -/
structure Pk where
  op : Int
  ma : Mac6
  ip : Ip4
  tm : Mac6
  ti : Ip4
theorem Pk.same {x y : Pk} (h : x.op = y.op ∧ x.ma = y.ma ∧ x.ip = y.ip ∧ x.tm = y.tm ∧ x.ti = y.ti) : x = y := by
  cases x; cases y
  obtain ⟨rfl, rfl, rfl, rfl, rfl⟩ := h
  rfl
instance : DecidableEq Pk := fun x y => decidable_of_iff (x.op = y.op ∧ x.ma = y.ma ∧ x.ip = y.ip ∧ x.tm = y.tm ∧ x.ti = y.ti) ⟨Pk.same, fun h => by rw [h]; exact ⟨rfl, rfl, rfl, rfl, rfl⟩⟩

def Ip4.lits (m : Ip4) : List Lit := m.list.map fun x => .int .u8 (x.toNat : Int)
theorem Ip4.lits_inj {x y : Ip4} : x.lits = y.lits ↔ x = y := by
  constructor
  · intro h
    apply Ip4.same
    simp only [Ip4.lits, Ip4.list, List.map_cons, List.map_nil, List.cons.injEq, Lit.int.injEq, true_and, and_true, nat_u8] at h ⊢
    exact h
  · rintro rfl; rfl
theorem cells_ip : Try.prog.cellsOf 33 = 4 := by kernel_rfl
theorem ip_lits (m : Ip4) (d : Nat) : Try.prog.keyLits (d + 2) 33 [.int .u8 (m.a.toNat : Int), .int .u8 (m.b.toNat : Int), .int .u8 (m.c.toNat : Int), .int .u8 (m.d.toNat : Int)] = some m.lits := by
  unfold Program.keyLits
  simp only [Try.underlying33, cells_ip, cells_byte]
  simp [List.range_succ, lits_byte, Ip4.lits, Ip4.list]
theorem key_ip : Try.prog.keyTypeAt 2 33 = true := by kernel_rfl

theorem run_eql_ip (w : World) (x y : Ip4) : (Op.equalIn 10000 33 (.agg #[.int .u8 (x.a.toNat : Int), .int .u8 (x.b.toNat : Int), .int .u8 (x.c.toNat : Int), .int .u8 (x.d.toNat : Int)]) (.agg #[.int .u8 (y.a.toNat : Int), .int .u8 (y.b.toNat : Int), .int .u8 (y.c.toNat : Int), .int .u8 (y.d.toNat : Int)])).run Try.prog w = .ok (decide (x = y)) w := by
  obtain ⟨r, hr, hi⟩ := run_equalIn_deep (P := Try.prog) 9998 2 33 key_ip w 2 2 (.agg #[.int .u8 (x.a.toNat : Int), .int .u8 (x.b.toNat : Int), .int .u8 (x.c.toNat : Int), .int .u8 (x.d.toNat : Int)]) (.agg #[.int .u8 (y.a.toNat : Int), .int .u8 (y.b.toNat : Int), .int .u8 (y.c.toNat : Int), .int .u8 (y.d.toNat : Int)]) _ _ (by kernel_rfl) (by kernel_rfl) (ip_lits x 0) (ip_lits y 0)
  rw [hr]
  rw [Ip4.lits_inj] at hi
  have : r = decide (x = y) := by rw [Bool.eq_iff_iff, hi]; simp
  rw [this]

/-- A packet as Go's own values. -/
def Pk.ok (f : Pk) : Prop := (Lit.int .i64 f.op).wf = true
def Pk.lits (f : Pk) : List Lit := .int .i64 f.op :: (f.ma.lits ++ f.ip.lits ++ f.tm.lits ++ f.ti.lits)
theorem lits_len4 (m : Ip4) : m.lits.length = 4 := rfl
theorem Pk.lits_inj {x y : Pk} : x.lits = y.lits ↔ x = y := by
  constructor
  · intro h
    simp only [Pk.lits, List.cons.injEq, Lit.int.injEq, true_and] at h
    have h1 := List.append_inj h.2 (by simp [lits_len, lits_len4])
    have h2 := List.append_inj h1.1 (by simp [lits_len, lits_len4])
    have h3 := List.append_inj h2.1 (by simp [lits_len])
    exact Pk.same ⟨h.1, Mac6.lits_inj.1 h3.1, Ip4.lits_inj.1 h3.2, Mac6.lits_inj.1 h2.2, Ip4.lits_inj.1 h1.2⟩
  · rintro rfl; rfl


end Go.Proofs.Ytbjoibgkhooljaa
