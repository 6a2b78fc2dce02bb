/-
  Layer 6: addresses and frames as values; two of a kind are equal in Go just if they are the same. Conditions: a frame's data is no longer than a string may be, its type is a number of its kind.
-/
import Derived.Test.YtlajalfalepbhaaBytes
import Derived.Test.YtlajalfalepbhaaCalls
import Derived.DeepKeys
import Derived.Lib.BufferWrite
import Derived.Deep.RegionHeld3
import Derived.Deep.QuietTactic
import Derived.BigQuiet
namespace Go.Proofs.Ytlajalfalepbhaa
open Go.RowKit

/-- An address of six bytes. -/
structure Mac6 where
  a : UInt8
  b : UInt8
  c : UInt8
  d : UInt8
  e : UInt8
  f : UInt8
def Mac6.list (m : Mac6) : List UInt8 := [m.a, m.b, m.c, m.d, m.e, m.f]
theorem Mac6.same {x y : Mac6} (h : x.list = y.list) : x = y := by
  cases x; cases y
  simp only [Mac6.list, List.cons.injEq, and_true] at h
  obtain ⟨rfl, rfl, rfl, rfl, rfl, rfl⟩ := h
  rfl
instance : DecidableEq Mac6 := fun x y => decidable_of_iff (x.list = y.list) ⟨Mac6.same, fun h => by rw [h]⟩

/-- A frame. -/
structure Fr where
  to : Mac6
  fr : Mac6
  ty : Int
  da : ByteArray
theorem Fr.same {x y : Fr} (h : x.to = y.to ∧ x.fr = y.fr ∧ x.ty = y.ty ∧ x.da = y.da) : x = y := by
  cases x; cases y
  obtain ⟨rfl, rfl, rfl, rfl⟩ := h
  rfl
instance : DecidableEq Fr := fun x y => decidable_of_iff (x.to = y.to ∧ x.fr = y.fr ∧ x.ty = y.ty ∧ x.da = y.da) ⟨Fr.same, fun h => by rw [h]; exact ⟨rfl, rfl, rfl, rfl⟩⟩

theorem nat_u8 {x y : UInt8} : ((x.toNat : Int) = (y.toNat : Int)) ↔ x = y := by
  rw [Int.natCast_inj, UInt8.toNat_inj]
theorem wf_byte (x : UInt8) : (Lit.int .u8 (x.toNat : Int)).wf = true := by
  have := x.toNat_lt
  exact Go.WalkArith.wf_u8 ⟨by omega, by omega⟩

def Mac6.lits (m : Mac6) : List Lit := m.list.map fun x => .int .u8 (x.toNat : Int)
theorem Mac6.lits_inj {x y : Mac6} : x.lits = y.lits ↔ x = y := by
  constructor
  · intro h
    apply Mac6.same
    simp only [Mac6.lits, Mac6.list, List.map_cons, List.map_nil, List.cons.injEq, Lit.int.injEq, true_and, and_true, nat_u8] at h ⊢
    exact h
  · rintro rfl; rfl
theorem cells_byte : Try.prog.cellsOf 5 = 1 := by kernel_rfl
theorem lits_byte (x : UInt8) (d : Nat) : Try.prog.keyLits (d + 1) 5 [.int .u8 (x.toNat : Int)] = some [.int .u8 (x.toNat : Int)] := by
  simp [Program.keyLits, Try.underlying5, wf_byte x]


/-- A frame as Go's own values: a type that is a number of its kind, data of a string's length. -/
def Fr.ok (f : Fr) : Prop := (Lit.int .i64 f.ty).wf = true ∧ f.da.size ≤ maxLen
def Fr.lits (f : Fr) : List Lit := f.to.lits ++ f.fr.lits ++ [.int .i64 f.ty, .string f.da.data.toList]
theorem lits_len (m : Mac6) : m.lits.length = 6 := rfl
theorem Fr.lits_inj {x y : Fr} : x.lits = y.lits ↔ x = y := by
  constructor
  · intro h
    have h1 := List.append_inj h (by simp [lits_len])
    have h2 := List.append_inj h1.1 (by simp [lits_len])
    have h3 := h1.2
    simp only [List.cons.injEq, Lit.int.injEq, Lit.string.injEq, true_and, and_true] at h3
    refine Fr.same ⟨Mac6.lits_inj.1 h2.1, Mac6.lits_inj.1 h2.2, h3.1, ?_⟩
    have h4 := h3.2
    rw [Array.toList_inj] at h4
    exact ByteArray.ext h4
  · rintro rfl; rfl
theorem cells_int : Try.prog.cellsOf 3 = 1 := by kernel_rfl
theorem cells_str : Try.prog.cellsOf 9 = 1 := by kernel_rfl
theorem lits_int (x : Int) (h : (Lit.int .i64 x).wf = true) (d : Nat) : Try.prog.keyLits (d + 1) 3 [.int .i64 x] = some [.int .i64 x] := by
  simp [Program.keyLits, Try.underlying3, h]
theorem lits_str (s : ByteArray) (h : s.size ≤ maxLen) (d : Nat) : Try.prog.keyLits (d + 1) 9 [.string s] = some [.string s.data.toList] := by
  simp [Program.keyLits, Try.underlying9, h]

/-- A copy of more bytes than there is room for. -/
theorem run_copy_part {P : Program} (w : World) (dT sT ty elem : TypeId) (g o dLen dCap : Nat) (s : ByteArray) (cur : Array Value) (t : TypeId)
    (hu : P.underlying dT = some (.slice elem)) (hs : (P.info? elem).map (·.size) = some 1) (hg : w.heap[g]? = some (.cells cur t (0, 0))) (hle : dLen ≤ s.size) (hfit : o + dLen ≤ cur.size) :
    (Builtin.copy_ #[dT, sT] ty #[.slice (some ⟨g, o, none⟩) dLen dCap, .string s]).run P w =
      .ok (goInt dLen) (w.setRow g (cur.toList.take o ++ Lib.byteCells (s.data.toList.take dLen) ++ cur.toList.drop (o + dLen)).toArray) := by
  have hlen : (Lib.byteCells (s.data.toList.take dLen)).length = dLen := by rw [Lib.byteCells_length, List.length_take]; exact Nat.min_eq_left (by simpa using hle)
  have hst := run_storeCells_at P g o t (Lib.byteCells (s.data.toList.take dLen)) 0 cur w hg (by rw [hlen]; simpa using hfit) (Lib.byteCells_one _)
  have hmin : Nat.min s.size dLen = dLen := Nat.min_eq_right hle
  have htk : List.take dLen (List.map (fun b : UInt8 => Value.int IntKind.u8 (b.toNat : Int)) s.data.toList) = Lib.byteCells (s.data.toList.take dLen) := by
    rw [Lib.byteCells, List.map_take]
  rw [hlen] at hst
  simp only [Nat.add_zero] at hst
  cases hq : P.info? elem with
  | none => simp [hq] at hs
  | some i =>
    simp only [Builtin.copy_]
    simp [run_underlying hu, Builtin.lenOf, Builtin.firstCells, sizeOf, typeInfo, hq, hmin, htk, hst]

end Go.Proofs.Ytlajalfalepbhaa
