/-
  The contracts of the numbers' calls of package mem: Little, Big, ReadLittle, ReadBig, for all arguments. Condition: a text is no longer than an int can tell.
-/
import Derived.Test.YtmlicejhkdkhnaaRev
import Derived.Lib.ConvBytes
namespace Go.Proofs.Ytmlicejhkdkhnaa
open Go.RowKit Go.Sort

/-- The bytes of a number, lowest first; none, where it may not have so many. -/
def leL (x n : Int) : List UInt8 := if 1 ≤ n ∧ n ≤ 8 then le x.toNat n.toNat else []
/-- Is there a number of n bytes in so many from a place on? -/
def okR (len : Nat) (a n : Int) : Bool := decide (1 ≤ n ∧ n ≤ 8 ∧ 0 ≤ a ∧ a + n ≤ len)
/-- The bytes from there on. -/
def cutS (s : ByteArray) (a n : Int) : List UInt8 := if okR s.size a n = true then (s.data.toList.drop a.toNat).take n.toNat else []



theorem holds_new (w : World) (n : Nat) : Holds eb (w.alloc (.cells (zeros n) 5)) w.heap.size 0 (List.replicate n (0 : UInt8)).toArray := by
  intro j hj
  have hj' : j < n := by simpa using hj
  constructor
  · rw [cell_of_block (heap_alloc_new w _), getElem!_pos (List.replicate n (0 : UInt8)).toArray j hj]
    simp [zeros, eb, hj']
  · have hb := heap_alloc_new w (.cells (zeros n) 5)
    simp only [World.frozen?, hb]
    simp



/-- What 'string(b)' is of a nil slice. -/
theorem conv_nil (w : World) : (convert 66 9 (.slice none 0 0)).run Try.prog w = .ok (.string ByteArray.empty) w :=
  run_convert_bytes_nil (P := Try.prog) w _ 5 Try.underlying66 Try.underlying5 0 0 _ Try.underlying9

theorem empty_eq : (ByteArray.empty) = ⟨(([] : List UInt8)).toArray⟩ := rfl











theorem bytes_holds (w : World) (s : ByteArray) : Holds eb (Lib.bytesWorld w 5 s) w.heap.size 0 s.data := by
  intro j hj
  have hj' : j < s.size := hj
  constructor
  · rw [Nat.zero_add, Lib.bytesWorld_cell w _ s j hj', getElem!_pos s.data j hj]
    have hq : s.data[j]? = some s.data[j] := Array.getElem?_eq_getElem hj
    simp [eb, List.getD, hq]
  · have hb := Lib.bytesWorld_at_new w 5 s
    simp only [World.frozen?, hb]
    have hz : j < (Lib.bytesCells w 5 s).size := by simp [Lib.bytesCells]; omega
    simp
    omega

theorem bytes_grown (w : World) (s : ByteArray) : w.grownBy (Lib.bytesWorld w 5 s) none :=
  ⟨rfl, rfl, rfl, by rw [Lib.bytesWorld_size]; omega, fun k hk _ => Lib.bytesWorld_at_old w _ s k hk⟩



theorem okR_yes {len : Nat} {a n : Int} (h : okR len a n = true) : 1 ≤ n ∧ n ≤ 8 ∧ 0 ≤ a ∧ a + n ≤ len := of_decide_eq_true h





end Go.Proofs.Ytmlicejhkdkhnaa
