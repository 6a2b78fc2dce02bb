/-
  Layer 7: a packet that is read from bytes. Conditions: a text is no longer than a string may be.
-/
import Derived.Test.YtbjoibgkhooljaaArpC
namespace Go.Proofs.Ytbjoibgkhooljaa
open Go.RowKit Go.Sort
set_option linter.unusedVariables false

/-- The address of four that stands from a place on. -/
def ipAt (l : List UInt8) (k : Nat) : Ip4 := ⟨l.getD k 0, l.getD (k + 1) 0, l.getD (k + 2) 0, l.getD (k + 3) 0⟩
theorem ip_front : ∀ (l : List UInt8), 4 ≤ l.length → l = (ipAt l 0).list ++ l.drop 4
  | a :: b :: c :: d :: r, _ => rfl
theorem ip_at (l : List UInt8) (k : Nat) (h : k + 4 ≤ l.length) : l.drop k = (ipAt l k).list ++ l.drop (k + 4) := by
  have h1 := ip_front (l.drop k) (by simp; omega)
  rw [List.drop_drop] at h1
  have h2 : ipAt (l.drop k) 0 = ipAt l k := by simp [ipAt, List.getD_eq_getElem?_getD]
  rw [h2] at h1
  exact h1
/-- The packet whose bytes a text begins with, and why there is none. -/
def rdK (s : ByteArray) : Pk := ⟨num (cutS s 6 2).reverse, macAt s.data.toList 8, ipAt s.data.toList 14, macAt s.data.toList 18, ipAt s.data.toList 24⟩
def rkE (s : ByteArray) : Int := if s.size < 28 then 7 else if ¬ (s.extract 0 6).toList = [0, 1, 8, 0, 6, 4] then 8 else if ¬ ((rdK s).op = 1 ∨ (rdK s).op = 2) then 10 else 0
def rkR (s : ByteArray) : Pk := if rkE s = 0 then rdK s else pkZ

def cpW (w : World) (n : Nat) (f : Pk) : World := w.setRow n #[.int .i64 f.op, .int .u8 (f.ma.a.toNat : Int), .int .u8 (f.ma.b.toNat : Int), .int .u8 (f.ma.c.toNat : Int), .int .u8 (f.ma.d.toNat : Int), .int .u8 (f.ma.e.toNat : Int), .int .u8 (f.ma.f.toNat : Int), .int .u8 (f.ip.a.toNat : Int), .int .u8 (f.ip.b.toNat : Int), .int .u8 (f.ip.c.toNat : Int), .int .u8 (f.ip.d.toNat : Int), .int .u8 (f.tm.a.toNat : Int), .int .u8 (f.tm.b.toNat : Int), .int .u8 (f.tm.c.toNat : Int), .int .u8 (f.tm.d.toNat : Int), .int .u8 (f.tm.e.toNat : Int), .int .u8 (f.tm.f.toNat : Int), .int .u8 (f.ti.a.toNat : Int), .int .u8 (f.ti.b.toNat : Int), .int .u8 (f.ti.c.toNat : Int), .int .u8 (f.ti.d.toNat : Int)]
theorem cp_other {w : World} {n m : Nat} {g : Pk} (h : m ≠ n) : (cpW w n g).heap[m]? = w.heap[m]? := setRow_other _ _ _ _ h
theorem cp_below {B : Nat} {a w : World} {n : Nat} {g : Pk} (h : Below B a w) (hn : B ≤ n) : Below B a (cpW w n g) := below_setRow h hn _

theorem size_far {s : ByteArray} {k : Nat} (h : k ≤ s.size) : ¬ (s.size : Int) < (k : Int) := by omega


end Go.Proofs.Ytbjoibgkhooljaa
