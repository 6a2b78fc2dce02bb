/-
  Layer 6: the program's functions on frames and addresses. Conditions: a text is no longer than a string may be.
-/
import Derived.Test.YtolegdjdppaeoaaEthA
import Derived.Test.YtolegdjdppaeoaaNumber
import Derived.Lib.SlBuf
import Derived.Deep.WholeRow
namespace Go.Proofs.Ytolegdjdppaeoaa
open Go.RowKit

/-- The address of all. -/
def Mac6.all : Mac6 := ⟨255, 255, 255, 255, 255, 255⟩
theorem run_eql_all (w : World) (x : Mac6) : (Op.equalIn 10000 23 (.agg #[.int .u8 (x.a.toNat : Int), .int .u8 (x.b.toNat : Int), .int .u8 (x.c.toNat : Int), .int .u8 (x.d.toNat : Int), .int .u8 (x.e.toNat : Int), .int .u8 (x.f.toNat : Int)]) (.agg #[.int .u8 255, .int .u8 255, .int .u8 255, .int .u8 255, .int .u8 255, .int .u8 255])).run Try.prog w = .ok (decide (x = Mac6.all)) w := run_eql_mac w x Mac6.all


theorem take_list (s : ByteArray) (m : Mac6) (r : List UInt8) (hs : s.data.toList = m.list ++ r) : s.data.toList.take 6 = m.list := by rw [hs]; rfl
theorem run_copy_six (w : World) (s : ByteArray) (m : Mac6) (r : List UInt8) (hs : s.data.toList = m.list ++ r) (cs : Array Value) (hc : cs.size = 6) (n : Nat) (hn : n = w.heap.size) :
    (Builtin.copy_ #[75, 9] 3 #[.slice (some ⟨n, 0, none⟩) 6 6, .string s]).run Try.prog (w.alloc (.cells cs 23)) = .ok (.int .i64 6) (w.alloc (.cells #[.int .u8 (m.a.toNat : Int), .int .u8 (m.b.toNat : Int), .int .u8 (m.c.toNat : Int), .int .u8 (m.d.toNat : Int), .int .u8 (m.e.toNat : Int), .int .u8 (m.f.toNat : Int)] 23)) := by
  have hl : 6 ≤ s.size := by
    have := congrArg List.length hs
    simp only [List.length_append] at this
    have h2 : m.list.length = 6 := rfl
    rw [h2] at this
    simp only [Array.length_toList] at this
    show 6 ≤ s.data.size
    omega
  have h := run_copy_part (P := Try.prog) (w.alloc (.cells cs 23)) 75 9 3 5 n 0 6 6 s cs 23 Try.underlying75 (by kernel_rfl) (by rw [hn]; exact heap_alloc_new w _) hl (by omega)
  rw [h, hn, World.setRow_alloc_new, take_list s m r hs]
  have h0 : cs.toList.drop (0 + 6) = [] := List.drop_of_length_le (by simp [hc])
  rw [h0]
  rfl


theorem below_drewN {B : Nat} {a w : World} (h : Below B a w) (n : Nat) : Below B a (w.drewN n) := ⟨h.os, h.tape, h.output, h.size, h.block⟩
def forB (f : Fr) (me : Mac6) : Bool := decide (f.to = me) || decide (f.to = Mac6.all)

end Go.Proofs.Ytolegdjdppaeoaa
