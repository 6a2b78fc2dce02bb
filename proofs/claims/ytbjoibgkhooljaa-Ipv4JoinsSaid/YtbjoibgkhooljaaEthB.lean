/-
  Layer 6: the program's functions on frames and addresses. Conditions: a text is no longer than a string may be.
-/
import Derived.Test.YtbjoibgkhooljaaEthA
import Derived.Test.YtbjoibgkhooljaaNumber
import Derived.Lib.SlBuf
import Derived.Deep.WholeRow
namespace Go.Proofs.Ytbjoibgkhooljaa
open Go.RowKit

/-- The address of all. -/
def Mac6.all : Mac6 := ⟨255, 255, 255, 255, 255, 255⟩


theorem take_list (s : ByteArray) (m : Mac6) (r : List UInt8) (hs : s.data.toList = m.list ++ r) : s.data.toList.take 6 = m.list := by rw [hs]; rfl


theorem below_drewN {B : Nat} {a w : World} (h : Below B a w) (n : Nat) : Below B a (w.drewN n) := ⟨h.os, h.tape, h.output, h.size, h.block⟩
def forB (f : Fr) (me : Mac6) : Bool := decide (f.to = me) || decide (f.to = Mac6.all)

end Go.Proofs.Ytbjoibgkhooljaa
