/-
  Layer 9: what bytes are read as, the echo, what says that nobody is there, by the program. Conditions: a text has at most 2^47 bytes.
-/
import Derived.Test.YtbjoibgkhooljaaIcB
import Derived.Test.YtbjoibgkhooljaaRdy
namespace Go.Proofs.Ytbjoibgkhooljaa
open Go.RowKit Go.Sort
set_option linter.unusedVariables false



theorem and_15 (X : Nat) (h : X < 256) : bits .and .u8 (X : Int) 15 = ((X % 16 : Nat) : Int) := by
  have : ∀ X : Fin 256, bits .and .u8 (X.1 : Int) 15 = ((X.1 % 16 : Nat) : Int) := by decide +kernel
  exact this ⟨X, h⟩
theorem and_255 (x : Int) : bits .and .i64 x 255 = x % 256 := by
  have h2 : (BitVec.ofInt 64 (255 : Int)).toNat = 255 := by decide
  have h1 : ((BitVec.ofInt 64 x).toNat : Int) = x % 18446744073709551616 := by
    rw [BitVec.toNat_ofInt, Int.toNat_of_nonneg (Int.emod_nonneg _ (by decide))]; rfl
  show IntKind.i64.wrap ((BitVec.ofInt 64 x &&& BitVec.ofInt 64 (255 : Int)).toNat : Int) = _
  rw [BitVec.toNat_and, h2, show ((BitVec.ofInt 64 x).toNat &&& 255) = (BitVec.ofInt 64 x).toNat % 256 from Nat.and_two_pow_sub_one_eq_mod _ 8]
  rw [IntWalk.i64_in _ (by omega)]
  omega

end Go.Proofs.Ytbjoibgkhooljaa
