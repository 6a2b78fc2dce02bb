/-
  Layer 6: a frame's bytes. Conditions: none but that its type is a number of its kind.
-/
import Derived.Test.YtbjoibgkhooljaaEthB
import Derived.Deep.DeepCutAuto
import Derived.IntWalk
namespace Go.Proofs.Ytbjoibgkhooljaa
open Go.RowKit Go.Sort

/-- A world behind the draw of an order. -/
def EDrew (w w' : World) : Prop := w' = w.drew
theorem EDrew.block {w w' : World} (d : EDrew w w') (k : Nat) : w'.heap[k]? = w.heap[k]? := by subst d; rfl
theorem EDrew.below {w w' : World} (d : EDrew w w') : Below w.heap.size w w' := by subst d; exact (Below.refl _ _).drew
theorem EDrew.size {w w' : World} (d : EDrew w w') : w'.heap.size = w.heap.size := by subst d; rfl
theorem region_heldE {P : Program} {id : Nat} {ops : Array Oper} {Q : Exit → Act → World → Prop} {S : World → Prop} {a : Act} {w : World} (hm : P.follows .mixedOrders = true) (hS : ∀ w', EDrew w w' → S w')
    (h : ∀ w', EDrew w w' → S w' → wpAnyH P .any ops Q S ops.size (Array.replicate ops.size false) a w') : (Code.region id ops true).wp P Q a w :=
  wp_region_held hm (h _ rfl (hS _ rfl))


/-- The bytes of a frame, and why it has none. -/
def frL (f : Fr) : List UInt8 := f.to.list ++ f.fr.list ++ (leL f.ty 2).reverse ++ f.da.data.toList
def frE (f : Fr) : Int := if f.ty < 0 ∨ 65535 < f.ty then 1 else if 586 < f.da.size then 3 else 0
def frS (f : Fr) : ByteArray := if frE f = 0 then ⟨(frL f).toArray⟩ else ⟨#[]⟩

theorem add_lists (w : World) (x y : List UInt8) (h : x.length + y.length ≤ 9223372036854775807) : (Op.stringOp .add ⟨x.toArray⟩ ⟨y.toArray⟩).run Try.prog w = .ok (.string ⟨(x ++ y).toArray⟩) w := by
  rw [run_string_add_sum (P := Try.prog) (w := w) ⟨x.toArray⟩ ⟨y.toArray⟩ (by show x.toArray.size + y.toArray.size ≤ _; simpa using h), ByteArray.mk_append_mk]
theorem add_data (w : World) (x : List UInt8) (y : ByteArray) (h : x.length + y.size ≤ 9223372036854775807) : (Op.stringOp .add ⟨x.toArray⟩ y).run Try.prog w = .ok (.string ⟨(x ++ y.data.toList).toArray⟩) w := by
  have := add_lists w x y.data.toList (by simpa using h)
  simpa using this
theorem data_app (x y z : List UInt8) (d : ByteArray) : ((⟨(x ++ (y ++ z)).toArray⟩ : ByteArray) ++ d) = ⟨(x ++ (y ++ (z ++ d.data.toList))).toArray⟩ := by
  have := ByteArray.mk_append_mk (x ++ (y ++ z)) d.data.toList
  rw [List.append_assoc, List.append_assoc] at this
  rw [← this]
theorem wrap_ty {x : Int} (h1 : 0 ≤ x) (h2 : x ≤ 65535) : IntKind.u64.wrap x = x := IntWalk.u64_in _ (by omega)
theorem mac_len (m : Mac6) : m.list.length = 6 := rfl
theorem len_ok (f : Fr) (h : f.da.size ≤ 586) : ¬ 9223372036854775807 < f.to.list.length + (f.fr.list.length + (leL f.ty 2).length) + f.da.size := by
  simp [mac_len, leL, le_length]
  omega
theorem two_len (x : Int) : (leL x 2).reverse.length = 2 := by simp [leL, le_length]



end Go.Proofs.Ytbjoibgkhooljaa
