/-
  A store of a whole value at a region's operation, whose run is known. No program in it; no conditions.
-/
import Derived.Test.YtbjoibgkhooljaaKeep
import Derived.Test.YtbjoibgkhooljaaEthD
namespace Go.Proofs.Ytbjoibgkhooljaa
open Go.RowKit Go.Sort
set_option linter.unusedVariables false

theorem upon_store9 {P : Program} {o : Oper} {a : Act} {w w' : World} {K : Act → World → Prop} {Q : Exit → Act → World → Prop} (t : TypeId) (p x : Operand) (ho : o.op = .store t p x) (hd : o.dst = none) (v : Value) (g : Nat) (hp : a.eval p = .pointer (some ⟨g, 0, none⟩)) (hx : a.eval x = v)
    (hr : (storeVar t ⟨g, 0, none⟩ v).run P w = .ok () w') (h : K a w') : o.wp P a w K Q :=
  upon_store t p x ho v g hp hx hr (by rw [hd]; exact h)
theorem rdy_store9 {P : Program} {ops : Array Oper} {Q : Exit → Act → World → Prop} {md : Region.Mode} {S : World → Prop} {fuel : Nat} {listed : Array Bool} {a : Act} {w w' : World} {n : Nat} {o : Oper} (ho : ops[n]? = some o) (hgd : o.guard = none) (t : TypeId) (p x : Operand) (hop : o.op = .store t p x) (hd : o.dst = none) (v : Value) (g : Nat) (hp : a.eval p = .pointer (some ⟨g, 0, none⟩)) (hx : a.eval x = v)
    (hr : (storeVar t ⟨g, 0, none⟩ v).run P w = .ok () w') (hS : S w') (h : wpAnyH P md ops Q S fuel (listed.setIfInBounds n true) a w') : AllReadyH P md ops Q S fuel listed a w [n] :=
  AllReadyH.cons ho (fun K hK => by
    have hw : Region.wanted o (yielded ops a.tmps) = true := by simp [Region.wanted, hgd]
    rw [if_pos hw]
    exact upon_store9 t p x hop hd v g hp hx hr (hK.out _ _ hS (fun _ => h))) AllReadyH.nil

end Go.Proofs.Ytbjoibgkhooljaa
