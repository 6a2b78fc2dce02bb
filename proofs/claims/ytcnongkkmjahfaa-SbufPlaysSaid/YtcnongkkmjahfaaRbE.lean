/-
  Layer 12: drop, Read. Conditions: as said.
-/
import Derived.Test.YtcnongkkmjahfaaRbD
import Derived.StillTailTactics
namespace Go.Proofs.Ytcnongkkmjahfaa
open Go.RowKit
set_option linter.unusedVariables false

/-- 'copy' onto a row of one's own, elements of several cells: all is read before anything is written. -/
theorem run_copy_rowk {P : Program} (w : World) (dT sT ty elem : TypeId) (g o k dLen dCap : Nat) (a : Addr) (sLen sCap : Nat) (cur : Array Value) (t : TypeId) (cs : List Value)
    (hu : P.underlying dT = some (.slice elem)) (hs : (P.info? elem).map (·.size) = some k)
    (hg : w.heap[g]? = some (.cells cur t (0, 0))) (hn : cs.length = Nat.min sLen dLen * k)
    (hsrc : ∀ j v, cs[j]? = some v → w.cell? (a.add j) = some v) (hfit : o + cs.length ≤ cur.size) (h1 : ∀ v ∈ cs, v.oneCell' = true) :
    (Builtin.copy_ #[dT, sT] ty #[.slice (some ⟨g, o, none⟩) dLen dCap, .slice (some a) sLen sCap]).run P w =
      .ok (goInt (Nat.min sLen dLen)) (w.setRow g (cur.toList.take o ++ cs ++ cur.toList.drop (o + cs.length)).toArray) := by
  have hl := run_loadCells_list (P := P) w a cs hsrc
  have hst := run_storeCells_at P g o t cs 0 cur w hg (by simpa using hfit) h1
  cases hq : P.info? elem with
  | none => simp [hq] at hs
  | some i =>
    have hi : i.size = k := by simpa [hq] using hs
    rw [hn] at hl
    simp [Builtin.copy_, run_underlying hu, Builtin.lenOf, Builtin.firstCells, sizeOf, typeInfo, hq, hi, hl, hst]
theorem region_tailR {P : Program} {id : Nat} {Q : Exit → Act → World → Prop} {a : Act} {w : World} {l : List Oper} (n : Nat) (hm : P.follows .mixedOrders = true) (hB : Region.lexTailB .any l.toArray n = true)
    (h : ∀ w', Below w.heap.size w w' → wpStill P l.toArray w' (fun a' => wpList P l.toArray Q (l.drop n) a' w') (l.take n) a) : (Code.region id l.toArray true).wp P Q a w :=
  wp_region_still_tail n hm hB (h _ (Below.refl _ _).drew)
section
variable {P : Program} {ops : Array Oper} {rest : List Oper} {o : Oper} {a : Act} {w : World} {Q : Exit → Act → World → Prop}
theorem wpList_copyk (hg : o.guard = none) (s x : Operand) (t t' : TypeId) (hop : o.op = Op.call { callee := Callee.builtin Builtin.copy, args := #[s, x], argTypes := #[t, t'] })
    (vs vx v : Value) (w' : World) (hs : a.eval s = vs) (hx : a.eval x = vx) (hr : ∀ ty, (Builtin.copy_ #[t, t'] ty #[vs, vx]).run P w = .ok v w') (hK : wpList P ops Q rest (a.put o.dst v) w') : wpList P ops Q (o :: rest) a w := by
  refine wpList_plain hg fun K hKK => ?_
  unfold Oper.wp
  simp only [execOp, hop, resolve, invoke, builtin, Sem.run_bind, Sem.run_pure, Result.andThen_ok, List.map_toArray, List.map_cons, List.map_nil, hs, hx, hr]
  exact hKK _ _ hK
theorem wpList_cleark (hg : o.guard = none) (s : Operand) (t : TypeId) (hop : o.op = Op.call { callee := Callee.builtin Builtin.clear, args := #[s], argTypes := #[t] })
    (vs v : Value) (w' : World) (hs : a.eval s = vs) (hr : ∀ ty, (Builtin.clear_ #[t] ty #[vs]).run P w = .ok v w') (hK : wpList P ops Q rest (a.put o.dst v) w') : wpList P ops Q (o :: rest) a w := by
  refine wpList_plain hg fun K hKK => ?_
  unfold Oper.wp
  simp only [execOp, hop, resolve, invoke, builtin, Sem.run_bind, Sem.run_pure, Result.andThen_ok, List.map_toArray, List.map_cons, List.map_nil, hs, hr]
  exact hKK _ _ hK
end
theorem zero_places (k : Nat) : (Builtin.zeroCells #[Value.int .u8 0, .bool false] k).toList = encA enP (List.replicate k none) := by
  rw [enc_nones]
  simp [Builtin.zeroCells]

section
variable {w w' : World} {g b n : Nat} {nx : Int} {R : List UInt8} {W : List (Option UInt8)}
/-- All that stands behind the first k places is moved up, and nothing is behind it. -/
theorem moved_places {l : List (Option UInt8)} {k n : Nat} (hl : l.length = n) (hk : k ≤ n) :
    (((encA enP l).take 0 ++ encA enP (l.drop k) ++ (encA enP l).drop (0 + (encA enP (l.drop k)).length)).take ((n - k) * 2) ++ encA enP (List.replicate k none) ++ ((encA enP l).take 0 ++ encA enP (l.drop k) ++ (encA enP l).drop (0 + (encA enP (l.drop k)).length)).drop ((n - k) * 2 + k * 2)) = encA enP (l.drop k ++ List.replicate k none) := by
  have e1 : (encA enP (l.drop k)).length = (n - k) * 2 := by rw [encA_length enP_len, List.length_drop, hl]
  have e2 : (encA enP l).length = n * 2 := by rw [encA_length enP_len, hl]
  rw [encA_append]
  generalize encA enP (l.drop k) = cs at e1 ⊢
  generalize encA enP l = C at e2 ⊢
  have e3 : (cs ++ C.drop (0 + cs.length)).drop ((n - k) * 2 + k * 2) = [] := List.drop_eq_nil_of_le (by rw [List.length_append, List.length_drop, e1, e2]; omega)
  rw [List.take_zero, List.nil_append, e3, List.append_nil, List.take_left' e1]
end
/-- Where a slice from the k-th of n places on lies. -/
theorem cut_at (b n k : Nat) : (if n = k then (some ⟨b, 0, none⟩ : Option Addr) else some ⟨b, k * 2, none⟩) = some ⟨b, if n = k then 0 else k * 2, none⟩ := by
  split <;> rfl
end Go.Proofs.Ytcnongkkmjahfaa
