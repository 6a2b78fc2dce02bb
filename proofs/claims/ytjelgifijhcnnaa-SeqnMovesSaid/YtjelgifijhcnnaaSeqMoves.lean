/-
  SeqnMoves: moved on alike, numbers are as far from one another, ahead and inside as they were, and a segment may count as it could. Conditions: none beyond the kinds of the arguments.
-/
import Derived.Test.YtjelgifijhcnnaaSqB
import Derived.ProofKit
import Derived.OpenShut
import Derived.ShutString
import Derived.ChangeOld
import Derived.Below
namespace Go.Proofs.Ytjelgifijhcnnaa.sqv
open Go.ChangeShapes Go.WideShapes Go.ChangeAt Go.RowKit
open Go.ChangeMaps (open_string shut_string)
set_option linter.unusedVariables false

theorem own : ownKnob Try.prog.godebug = none := by kernel_rfl
theorem ah_move (a b y A B : Int) (hA : (a + y) % 4294967296 = A) (hB : (b + y) % 4294967296 = B) : ahN A B = ahN a b := by unfold ahN; omega
theorem less_move (a b y A B : Int) (hA : (a + y) % 4294967296 = A) (hB : (b + y) % 4294967296 = B) : lessN A B = lessN a b := by unfold lessN; rw [ah_move a b y A B hA hB]
theorem in_move (a b y A B n : Int) (hA : (a + y) % 4294967296 = A) (hB : (b + y) % 4294967296 = B) : inN A B n = inN a b n := by unfold inN; rw [ah_move b a y B A hB hA]
theorem last_move (a y A k : Int) (hA : (a + y) % 4294967296 = A) : (lastN a k + y) % 4294967296 = lastN A k := by unfold lastN; omega
theorem may_move (a b y A B k n : Int) (hA : (a + y) % 4294967296 = A) (hB : (b + y) % 4294967296 = B) (ha : 0 ≤ a ∧ a < 4294967296) (hb : 0 ≤ b ∧ b < 4294967296) : mayN A k B n = mayN a k b n := by
  unfold mayN
  rw [in_move a b y A B n hA hB, in_move (lastN a k) b y (lastN A k) B n (last_move a y A k hA) hB]
  rw [show decide (A = B) = decide (a = b) from decide_eq_decide.2 (by omega)]

set_option maxRecDepth 100000 in
set_option maxHeartbeats 4000000 in
theorem walk (a0 a1 a2 a3 a4 : Int) (w0 : (Lit.int .u32 a0).wf = true) (w1 : (Lit.int .u32 a1).wf = true) (w2 : (Lit.int .u32 a2).wf = true) (w3 : (Lit.int .i64 a3).wf = true) (w4 : (Lit.int .i64 a4).wf = true) (w : World) :
    Calls Try.prog 7 #[.int .u32 a0, .int .u32 a1, .int .u32 a2, .int .i64 a3, .int .i64 a4] w fun e w' => e = .returned (.bool true) ∧ Below w.heap.size w w' := by
  have b0 := sq_u32 w0
  have b1 := sq_u32 w1
  have b3 := sq_i64 w3
  obtain ⟨A, hA⟩ : ∃ A, (a0 + a2) % 4294967296 = A := ⟨_, rfl⟩
  obtain ⟨B, hB⟩ : ∃ B, (a1 + a2) % 4294967296 = B := ⟨_, rfl⟩
  have e1 : IntKind.u32.wrap (a0 + a2) = A := by rw [IntKind.wrap_u32, hA]
  have e2 : IntKind.u32.wrap (a1 + a2) = B := by rw [IntKind.wrap_u32, hB]
  have k1 := Lib.hid (ah_any w a0 a1)
  have k2 := Lib.hid (ah_any w A B)
  have k3 := Lib.hid (less_any w a0 a1)
  have k4 := Lib.hid (less_any w A B)
  have k5 := Lib.hid (in_any w a0 a1 a3)
  have k6 := Lib.hid (in_any w A B a3)
  have k7 := Lib.hid (may_any w a0 a3 a1 a4 b3.2)
  have k8 := Lib.hid (may_any w A a3 B a4 b3.2)
  rw [ah_move a0 a1 a2 A B hA hB] at k2
  rw [less_move a0 a1 a2 A B hA hB] at k4
  rw [in_move a0 a1 a2 A B a3 hA hB] at k6
  rw [may_move a0 a1 a2 A B a3 a4 hA hB b0 b1] at k8
  obtain ⟨d, hd⟩ : ∃ d, ahN a0 a1 = d := ⟨_, rfl⟩
  rw [hd] at k1 k2
  obtain ⟨p, hp⟩ : ∃ p, lessN a0 a1 = p := ⟨_, rfl⟩
  rw [hp] at k3 k4
  obtain ⟨q, hq⟩ : ∃ q, inN a0 a1 a3 = q := ⟨_, rfl⟩
  rw [hq] at k5 k6
  obtain ⟨r, hr⟩ : ∃ r, mayN a0 a3 a1 a4 = r := ⟨_, rfl⟩
  rw [hr] at k7 k8
  clear hd hp hq hr hA hB b0 b1 b3 w0 w1 w2 w3 w4
  have d1 : (d == d) = true := by simp
  have d2 : (p == p) = true := by simp
  have d3 : (q == q) = true := by simp
  have d4 : (r == r) = true := by simp
  go_enter Try.func7, Try.ntmps7
  go_wp2_with fail
  refine (awakeQ _).mono ?_
  rintro e w1 ⟨rfl, rfl⟩
  go_wp2_with fail
  refine (k1.out).mono ?_
  rintro e w1 ⟨rfl, rfl⟩
  go_wp2_with fail
  refine (k2.out).mono ?_
  rintro e w1 ⟨rfl, rfl⟩
  go_wp2_with fail
  refine (k3.out).mono ?_
  rintro e w1 ⟨rfl, rfl⟩
  go_wp2_with fail
  refine (k4.out).mono ?_
  rintro e w1 ⟨rfl, rfl⟩
  go_wp2_with fail
  refine (k5.out).mono ?_
  rintro e w1 ⟨rfl, rfl⟩
  go_wp2_with fail
  refine (k6.out).mono ?_
  rintro e w1 ⟨rfl, rfl⟩
  go_wp2_with fail
  refine (k7.out).mono ?_
  rintro e w1 ⟨rfl, rfl⟩
  go_wp2_with fail
  refine (k8.out).mono ?_
  rintro e w1 ⟨rfl, rfl⟩
  go_wp2_with fail
  go_ret
  exact ⟨rfl, Below.refl _ _⟩
set_option maxRecDepth 100000 in
theorem lifted (os : Os) (started : os.Started) (H : Type) (enc : TypeId × Value → H) :
    ReturnsInHanded {} Try.checked os 7 .any (Rows.seqnMovesSpec.pre6 enc Try.prog Try.f7 Rows.seqnMovesRow.domain false) (Rows.seqnMovesSpec.post enc Try.prog Try.f7 false true false false) := by
  refine returnsInHanded_of_change (C := Try.checked) own started (by kernel_rfl) Try.func7
    (ChangeSpec.witness6 (enc := enc) (C := Try.checked) false ⟨#[], #[.int .u32 0, .int .u32 0, .int .u32 0, .int .i64 0, .int .i64 0], []⟩ 8 (by kernel_rfl) (by kernel_rfl) (by kernel_rfl) (by kernel_rfl)) ?_
  intro W base args ds gs before hval0 hW hcnd _
  have hval : ∀ (j : Nat) t v, Try.f7.params[j]? = some t → args[j]? = some v → Value.okWide Try.prog W .any base t v := hval0
  have hW' := hW
  obtain ⟨p, q, hA0, hV, rfl, hfz, hnd⟩ := hW
  have hA : DataW.TrodAll enc Try.prog W 0 (fun _ => true) true Try.f7.params.toList args.toList ds p := hA0
  rw [Try.params7] at hA hval
  obtain ⟨v0, vs0, d0, ds0, p0, q0, hargs, rfl, rfl, h0, r0⟩ := trodAll_cons hA
  obtain ⟨v1, vs1, d1, ds1, p1, q1, rfl, rfl, rfl, h1, r1⟩ := trodAll_cons r0
  obtain ⟨v2, vs2, d2, ds2, p2, q2, rfl, rfl, rfl, h2, r2⟩ := trodAll_cons r1
  obtain ⟨v3, vs3, d3, ds3, p3, q3, rfl, rfl, rfl, h3, r3⟩ := trodAll_cons r2
  obtain ⟨v4, vs4, d4, ds4, p4, q4, rfl, rfl, rfl, h4, r4⟩ := trodAll_cons r3
  obtain ⟨rfl, rfl, rfl⟩ := trodAll_nil r4
  obtain rfl : args = #[v0, v1, v2, v3, v4] := by cases args; simp_all
  obtain ⟨rfl, rfl⟩ := trodVars_none hV
  obtain ⟨a0, rfl, rfl, rfl, w0⟩ := open_int Try.underlying48 (hval 0 48 v0 rfl rfl) h0
  obtain ⟨a1, rfl, rfl, rfl, w1⟩ := open_int Try.underlying48 (hval 1 48 v1 rfl rfl) h1
  obtain ⟨a2, rfl, rfl, rfl, w2⟩ := open_int Try.underlying48 (hval 2 48 v2 rfl rfl) h2
  obtain ⟨a3, rfl, rfl, rfl, w3⟩ := open_int Try.underlying3 (hval 3 3 v3 rfl rfl) h3
  obtain ⟨a4, rfl, rfl, rfl, w4⟩ := open_int Try.underlying3 (hval 4 3 v4 rfl rfl) h4
  clear hA0 hval0
  refine (walk a0 a1 a2 a3 a4 w0 w1 w2 w3 w4 W).mono fun e W' ⟨he, bel⟩ => ?_
  subst he
  exact ⟨_, rfl, _, _, _, [], _, [], hW', trodAll_mk1 (shut_bool Try.underlying4 _), (trodAll_cons_mk (shut_int Try.underlying48 w0) (trodAll_cons_mk (shut_int Try.underlying48 w1) (trodAll_cons_mk (shut_int Try.underlying48 w2) (trodAll_cons_mk (shut_int Try.underlying3 w3) (trodAll_cons_mk (shut_int Try.underlying3 w4) trodAll_mk0))))), rfl, bel.frame _, fun h => by cases h⟩

/-- THE STATEMENT. -/
theorem proved : Rows.SeqnMovesSaid :=
  OpenClaim.holds_of_wide 7 Try.f7 rfl rfl rfl rfl rfl rfl rfl ⟨rfl, rfl, rfl, rfl, rfl⟩ rfl rfl rfl rfl rfl (by kernel_rfl) Try.func7 (by kernel_rfl)
    (of_decide_eq_true (by kernel_rfl)) (by unfold Func.isWrapper; first | (rw [if_pos (by decide +kernel)]; kernel_rfl) | (rw [if_neg (by decide +kernel)]; exact ⟨rfl, rfl⟩))
    (fun os started H enc _ => lifted os started H enc)
#print axioms proved

end Go.Proofs.Ytjelgifijhcnnaa.sqv
