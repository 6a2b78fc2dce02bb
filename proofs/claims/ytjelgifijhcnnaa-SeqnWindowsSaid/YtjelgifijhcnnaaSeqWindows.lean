/-
  SeqnWindows: what is inside a window is inside each wider one, a window's numbers are just as many as it says, and a segment of one number may count just if that is inside. Conditions: none beyond the kinds of the arguments.
-/
import Derived.Test.YtjelgifijhcnnaaSqB
import Derived.ProofKit
import Derived.OpenShut
import Derived.ShutString
import Derived.ChangeOld
import Derived.Below
namespace Go.Proofs.Ytjelgifijhcnnaa.sqw
open Go.ChangeShapes Go.WideShapes Go.ChangeAt Go.RowKit
open Go.ChangeMaps (open_string shut_string)
set_option linter.unusedVariables false

theorem own : ownKnob Try.prog.godebug = none := by kernel_rfl
theorem may_one (s x n : Int) (h : 0 ≤ s ∧ s < 4294967296) : mayN s 1 x n = inN s x n := by
  unfold mayN
  rw [if_pos (by decide), show lastN s 1 = s from by unfold lastN; omega, Bool.or_self]
theorem in_at (f z n : Int) (j : Nat) (hn : 0 ≤ n ∧ n < 256) (hj : j < 300) (hz : z = (f - 20 + j) % 4294967296) : inN z f n = decide (20 ≤ j ∧ (j : Int) - 20 < n) := by
  unfold inN ahN
  exact decide_eq_decide.2 (by omega)
set_option maxRecDepth 100000 in
set_option maxHeartbeats 4000000 in
theorem walk (a0 a1 a2 a3 : Int) (w0 : (Lit.int .u32 a0).wf = true) (w1 : (Lit.int .u32 a1).wf = true) (w2 : (Lit.int .u8 a2).wf = true) (w3 : (Lit.int .u8 a3).wf = true) (w : World) :
    Calls Try.prog 9 #[.int .u32 a0, .int .u32 a1, .int .u8 a2, .int .u8 a3] w fun e w' => e = .returned (.bool true) ∧ Below w.heap.size w w' := by
  have b0 := sq_u32 w0
  have b1 := sq_u32 w1
  have b2 := sq_u8 w2
  have b3 := sq_u8 w3
  have e2 : IntKind.i64.wrap a2 = a2 := IntWalk.i64_in _ (by omega)
  have e3 : IntKind.i64.wrap a3 = a3 := IntWalk.i64_in _ (by omega)
  have e4 : IntKind.i64.wrap (a2 + a3) = a2 + a3 := IntWalk.i64_in _ (by omega)
  have k1 := Lib.hid (in_any w a0 a1 a2)
  have k2 := Lib.hid (in_any w a0 a1 (a2 + a3))
  have k3 := Lib.hid (may_any w a0 1 a1 a2 (by decide))
  rw [may_one a0 a1 a2 b0] at k3
  obtain ⟨q, hq⟩ : ∃ q, inN a0 a1 a2 = q := ⟨_, rfl⟩
  have hw : q = true → inN a0 a1 (a2 + a3) = true := by
    intro h
    rw [← hq] at h
    unfold inN at h ⊢
    have := of_decide_eq_true h
    exact decide_eq_true (by omega)
  rw [hq] at k1 k3
  have d3 : (q == q) = true := by simp
  have c0 : IntKind.u32.wrap (a1 - 20) = (a1 - 20) % 4294967296 := by rw [IntKind.wrap_u32]
  clear hq w0 w1 w2 w3
  go_enter Try.func9, Try.ntmps9
  go_wp2_with fail
  refine (awakeQ _).mono ?_
  rintro e w1 ⟨rfl, rfl⟩
  go_wp2_with fail
  refine (k1.out).mono ?_
  rintro e w1 ⟨rfl, rfl⟩
  have hw2 : q = false ∨ (q = true ∧ inN a0 a1 (a2 + a3) = true) := by
    cases q with
    | true => exact .inr ⟨rfl, hw rfl⟩
    | false => exact .inl rfl
  clear hw
  rcases hw2 with hq0 | ⟨hq1, hq2⟩
  · subst hq0
    go_wp2_with fail
    go_loopw [9, 10] (fun a9 a10 wr => ∃ j : Nat, j ≤ 300 ∧ a9 = .int .i64 (max 0 (min ((j : Int) - 20) a2)) ∧ a10 = .int .u32 j ∧ w1 = wr) (fun _ a10 _ => 300 - (intOf a10).toNat)
    case atStart => exact ⟨0, by omega, by go_num, by go_num, rfl⟩
    case round =>
      obtain ⟨j, hj, rfl, rfl, rfl⟩ := hrel
      by_cases hlt : j < 300
      · have hd : decide ((j : Int) < 300) = true := decide_eq_true (by omega)
        obtain ⟨z, hz⟩ : ∃ z, z = (a1 - 20 + j) % 4294967296 := ⟨_, rfl⟩
        have c1 : IntKind.u32.wrap ((a1 - 20) % 4294967296 + j) = z := by rw [IntKind.wrap_u32, hz]; omega
        have c2 : IntKind.u32.wrap ((j : Int) + 1) = (j : Int) + 1 := by rw [IntKind.wrap_u32]; omega
        have kz := Lib.hid (in_any w1 z a1 a2)
        rw [in_at a1 z a2 j b2 hlt hz] at kz
        obtain ⟨m, hm⟩ : ∃ m, max 0 (min ((j : Int) - 20) a2) = m := ⟨_, rfl⟩
        rw [hm]
        by_cases hin : 20 ≤ j ∧ (j : Int) - 20 < a2
        · have c3 : IntKind.i64.wrap (m + 1) = m + 1 := by rw [IntKind.wrap_i64]; omega
          rw [decide_eq_true hin] at kz
          have hm2 : max 0 (min (((j + 1 : Nat) : Int) - 20) a2) = m + 1 := by omega
          clear hz hin
          go_wp2_with fail
          refine kz.out.mono ?_
          rintro e w1 ⟨rfl, rfl⟩
          go_wp2_with fail
          go_roundw
          case rel => exact ⟨j + 1, by omega, by rw [hm2], by go_num, trivial⟩
          case measure => simp [intOf]; omega
        · rw [decide_eq_false hin] at kz
          have hm2 : max 0 (min (((j + 1 : Nat) : Int) - 20) a2) = m := by omega
          clear hz hin
          go_wp2_with fail
          refine kz.out.mono ?_
          rintro e w1 ⟨rfl, rfl⟩
          go_wp2_with fail
          go_roundw
          case rel => exact ⟨j + 1, by omega, by rw [hm2], by go_num, trivial⟩
          case measure => simp [intOf]; omega
      · have hd : decide ((j : Int) < 300) = false := decide_eq_false (by omega)
        have hm : max 0 (min ((j : Int) - 20) a2) = a2 := by omega
        rw [hm]
        have c5 : (a2 == a2) = true := by simp
        clear hm
        go_wp2_with fail
        refine k3.out.mono ?_
        rintro e w1 ⟨rfl, rfl⟩
        go_wp2_with fail
        refine k1.out.mono ?_
        rintro e w1 ⟨rfl, rfl⟩
        go_wp2_with fail
        go_ret
        exact ⟨rfl, Below.refl _ _⟩
  · subst hq1
    rw [hq2] at k2
    clear hq2
    go_wp2_with fail
    refine (k2.out).mono ?_
    rintro e w1 ⟨rfl, rfl⟩
    go_wp2_with fail
    go_loopw [9, 10] (fun a9 a10 wr => ∃ j : Nat, j ≤ 300 ∧ a9 = .int .i64 (max 0 (min ((j : Int) - 20) a2)) ∧ a10 = .int .u32 j ∧ w1 = wr) (fun _ a10 _ => 300 - (intOf a10).toNat)
    case atStart => exact ⟨0, by omega, by go_num, by go_num, rfl⟩
    case round =>
      obtain ⟨j, hj, rfl, rfl, rfl⟩ := hrel
      by_cases hlt : j < 300
      · have hd : decide ((j : Int) < 300) = true := decide_eq_true (by omega)
        obtain ⟨z, hz⟩ : ∃ z, z = (a1 - 20 + j) % 4294967296 := ⟨_, rfl⟩
        have c1 : IntKind.u32.wrap ((a1 - 20) % 4294967296 + j) = z := by rw [IntKind.wrap_u32, hz]; omega
        have c2 : IntKind.u32.wrap ((j : Int) + 1) = (j : Int) + 1 := by rw [IntKind.wrap_u32]; omega
        have kz := Lib.hid (in_any w1 z a1 a2)
        rw [in_at a1 z a2 j b2 hlt hz] at kz
        obtain ⟨m, hm⟩ : ∃ m, max 0 (min ((j : Int) - 20) a2) = m := ⟨_, rfl⟩
        rw [hm]
        by_cases hin : 20 ≤ j ∧ (j : Int) - 20 < a2
        · have c3 : IntKind.i64.wrap (m + 1) = m + 1 := by rw [IntKind.wrap_i64]; omega
          rw [decide_eq_true hin] at kz
          have hm2 : max 0 (min (((j + 1 : Nat) : Int) - 20) a2) = m + 1 := by omega
          clear hz hin
          go_wp2_with fail
          refine kz.out.mono ?_
          rintro e w1 ⟨rfl, rfl⟩
          go_wp2_with fail
          go_roundw
          case rel => exact ⟨j + 1, by omega, by rw [hm2], by go_num, trivial⟩
          case measure => simp [intOf]; omega
        · rw [decide_eq_false hin] at kz
          have hm2 : max 0 (min (((j + 1 : Nat) : Int) - 20) a2) = m := by omega
          clear hz hin
          go_wp2_with fail
          refine kz.out.mono ?_
          rintro e w1 ⟨rfl, rfl⟩
          go_wp2_with fail
          go_roundw
          case rel => exact ⟨j + 1, by omega, by rw [hm2], by go_num, trivial⟩
          case measure => simp [intOf]; omega
      · have hd : decide ((j : Int) < 300) = false := decide_eq_false (by omega)
        have hm : max 0 (min ((j : Int) - 20) a2) = a2 := by omega
        rw [hm]
        have c5 : (a2 == a2) = true := by simp
        clear hm
        go_wp2_with fail
        refine k3.out.mono ?_
        rintro e w1 ⟨rfl, rfl⟩
        go_wp2_with fail
        refine k1.out.mono ?_
        rintro e w1 ⟨rfl, rfl⟩
        go_wp2_with fail
        go_ret
        exact ⟨rfl, Below.refl _ _⟩
set_option maxRecDepth 100000 in
theorem lifted (os : Os) (started : os.Started) (H : Type) (enc : TypeId × Value → H) :
    ReturnsInHanded {} Try.checked os 9 .any (Rows.seqnWindowsSpec.pre6 enc Try.prog Try.f9 Rows.seqnWindowsRow.domain false) (Rows.seqnWindowsSpec.post enc Try.prog Try.f9 false true false false) := by
  refine returnsInHanded_of_change (C := Try.checked) own started (by kernel_rfl) Try.func9
    (ChangeSpec.witness6 (enc := enc) (C := Try.checked) false ⟨#[], #[.int .u32 0, .int .u32 0, .int .u8 0, .int .u8 0], []⟩ 8 (by kernel_rfl) (by kernel_rfl) (by kernel_rfl) (by kernel_rfl)) ?_
  intro W base args ds gs before hval0 hW hcnd _
  have hval : ∀ (j : Nat) t v, Try.f9.params[j]? = some t → args[j]? = some v → Value.okWide Try.prog W .any base t v := hval0
  have hW' := hW
  obtain ⟨p, q, hA0, hV, rfl, hfz, hnd⟩ := hW
  have hA : DataW.TrodAll enc Try.prog W 0 (fun _ => true) true Try.f9.params.toList args.toList ds p := hA0
  rw [Try.params9] at hA hval
  obtain ⟨v0, vs0, d0, ds0, p0, q0, hargs, rfl, rfl, h0, r0⟩ := trodAll_cons hA
  obtain ⟨v1, vs1, d1, ds1, p1, q1, rfl, rfl, rfl, h1, r1⟩ := trodAll_cons r0
  obtain ⟨v2, vs2, d2, ds2, p2, q2, rfl, rfl, rfl, h2, r2⟩ := trodAll_cons r1
  obtain ⟨v3, vs3, d3, ds3, p3, q3, rfl, rfl, rfl, h3, r3⟩ := trodAll_cons r2
  obtain ⟨rfl, rfl, rfl⟩ := trodAll_nil r3
  obtain rfl : args = #[v0, v1, v2, v3] := by cases args; simp_all
  obtain ⟨rfl, rfl⟩ := trodVars_none hV
  obtain ⟨a0, rfl, rfl, rfl, w0⟩ := open_int Try.underlying48 (hval 0 48 v0 rfl rfl) h0
  obtain ⟨a1, rfl, rfl, rfl, w1⟩ := open_int Try.underlying48 (hval 1 48 v1 rfl rfl) h1
  obtain ⟨a2, rfl, rfl, rfl, w2⟩ := open_int Try.underlying5 (hval 2 5 v2 rfl rfl) h2
  obtain ⟨a3, rfl, rfl, rfl, w3⟩ := open_int Try.underlying5 (hval 3 5 v3 rfl rfl) h3
  clear hA0 hval0
  refine (walk a0 a1 a2 a3 w0 w1 w2 w3 W).mono fun e W' ⟨he, bel⟩ => ?_
  subst he
  exact ⟨_, rfl, _, _, _, [], _, [], hW', trodAll_mk1 (shut_bool Try.underlying4 _), (trodAll_cons_mk (shut_int Try.underlying48 w0) (trodAll_cons_mk (shut_int Try.underlying48 w1) (trodAll_cons_mk (shut_int Try.underlying5 w2) (trodAll_cons_mk (shut_int Try.underlying5 w3) trodAll_mk0)))), rfl, bel.frame _, fun h => by cases h⟩

/-- THE STATEMENT. -/
theorem proved : Rows.SeqnWindowsSaid :=
  OpenClaim.holds_of_wide 9 Try.f9 rfl rfl rfl rfl rfl rfl rfl ⟨rfl, rfl, rfl, rfl, rfl⟩ rfl rfl rfl rfl rfl (by kernel_rfl) Try.func9 (by kernel_rfl)
    (of_decide_eq_true (by kernel_rfl)) (by unfold Func.isWrapper; first | (rw [if_pos (by decide +kernel)]; kernel_rfl) | (rw [if_neg (by decide +kernel)]; exact ⟨rfl, rfl⟩))
    (fun os started H enc _ => lifted os started H enc)
#print axioms proved

end Go.Proofs.Ytjelgifijhcnnaa.sqw
