/-
  MemTurns: a number's bytes highest first are those lowest first from behind, each is read back by its own reading, and two numbers have one text just if they are the same modulo 256^n. No conditions: any two numbers, any length from 1 to 8.
-/
import Derived.Test.YtkkiplfclanjkaaNumber
import Derived.Deep.QuietTactic
import Derived.BigQuiet
import Derived.ProofKit
import Derived.OpenShut
import Derived.ShutString
import Derived.ChangeOld
import Derived.Below
namespace Go.Proofs.Ytkkiplfclanjkaa.turns
open Go.ChangeShapes Go.WideShapes Go.ChangeAt Go.RowKit Go.Sort
open Go.ChangeMaps (open_string shut_string)
set_option linter.unusedVariables false

theorem own : ownKnob Try.prog.godebug = none := by kernel_rfl

theorem mask_of (c : Nat) (h : c < 8) : IntKind.u64.wrap (2 ^ (8 * (c : Int)).toNat) = ((256 ^ c : Nat) : Int) := by
  have e : (8 * (c : Int)).toNat = 8 * c := by omega
  have hp : (256 : Nat) ^ c = 2 ^ (8 * c) := by rw [Nat.pow_mul]
  have hb : 2 ^ (8 * c) ≤ 2 ^ 56 := Nat.pow_le_pow_right (by decide) (by omega)
  have e2 : (2 : Int) ^ (8 * c) = ((2 ^ (8 * c) : Nat) : Int) := by rw [Int.natCast_pow]; rfl
  rw [e, hp, e2]
  generalize 2 ^ (8 * c) = z at hb
  exact IntWalk.u64_in _ (by omega)

theorem and_mask (x n : Nat) (hx : x < 18446744073709551616) (h : n < 8) : bits .and .u64 (x : Int) (IntKind.u64.wrap (((256 ^ n : Nat) : Int) - 1)) = ((x % 256 ^ n : Nat) : Int) := by
  have hp : (256 : Nat) ^ n = 2 ^ (8 * n) := by rw [Nat.pow_mul]
  have hb : 2 ^ (8 * n) ≤ 2 ^ 56 := Nat.pow_le_pow_right (by decide) (by omega)
  have h0 : 0 < 2 ^ (8 * n) := Nat.pow_pos (by decide)
  have e : (((2 ^ (8 * n) : Nat) : Int) - 1) = ((2 ^ (8 * n) - 1 : Nat) : Int) := by omega
  rw [hp, e, IntWalk.u64_in _ (by omega), u64_and_nat _ _ hx (by omega), Nat.and_two_pow_sub_one_eq_mod]

theorem and_full (x : Nat) (hx : x < 18446744073709551616) : bits .and .u64 (x : Int) 18446744073709551615 = ((x % 256 ^ 8 : Nat) : Int) := by
  have h := u64_and_nat x 18446744073709551615 hx (by decide)
  have e : x &&& 18446744073709551615 = x % 256 ^ 8 := by
    have := Nat.and_two_pow_sub_one_eq_mod x 64
    simpa using this
  rw [← e, ← h]
  rfl

/-- Two numbers have one text just if they are the same modulo 256^n. -/
theorem le_mod (x n : Nat) : le x n = le (x % 256 ^ n) n := by
  have h := le_num (le x n)
  rw [le_length, num_le] at h
  exact h.symm
theorem le_inj (x y n : Nat) (h : le x n = le y n) : x % 256 ^ n = y % 256 ^ n := by
  rw [← num_le x n, ← num_le y n, h]

theorem bang_data (l : List UInt8) : ((⟨#[33]⟩ : ByteArray) ++ ⟨l.toArray⟩ ++ ⟨#[33]⟩).data.toList = 33 :: (l ++ [33]) := by
  rw [ByteArray.data_append, ByteArray.data_append]
  simp
theorem bang_size (l : List UInt8) : ((⟨#[33]⟩ : ByteArray) ++ ⟨l.toArray⟩ ++ ⟨#[33]⟩).size = l.length + 2 := by
  rw [ByteArray.size_append, ByteArray.size_append]
  show 1 + l.length + 1 = l.length + 2
  omega
theorem bang_ok (l : List UInt8) (n : Nat) (h : l.length = n) (h1 : 1 ≤ n) (h8 : n ≤ 8) : okR ((⟨#[33]⟩ : ByteArray) ++ ⟨l.toArray⟩ ++ ⟨#[33]⟩).size 1 n = true := by
  rw [bang_size]
  exact decide_eq_true (by omega)
theorem bang_cut (l : List UInt8) (n : Nat) (h : l.length = n) (h1 : 1 ≤ n) (h8 : n ≤ 8) : cutS ((⟨#[33]⟩ : ByteArray) ++ ⟨l.toArray⟩ ++ ⟨#[33]⟩) 1 n = l := by
  unfold cutS
  rw [if_pos (bang_ok l n h h1 h8), bang_data, Int.toNat_natCast]
  show ((l ++ [33]).take n) = l
  rw [List.take_append_of_le_length (by omega), List.take_of_length_le (by omega)]

set_option maxRecDepth 100000 in
set_option maxHeartbeats 1000000 in
theorem main (x y : Nat) (u : Nat) (w : World) (hx : Hid (x < 18446744073709551616)) (hy : Hid (y < 18446744073709551616)) (hu : u < 256) :
    Calls Try.prog 8 #[.int .u64 x, .int .u64 y, .int .u8 u] w fun e w' => e = .returned (.bool true) ∧ Below w.heap.size w w' := by
  obtain ⟨n, hn⟩ : ∃ n, n = 1 + u % 8 := ⟨_, rfl⟩
  have hn1 : 1 ≤ n := by omega
  have hn8 : n ≤ 8 := by omega
  have hn' : 1 + (u : Int) % 8 = (n : Int) := by omega
  have HX : (0 : Int) ≤ (x : Int) := by omega
  have HY : (0 : Int) ≤ (y : Int) := by omega
  have HN := Lib.hid hn
  clear hn
  go_enter Try.func8, Try.ntmps8
  go_wp2_with fail
  refine (awake_any _).mono ?_
  rintro e w1 ⟨rfl, b1⟩
  go_wp2_with fail
  refine (Little_all w1 x n HX).mono ?_
  rintro e w2 ⟨rfl, k2⟩
  have b2 := b1.grown k2 b1.size (fun j hj => by cases hj)
  obtain ⟨l, ql⟩ : ∃ l, l = leL x n := ⟨_, rfl⟩
  rw [← ql]
  have hl : l.length = n := by rw [ql]; unfold leL; rw [if_pos ⟨by omega, by omega⟩, le_length]; omega
  have HL := Lib.hid ql
  clear ql
  go_wp2_with fail
  refine (Big_all w2 x n HX).mono ?_
  rintro e w3 ⟨rfl, k3⟩
  have b3 := b2.grown k3 b2.size (fun j hj => by cases hj)
  rw [← HL.out]
  obtain ⟨r, qr⟩ : ∃ r, r = l.reverse := ⟨_, rfl⟩
  rw [← qr]
  have hr : r.length = n := by rw [qr, List.length_reverse, hl]
  have HR := Lib.hid qr
  clear qr b1 b2 k2 k3 hn'
  go_wp2_with fail
  have Hl := Lib.hid hl
  have Hr := Lib.hid hr
  clear hl hr
  have l1 : n ≤ l.length := by rw [Hl.out]; exact Nat.le_refl _
  have r1 : n ≤ r.length := by rw [Hr.out]; exact Nat.le_refl _
  go_loopw [10] (fun i wr => ∃ k q : Nat, k ≤ n ∧ i = .int .i64 k ∧ wr = w3.drewN q) (fun i _ => n - (intOf i).toNat)
  case atStart => exact ⟨0, 0, Nat.zero_le _, rfl, rfl⟩
  case round =>
    obtain ⟨k, q, hk, rfl, rfl⟩ := hrel
    by_cases hlt : k < n
    · have q1 : IntKind.i64.wrap ((n : Int) - 1) = (n : Int) - 1 := IntWalk.i64_in _ (by omega)
      obtain ⟨m, hm⟩ : ∃ m, m + k + 1 = n := ⟨n - 1 - k, by omega⟩
      have q2 : IntKind.i64.wrap ((n : Int) - 1 - k) = (m : Int) := by rw [IntWalk.i64_in _ (by omega)]; omega
      have q5 : k < l.length := by omega
      have q6 : m < r.length := by omega
      have q7 : (⟨l.toArray⟩ : ByteArray)[k] = (⟨r.toArray⟩ : ByteArray)[m] := by
        show l[k] = r[m]
        have e : r[m]? = l[k]? := by
          rw [HR.out, List.getElem?_reverse (by rw [Hl.out]; omega), Hl.out, show n - 1 - m = k from by omega]
        rw [List.getElem?_eq_getElem q6, List.getElem?_eq_getElem q5] at e
        exact (Option.some.inj e).symm
      have HM := Lib.hid hm
      clear hm
      go_wp2_with fail
      go_quiet (fail)
      go_wp2_with fail
      go_roundw
      case rel => exact ⟨k + 1, q + nq, by omega, by go_num, rfl⟩
      case measure => simp [intOf]; omega
    · have hd : decide ((k : Int) < n) = false := decide_eq_false (by omega)
      have l2 : l.length ≤ 8 := by rw [Hl.out]; exact hn8
      have r2 : r.length ≤ 8 := by rw [Hr.out]; exact hn8
      have b4 := below_drewN b3 q
      generalize w3.drewN q = w4 at b4 ⊢
      clear b3
      obtain ⟨vx, qx⟩ : ∃ vx, vx = x % 256 ^ n := ⟨_, rfl⟩
      have nl : num l = vx := by rw [HL.out, qx]; unfold leL; rw [if_pos ⟨by omega, by omega⟩, num_le]; rfl
      have nr : num r.reverse = vx := by rw [HR.out, List.reverse_reverse, nl]
      have NL := Lib.hid nl
      have NR := Lib.hid nr
      have QX := Lib.hid qx
      clear nl nr qx
      go_wp2_with fail
      refine (ReadLittle_all w4 _ 1 n (by rw [bang_size]; omega)).mono ?_
      rintro e w5 ⟨rfl, k5⟩
      have b5 := b4.grown k5 b4.size (fun j hj => by cases hj)
      rw [bang_cut l n Hl.out hn1 hn8, bang_ok l n Hl.out hn1 hn8, NL.out]
      go_wp2_with fail
      refine (ReadBig_all w5 _ 1 n (by rw [bang_size]; omega)).mono ?_
      rintro e w6 ⟨rfl, k6⟩
      have b6 := b5.grown k6 b5.size (fun j hj => by cases hj)
      rw [bang_cut r n Hr.out hn1 hn8, bang_ok r n Hr.out hn1 hn8, NR.out]
      clear b4 b5 k5 k6
      obtain ⟨vy, qy⟩ : ∃ vy, vy = y % 256 ^ n := ⟨_, rfl⟩
      have QY := Lib.hid qy
      clear qy
      obtain ⟨l', ql'⟩ : ∃ l', l' = leL y n := ⟨_, rfl⟩
      have e1 : leL x n = le x n := by unfold leL; rw [if_pos ⟨by omega, by omega⟩]; rfl
      have e2 : leL y n = le y n := by unfold leL; rw [if_pos ⟨by omega, by omega⟩]; rfl
      have one : vx = vy → l' = l := fun h => by
        rw [ql', HL.out, e1, e2, le_mod y, le_mod x, ← QX.out, ← QY.out, h]
      have two : l' = l → vx = vy := fun h => by
        rw [ql', HL.out, e1, e2] at h
        rw [QX.out, QY.out]
        exact (le_inj y x n h).symm
      have LL' := Lib.hid ql'
      clear ql' e1 e2
      by_cases h8 : n = 8
      · subst h8
        have bx : bits .and .u64 (x : Int) 18446744073709551615 = (vx : Int) := by rw [and_full x hx.out, QX.out]
        have by_ : bits .and .u64 (y : Int) 18446744073709551615 = (vy : Int) := by rw [and_full y hy.out, QY.out]
        by_cases hv : vx = vy
        · have := one hv
          subst hv this
          clear one two
          go_wp2_with fail
          refine (Little_all w6 y _ HY).mono ?_
          rintro e w7 ⟨rfl, k7⟩
          have b7 := b6.grown k7 b6.size (fun j hj => by cases hj)
          rw [show leL (y : Int) 8 = l' from LL'.out.symm]
          go_wp2_with fail
          go_ret
          exact ⟨rfl, b7⟩
        · have v1 : (l' == l) = false := by
            rw [beq_eq_false_iff_ne]; exact fun h => hv (two h)
          have v2 : ((vx : Int) == (vy : Int)) = false := by
            rw [beq_eq_false_iff_ne]; omega
          clear one two hv
          go_wp2_with fail
          refine (Little_all w6 y _ HY).mono ?_
          rintro e w7 ⟨rfl, k7⟩
          have b7 := b6.grown k7 b6.size (fun j hj => by cases hj)
          rw [show leL (y : Int) 8 = l' from LL'.out.symm]
          go_wp2_with fail
          go_ret
          exact ⟨rfl, b7⟩
      · have h8' : (n : Int) < 8 := by omega
        obtain ⟨M, qM⟩ : ∃ M : Nat, M = 256 ^ n := ⟨_, rfl⟩
        have hM : (1 : Int) ≤ (M : Int) := by have : 0 < 256 ^ n := Nat.pow_pos (by decide); omega
        have hw1 : IntKind.u64.wrap (2 ^ (8 * (n : Int)).toNat) = (M : Int) := by rw [qM]; exact mask_of n (by omega)
        have hw2 : IntKind.u64.wrap (2 ^ (8 * n)) = (M : Int) := by rw [← hw1, show (8 * (n : Int)).toNat = 8 * n from by omega]
        have bx : bits .and .u64 (x : Int) (IntKind.u64.wrap ((M : Int) - 1)) = (vx : Int) := by rw [qM, and_mask x n hx.out (by omega), QX.out]
        have by_ : bits .and .u64 (y : Int) (IntKind.u64.wrap ((M : Int) - 1)) = (vy : Int) := by rw [qM, and_mask y n hy.out (by omega), QY.out]
        have QM := Lib.hid qM
        clear qM
        by_cases hv : vx = vy
        · have := one hv
          subst hv this
          clear one two
          go_wp2_with fail
          refine (Little_all w6 y _ HY).mono ?_
          rintro e w7 ⟨rfl, k7⟩
          have b7 := b6.grown k7 b6.size (fun j hj => by cases hj)
          rw [← LL'.out]
          go_wp2_with fail
          go_ret
          exact ⟨rfl, b7⟩
        · have v1 : (l' == l) = false := by
            rw [beq_eq_false_iff_ne]; exact fun h => hv (two h)
          have v2 : ((vx : Int) == (vy : Int)) = false := by
            rw [beq_eq_false_iff_ne]; omega
          clear one two hv
          go_wp2_with fail
          refine (Little_all w6 y _ HY).mono ?_
          rintro e w7 ⟨rfl, k7⟩
          have b7 := b6.grown k7 b6.size (fun j hj => by cases hj)
          rw [← LL'.out]
          go_wp2_with fail
          go_ret
          exact ⟨rfl, b7⟩

theorem walk (a0 a1 a2 : Int) (w0 : (Lit.int .u64 a0).wf = true) (w1 : (Lit.int .u64 a1).wf = true) (w2 : (Lit.int .u8 a2).wf = true) (w : World) :
    Calls Try.prog 8 #[.int .u64 a0, .int .u64 a1, .int .u8 a2] w fun e w' => e = .returned (.bool true) ∧ Below w.heap.size w w' := by
  have b0 := bounds_u64 w0
  have b1 := bounds_u64 w1
  have b2 := bounds_u8 w2
  obtain ⟨x, rfl⟩ := Int.eq_ofNat_of_zero_le b0.1
  obtain ⟨y, rfl⟩ := Int.eq_ofNat_of_zero_le b1.1
  obtain ⟨u, rfl⟩ := Int.eq_ofNat_of_zero_le b2.1
  exact main x y u w (Lib.hid (by omega)) (Lib.hid (by omega)) (by omega)

set_option maxRecDepth 100000 in
theorem lifted (os : Os) (started : os.Started) (H : Type) (enc : TypeId × Value → H) :
    ReturnsInHanded {} Try.checked os 8 .any (Rows.memTurnsSpec.pre6 enc Try.prog Try.f8 Rows.memTurnsRow.domain false) (Rows.memTurnsSpec.post enc Try.prog Try.f8 false true false false) := by
  refine returnsInHanded_of_change (C := Try.checked) own started (by kernel_rfl) Try.func8
    (ChangeSpec.witness6 (enc := enc) (C := Try.checked) false ⟨#[], #[.int .u64 0, .int .u64 0, .int .u8 0], []⟩ 8 (by kernel_rfl) (by kernel_rfl) (by kernel_rfl) (by kernel_rfl)) ?_
  intro W base args ds gs before hval0 hW hcnd _
  have hval : ∀ (j : Nat) t v, Try.f8.params[j]? = some t → args[j]? = some v → Value.okWide Try.prog W .any base t v := hval0
  have hW' := hW
  obtain ⟨p, q, hA0, hV, rfl, hfz, hnd⟩ := hW
  have hA : DataW.TrodAll enc Try.prog W 0 (fun _ => true) true Try.f8.params.toList args.toList ds p := hA0
  rw [Try.params8] at hA hval
  obtain ⟨v0, vs0, d0, ds0, p0, q0, hargs, rfl, rfl, h0, r0⟩ := trodAll_cons hA
  obtain ⟨v1, vs1, d1, ds1, p1, q1, rfl, rfl, rfl, h1, r1⟩ := trodAll_cons r0
  obtain ⟨v2, vs2, d2, ds2, p2, q2, rfl, rfl, rfl, h2, r2⟩ := trodAll_cons r1
  obtain ⟨rfl, rfl, rfl⟩ := trodAll_nil r2
  obtain rfl : args = #[v0, v1, v2] := by cases args; simp_all
  obtain ⟨rfl, rfl⟩ := trodVars_none hV
  obtain ⟨a0, rfl, rfl, rfl, w0⟩ := open_int Try.underlying27 (hval 0 27 v0 rfl rfl) h0
  obtain ⟨a1, rfl, rfl, rfl, w1⟩ := open_int Try.underlying27 (hval 1 27 v1 rfl rfl) h1
  obtain ⟨a2, rfl, rfl, rfl, w2⟩ := open_int Try.underlying5 (hval 2 5 v2 rfl rfl) h2
  clear hA0 hval0
  refine (walk a0 a1 a2 w0 w1 w2 W).mono fun e W' ⟨he, bel⟩ => ?_
  subst he
  exact ⟨_, rfl, _, _, _, [], _, [], hW', trodAll_mk1 (shut_bool Try.underlying4 _), (trodAll_cons_mk (shut_int Try.underlying27 w0) (trodAll_cons_mk (shut_int Try.underlying27 w1) (trodAll_cons_mk (shut_int Try.underlying5 w2) trodAll_mk0))), rfl, bel.frame _, fun h => by cases h⟩

/-- THE STATEMENT. -/
theorem proved : Rows.MemTurnsSaid :=
  OpenClaim.holds_of_wide 8 Try.f8 rfl rfl rfl rfl rfl rfl rfl ⟨rfl, rfl, rfl, rfl, rfl⟩ rfl rfl rfl rfl rfl (by kernel_rfl) Try.func8 (by kernel_rfl)
    (of_decide_eq_true (by kernel_rfl)) (by unfold Func.isWrapper; first | (rw [if_pos (by decide +kernel)]; kernel_rfl) | (rw [if_neg (by decide +kernel)]; exact ⟨rfl, rfl⟩))
    (fun os started H enc _ => lifted os started H enc)
#print axioms proved

end Go.Proofs.Ytkkiplfclanjkaa.turns
