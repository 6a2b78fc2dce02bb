/-
  MemBack: whatever was done to a memory before, what is put is got, no byte beside it is changed, and an error changes nothing. No conditions: any size, list of acts, number, length and place.
-/
import Derived.Test.YtkkiplfclanjkaaActs
import Derived.StillTailTactics
import Derived.Deep.QuietTactic
import Derived.BigQuiet
import Derived.ProofKit
import Derived.OpenShut
import Derived.ShutString
import Derived.ChangeOld
import Derived.Below
namespace Go.Proofs.Ytkkiplfclanjkaa.back
open Go.ChangeShapes Go.WideShapes Go.ChangeAt Go.RowKit Go.Sort
open Go.ChangeMaps (open_string shut_string)
set_option linter.unusedVariables false

theorem own : ownKnob Try.prog.godebug = none := by kernel_rfl
theorem laidOut : laidOutB Try.prog = true := by kernel_rfl

set_option maxRecDepth 100000 in
set_option maxHeartbeats 1000000 in
theorem early (a0 a2 a3 a4 : Int) (p : Option Addr) (len cap : Nat) (l : List Act1) (w : World) (ha : IsActs w p len l)
    (H : great l = true ∨ (great l = false ∧ a0 < 1) ∨ (great l = false ∧ 1 ≤ a0 ∧ 500 < a0)) :
    Calls Try.prog 7 #[.int .i64 a0, .slice p len cap, .int .i64 a2, .int .i64 a3, .int .u64 a4] w fun e w' => e = .returned (.bool true) ∧ Below w.heap.size w w' := by
  rcases H with h1 | ⟨h1, h2⟩ | ⟨h1, h2, h3⟩
  all_goals
    go_enter Try.func7, Try.ntmps7
    go_wp2_with fail
    refine (awake_any _).mono ?_
    rintro e w1 ⟨rfl, b1⟩
    go_wp2_with fail
    refine (Great_any _ _ _ _ _ (ha.below b1)).mono ?_
    rintro e w2 ⟨rfl, rfl⟩
    rw [h1]
    go_wp2_with fail
    go_ret
    exact ⟨rfl, b1⟩

theorem putE_len (l l' : List UInt8) (a n : Int) (h : l.length = l'.length) : putE l a n = putE l' a n := by unfold putE; rw [h]

/-- What was put is got. -/
theorem got (l : List UInt8) (a c x : Nat) (h1 : 1 ≤ c) (h2 : c ≤ 8) (h3 : a + c ≤ l.length) : getX (putL l a c x) a c = x % 256 ^ c := by
  have e : putE l a c = 0 := by unfold putE; rw [if_neg (by omega), if_neg (by omega)]
  have e2 : putE (putL l a c x) a c = 0 := by rw [putE_len _ l _ _ (putL_length _ _ _ _)]; exact e
  unfold getX
  rw [if_pos e2]
  unfold putL
  rw [if_pos e, Int.toNat_natCast, Int.toNat_natCast, Int.toNat_natCast]
  have e3 : ((lay l a (le x c)).drop a).take c = le x c := by
    unfold lay
    have e4 : (l.take a).length = a := by rw [List.length_take]; omega
    rw [List.drop_append_of_le_length (by omega), List.drop_of_length_le (by omega), List.nil_append, List.take_append_of_le_length (by rw [le_length]; omega), List.take_of_length_le (by rw [le_length]; omega)]
  rw [e3, num_le]

/-- The bytes beside it are as they were. -/
theorem same_ends (l : List UInt8) (a c x : Nat) (h1 : 1 ≤ c) (h2 : c ≤ 8) (h3 : a + c ≤ l.length) :
    (putL l a c x).take a = l.take a ∧ (putL l a c x).drop (a + c) = l.drop (a + c) := by
  have e : putE l a c = 0 := by unfold putE; rw [if_neg (by omega), if_neg (by omega)]
  unfold putL
  rw [if_pos e, Int.toNat_natCast, Int.toNat_natCast, Int.toNat_natCast]
  unfold lay
  have e4 : (l.take a).length = a := by rw [List.length_take]; omega
  constructor
  · rw [List.take_append_of_le_length (by omega), List.take_of_length_le (by omega)]
  · rw [← List.append_assoc, List.drop_append_of_le_length (by simp [le_length]; omega), List.drop_of_length_le (by simp [le_length]; omega), List.nil_append, le_length]

theorem ext_list (l : List UInt8) (i j : Nat) : (ByteArray.extract ⟨l.toArray⟩ i j).toList = (l.drop i).take (j - i) := by
  rw [Lib.toList_data, Lib.extract_data]

/-- Two cuts of the same bytes are the same text. -/
theorem ext_eq (l m : List UInt8) (i j : Nat) (h : (l.drop i).take (j - i) = (m.drop i).take (j - i)) : ((ByteArray.extract ⟨l.toArray⟩ i j).toList == (ByteArray.extract ⟨m.toArray⟩ i j).toList) = true := by
  rw [ext_list, ext_list, h]
  exact beq_self_eq_true _

theorem ext_tail (l m : List UInt8) (i : Nat) (h : l.drop i = m.drop i) : ((ByteArray.extract ⟨l.toArray⟩ i l.length).toList == (ByteArray.extract ⟨m.toArray⟩ i m.length).toList) = true := by
  have e : ∀ k : List UInt8, (ByteArray.extract ⟨k.toArray⟩ i k.length).toList = k.drop i := fun k => by
    rw [ext_list, List.take_of_length_le (by rw [List.length_drop]; omega)]
  rw [e, e, h]
  exact beq_self_eq_true _

theorem mask_of (c : Nat) (h : c < 8) : IntKind.u64.wrap (2 ^ (8 * (c : Int)).toNat) = ((256 ^ c : Nat) : Int) := by
  have e : (8 * (c : Int)).toNat = 8 * c := by omega
  have hp : (256 : Nat) ^ c = 2 ^ (8 * c) := by rw [Nat.pow_mul]
  have hb : 2 ^ (8 * c) ≤ 2 ^ 56 := Nat.pow_le_pow_right (by decide) (by omega)
  have e2 : (2 : Int) ^ (8 * c) = ((2 ^ (8 * c) : Nat) : Int) := by rw [Int.natCast_pow]; rfl
  rw [e, hp, e2]
  generalize 2 ^ (8 * c) = z at hb
  exact IntWalk.u64_in _ (by omega)

set_option maxRecDepth 100000 in
set_option maxHeartbeats 1000000 in
theorem late (n : Nat) (a2 a3 a4 : Int) (p : Option Addr) (len cap : Nat) (l : List Act1) (w : World) (ha : IsActs w p len l) (hg : great l = false) (h1 : 1 ≤ n) (h2 : n ≤ 500) (h4 : 0 ≤ a4) (h5 : a4 < 18446744073709551616) :
    Calls Try.prog 7 #[.int .i64 n, .slice p len cap, .int .i64 a2, .int .i64 a3, .int .u64 a4] w fun e w' => e = .returned (.bool true) ∧ Below w.heap.size w w' := by
  have hmax := ha.2.1
  unfold maxLen at hmax
  have hlen := Lib.hid ha.1
  go_enter Try.func7, Try.ntmps7
  go_wp2_with fail
  refine (awake_any _).mono ?_
  rintro e w1 ⟨rfl, b1⟩
  have ha0 := ha
  have ha := ha.below b1
  go_wp2_with fail
  refine (Great_any _ _ _ _ _ ha).mono ?_
  rintro e w2 ⟨rfl, rfl⟩
  rw [hg]
  have d1 : decide ((n : Int) < 1) = false := decide_eq_false (by omega)
  have d2 : decide ((500 : Int) < n) = false := decide_eq_false (by omega)
  have hg := Lib.hid hg
  go_wp2_with fail
  refine (New_ok w1 n (by omega) (by omega)).mono ?_
  rintro e w2 ⟨rfl, m2, k2⟩
  have b2 := b1.grown k2 b1.size (fun j hj => by cases hj)
  rw [Int.toNat_natCast] at m2
  have ha := ha.below (Below.of_none k2)
  have l2 := m2.lt1
  go_wp2_with fail
  go_loopw [13] (fun i wr => ∃ (k : Nat) (L : List UInt8), k ≤ len ∧ i = .int .i64 k ∧ Hid (L.length = n) ∧ Mem wr (w1.heap.size + 1) w1.heap.size L ∧ Below w.heap.size w wr) (fun i _ => len - (intOf i).toNat)
  case atStart => exact ⟨0, _, Nat.zero_le _, rfl, Lib.hid (List.length_replicate), m2, b2⟩
  case round =>
    obtain ⟨k, L, hk, rfl, hL, hm, hb⟩ := hrel
    by_cases hlt : k < len
    · obtain ⟨b, o, c, rfl, hck, hfit, hat⟩ := (ha0.below hb).at_ k hlt
      obtain ⟨cd, ca, cn, cx, cs⟩ := c
      obtain ⟨c0, c1, c2, c3, c4⟩ := hat
      obtain ⟨f0, f1, f2, f3, f4⟩ := hfit
      have bx := bounds_u64 f3
      unfold maxLen at f4
      by_cases hd0 : cd = 0
      · subst hd0
        clear hck f0 f1 f2 f3 ha ha0
        go_wp2_with fail
        go_still_tail 16, (by kernel_rfl)
        change wpList _ _ _ _ _ wr.drew
        have hm1 : Mem wr.drew (w1.heap.size + 1) w1.heap.size L := hm
        have hb1 : Below w.heap.size w wr.drew := hb.drew
        generalize wr.drew = wd at hm1 hb1 ⊢
        clear hm hb c0 c1 c2 c3 c4
        go_wp2_with fail
        refine (Put_all wd _ _ _ hm1 (by rw [hL.out]; omega) ca cn cx (by omega)).mono ?_
        rintro e w5 ⟨rfl, m5, k5⟩
        have b5 := hb1.grown k5 hb1.size (fun j hj => by injection hj with hj; have := b1.size; omega)
        go_wp2_with fail
        go_roundw
        case rel => exact ⟨k + 1, _, by omega, by go_num, Lib.hid (by rw [putL_length]; exact hL.out), m5, b5⟩
        case measure => simp [intOf]; omega
      · have hd : (cd == 0) = false := by simpa using hd0
        clear hck f0 f1 f2 f3 ha ha0 hd0
        go_wp2_with fail
        go_still_tail 11, (by kernel_rfl)
        change wpList _ _ _ _ _ wr.drew
        have hm1 : Mem wr.drew (w1.heap.size + 1) w1.heap.size L := hm
        have hb1 : Below w.heap.size w wr.drew := hb.drew
        generalize wr.drew = wd at hm1 hb1 ⊢
        clear hm hb c0 c1 c2 c3 c4
        go_wp2_with fail
        refine (Write_all wd _ _ _ hm1 (by rw [hL.out]; omega) ca cs f4).mono ?_
        rintro e w5 ⟨rfl, m5, k5⟩
        have b5 := hb1.grown k5 hb1.size (fun j hj => by injection hj with hj; have := b1.size; omega)
        go_wp2_with fail
        go_roundw
        case rel => exact ⟨k + 1, _, by omega, by go_num, Lib.hid (by rw [writeL_length]; exact hL.out), m5, b5⟩
        case measure => simp [intOf]; omega
    · have hd : decide ((k : Int) < len) = false := decide_eq_false (by omega)
      have hk' : k = len := by omega
      subst hk'
      clear ha ha0 m2 b2
      have zl : L.length ≤ 9223372036854775807 := by rw [hL.out]; omega
      go_wp2_with fail
      refine (Text_all wr _ _ _ hm zl 0 n (by omega)).mono ?_
      rintro e w3 ⟨rfl, rfl⟩
      rw [textS_all L n (by rw [hL.out]), textE_all L n (by rw [hL.out])]
      go_wp2_with fail
      refine (Put_all wr _ _ _ hm zl a2 a3 a4 h4).mono ?_
      rintro e w3 ⟨rfl, m3, k3⟩
      have b3 := hb.grown k3 hb.size (fun j hj => by injection hj with hj; have := b1.size; omega)
      obtain ⟨L', qL'⟩ : ∃ L', L' = putL L a2 a3 a4 := ⟨_, rfl⟩
      rw [← qL'] at m3
      have z3 : L'.length = L.length := by rw [qL', putL_length]
      have zl3 : L'.length ≤ 9223372036854775807 := by rw [z3]; exact zl
      have HL' := Lib.hid qL'
      have Z3 := Lib.hid z3
      clear qL' z3
      rcases putE_cases L a2 a3 with ⟨x1, e⟩ | ⟨x1, x2, x3, e⟩ | ⟨x1, x2, x3, x4, e⟩
      · rw [e]
        have q : L' = L := by rw [HL'.out]; unfold putL; rw [if_neg (by rw [e]; decide)]
        subst q
        have E := Lib.hid e
        clear e
        go_wp2_with fail
        refine (Text_all w3 _ _ _ m3 zl3 0 n (by omega)).mono ?_
        rintro e w4 ⟨rfl, rfl⟩
        rw [textS_all L' n (by rw [hL.out]), textE_all L' n (by rw [hL.out])]
        go_wp2_with fail
        go_ret
        exact ⟨by simp, b3⟩
      · rw [e]
        have q : L' = L := by rw [HL'.out]; unfold putL; rw [if_neg (by rw [e]; decide)]
        subst q
        have E := Lib.hid e
        clear e
        go_wp2_with fail
        refine (Text_all w3 _ _ _ m3 zl3 0 n (by omega)).mono ?_
        rintro e w4 ⟨rfl, rfl⟩
        rw [textS_all L' n (by rw [hL.out]), textE_all L' n (by rw [hL.out])]
        go_wp2_with fail
        go_ret
        exact ⟨by simp, b3⟩
      · rw [e]
        have E := Lib.hid e
        clear e
        go_wp2_with fail
        refine (Text_all w3 _ _ _ m3 zl3 0 n (by omega)).mono ?_
        rintro e w4 ⟨rfl, rfl⟩
        rw [textS_all L' n (by rw [Z3.out, hL.out]), textE_all L' n (by rw [Z3.out, hL.out])]
        go_wp2_with fail
        refine (Get_all w3 _ _ _ m3 zl3 a2 a3).mono ?_
        rintro e w4 ⟨rfl, rfl⟩
        obtain ⟨a, rfl⟩ := Int.eq_ofNat_of_zero_le x3
        obtain ⟨c, rfl⟩ := Int.eq_ofNat_of_zero_le (show (0 : Int) ≤ a3 by omega)
        obtain ⟨x, rfl⟩ := Int.eq_ofNat_of_zero_le h4
        rw [putE_len L' L _ _ Z3.out, E.out]
        have HY := got L a c x (by omega) (by omega) (by omega)
        rw [← HL'.out] at HY
        have HS := same_ends L a c x (by omega) (by omega) (by omega)
        rw [← HL'.out] at HS
        obtain ⟨t1, t2⟩ := HS
        have T1 := Lib.hid t1
        have T2 := Lib.hid t2
        have y1 : (a : Int) + c ≤ L'.length := by rw [Z3.out]; omega
        have y2 : (a : Int) + c ≤ L.length := by omega
        have y3 : (a : Int) ≤ L'.length := by rw [Z3.out]; omega
        have y4 : (a : Int) ≤ L.length := by omega
        have y5 : (a : Int) + c ≤ n := by rw [← hL.out]; exact y2
        clear x3 x4 h4 t1 t2
        by_cases h8 : c = 8
        · subst h8
          rw [Nat.mod_eq_of_lt (show x < 256 ^ 8 from by omega)] at HY
          rw [HY]
          clear HY
          go_wp2_with fail
          have q1 : IntKind.i64.wrap ((a : Int) + 8) = (a : Int) + 8 := IntWalk.i64_in _ (by omega)
          have q2 : (0 : Int) ≤ (a : Int) + 8 := by omega
          have q3 : ((a : Int) + 8).toNat = a + 8 := by omega
          have q4 : decide ((a : Int) + 8 ≤ n) = true := decide_eq_true (by omega)
          have q5 := ext_eq L' L 0 a (by simp only [List.drop_zero, Nat.sub_zero]; exact T1.out)
          have q6 := ext_tail L' L (a + 8) T2.out
          go_quiet (fail)
          go_wp2_with fail
          go_ret
          exact ⟨rfl, below_drewN b3 _⟩
        · have h8' : (c : Int) < 8 := by omega
          obtain ⟨y, qy⟩ : ∃ y, y = x % 256 ^ c := ⟨_, rfl⟩
          rw [← qy] at HY
          rw [HY]
          have QY := Lib.hid qy
          clear HY qy
          obtain ⟨M, qM⟩ : ∃ M : Nat, M = 256 ^ c := ⟨_, rfl⟩
          have hM : (1 : Int) ≤ (M : Int) := by have : 0 < 256 ^ c := Nat.pow_pos (by decide); omega
          have hw1 : IntKind.u64.wrap (2 ^ (8 * (c : Int)).toNat) = (M : Int) := by rw [qM]; exact mask_of c (by omega)
          have hw2 : IntKind.u64.wrap (2 ^ (8 * c)) = (M : Int) := by rw [← hw1, show (8 * (c : Int)).toNat = 8 * c from by omega]
          have QM := Lib.hid qM
          clear qM
          have hmod : (x : Int) % (M : Int) = (y : Int) := by rw [QM.out, QY.out]; rfl
          have q1 : IntKind.i64.wrap ((a : Int) + c) = (a : Int) + c := IntWalk.i64_in _ (by omega)
          have q2 : (0 : Int) ≤ (a : Int) + c := by omega
          have q3 : ((a : Int) + c).toNat = a + c := by omega
          have q4 : decide ((a : Int) + c ≤ n) = true := decide_eq_true (by omega)
          have q5 := ext_eq L' L 0 a (by simp only [List.drop_zero, Nat.sub_zero]; exact T1.out)
          have q6 := ext_tail L' L (a + c) T2.out
          go_wp2_with fail
          go_quiet (fail)
          go_wp2_with fail
          go_ret
          exact ⟨rfl, below_drewN b3 _⟩

theorem walk (a0 : Int) (a1 : Option Addr) (len1 cap1 : Nat) (l1 : List Act1) (a2 a3 a4 : Int) (w : World) (w0 : (Lit.int .i64 a0).wf = true) (w1 : IsActs w a1 len1 l1) (w2 : (Lit.int .i64 a2).wf = true) (w3 : (Lit.int .i64 a3).wf = true) (w4 : (Lit.int .u64 a4).wf = true) :
    Calls Try.prog 7 #[.int .i64 a0, .slice a1 len1 cap1, .int .i64 a2, .int .i64 a3, .int .u64 a4] w fun e w' => e = .returned (.bool true) ∧ Below w.heap.size w w' := by
  have b4 := bounds_u64 w4
  cases hg : great l1 with
  | true => exact early a0 a2 a3 a4 a1 len1 cap1 l1 w w1 (.inl hg)
  | false =>
    by_cases h1 : a0 < 1
    · exact early a0 a2 a3 a4 a1 len1 cap1 l1 w w1 (.inr (.inl ⟨hg, h1⟩))
    by_cases h2 : 500 < a0
    · exact early a0 a2 a3 a4 a1 len1 cap1 l1 w w1 (.inr (.inr ⟨hg, by omega, h2⟩))
    obtain ⟨n, rfl⟩ := Int.eq_ofNat_of_zero_le (show (0 : Int) ≤ a0 by omega)
    exact late n a2 a3 a4 a1 len1 cap1 l1 w w1 hg (by omega) (by omega) (by omega) (by omega)

set_option maxRecDepth 100000 in
theorem lifted (os : Os) (started : os.Started) (H : Type) (enc : TypeId × Value → H) :
    ReturnsInHanded {} Try.checked os 7 .any (Rows.memBackSpec.pre6 enc Try.prog Try.f7 Rows.memBackRow.domain false) (Rows.memBackSpec.post enc Try.prog Try.f7 false true false false) := by
  refine returnsInHanded_of_change (C := Try.checked) own started (by kernel_rfl) Try.func7
    (ChangeSpec.witness6 (enc := enc) (C := Try.checked) false ⟨#[], #[.int .i64 0, .slice none 0 0, .int .i64 0, .int .i64 0, .int .u64 0], []⟩ 8 (by kernel_rfl) (by kernel_rfl) (by kernel_rfl) (by kernel_rfl)) ?_
  intro W base args ds gs before hval0 hW hcnd _
  have hval : ∀ (j : Nat) t v, Try.f7.params[j]? = some t → args[j]? = some v → Value.okWide Try.prog W .any base t v := hval0
  have hW' := hW
  obtain ⟨p, q, hA0, hV, rfl, hfz, hnd⟩ := hW
  have hA : DataW.TrodAll enc Try.prog W 0 (fun _ => true) true Try.f7.params.toList args.toList ds p := hA0
  rw [Try.params7] at hA hval
  obtain ⟨v0, vs0, d0, ds0, p0, q0, hargs, rfl, rfl, h0, r0⟩ := trodAll_cons hA
  obtain ⟨v1, vs1, d1, ds1, p1, q1, rfl, rfl, rfl, h1, r1⟩ := trodAll_cons r0
  obtain ⟨v2, vs2, d2, ds2, p2, q2, rfl, rfl, rfl, h2, r2⟩ := trodAll_cons r1
  obtain ⟨v3, vs3, d3, ds3, p3, q3, rfl, rfl, rfl, h3, r3⟩ := trodAll_cons r2
  obtain ⟨v4, vs4, d4, ds4, p4, q4, rfl, rfl, rfl, h4, r4⟩ := trodAll_cons r3
  obtain ⟨rfl, rfl, rfl⟩ := trodAll_nil r4
  obtain rfl : args = #[v0, v1, v2, v3, v4] := by cases args; simp_all
  obtain ⟨rfl, rfl⟩ := trodVars_none hV
  obtain ⟨a0, rfl, rfl, rfl, w0⟩ := open_int Try.underlying3 (hval 0 3 v0 rfl rfl) h0
  obtain ⟨a1, len1, cap1, rfl⟩ := okWide_slice Try.underlying37 (hval 1 37 v1 rfl rfl)
  have k1 := h1
  have lt1 : ∀ x ∈ p1, x.block < W.heap.size := by obtain ⟨m, hm⟩ := k1; exact DataW.trod_lt m _ _ _ hm
  obtain ⟨l1, w1⟩ : ∃ l, IsActs W a1 len1 l := by obtain ⟨fuel, hf⟩ := h1; exact open_acts hf
  obtain ⟨a2, rfl, rfl, rfl, w2⟩ := open_int Try.underlying3 (hval 2 3 v2 rfl rfl) h2
  obtain ⟨a3, rfl, rfl, rfl, w3⟩ := open_int Try.underlying3 (hval 3 3 v3 rfl rfl) h3
  obtain ⟨a4, rfl, rfl, rfl, w4⟩ := open_int Try.underlying27 (hval 4 27 v4 rfl rfl) h4
  clear hA0 hval0
  refine (walk a0 a1 len1 cap1 l1 a2 a3 a4 W w0 w1 w2 w3 w4).mono fun e W' ⟨he, bel⟩ => ?_
  subst he
  exact ⟨_, rfl, _, _, _, [], _, [], hW', trodAll_mk1 (shut_bool Try.underlying4 _), (trodAll_cons_mk (shut_int Try.underlying3 w0) (trodAll_cons_mk (Below.trod laidOut (by kernel_rfl) (of_decide_eq_true (by kernel_rfl)) k1 bel lt1) (trodAll_cons_mk (shut_int Try.underlying3 w2) (trodAll_cons_mk (shut_int Try.underlying3 w3) (trodAll_cons_mk (shut_int Try.underlying27 w4) trodAll_mk0))))), rfl, bel.frame _, fun h => by cases h⟩

/-- THE STATEMENT. -/
theorem proved : Rows.MemBackSaid :=
  OpenClaim.holds_of_wide 7 Try.f7 rfl rfl rfl rfl rfl rfl rfl ⟨rfl, rfl, rfl, rfl, rfl⟩ rfl rfl rfl rfl rfl (by kernel_rfl) Try.func7 (by kernel_rfl)
    (of_decide_eq_true (by kernel_rfl)) (by unfold Func.isWrapper; first | (rw [if_pos (by decide +kernel)]; kernel_rfl) | (rw [if_neg (by decide +kernel)]; exact ⟨rfl, rfl⟩))
    (fun os started H enc _ => lifted os started H enc)
#print axioms proved

end Go.Proofs.Ytkkiplfclanjkaa.back
