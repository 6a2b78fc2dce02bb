/-
  MemPlays: whatever is put, written, got and told, each answer and all bytes are the document's. No conditions: any size, any list of acts.
-/
import Derived.Test.YtkkiplfclanjkaaActs
import Derived.Test.YtkkiplfclanjkaaRefMem
import Derived.ProofKit
import Derived.OpenShut
import Derived.ShutString
import Derived.ChangeOld
import Derived.Below
namespace Go.Proofs.Ytkkiplfclanjkaa.plays
open Go.ChangeShapes Go.WideShapes Go.ChangeAt Go.RowKit Go.Sort
open Go.ChangeMaps (open_string shut_string)
set_option linter.unusedVariables false

theorem own : ownKnob Try.prog.godebug = none := by kernel_rfl
theorem laidOut : laidOutB Try.prog = true := by kernel_rfl

set_option maxRecDepth 100000 in
set_option maxHeartbeats 1000000 in
theorem early (a0 : Int) (p : Option Addr) (len cap : Nat) (l : List Act1) (w : World) (ha : IsActs w p len l)
    (H : great l = true ∨ (great l = false ∧ 500 < a0 ∧ a0 ≤ 65536)) :
    Calls Try.prog 4 #[.int .i64 a0, .slice p len cap] w fun e w' => e = .returned (.bool true) ∧ Below w.heap.size w w' := by
  rcases H with h1 | ⟨h1, h2, h3⟩
  all_goals
    go_enter Try.func4, Try.ntmps4
    go_wp2_with fail
    refine (awake_any _).mono ?_
    rintro e w1 ⟨rfl, b1⟩
    go_wp2_with fail
    refine (Great_any _ _ _ _ _ (ha.below b1)).mono ?_
    rintro e w2 ⟨rfl, rfl⟩
    rw [h1]
    go_wp2_with fail
    go_ret
    exact ⟨rfl, b1⟩

set_option maxRecDepth 100000 in
set_option maxHeartbeats 1000000 in
theorem odd (a0 : Int) (p : Option Addr) (len cap : Nat) (l : List Act1) (w : World) (ha : IsActs w p len l) (hg : great l = false) (H : a0 < 1 ∨ 65536 < a0) :
    Calls Try.prog 4 #[.int .i64 a0, .slice p len cap] w fun e w' => e = .returned (.bool true) ∧ Below w.heap.size w w' := by
  have no := fun w => New_no w a0 H
  have NO := Lib.hid no
  clear no
  rcases H with h1 | h1
  · have d1 : decide ((500 : Int) < a0) = false := decide_eq_false (by omega)
    go_enter Try.func4, Try.ntmps4
    go_wp2_with fail
    refine (awake_any _).mono ?_
    rintro e w1 ⟨rfl, b1⟩
    go_wp2_with fail
    refine (Great_any _ _ _ _ _ (ha.below b1)).mono ?_
    rintro e w2 ⟨rfl, rfl⟩
    rw [hg]
    go_wp2_with fail
    refine (NO.out w1).mono ?_
    rintro e w2 ⟨rfl, rfl⟩
    go_wp2_with fail
    refine (size_none w1 none (.inl rfl)).mono ?_
    rintro e w2 ⟨rfl, rfl⟩
    go_wp2_with fail
    go_ret
    exact ⟨rfl, b1⟩
  · have d1 : decide ((500 : Int) < a0) = true := decide_eq_true (by omega)
    have d2 : decide (a0 ≤ 65536) = false := decide_eq_false (by omega)
    have d3 : decide (a0 < 1) = false := decide_eq_false (by omega)
    go_enter Try.func4, Try.ntmps4
    go_wp2_with fail
    refine (awake_any _).mono ?_
    rintro e w1 ⟨rfl, b1⟩
    go_wp2_with fail
    refine (Great_any _ _ _ _ _ (ha.below b1)).mono ?_
    rintro e w2 ⟨rfl, rfl⟩
    rw [hg]
    go_wp2_with fail
    refine (NO.out w1).mono ?_
    rintro e w2 ⟨rfl, rfl⟩
    go_wp2_with fail
    refine (size_none w1 none (.inl rfl)).mono ?_
    rintro e w2 ⟨rfl, rfl⟩
    go_wp2_with fail
    go_ret
    exact ⟨rfl, b1⟩

set_option maxRecDepth 100000 in
set_option maxHeartbeats 2000000 in
theorem late (n : Nat) (p : Option Addr) (len cap : Nat) (l : List Act1) (w : World) (ha : IsActs w p len l) (hg : great l = false) (h1 : 1 ≤ n) (h2 : n ≤ 500) :
    Calls Try.prog 4 #[.int .i64 n, .slice p len cap] w fun e w' => e = .returned (.bool true) ∧ Below w.heap.size w w' := by
  have hmax := ha.2.1
  unfold maxLen at hmax
  have hlen := Lib.hid ha.1
  have SM := Lib.hid (great_no hg).2
  go_enter Try.func4, Try.ntmps4
  go_wp2_with fail
  refine (awake_any _).mono ?_
  rintro e w1 ⟨rfl, b1⟩
  go_wp2_with fail
  refine (Great_any _ _ _ _ _ (ha.below b1)).mono ?_
  rintro e w2 ⟨rfl, rfl⟩
  rw [hg]
  have d1 : decide ((n : Int) < 1) = false := decide_eq_false (by omega)
  have d2 : decide ((500 : Int) < n) = false := decide_eq_false (by omega)
  have d3 : decide ((65536 : Int) < n) = false := decide_eq_false (by omega)
  clear hg
  go_wp2_with fail
  refine (New_ok w1 n (by omega) (by omega)).mono ?_
  rintro e w2 ⟨rfl, m2, k2⟩
  have b2 := b1.grown k2 b1.size (fun j hj => by cases hj)
  rw [Int.toNat_natCast] at m2
  have l2 := m2.lt1
  go_wp2_with fail
  refine (size_any w2 _ _ _ m2).mono ?_
  rintro e w3 ⟨rfl, rfl⟩
  rw [List.length_replicate]
  have hmk := make_bytes n (by omega)
  have hcv := conv_zeros w2 n
  go_wp2_with fail
  clear hmk hcv d1 d2 d3
  go_loopw [7, 8] (fun s i wr => ∃ (k : Nat) (L : List UInt8), k ≤ len ∧ i = .int .i64 k ∧ s = .string ⟨L.toArray⟩ ∧ Hid (L.length = n) ∧ Mem wr (w1.heap.size + 1) w1.heap.size L ∧ Below w.heap.size w wr) (fun _ i _ => len - (intOf i).toNat)
  case atStart => exact ⟨0, _, Nat.zero_le _, rfl, rfl, Lib.hid (List.length_replicate), m2.same (World.grownBy_alloc _ _ _), b2.alloc b2.size _⟩
  case round =>
    obtain ⟨k, L, hk, rfl, rfl, hL, hm, hb⟩ := hrel
    by_cases hlt : k < len
    · obtain ⟨b, o, c, rfl, hck, hfit, hat⟩ := (ha.below hb).at_ k hlt
      obtain ⟨cd, ca, cn, cx, cs⟩ := c
      obtain ⟨c0, c1, c2, c3, c4⟩ := hat
      obtain ⟨f0, f1, f2, f3, f4⟩ := hfit
      have bx : 0 ≤ cx ∧ cx ≤ 18446744073709551615 := bounds_u64 f3
      have X0 : 0 ≤ cx := bx.1
      have X2 : Hid (cx < 18446744073709551616) := Lib.hid (by omega)
      have S0 : cs.size ≤ 300 := SM.out _ (List.mem_of_getElem? hck)
      have N0 : cn ≤ 9223372036854775807 := (bounds_i64 f2).2
      obtain ⟨hL0, hL1⟩ : L.length ≤ 1000 ∧ L.length ≤ 9223372036854775807 := by rw [hL.out]; omega
      have z0 := fun (j : Nat) => cell_of_block (i := j) (heap_alloc_new wr (.cells #[.int .i64 cd, .int .i64 ca, .int .i64 cn, .int .u64 cx, .string cs] 42))
      have y1 := z0 1
      have y2 := z0 2
      have y3 := z0 3
      have y4 := z0 4
      have m4 := hm.same (World.grownBy_alloc wr (.cells #[.int .i64 cd, .int .i64 ca, .int .i64 cn, .int .u64 cx, .string cs] 42) none)
      have b4 := hb.alloc hb.size (.cells #[.int .i64 cd, .int .i64 ca, .int .i64 cn, .int .u64 cx, .string cs] 42)
      have n1 : w1.heap.size + 1 < wr.heap.size := hm.lt1
      have Y := Lib.hid (And.intro y1 (And.intro y2 (And.intro y3 y4)))
      clear z0 y1 y2 y3 y4 bx f0 f1 f2 f3 f4 hck ha hb hm
      by_cases e0 : cd = 0
      · subst e0
        go_wp2_with fail
        refine (refPut_all _ L ca cn cx hL0 X0 X2).mono ?_
        rintro e w5 ⟨rfl, k5⟩
        have m5 := m4.same k5
        have b5 := b4.grown k5 b4.size (fun j hj => by cases hj)
        have y1 := k5.cell Y.out.1 (by simp)
        have y2 := k5.cell Y.out.2.1 (by simp)
        have y3 := k5.cell Y.out.2.2.1 (by simp)
        obtain ⟨E, hE⟩ : ∃ E, E = putE L ca cn := ⟨_, rfl⟩
        obtain ⟨L', hL'⟩ : ∃ L', L' = putL L ca cn cx := ⟨_, rfl⟩
        rw [← hE, ← hL']
        have zL : L'.length = n := by rw [hL', putL_length, hL.out]
        have PC := fun (w : World) (m : Mem w (w1.heap.size + 1) w1.heap.size L) => Put_all w _ _ _ m hL1 ca cn cx X0
        rw [← hE, ← hL'] at PC
        have PC' := Lib.hid PC
        have ZL := Lib.hid zL
        clear hE hL' PC zL c0 c1 c2 c3 c4 b4 m4
        go_wp2_with fail
        refine (PC'.out w5 m5).mono ?_
        rintro e w6 ⟨rfl, m6, k6⟩
        have b6 := b5.grown k6 b5.size (fun j hj => by injection hj with hj; have := b1.size; omega)
        clear y1 y2 y3 Y
        go_wp2_with fail
        refine (Text_all w6 _ _ _ m6 (by rw [ZL.out]; omega) 0 n (by omega)).mono ?_
        rintro e w9 ⟨rfl, rfl⟩
        rw [textS_all _ n (by rw [ZL.out]), textE_all _ n (by rw [ZL.out])]
        go_wp2_with fail
        go_roundw
        case rel => exact ⟨k + 1, _, by omega, by go_num, rfl, Lib.hid (by rw [ZL.out]), m6, b6⟩
        case measure => simp [intOf]; omega
      by_cases e1 : cd = 1
      · subst e1
        clear e0
        go_wp2_with fail
        refine (refWrite_all _ L ca cs hL0 (by omega)).mono ?_
        rintro e w5 ⟨rfl, k5⟩
        have m5 := m4.same k5
        have b5 := b4.grown k5 b4.size (fun j hj => by cases hj)
        have y1 := k5.cell Y.out.1 (by simp)
        have y4 := k5.cell Y.out.2.2.2 (by simp)
        obtain ⟨E, hE⟩ : ∃ E, E = textE L ca cs.size := ⟨_, rfl⟩
        obtain ⟨L', hL'⟩ : ∃ L', L' = writeL L ca cs.data.toList := ⟨_, rfl⟩
        rw [← hE, ← hL']
        have zL : L'.length = n := by rw [hL', writeL_length, hL.out]
        have PC := fun (w : World) (m : Mem w (w1.heap.size + 1) w1.heap.size L) => Write_all w _ _ _ m hL1 ca cs (by omega)
        rw [← hE, ← hL'] at PC
        have PC' := Lib.hid PC
        have ZL := Lib.hid zL
        clear hE hL' PC zL c0 c1 c2 c3 c4 b4 m4
        go_wp2_with fail
        refine (PC'.out w5 m5).mono ?_
        rintro e w6 ⟨rfl, m6, k6⟩
        have b6 := b5.grown k6 b5.size (fun j hj => by injection hj with hj; have := b1.size; omega)
        clear y1 y4 Y
        go_wp2_with fail
        refine (Text_all w6 _ _ _ m6 (by rw [ZL.out]; omega) 0 n (by omega)).mono ?_
        rintro e w9 ⟨rfl, rfl⟩
        rw [textS_all _ n (by rw [ZL.out]), textE_all _ n (by rw [ZL.out])]
        go_wp2_with fail
        go_roundw
        case rel => exact ⟨k + 1, _, by omega, by go_num, rfl, Lib.hid (by rw [ZL.out]), m6, b6⟩
        case measure => simp [intOf]; omega
      by_cases e2 : cd = 2
      · subst e2
        clear e0 e1
        clear Y
        go_wp2_with fail
        refine (Get_all _ _ _ _ m4 hL1 ca cn).mono ?_
        rintro e w5 ⟨rfl, rfl⟩
        have RC := fun (w : World) => refGet_all w L ca cn hL1
        obtain ⟨E, hE⟩ : ∃ E, E = putE L ca cn := ⟨_, rfl⟩
        obtain ⟨X, hX⟩ : ∃ X : Int, X = (getX L ca cn : Int) := ⟨_, rfl⟩
        rw [← hE, ← hX] at RC ⊢
        have RC' := Lib.hid RC
        clear RC hE hX
        go_wp2_with fail
        refine (RC'.out _).mono ?_
        rintro e w5 ⟨rfl, rfl⟩
        go_wp2_with fail
        refine (Text_all _ _ _ _ m4 (by rw [hL.out]; omega) 0 n (by omega)).mono ?_
        rintro e w9 ⟨rfl, rfl⟩
        rw [textS_all _ n (by rw [hL.out]), textE_all _ n (by rw [hL.out])]
        go_wp2_with fail
        go_roundw
        case rel => exact ⟨k + 1, _, by omega, by go_num, rfl, Lib.hid (by rw [hL.out]), m4, b4⟩
        case measure => simp [intOf]; omega
      by_cases e3 : cd = 3
      · subst e3
        clear e0 e1 e2
        clear Y
        go_wp2_with fail
        refine (Text_all _ _ _ _ m4 hL1 ca cn N0).mono ?_
        rintro e w5 ⟨rfl, rfl⟩
        have RC := fun (w : World) => refText_all w L ca cn hL1
        obtain ⟨E, hE⟩ : ∃ E, E = textE L ca cn := ⟨_, rfl⟩
        obtain ⟨T, hT⟩ : ∃ T, T = textS L ca cn := ⟨_, rfl⟩
        rw [← hE, ← hT] at RC ⊢
        have RC' := Lib.hid RC
        clear RC hE hT
        go_wp2_with fail
        refine (RC'.out _).mono ?_
        rintro e w5 ⟨rfl, rfl⟩
        go_wp2_with fail
        refine (Text_all _ _ _ _ m4 (by rw [hL.out]; omega) 0 n (by omega)).mono ?_
        rintro e w9 ⟨rfl, rfl⟩
        rw [textS_all _ n (by rw [hL.out]), textE_all _ n (by rw [hL.out])]
        go_wp2_with fail
        go_roundw
        case rel => exact ⟨k + 1, _, by omega, by go_num, rfl, Lib.hid (by rw [hL.out]), m4, b4⟩
        case measure => simp [intOf]; omega
      · have t0 : (cd == 0) = false := by simpa using e0
        have t1 : (cd == 1) = false := by simpa using e1
        have t2 : (cd == 2) = false := by simpa using e2
        have t3 : (cd == 3) = false := by simpa using e3
        clear Y e0 e1 e2 e3
        go_wp2_with fail
        refine (Text_all _ _ _ _ m4 (by rw [hL.out]; omega) 0 n (by omega)).mono ?_
        rintro e w9 ⟨rfl, rfl⟩
        rw [textS_all _ n (by rw [hL.out]), textE_all _ n (by rw [hL.out])]
        go_wp2_with fail
        go_roundw
        case rel => exact ⟨k + 1, _, by omega, by go_num, rfl, Lib.hid (by rw [hL.out]), m4, b4⟩
        case measure => simp [intOf]; omega
    · have hd : decide ((k : Int) < len) = false := decide_eq_false (by omega)
      clear ha
      go_wp2_with fail
      go_ret
      exact ⟨rfl, hb⟩

theorem walk (a0 : Int) (a1 : Option Addr) (len1 cap1 : Nat) (l1 : List Act1) (w : World) (w0 : (Lit.int .i64 a0).wf = true) (w1 : IsActs w a1 len1 l1) :
    Calls Try.prog 4 #[.int .i64 a0, .slice a1 len1 cap1] w fun e w' => e = .returned (.bool true) ∧ Below w.heap.size w w' := by
  cases hg : great l1 with
  | true => exact early a0 a1 len1 cap1 l1 w w1 (.inl hg)
  | false =>
    by_cases h1 : 500 < a0 ∧ a0 ≤ 65536
    · exact early a0 a1 len1 cap1 l1 w w1 (.inr ⟨hg, h1⟩)
    by_cases h2 : a0 < 1 ∨ 65536 < a0
    · exact odd a0 a1 len1 cap1 l1 w w1 hg h2
    obtain ⟨n, rfl⟩ := Int.eq_ofNat_of_zero_le (show (0 : Int) ≤ a0 by omega)
    exact late n a1 len1 cap1 l1 w w1 hg (by omega) (by omega)

set_option maxRecDepth 100000 in
theorem lifted (os : Os) (started : os.Started) (H : Type) (enc : TypeId × Value → H) :
    ReturnsInHanded {} Try.checked os 4 .any (Rows.memPlaysSpec.pre6 enc Try.prog Try.f4 Rows.memPlaysRow.domain false) (Rows.memPlaysSpec.post enc Try.prog Try.f4 false true false false) := by
  refine returnsInHanded_of_change (C := Try.checked) own started (by kernel_rfl) Try.func4
    (ChangeSpec.witness6 (enc := enc) (C := Try.checked) false ⟨#[], #[.int .i64 0, .slice none 0 0], []⟩ 8 (by kernel_rfl) (by kernel_rfl) (by kernel_rfl) (by kernel_rfl)) ?_
  intro W base args ds gs before hval0 hW hcnd _
  have hval : ∀ (j : Nat) t v, Try.f4.params[j]? = some t → args[j]? = some v → Value.okWide Try.prog W .any base t v := hval0
  have hW' := hW
  obtain ⟨p, q, hA0, hV, rfl, hfz, hnd⟩ := hW
  have hA : DataW.TrodAll enc Try.prog W 0 (fun _ => true) true Try.f4.params.toList args.toList ds p := hA0
  rw [Try.params4] at hA hval
  obtain ⟨v0, vs0, d0, ds0, p0, q0, hargs, rfl, rfl, h0, r0⟩ := trodAll_cons hA
  obtain ⟨v1, vs1, d1, ds1, p1, q1, rfl, rfl, rfl, h1, r1⟩ := trodAll_cons r0
  obtain ⟨rfl, rfl, rfl⟩ := trodAll_nil r1
  obtain rfl : args = #[v0, v1] := by cases args; simp_all
  obtain ⟨rfl, rfl⟩ := trodVars_none hV
  obtain ⟨a0, rfl, rfl, rfl, w0⟩ := open_int Try.underlying3 (hval 0 3 v0 rfl rfl) h0
  obtain ⟨a1, len1, cap1, rfl⟩ := okWide_slice Try.underlying37 (hval 1 37 v1 rfl rfl)
  have k1 := h1
  have lt1 : ∀ x ∈ p1, x.block < W.heap.size := by obtain ⟨m, hm⟩ := k1; exact DataW.trod_lt m _ _ _ hm
  obtain ⟨l1, w1⟩ : ∃ l, IsActs W a1 len1 l := by obtain ⟨fuel, hf⟩ := h1; exact open_acts hf
  clear hA0 hval0
  refine (walk a0 a1 len1 cap1 l1 W w0 w1).mono fun e W' ⟨he, bel⟩ => ?_
  subst he
  exact ⟨_, rfl, _, _, _, [], _, [], hW', trodAll_mk1 (shut_bool Try.underlying4 _), (trodAll_cons_mk (shut_int Try.underlying3 w0) (trodAll_cons_mk (Below.trod laidOut (by kernel_rfl) (of_decide_eq_true (by kernel_rfl)) k1 bel lt1) trodAll_mk0)), rfl, bel.frame _, fun h => by cases h⟩

/-- THE STATEMENT. -/
theorem proved : Rows.MemPlaysSaid :=
  OpenClaim.holds_of_wide 4 Try.f4 rfl rfl rfl rfl rfl rfl rfl ⟨rfl, rfl, rfl, rfl, rfl⟩ rfl rfl rfl rfl rfl (by kernel_rfl) Try.func4 (by kernel_rfl)
    (of_decide_eq_true (by kernel_rfl)) (by unfold Func.isWrapper; first | (rw [if_pos (by decide +kernel)]; kernel_rfl) | (rw [if_neg (by decide +kernel)]; exact ⟨rfl, rfl⟩))
    (fun os started H enc _ => lifted os started H enc)
#print axioms proved

end Go.Proofs.Ytkkiplfclanjkaa.plays
