/-
  Ipv4Heads: what stands in a head that has its right sum is read as the document says. Conditions: fewer than 20 bytes, or more than 3000, are not asked about, as the statement says.
-/
import Derived.Test.YtdckjliocgnbgaaIpR
import Derived.Laws.BitsAllLaws
import Derived.StillTailTactics
import Derived.ProofKit
import Derived.OpenShut
import Derived.ShutString
import Derived.ChangeOld
import Derived.Below
namespace Go.Proofs.Ytdckjliocgnbgaa.ihe
open Go.ChangeShapes Go.WideShapes Go.ChangeAt Go.RowKit
open Go.ChangeMaps (open_string shut_string)
set_option linter.unusedVariables false

theorem rtail {P : Program} {id : Nat} {Q : Exit → Act → World → Prop} {a : Act} {w : World} {l : List Oper} (n : Nat) (hm : P.follows .mixedOrders = true) (hB : Region.lexTailB .any l.toArray n = true)
    (h : ∀ w', Below w.heap.size w w' → wpStill P l.toArray w' (fun a' => wpList P l.toArray Q (l.drop n) a' w') (l.take n) a) : (Code.region id l.toArray true).wp P Q a w :=
  wp_region_still_tail n hm hB (h _ (Below.refl _ _).drew)
set_option maxRecDepth 100000 in
set_option maxHeartbeats 4000000 in
theorem walk_out (s : ByteArray) (hm : s.size ≤ maxLen) (h : 3000 < s.size ∨ (s.size ≤ 3000 ∧ s.size < 20)) (w : World) :
    Calls Try.prog 6 #[.string s] w fun e w' => e = .returned (.bool true) ∧ Below w.heap.size w w' := by
  have hm2 : s.size ≤ 9223372036854775807 := by unfold maxLen at hm; omega
  clear hm
  rcases h with h | ⟨h, h2⟩
  · go_enter Try.func6, Try.ntmps6
    go_wp2_with fail
    refine (awakeD _).mono ?_
    rintro e w1 ⟨rfl, b1⟩
    have B1 := Lib.hid b1
    clear b1
    go_wp2_with fail
    go_ret
    exact ⟨rfl, B1.out⟩
  · have e1 : ¬ (3000 : Int) < (s.size : Int) := by omega
    have e2 : (s.size : Int) < 20 := by omega
    go_enter Try.func6, Try.ntmps6
    go_wp2_with fail
    refine (awakeD _).mono ?_
    rintro e w1 ⟨rfl, b1⟩
    have B1 := Lib.hid b1
    clear b1
    go_wp2_with fail
    go_ret
    exact ⟨rfl, B1.out⟩

set_option maxRecDepth 100000 in
set_option maxHeartbeats 4000000 in
theorem walk_reads (s : ByteArray) (h1 : 20 ≤ s.size) (h2 : s.size ≤ 3000) (X N : Nat) (h0' : 0 < s.size) (hX : (s[0]'h0').toNat = X) (hN : N = 4 * (X % 16)) (h3 : N < 20 ∨ (20 ≤ N ∧ s.size < N)) (w : World) :
    Calls Try.prog 6 #[.string s] w fun e w' => e = .returned (.bool true) ∧ Below w.heap.size w w' := by
  have hm2 : s.size ≤ 9223372036854775807 := by omega
  have h0 : 0 < s.size := by omega
  have e1 : ¬ (3000 : Int) < (s.size : Int) := by omega
  have e2 : ¬ (s.size : Int) < 20 := by omega
  have hX2 : X < 256 := by rw [← hX]; exact (s[0]'h0').toNat_lt
  have hY : bits .and .u8 (X : Int) 15 = ((X % 16 : Nat) : Int) := by
    have := u8_and_nat X 15 hX2 (by decide)
    rw [show X &&& 15 = X % 16 from Nat.and_two_pow_sub_one_eq_mod X 4] at this
    exact this
  obtain ⟨Y, hYY⟩ : ∃ Y, Y = X % 16 := ⟨_, rfl⟩
  rw [← hYY] at hY
  have hY2 : Y < 16 := by omega
  have hN2 : N = 4 * Y := by rw [hN, hYY]
  have hw1 : IntKind.i64.wrap (Y : Int) = (Y : Int) := IntWalk.i64_in _ (by omega)
  have hw2 : IntKind.i64.wrap (4 * (Y : Int)) = (N : Int) := by rw [IntWalk.i64_in _ (by omega)]; omega
  have hNb : N ≤ 60 := by omega
  clear hN hYY hN2 hY2 hX2
  have kR := Lib.hid (fun w => reads_any w s (by unfold maxLen; omega))
  rcases h3 with h3 | ⟨h3, h4⟩
  · have e3 : decide ((N : Int) < 20) = true := decide_eq_true (by omega)
    clear h3
    go_enter Try.func6, Try.ntmps6
    go_wp2_with fail
    refine (awakeD _).mono ?_
    rintro e w1 ⟨rfl, b1⟩
    have B1 := Lib.hid b1
    clear b1
    go_wp2_with fail
    refine (kR.out _).mono ?_
    rintro e w2 ⟨rfl, b2⟩
    have B2 := bstep B1 b2
    go_wp2_with fail
    go_ret
    exact ⟨rfl, B2.out⟩
  · have e3 : decide ((N : Int) < 20) = false := decide_eq_false (by omega)
    have e4 : decide ((s.size : Int) < (N : Int)) = true := decide_eq_true (by omega)
    have e5 : decide (s.size < N) = true := decide_eq_true h4
    clear h3
    go_enter Try.func6, Try.ntmps6
    go_wp2_with fail
    refine (awakeD _).mono ?_
    rintro e w1 ⟨rfl, b1⟩
    have B1 := Lib.hid b1
    clear b1
    go_wp2_with fail
    refine (kR.out _).mono ?_
    rintro e w2 ⟨rfl, b2⟩
    have B2 := bstep B1 b2
    go_wp2_with fail
    go_ret
    exact ⟨rfl, B2.out⟩

set_option maxRecDepth 100000 in
set_option maxHeartbeats 4000000 in
theorem walk_made (s : ByteArray) (h1 : 20 ≤ s.size) (h2 : s.size ≤ 3000) (X N : Nat) (h0' : 0 < s.size) (hX : (s[0]'h0').toNat = X) (hN : N = 4 * (X % 16)) (h3 : 20 ≤ N) (h4 : N ≤ s.size) (w : World) :
    Calls Try.prog 6 #[.string s] w fun e w' => e = .returned (.bool true) ∧ Below w.heap.size w w' := by
  have hm2 : s.size ≤ 9223372036854775807 := by omega
  have h0 : 0 < s.size := by omega
  have e1 : ¬ (3000 : Int) < (s.size : Int) := by omega
  have e2 : ¬ (s.size : Int) < 20 := by omega
  have hX2 : X < 256 := by rw [← hX]; exact (s[0]'h0').toNat_lt
  have hY : bits .and .u8 (X : Int) 15 = ((X % 16 : Nat) : Int) := by
    have := u8_and_nat X 15 hX2 (by decide)
    rw [show X &&& 15 = X % 16 from Nat.and_two_pow_sub_one_eq_mod X 4] at this
    exact this
  obtain ⟨Y, hYY⟩ : ∃ Y, Y = X % 16 := ⟨_, rfl⟩
  rw [← hYY] at hY
  have hY2 : Y < 16 := by omega
  have hN2 : N = 4 * Y := by rw [hN, hYY]
  have hw1 : IntKind.i64.wrap (Y : Int) = (Y : Int) := IntWalk.i64_in _ (by omega)
  have hw2 : IntKind.i64.wrap (4 * (Y : Int)) = (N : Int) := by rw [IntWalk.i64_in _ (by omega)]; omega
  have hNb : N ≤ 60 := by omega
  clear hN hYY hN2 hY2 hX2
  have e3 : decide ((N : Int) < 20) = false := decide_eq_false (by omega)
  have e4 : decide ((s.size : Int) < (N : Int)) = false := decide_eq_false (by omega)
  have e5 : decide (s.size < N) = false := decide_eq_false (by omega)
  have n12 : (12 : Int) ≤ (N : Int) := by omega
  have nS : (N : Int) ≤ (s.size : Int) := by omega
  have n10 : (10 : Int) ≤ (s.size : Int) := by omega
  have n12s : (12 : Int) ≤ (s.size : Int) := by omega
  have z1 : (s.extract 0 10).size = 10 := by rw [ByteArray.size_extract]; omega
  have z2 : (s.extract 12 N).size = N - 12 := by rw [ByteArray.size_extract]; omega
  have z3 : (s.extract 12 s.size).size = s.size - 12 := by rw [ByteArray.size_extract]; omega
  obtain ⟨A, hA⟩ : ∃ A, A = s.extract 0 10 := ⟨_, rfl⟩
  obtain ⟨C, hC⟩ : ∃ C, C = s.extract 12 N := ⟨_, rfl⟩
  obtain ⟨D, hD⟩ : ∃ D, D = s.extract 12 s.size := ⟨_, rfl⟩
  rw [← hA] at z1
  rw [← hC] at z2
  rw [← hD] at z3
  have hA' := hA.symm
  have hC' := hC.symm
  have hD' := hD.symm
  have y1 : (A ++ (⟨#[0, 0]⟩ : ByteArray)).size = 12 := by rw [ByteArray.size_append, z1]; rfl
  have y2 : (A ++ (⟨#[0, 0]⟩ : ByteArray) ++ C).size = N := by rw [ByteArray.size_append, y1, z2]; omega
  have s1 : ¬ 9223372036854775807 < A.size + (⟨#[0, 0]⟩ : ByteArray).size := by rw [z1]; decide
  have s1b : ¬ 9223372036854775807 < A.size + 2 := by rw [z1]; decide
  have s2 : ¬ 9223372036854775807 < (A ++ (⟨#[0, 0]⟩ : ByteArray)).size + C.size := by rw [y1, z2]; omega
  have s2b : ¬ 9223372036854775807 < A.size + 2 + C.size := by rw [z1, z2]; omega
  obtain ⟨K, hK⟩ : ∃ K, K = sumT (A ++ (⟨#[0, 0]⟩ : ByteArray) ++ C).data.toList := ⟨_, rfl⟩
  have kS := Lib.hid (fun w => rSum_any w (A ++ (⟨#[0, 0]⟩ : ByteArray) ++ C) (by omega))
  rw [← hK] at kS
  have hK2 : K ≤ 65535 := by rw [hK]; exact sumT_le _
  have wU : IntKind.u8.wrap ((K : Int) / 256) = ((K / 256 : Nat) : Int) := by rw [show ((K : Int) / 256) = ((K / 256 : Nat) : Int) by omega]; exact IntWalk.u8_in _ (by omega)
  have wV : IntKind.u8.wrap ((K : Int).tmod 256) = ((K % 256 : Nat) : Int) := by
    rw [Int.tmod_eq_emod_of_nonneg (by omega), show ((K : Int) % 256) = ((K % 256 : Nat) : Int) by omega]
    exact IntWalk.u8_in _ (by omega)
  obtain ⟨U, hU⟩ : ∃ U, U = K / 256 := ⟨_, rfl⟩
  obtain ⟨V, hV⟩ : ∃ V, V = K % 256 := ⟨_, rfl⟩
  rw [← hU] at wU
  rw [← hV] at wV
  have hU2 : U < 256 := by omega
  have hV2 : V < 256 := by omega
  obtain ⟨T, hT⟩ : ∃ T : ByteArray, T = ⟨#[UInt8.ofNat (U : Int).toNat, UInt8.ofNat (V : Int).toNat]⟩ := ⟨_, rfl⟩
  have zT : T.size = 2 := by rw [hT]; rfl
  have CV : Hid (∀ w : World, (convert 47 9 (.slice (some ⟨w.heap.size, 0, none⟩) 2 2)).run Try.prog (w.alloc (.cells #[.int .u8 (U : Int), .int .u8 (V : Int)] 5)) = .ok (.string T) (w.alloc (.cells #[.int .u8 (U : Int), .int .u8 (V : Int)] 5))) := Lib.hid (fun w => by
    rw [hT]
    exact conv_two w (U : Int) (V : Int) (by omega) (by omega) (by omega) (by omega))
  have y3 : (A ++ T).size = 12 := by rw [ByteArray.size_append, z1, zT]
  have s3 : ¬ 9223372036854775807 < A.size + T.size := by rw [z1, zT]; decide
  have s4 : ¬ 9223372036854775807 < (A ++ T).size + D.size := by rw [y3, z3]; omega
  have s4b : ¬ 9223372036854775807 < A.size + T.size + D.size := by rw [z1, zT, z3]; omega
  have kR := Lib.hid (fun w => reads_any w (A ++ T ++ D) (by rw [ByteArray.size_append, y3, z3]; unfold maxLen; omega))
  have hwk : IntKind.i64.wrap ((K : Int) / 256) = (K : Int) / 256 := IntWalk.i64_in _ (by omega)
  have hwm : IntKind.i64.wrap ((K : Int).tmod 256) = (K : Int).tmod 256 := IntWalk.i64_in _ (by rw [Int.tmod_eq_emod_of_nonneg (by omega)]; omega)
  clear h1 h2 hA hC hD hU hV hU2 hV2 hT hK zT y1 y2 y3 z1 z2 z3 h3 h4
  go_enter Try.func6, Try.ntmps6
  go_wp2_with fail
  refine (awakeD _).mono ?_
  rintro e w1 ⟨rfl, b1⟩
  have B1 := Lib.hid b1
  clear b1
  go_upto_region 8 with fail
  refine rtail 7 (by kernel_rfl) (by kernel_rfl) (fun W7 d => ?_)
  have BV := bstep B1 d
  clear d B1
  simp only [List.take_succ_cons, List.take_zero, List.drop_succ_cons, List.drop_zero]
  repeat still_step
  refine wpStill_nil ?_
  go_wp2_with fail
  refine (kS.out _).mono ?_
  rintro e w3 ⟨rfl, b3⟩
  have B3 := bstep BV b3
  clear b3 BV
  go_upto_region 9 with fail
  have cv : (convert 47 9 (.slice (some ⟨w3.heap.size, 0, none⟩) 2 2)).run Try.prog ((w3.alloc (.cells #[.int .u8 (U : Int), .int .u8 (V : Int)] 5)).drew) = .ok (.string T) ((w3.alloc (.cells #[.int .u8 (U : Int), .int .u8 (V : Int)] 5)).drew) := CV.out w3.drew
  go_region_with ((go_at_call 5; refine (kR.out _).mono ?_; rintro e w4 ⟨rfl, b4⟩; have B4 : Hid (Below w.heap.size w w4) := Lib.hid (B3.out.trans (((((Below.refl w3.heap.size w3).alloc (Nat.le_refl _) (.cells #[.int .u8 (U : Int), .int .u8 (V : Int)] 5)).drew).trans (b4.mono (by simp))).mono B3.out.size)); clear b4))
  all_goals
    go_wp2_with fail
    go_ret
    exact ⟨rfl, B4.out⟩

theorem walk (s : ByteArray) (w0 : s.size ≤ maxLen) (w : World) :
    Calls Try.prog 6 #[.string s] w fun e w' => e = .returned (.bool true) ∧ Below w.heap.size w w' := by
  by_cases h1 : 3000 < s.size
  · exact walk_out s w0 (.inl h1) w
  by_cases h2 : s.size < 20
  · exact walk_out s w0 (.inr ⟨by omega, h2⟩) w
  have h0 : 0 < s.size := by omega
  by_cases h3 : 4 * ((s[0]'h0).toNat % 16) < 20
  · exact walk_reads s (by omega) (by omega) _ _ h0 rfl rfl (.inl h3) w
  by_cases h4 : s.size < 4 * ((s[0]'h0).toNat % 16)
  · exact walk_reads s (by omega) (by omega) _ _ h0 rfl rfl (.inr ⟨by omega, h4⟩) w
  exact walk_made s (by omega) (by omega) _ _ h0 rfl rfl (by omega) (by omega) w

set_option maxRecDepth 100000 in
theorem lifted (os : Os) (started : os.Started) (H : Type) (enc : TypeId × Value → H) :
    ReturnsInHanded {} Try.checked os 6 .any (Rows.ipv4HeadsSpec.pre6 enc Try.prog Try.f6 Rows.ipv4HeadsRow.domain false) (Rows.ipv4HeadsSpec.post enc Try.prog Try.f6 false true false false) := by
  refine returnsInHanded_of_change (C := Try.checked) own started (by kernel_rfl) Try.func6
    (ChangeSpec.witness6 (enc := enc) (C := Try.checked) false ⟨#[], #[.string ByteArray.empty], []⟩ 8 (by kernel_rfl) (by kernel_rfl) (by kernel_rfl) (by kernel_rfl)) ?_
  intro W base args ds gs before hval0 hW hcnd _
  have hval : ∀ (j : Nat) t v, Try.f6.params[j]? = some t → args[j]? = some v → Value.okWide Try.prog W .any base t v := hval0
  have hW' := hW
  obtain ⟨p, q, hA0, hV, rfl, hfz, hnd⟩ := hW
  have hA : DataW.TrodAll enc Try.prog W 0 (fun _ => true) true Try.f6.params.toList args.toList ds p := hA0
  rw [Try.params6] at hA hval
  obtain ⟨v0, vs0, d0, ds0, p0, q0, hargs, rfl, rfl, h0, r0⟩ := trodAll_cons hA
  obtain ⟨rfl, rfl, rfl⟩ := trodAll_nil r0
  obtain rfl : args = #[v0] := by cases args; simp_all
  obtain ⟨rfl, rfl⟩ := trodVars_none hV
  obtain ⟨a0, rfl, rfl, rfl, w0⟩ := open_string Try.underlying9 (hval 0 9 v0 rfl rfl) h0
  clear hA0 hval0
  refine (walk a0 w0 W).mono fun e W' ⟨he, bel⟩ => ?_
  subst he
  exact ⟨_, rfl, _, _, _, [], _, [], hW', trodAll_mk1 (shut_bool Try.underlying4 _), (trodAll_cons_mk (shut_string Try.underlying9 w0) trodAll_mk0), rfl, bel.frame _, fun h => by cases h⟩

/-- THE STATEMENT. -/
theorem proved : Rows.Ipv4HeadsSaid :=
  OpenClaim.holds_of_wide 6 Try.f6 rfl rfl rfl rfl rfl rfl rfl ⟨rfl, rfl, rfl, rfl, rfl⟩ rfl rfl rfl rfl rfl (by kernel_rfl) Try.func6 (by kernel_rfl)
    (of_decide_eq_true (by kernel_rfl)) (by unfold Func.isWrapper; first | (rw [if_pos (by decide +kernel)]; kernel_rfl) | (rw [if_neg (by decide +kernel)]; exact ⟨rfl, rfl⟩))
    (fun os started H enc _ => lifted os started H enc)
#print axioms proved

end Go.Proofs.Ytdckjliocgnbgaa.ihe
