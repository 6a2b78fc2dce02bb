/-
  Ipv4Sums: a text of an even length with its sum behind it, or ahead, has the sum 0; two such texts may be added either way about; a bit that is turned turns the sum. Conditions: texts of more than 3000 bytes are not asked about, as the statement says.
-/
import Derived.Test.YtdckjliocgnbgaaIpI
import Derived.Test.YtdckjliocgnbgaaIpO
import Derived.ProofKit
import Derived.OpenShut
import Derived.ShutString
import Derived.ChangeOld
import Derived.Below
namespace Go.Proofs.Ytdckjliocgnbgaa.isu
open Go.ChangeShapes Go.WideShapes Go.ChangeAt Go.RowKit
open Go.ChangeMaps (open_string shut_string)
open Go.Sort (Holds)
set_option linter.unusedVariables false

theorem sum_zero_s (T : ByteArray) (h : T.size ≤ 140737488355328) (K : Nat) (hK : sumT T.data.toList = K) (w : World) :
    Calls Try.prog 18 #[.string T] w fun e w' => e = .returned (.int .i64 K) ∧ Below w.heap.size w w' := by
  have := Sum_any w T h
  rw [hK] at this
  exact this
theorem data_app2 (a b : ByteArray) : (a ++ b).data.toList = a.data.toList ++ b.data.toList := by simp
theorem sz_list (s : ByteArray) : s.data.toList.length = s.size := by rw [Array.length_toList]; rfl

theorem holds_set {w : World} {n : Nat} {cs : Array Value} {t : TypeId} {fz : Nat × Nat} {l : List UInt8} (h : w.heap[n]? = some (.cells cs t fz)) (hh : Holds eb w n 0 l.toArray) (k : Nat) (hk : k < l.length) (y : UInt8) :
    Holds eb (w.setCell ⟨n, k, none⟩ (eb y)) n 0 (l.set k y).toArray := by
  have hc : ∀ j, (hj : j < l.length) → cs[j]? = some (eb l[j]) := fun j hj => by
    have := (hh j (by simpa using hj)).1
    rw [Nat.zero_add, cell_of_row w n j cs t fz h] at this
    rw [this]
    simp [getElem!_pos l.toArray j (by simpa using hj)]
  have hks : k < cs.size := (Array.getElem?_eq_some_iff.1 (hc k hk)).1
  have h2 : (w.setCell ⟨n, k, none⟩ (eb y)).heap[n]? = some (.cells (cs.setIfInBounds k (eb y)) t fz) := by simp [World.setCell, Array.getElem?_modify, h]
  intro j hj
  have hj' : j < l.length := by simpa using hj
  have hf := (hh j (by simpa using hj')).2
  refine ⟨?_, by simpa [World.frozen?, h2, h] using hf⟩
  rw [Nat.zero_add, cell_of_row _ n j _ t fz h2, Array.getElem?_setIfInBounds, getElem!_pos _ j hj]
  by_cases e : k = j
  · subst e
    rw [if_pos rfl, if_pos hks]
    simp
  · rw [if_neg e, hc j hj']
    simp [e]
theorem xor_bit (X : UInt8) (Q : Nat) (h : Q < 8) : bits .xor .u8 (X.toNat : Int) (2 ^ Q % 256) = ((X ^^^ (1 <<< UInt8.ofNat Q)).toNat : Int) := by
  have : ∀ (b : Fin 8) (x : Fin 256), bits .xor .u8 (((UInt8.ofNat x.1).toNat : Nat) : Int) (2 ^ b.1 % 256) = ((UInt8.ofNat x.1 ^^^ (1 <<< UInt8.ofNat b.1)).toNat : Int) := by decide +kernel
  have h2 := this ⟨Q, h⟩ ⟨X.toNat, X.toNat_lt⟩
  rw [show UInt8.ofNat X.toNat = X by simp] at h2
  exact h2

set_option maxRecDepth 100000 in
set_option maxHeartbeats 4000000 in
theorem walk_long (a b : ByteArray) (x y : Int) (hm : a.size ≤ 9223372036854775807) (hm2 : b.size ≤ 9223372036854775807) (h : 3000 < a.size ∨ (a.size ≤ 3000 ∧ 3000 < b.size)) (w : World) :
    Calls Try.prog 10 #[.string a, .string b, .int .u16 x, .int .u8 y] w fun e w' => e = .returned (.bool true) ∧ Below w.heap.size w w' := by
  rcases h with h | ⟨h, h2⟩
  all_goals
    go_enter Try.func10, Try.ntmps10
    go_wp2_with fail
    refine (awakeD _).mono ?_
    rintro e w1 ⟨rfl, b1⟩
    have B1 := Lib.hid b1
    clear b1
    go_wp2_with fail
    go_ret
    exact ⟨rfl, B1.out⟩

set_option maxRecDepth 100000 in
set_option maxHeartbeats 8000000 in
theorem walk_main (a b : ByteArray) (x y : Int) (x0 : 0 ≤ x) (x1 : x ≤ 65535) (y0 : 0 ≤ y) (y1 : y ≤ 255) (ha : a.size ≤ 3000) (hb : b.size ≤ 3000) (w : World) :
    Calls Try.prog 10 #[.string a, .string b, .int .u16 x, .int .u8 y] w fun e w' => e = .returned (.bool true) ∧ Below w.heap.size w w' := by
  obtain ⟨m, hm⟩ : ∃ m, m = a.size / 2 * 2 := ⟨_, rfl⟩
  obtain ⟨n, hn⟩ : ∃ n, n = b.size / 2 * 2 := ⟨_, rfl⟩
  have em : (a.size : Int) / 2 * 2 = (m : Int) := by omega
  have en : (b.size : Int) / 2 * 2 = (n : Int) := by omega
  have wm : IntKind.i64.wrap (m : Int) = (m : Int) := IntWalk.i64_in _ (by omega)
  have wn : IntKind.i64.wrap (n : Int) = (n : Int) := IntWalk.i64_in _ (by omega)
  obtain ⟨A, hA⟩ : ∃ A, a.extract 0 m = A := ⟨_, rfl⟩
  obtain ⟨B, hB⟩ : ∃ B, b.extract 0 n = B := ⟨_, rfl⟩
  have zA : A.size = m := by rw [← hA, ByteArray.size_extract]; omega
  have zB : B.size = n := by rw [← hB, ByteArray.size_extract]; omega
  have evA : A.data.toList.length % 2 = 0 := by rw [sz_list, zA]; omega
  have evB : B.data.toList.length % 2 = 0 := by rw [sz_list, zB]; omega
  obtain ⟨K, hK⟩ : ∃ K, sumT A.data.toList = K := ⟨_, rfl⟩
  have hK2 : K ≤ 65535 := by rw [← hK]; exact sumT_le _
  obtain ⟨T, hT⟩ : ∃ T : ByteArray, T = ⟨(two K).toArray⟩ := ⟨_, rfl⟩
  have hTl : T.data.toList = two K := by rw [hT]
  have zT : T.size = 2 := by rw [hT]; rfl
  have wU : IntKind.u8.wrap ((K : Int) / 256) = ((K / 256 : Nat) : Int) := by rw [show ((K : Int) / 256) = ((K / 256 : Nat) : Int) by omega]; exact IntWalk.u8_in _ (by omega)
  have wV : IntKind.u8.wrap (K : Int) = ((K % 256 : Nat) : Int) := by unfold IntKind.wrap; simp [IntKind.bits, IntKind.signed]
  obtain ⟨U, hU⟩ : ∃ U, U = K / 256 := ⟨_, rfl⟩
  obtain ⟨V, hV⟩ : ∃ V, V = K % 256 := ⟨_, rfl⟩
  rw [← hU] at wU
  rw [← hV] at wV
  have hU2 : U < 256 := by omega
  have hV2 : V < 256 := by omega
  have CV : Hid (∀ w : World, (convert 47 9 (.slice (some ⟨w.heap.size, 0, none⟩) 2 2)).run Try.prog (w.alloc (.cells #[.int .u8 (U : Int), .int .u8 (V : Int)] 5)) = .ok (.string T) (w.alloc (.cells #[.int .u8 (U : Int), .int .u8 (V : Int)] 5))) := Lib.hid (fun w => by
    have := conv_two w (U : Int) (V : Int) (by omega) (by omega) (by omega) (by omega)
    rw [this, hT, hU, hV, Int.toNat_natCast, Int.toNat_natCast]
    rfl)
  have k1 := Lib.hid (sum_zero_s A (by omega) K hK)
  have zAT : (A ++ T).size = m + 2 := by rw [ByteArray.size_append, zA, zT]
  have zTA : (T ++ A).size = m + 2 := by rw [ByteArray.size_append, zA, zT]; omega
  have zAB : (A ++ B).size = m + n := by rw [ByteArray.size_append, zA, zB]
  have zBA : (B ++ A).size = m + n := by rw [ByteArray.size_append, zA, zB]; omega
  have k2 := Lib.hid (sum_zero_s (A ++ T) (by omega) 0 (by rw [data_app2, hTl, ← hK]; exact sum_behind evA))
  have k3 := Lib.hid (sum_zero_s (T ++ A) (by omega) 0 (by rw [data_app2, hTl, ← hK]; exact sum_ahead _))
  obtain ⟨M, hM⟩ : ∃ M, sumT (A ++ B).data.toList = M := ⟨_, rfl⟩
  have k4 := Lib.hid (sum_zero_s (A ++ B) (by omega) M hM)
  have k5 := Lib.hid (sum_zero_s (B ++ A) (by omega) M (by rw [data_app2, sum_swap evB evA, ← data_app2]; exact hM))
  have s2 : ¬ 9223372036854775807 < A.size + T.size := by omega
  have s3 : ¬ 9223372036854775807 < T.size + A.size := by omega
  have s4 : ¬ 9223372036854775807 < A.size + B.size := by omega
  have s5 : ¬ 9223372036854775807 < B.size + A.size := by omega
  have HK := Lib.hid hK
  have zm : m ≤ 3000 := by omega
  have zma : m ≤ a.size := by omega
  have znb : n ≤ b.size := by omega
  have HZ := Lib.hid zA
  have HZB := Lib.hid zB
  clear hm hn evA evB hT hTl zT hU hV hU2 hV2 zAT zTA zAB zBA hM hK zA zB
  go_enter Try.func10, Try.ntmps10
  go_wp2_with fail
  refine (awakeD _).mono ?_
  rintro e w1 ⟨rfl, b1⟩
  have B1 := Lib.hid b1
  clear b1
  go_wp2_with fail
  refine (k1.out _).mono ?_
  rintro e w2 ⟨rfl, b2⟩
  have B2 := bstep B1 b2
  clear b2 B1
  have cv := CV.out w2
  go_upto_region 9 with fail
  have B3 := bstep B2 ((Below.refl w2.heap.size w2).alloc (Nat.le_refl _) (.cells #[.int .u8 (U : Int), .int .u8 (V : Int)] 5))
  clear B2 cv
  generalize w2.alloc _ = W3 at B3 ⊢
  go_wp2_with fail
  refine (k2.out _).mono ?_
  rintro e w4 ⟨rfl, b4⟩
  have B4 := bstep B3 b4
  go_wp2_with fail
  refine (k3.out _).mono ?_
  rintro e w5 ⟨rfl, b5⟩
  have B5 := bstep B4 b5
  go_wp2_with fail
  refine (k4.out _).mono ?_
  rintro e w6 ⟨rfl, b6⟩
  have B6 := bstep B5 b6
  go_wp2_with fail
  refine (k5.out _).mono ?_
  rintro e w7 ⟨rfl, b7⟩
  have B7 := bstep B6 b7
  clear b4 b5 b6 b7 B3 B4 B5 B6 k2 k3 k4 k5 s2 s3 s4 s5 CV wU wV
  by_cases h0 : m = 0
  · have hz : A.size = 0 := by rw [HZ.out, h0]
    go_wp2_with fail
    go_ret
    exact ⟨rfl, B7.out⟩
  have hz : (A.size : Int) = (m : Int) := by rw [HZ.out]
  have hz0 : ((m : Int) == 0) = false := by simp; omega
  have hr := Lib.run_convert_string_bytes (P := Try.prog) w7 9 47 5 A Try.underlying9 Try.underlying47 Try.underlying5
  have hh := Lib.hid (bytes_holds w7 A)
  have hg := Lib.hid (Below.of_none (bytes_grown w7 A))
  have hb := Lib.hid (Lib.bytesWorld_at_new w7 5 A)
  generalize Lib.bytesWorld w7 5 A = W8 at hr hh hg hb
  rw [HZ.out] at hr
  go_upto_region 15 with fail
  obtain ⟨P, hP⟩ : ∃ P, P = (x % (m : Int)).toNat := ⟨_, rfl⟩
  have hx1 := Int.emod_nonneg x (show (m : Int) ≠ 0 by omega)
  have hx2 := Int.emod_lt_of_pos x (show (0 : Int) < m by omega)
  have xm : x % (m : Int) = (P : Int) := by omega
  have hPm : P < m := by omega
  rw [xm]
  obtain ⟨X, hX⟩ : ∃ X, A.data.toList[P]? = some X := ⟨A.data.toList[P]'(by rw [sz_list, HZ.out]; exact hPm), List.getElem?_eq_getElem _⟩
  have hPz : P < A.size := by rw [HZ.out]; exact hPm
  have hcf := hh.out P hPz
  rw [Nat.zero_add] at hcf
  have hc : W8.cell? ⟨w7.heap.size, P, none⟩ = some (.int .u8 (X.toNat : Int)) := by
    rw [hcf.1]
    have h2 : A.data[P]? = some X := by rw [← Array.getElem?_toList]; exact hX
    simp [eb, getElem!_def, h2]
  have hfz := hcf.2
  obtain ⟨Q, hQ⟩ : ∃ Q, Q = (y % 8).toNat := ⟨_, rfl⟩
  have yq : y % 8 = (Q : Int) := by omega
  have hQ8 : Q < 8 := by omega
  have HX := Lib.hid hX
  have HP := Lib.hid hP
  clear hx1 hx2 xm hX hP hcf hPz hQ
  go_upto_region 16 with fail
  rw [xor_bit X Q hQ8]
  have hlP : P < A.data.toList.length := by rw [sz_list, HZ.out]; exact hPm
  have hXe : A.data.toList[P] = X := (List.getElem?_eq_some_iff.1 HX.out).2
  obtain ⟨Y, hY⟩ : ∃ Y, Y = X ^^^ (1 <<< UInt8.ofNat Q) := ⟨_, rfl⟩
  rw [← hY]
  obtain ⟨L, hL⟩ : ∃ L, L = A.data.toList.set P Y := ⟨_, rfl⟩
  have hH : Holds eb (W8.setCell ⟨w7.heap.size, P, none⟩ (.int .u8 (Y.toNat : Int))) w7.heap.size 0 L.toArray := by
    rw [hL]
    exact holds_set hb.out (by have := hh.out; simpa using this) P hlP Y
  have zL : L.length = m := by rw [hL, List.length_set, sz_list, HZ.out]
  obtain ⟨J, hJ⟩ : ∃ J, sumT L = J := ⟨_, rfl⟩
  have hne : ((J : Int) != (K : Int)) = true := by
    have := sum_turned A.data.toList P Q hlP hQ8
    rw [hXe, ← hY, ← hL, hJ, HK.out] at this
    rw [bne_iff_ne]
    omega
  have B8 : Hid (Below w.heap.size w (W8.setCell ⟨w7.heap.size, P, none⟩ (.int .u8 (Y.toNat : Int)))) := Lib.hid ((B7.out.trans (hg.out.mono B7.out.size)).setCell B7.out.size _)
  have k9 := Lib.hid (sum_zero_s ⟨L.toArray⟩ (by show L.toArray.size ≤ _; rw [List.size_toArray, zL]; omega) J hJ)
  have cv := conv_text (W8.setCell ⟨w7.heap.size, P, none⟩ (.int .u8 (Y.toNat : Int))) w7.heap.size 0 m (grownCap w7 m 0 5) L zL hH
  clear hH hh hg hb B7 hc hfz hlP hXe hY hL hJ HX HK HP
  generalize W8.setCell _ _ = W9 at B8 cv ⊢
  go_wp2_with fail
  refine (k9.out _).mono ?_
  rintro e w9 ⟨rfl, b9⟩
  have B9 := bstep B8 b9
  go_wp2_with fail
  go_ret
  exact ⟨rfl, B9.out⟩

theorem walk (a b : ByteArray) (x y : Int) (w0 : a.size ≤ maxLen) (w1 : b.size ≤ maxLen) (w2 : (Lit.int .u16 x).wf = true) (w3 : (Lit.int .u8 y).wf = true) (w : World) :
    Calls Try.prog 10 #[.string a, .string b, .int .u16 x, .int .u8 y] w fun e w' => e = .returned (.bool true) ∧ Below w.heap.size w w' := by
  have m0 : a.size ≤ 9223372036854775807 := by unfold maxLen at w0; omega
  have m1 : b.size ≤ 9223372036854775807 := by unfold maxLen at w1; omega
  have hx := bounds_u16 w2
  have hy := bounds_u8 w3
  by_cases h1 : 3000 < a.size
  · exact walk_long a b x y m0 m1 (.inl h1) w
  by_cases h2 : 3000 < b.size
  · exact walk_long a b x y m0 m1 (.inr ⟨by omega, h2⟩) w
  exact walk_main a b x y hx.1 hx.2 hy.1 hy.2 (by omega) (by omega) w

set_option maxRecDepth 100000 in
theorem lifted (os : Os) (started : os.Started) (H : Type) (enc : TypeId × Value → H) :
    ReturnsInHanded {} Try.checked os 10 .any (Rows.ipv4SumsSpec.pre6 enc Try.prog Try.f10 Rows.ipv4SumsRow.domain false) (Rows.ipv4SumsSpec.post enc Try.prog Try.f10 false true false false) := by
  refine returnsInHanded_of_change (C := Try.checked) own started (by kernel_rfl) Try.func10
    (ChangeSpec.witness6 (enc := enc) (C := Try.checked) false ⟨#[], #[.string ByteArray.empty, .string ByteArray.empty, .int .u16 0, .int .u8 0], []⟩ 8 (by kernel_rfl) (by kernel_rfl) (by kernel_rfl) (by kernel_rfl)) ?_
  intro W base args ds gs before hval0 hW hcnd _
  have hval : ∀ (j : Nat) t v, Try.f10.params[j]? = some t → args[j]? = some v → Value.okWide Try.prog W .any base t v := hval0
  have hW' := hW
  obtain ⟨p, q, hA0, hV, rfl, hfz, hnd⟩ := hW
  have hA : DataW.TrodAll enc Try.prog W 0 (fun _ => true) true Try.f10.params.toList args.toList ds p := hA0
  rw [Try.params10] at hA hval
  obtain ⟨v0, vs0, d0, ds0, p0, q0, hargs, rfl, rfl, h0, r0⟩ := trodAll_cons hA
  obtain ⟨v1, vs1, d1, ds1, p1, q1, rfl, rfl, rfl, h1, r1⟩ := trodAll_cons r0
  obtain ⟨v2, vs2, d2, ds2, p2, q2, rfl, rfl, rfl, h2, r2⟩ := trodAll_cons r1
  obtain ⟨v3, vs3, d3, ds3, p3, q3, rfl, rfl, rfl, h3, r3⟩ := trodAll_cons r2
  obtain ⟨rfl, rfl, rfl⟩ := trodAll_nil r3
  obtain rfl : args = #[v0, v1, v2, v3] := by cases args; simp_all
  obtain ⟨rfl, rfl⟩ := trodVars_none hV
  obtain ⟨a0, rfl, rfl, rfl, w0⟩ := open_string Try.underlying9 (hval 0 9 v0 rfl rfl) h0
  obtain ⟨a1, rfl, rfl, rfl, w1⟩ := open_string Try.underlying9 (hval 1 9 v1 rfl rfl) h1
  obtain ⟨a2, rfl, rfl, rfl, w2⟩ := open_int Try.underlying63 (hval 2 63 v2 rfl rfl) h2
  obtain ⟨a3, rfl, rfl, rfl, w3⟩ := open_int Try.underlying5 (hval 3 5 v3 rfl rfl) h3
  clear hA0 hval0
  refine (walk a0 a1 a2 a3 w0 w1 w2 w3 W).mono fun e W' ⟨he, bel⟩ => ?_
  subst he
  exact ⟨_, rfl, _, _, _, [], _, [], hW', trodAll_mk1 (shut_bool Try.underlying4 _), (trodAll_cons_mk (shut_string Try.underlying9 w0) (trodAll_cons_mk (shut_string Try.underlying9 w1) (trodAll_cons_mk (shut_int Try.underlying63 w2) (trodAll_cons_mk (shut_int Try.underlying5 w3) trodAll_mk0)))), rfl, bel.frame _, fun h => by cases h⟩

/-- THE STATEMENT. -/
theorem proved : Rows.Ipv4SumsSaid :=
  OpenClaim.holds_of_wide 10 Try.f10 rfl rfl rfl rfl rfl rfl rfl ⟨rfl, rfl, rfl, rfl, rfl⟩ rfl rfl rfl rfl rfl (by kernel_rfl) Try.func10 (by kernel_rfl)
    (of_decide_eq_true (by kernel_rfl)) (by unfold Func.isWrapper; first | (rw [if_pos (by decide +kernel)]; kernel_rfl) | (rw [if_neg (by decide +kernel)]; exact ⟨rfl, rfl⟩))
    (fun os started H enc _ => lifted os started H enc)
#print axioms proved

end Go.Proofs.Ytdckjliocgnbgaa.isu
