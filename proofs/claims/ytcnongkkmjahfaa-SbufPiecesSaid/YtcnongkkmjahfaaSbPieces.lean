/-
  SbufPieces: a text that is written, told and acknowledged in pieces comes over whole. Conditions: none beyond the kinds of the arguments.
-/
import Derived.Test.YtcnongkkmjahfaaSbI
import Derived.ProofKit
import Derived.OpenShut
import Derived.ShutString
import Derived.ChangeOld
import Derived.Below
namespace Go.Proofs.Ytcnongkkmjahfaa.sbp
open Go.ChangeShapes Go.WideShapes Go.ChangeAt Go.RowKit
open Go.ChangeMaps (open_string shut_string)
set_option linter.unusedVariables false

theorem own : ownKnob Try.prog.godebug = none := by kernel_rfl
theorem laidOut : laidOutB Try.prog = true := by kernel_rfl
set_option maxRecDepth 100000 in
set_option maxHeartbeats 8000000 in
theorem walk_a (u rm : Int) (D : ByteArray) (p : Option Addr) (len cap : Nat) (h : 3000 < D.size) (w : World) :
    Calls Try.prog 7 #[.int .u32 u, .int .u16 rm, .string D, .slice p len cap] w fun e w' => e = .returned (.bool true) ∧ Below w.heap.size w w' := by
  have q : decide (3000 < (D.size : Int)) = true := decide_eq_true (by omega)
  clear h
  go_enter Try.func7, Try.ntmps7
  go_wp2_with fail
  refine (awakeB _).mono ?_
  rintro e w2 ⟨rfl, bl⟩
  go_wp2_with fail
  go_ret
  exact ⟨rfl, bl⟩
set_option maxRecDepth 100000 in
set_option maxHeartbeats 8000000 in
theorem walk_b (u rm : Int) (D : ByteArray) (p : Option Addr) (len cap : Nat) (h : D.size ≤ 3000 ∧ 100 < len) (w : World) :
    Calls Try.prog 7 #[.int .u32 u, .int .u16 rm, .string D, .slice p len cap] w fun e w' => e = .returned (.bool true) ∧ Below w.heap.size w w' := by
  have q : decide (3000 < (D.size : Int)) = false := decide_eq_false (by omega)
  have q2 : decide (100 < (len : Int)) = true := decide_eq_true (by omega)
  clear h
  go_enter Try.func7, Try.ntmps7
  go_wp2_with fail
  refine (awakeB _).mono ?_
  rintro e w2 ⟨rfl, bl⟩
  go_wp2_with fail
  go_ret
  exact ⟨rfl, bl⟩
theorem pieces_step {S : List UInt8} {n v t m K : Nat} (hv : v ≤ t) (ht : t ≤ S.length) (hvl : v < S.length) (hm : 1 ≤ m) (hn : 1 ≤ n) (hLn : t - v ≤ n) (hK : K = min (min S.length (t + m) - t) (n - (t - v))) :
    t + K ≤ S.length ∧ ∃ q, q = min m (t + K - v) ∧ 1 ≤ q ∧ (t + K - v) ≤ n ∧
      (S.take t).drop v ++ (((S.take (min S.length (t + m))).drop t).take K) = (S.take (t + K)).drop v ∧
      ((S.take (t + K)).drop v).take m = (S.drop v).take q ∧ (((S.drop v).take q).length = q) ∧
      ((S.take (t + K)).drop v).drop q = (S.take (t + K)).drop (v + q) ∧ S.take v ++ (S.drop v).take q = S.take (v + q) ∧ v + q ≤ t + K := by
  have h1 : t + K ≤ S.length := by omega
  refine ⟨h1, min m (t + K - v), rfl, by omega, by omega, ?_, ?_, by rw [List.length_take, List.length_drop]; omega, by rw [List.drop_drop], by rw [List.take_add], by omega⟩
  · apply List.ext_getElem?
    intro j
    by_cases hj : j < t - v
    · rw [List.getElem?_append_left (by rw [List.length_drop, List.length_take]; omega), List.getElem?_drop, List.getElem?_drop, List.getElem?_take, List.getElem?_take, if_pos (by omega), if_pos (by omega)]
    · rw [List.getElem?_append_right (by rw [List.length_drop, List.length_take]; omega), List.length_drop, List.length_take, List.getElem?_take, List.getElem?_drop, List.getElem?_drop, List.getElem?_take, List.getElem?_take]
      have e : t + (j - (min t S.length - v)) = v + j := by omega
      rw [e]
      by_cases h2 : v + j < t + K
      · rw [if_pos (by omega), if_pos (by omega), if_pos h2]
      · rw [if_neg (by omega), if_neg h2]
  · apply List.ext_getElem?
    intro j
    rw [List.getElem?_take, List.getElem?_drop, List.getElem?_take, List.getElem?_take, List.getElem?_drop]
    by_cases h2 : j < min m (t + K - v)
    · rw [if_pos (by omega), if_pos (by omega), if_pos h2]
    · rw [if_neg h2]
      by_cases h3 : j < m
      · rw [if_pos h3, if_neg (by omega)]
      · rw [if_neg h3]
set_option maxRecDepth 100000 in
set_option maxHeartbeats 8000000 in
theorem walk_main (u rm : Int) (D : ByteArray) (p : Option Addr) (len cap : Nat) (l : List Int) (n L : Nat) (S : List UInt8) (hu : 0 ≤ u ∧ u < 4294967296) (hq : Int.tmod rm 300 = rm % 300) (hr : 0 ≤ rm ∧ rm < 65536) (hn : (n : Int) = 1 + rm % 300) (hS : D.data.toList = S) (hL : D.size = L) (hL3 : L ≤ 3000) (hlen : len ≤ 100) (w : World) (hl : IsU8 w p len l) :
    Calls Try.prog 7 #[.int .u32 u, .int .u16 rm, .string D, .slice p len cap] w fun e w' => e = .returned (.bool true) ∧ Below w.heap.size w w' := by
  have q1 : decide (3000 < (L : Int)) = false := decide_eq_false (by omega)
  have q2 : decide (100 < (len : Int)) = false := decide_eq_false (by omega)
  have e1 : IntKind.u16.wrap (rm % 300) = rm % 300 := by rw [IntKind.wrap_u16]; omega
  have e2 : IntKind.i64.wrap (rm % 300) = rm % 300 := IntWalk.i64_in _ (by omega)
  have e3 : IntKind.i64.wrap (1 + rm % 300) = (n : Int) := by rw [← hn]; exact IntWalk.i64_in _ (by omega)
  have HNN : Hid (1 ≤ n ∧ n ≤ 300) := Lib.hid (by omega)
  have HS := Lib.hid hS
  have HSL : Hid (S.length = L) := Lib.hid (by rw [← hS, Array.length_toList]; exact hL)
  have HU := Lib.hid hu
  have HT := Lib.hid hl
  clear hS hu hl hr hn
  go_enter Try.func7, Try.ntmps7
  go_wp2_with fail
  refine (awakeB _).mono ?_
  rintro e w2 ⟨rfl, bl⟩
  have BL0 := Lib.hid bl
  clear bl
  go_wp2_with fail
  refine (tNew w2 u n HNN.out.1 (by have := HNN.out; omega) HU.out.1 HU.out.2).mono ?_
  rintro e w3 ⟨g, b, rfl, h⟩
  have H0 := Lib.hid h
  clear h
  go_upto_region 11 with fail
  clear q1 q2 e1 e2 e3 hq
  go_loopw [11, 12, 13] (fun wt got i wr => ∃ (k v t : Nat) (u' : Int) (G : ByteArray), k ≤ v ∧ v ≤ t ∧ t ≤ L ∧ i = .int .i64 k ∧ wt = .int .i64 t ∧ got = .string G ∧ Hid (G.data.toList = S.take v) ∧ Hid (u' = (u + v) % 4294967296) ∧ Hid (SbS w2 wr g b n u' ((S.take t).drop v))) (fun _ _ i _ => 4000 - (intOf i).toNat)
  case atStart => exact ⟨0, 0, 0, u, ⟨#[]⟩, Nat.le_refl _, Nat.le_refl _, Nat.zero_le _, rfl, rfl, rfl, Lib.hid rfl, Lib.hid (by have := HU.out; omega), H0⟩
  case round =>
    clear H0
    obtain ⟨k, v, t, u1, G, hkv, hvt, htL, rfl, rfl, rfl, HG, HU1, HB⟩ := hrel
    have BW : Hid (Below w.heap.size w wr) := Lib.hid (BL0.out.trans (HB.out.bl.mono BL0.out.size))
    have hGs : G.size = v := by rw [size_ofB HG.out, List.length_take, HSL.out]; omega
    have d0 : decide ((k : Int) < 4000) = true := decide_eq_true (by omega)
    by_cases hlt : v < L
    · have d1 : decide ((v : Int) < (L : Int)) = true := decide_eq_true (by omega)
      have d1n : decide (v < L) = true := decide_eq_true hlt
      have e0 : IntKind.i64.wrap ((k : Int) + 1) = (k : Int) + 1 := IntWalk.i64_in _ (by omega)
      have HPR := Lib.hid (And.intro hkv (And.intro hvt (And.intro htL hlt)))
      go_upto_if 52 with fail
      go_cut [14] from 53 to 61 (fun v14 wx => ∃ m : Nat, v14 = .int .i64 m ∧ 1 ≤ m ∧ m ≤ 256 ∧ wx = wr)
      case first =>
        by_cases hl0 : 0 < len
        · have d2 : decide ((0 : Int) < (len : Int)) = true := decide_eq_true (by omega)
          have d2n : decide (0 < len) = true := decide_eq_true hl0
          obtain ⟨r, hr⟩ : ∃ r, r = k % len := ⟨_, rfl⟩
          have hrl : r < len := by rw [hr]; exact Nat.mod_lt _ hl0
          have ez : ¬ (len : Int) = 0 := by omega
          have er : Int.tmod (k : Int) (len : Int) = (r : Int) := by rw [hr, Int.tmod_eq_emod_of_nonneg (by omega)]; omega
          have ew : IntKind.i64.wrap (r : Int) = (r : Int) := IntWalk.i64_in _ (by omega)
          obtain ⟨b2, o2, hp2, hc2, hwf⟩ := (IsNums.below HT.out BW.out).at_ r (by rw [HT.out.1]; exact hrl)
          have hx := sq_u8 hwf
          subst hp2
          generalize l[r]'(by rw [HT.out.1]; exact hrl) = x at hc2 hx
          have r1 : (0 : Int) ≤ (r : Int) := by omega
          have r2 : (r : Int) < (len : Int) := by omega
          have ex : IntKind.i64.wrap x = x := IntWalk.i64_in _ (by omega)
          obtain ⟨m, hm⟩ : ∃ m : Nat, (m : Int) = 1 + x := ⟨(1 + x).toNat, by omega⟩
          have ey : IntKind.i64.wrap (1 + x) = (m : Int) := by rw [← hm]; exact IntWalk.i64_in _ (by omega)
          have HMM := Lib.hid (show 1 ≤ m ∧ m ≤ 256 by omega)
          clear hm hx hr hrl hwf
          go_wp2_with fail
          go_meet
          case rel => exact ⟨m, rfl, HMM.out.1, HMM.out.2, rfl⟩
        · have d2 : decide ((0 : Int) < (len : Int)) = false := decide_eq_false (by omega)
          have d2n : decide (0 < len) = false := decide_eq_false hl0
          go_wp2_with fail
          go_meet
          case rel => exact ⟨1, rfl, by omega, by omega, rfl⟩
      case rest =>
        obtain ⟨m, rfl, hm1, hm2, rfl⟩ := hcut
        have hLn : ((S.take t).drop v).length ≤ n := HB.out.sb.le
        have hLl : ((S.take t).drop v).length = t - v := by rw [List.length_drop, List.length_take, HSL.out]; omega
        obtain ⟨K, hK⟩ : ∃ K, K = min (min S.length (t + m) - t) (n - (t - v)) := ⟨_, rfl⟩
        obtain ⟨s1, q, hq, s2, s3, s4, s5, s6, s7, s8, s9⟩ := pieces_step hvt (by rw [HSL.out]; exact htL) (by rw [HSL.out]; exact hlt) hm1 HNN.out.1 (by omega) hK
        rw [HSL.out] at hK s1 s4
        obtain ⟨T, hT⟩ : ∃ T, T = min L (t + m) := ⟨_, rfl⟩
        rw [← hT] at hK s4
        have a1 : IntKind.i64.wrap ((t : Int) + m) = (t : Int) + m := IntWalk.i64_in _ (by omega)
        have a2 : min (L : Int) ((t : Int) + m) = (T : Int) := by omega
        have a3 : (0 : Int) ≤ (t : Int) := by omega
        have a4 : (t : Int) ≤ (T : Int) := by omega
        have a5 : (T : Int) ≤ (L : Int) := by omega
        obtain ⟨R, hR⟩ : ∃ R, R = D.extract t T := ⟨_, rfl⟩
        have HRL : Hid (R.data.toList = (S.take T).drop t) := Lib.hid (by rw [hR, extract_listB D S HS.out])
        have hRs : R.size = T - t := by rw [size_ofB HRL.out, List.length_drop, List.length_take, HSL.out]; omega
        have KW : Hid (K = min R.size (n - ((S.take t).drop v).length)) := Lib.hid (by rw [hRs, hLl]; exact hK)
        have b1 : decide ((K : Int) < 0) = false := decide_eq_false (by omega)
        have b2 : decide ((R.size : Int) < (K : Int)) = false := decide_eq_false (by omega)
        have b2n : decide (R.size < K) = false := decide_eq_false (by omega)
        have b3 : IntKind.i64.wrap ((t : Int) + K) = (t : Int) + K := IntWalk.i64_in _ (by omega)
        obtain ⟨L1, hL1⟩ : ∃ L1, L1 = (S.take (t + K)).drop v := ⟨_, rfl⟩
        have hL1l : L1.length = t + K - v := by rw [hL1, List.length_drop, List.length_take, HSL.out]; omega
        have W1 : Hid (L1 = (S.take t).drop v ++ (R.data.toList.take K)) := Lib.hid (by rw [hL1, HRL.out, s4])
        have PC : Hid (getS u1 u1 (m : Int) L1 = (S.drop v).take q) := Lib.hid (by rw [getS_una (by rw [HU1.out]; exact mod32 _), Int.toNat_natCast, hL1, s5])
        obtain ⟨P, hP⟩ : ∃ P : ByteArray, P = ⟨((S.drop v).take q).toArray⟩ := ⟨_, rfl⟩
        have hPs : P.size = q := by rw [hP, size_arr, s6]
        obtain ⟨u2, hu2⟩ : ∃ u2, u2 = (u1 + (q : Int)) % 4294967296 := ⟨_, rfl⟩
        have b4 : IntKind.u32.wrap (q : Int) = (q : Int) := by rw [IntKind.wrap_u32]; have := HNN.out; omega
        have b5 : IntKind.u32.wrap (u1 + q) = u2 := by rw [IntKind.wrap_u32, hu2]
        have KA : Hid ((q : Int) = if ahN u1 u2 ≤ L1.length then ahN u1 u2 else 0) := Lib.hid (by
          rw [hu2, ah_moved q (by have := HNN.out; omega), hL1l, if_pos (by omega)])
        have GN : Hid ((G ++ P).data.toList = S.take (v + q)) := Lib.hid (by rw [list_addB HG.out (m := (S.drop v).take q) (by rw [hP]), s8])
        have GU : Hid (u2 = (u + ((v + q : Nat) : Int)) % 4294967296) := Lib.hid (by rw [hu2, HU1.out]; omega)
        have e9 : G.size + P.size ≤ 9223372036854775807 := by rw [hGs, hPs]; have := HNN.out; omega
        rw [hGs, hPs] at e9
        have HX := Lib.hid (And.intro s1 (And.intro s2 s9))
        have DX : Hid ((S.take (t + K)).drop (v + q) = L1.drop q) := Lib.hid (by rw [hL1, s7])
        have HP := Lib.hid hP
        have HU2 := Lib.hid hu2
        have HUB : Hid (0 ≤ u2 ∧ u2 < 4294967296) := Lib.hid (by rw [hu2]; exact mod32 _)
        have HMB := Lib.hid (show (m : Int) ≤ 9223372036854775807 by omega)
        have hRE : D.extract t T = R := hR.symm
        clear hRs hR hP hu2 hL1 hL1l hT hK hq s1 s2 s3 s4 s5 s6 s7 s8 s9 hLn hLl hm1 hm2 hkv hvt htL hlt
        go_wp2_with fail
        refine (tWrite HB.out R K KW.out _ rfl L1 W1.out).mono ?_
        rintro e w5 ⟨rfl, h⟩
        have H5 := Lib.hid h
        clear h a1 a2 a3 a4 a5
        go_wp2_with fail
        refine (tUna H5.out).mono ?_
        rintro e w6 ⟨rfl, rfl⟩
        go_wp2_with fail
        refine (tGet H5.out u1 (m : Int) HMB.out P (by rw [PC.out]; exact HP.out)).mono ?_
        rintro e w6 ⟨rfl, h⟩
        have H6 := Lib.hid h
        clear h H5
        go_wp2_with fail
        refine (tUna H6.out).mono ?_
        rintro e w7 ⟨rfl, rfl⟩
        go_wp2_with fail
        refine (tAck H6.out u2 HUB.out q KA.out u2 HU2.out _ DX.out).mono ?_
        rintro e w7 ⟨rfl, h⟩
        have H7 := Lib.hid h
        clear h H6
        go_wp2_with fail
        go_roundw
        case rel => exact ⟨k + 1, v + q, t + K, u2, G ++ P, by have := HX.out; have := HPR.out; omega, HX.out.2.2, HX.out.1, by go_num, by go_num, rfl, GN, GU, H7⟩
        case measure => have := HPR.out; simp [intOf]; omega
    · have hvL : v = L := by omega
      have htv : t = L := by omega
      have d1 : decide ((v : Int) < (L : Int)) = false := decide_eq_false (by omega)
      have d1n : decide (v < L) = false := decide_eq_false hlt
      have EQ : (G.toList == D.toList) = true := eq_of_listsB (by rw [HG.out, HS.out, hvL, ← HSL.out, List.take_length])
      have HL0 : Hid (0 = ((S.take t).drop v).length) := Lib.hid (by rw [List.length_drop, List.length_take, HSL.out]; omega)
      have HPR := Lib.hid (And.intro hkv hvt)
      clear hvL htv hlt hkv hvt htL
      go_wp2_with fail
      refine (tLen HB.out 0 HL0.out).mono ?_
      rintro e w5 ⟨rfl, rfl⟩
      go_wp2_with fail
      go_ret
      exact ⟨rfl, BL0.out.trans (HB.out.bl.mono BL0.out.size)⟩
theorem walk (a0 a1 : Int) (a2 : ByteArray) (p : Option Addr) (len cap : Nat) (l : List Int) (w : World) (w0 : (Lit.int .u32 a0).wf = true) (w1 : (Lit.int .u16 a1).wf = true) (w2 : a2.size ≤ maxLen) (w3 : IsU8 w p len l) :
    Calls Try.prog 7 #[.int .u32 a0, .int .u16 a1, .string a2, .slice p len cap] w fun e w' => e = .returned (.bool true) ∧ Below w.heap.size w w' := by
  have b0 := sq_u32 w0
  have b1 := wf_u16 w1
  by_cases h2 : 3000 < a2.size
  · exact walk_a a0 a1 a2 p len cap h2 w
  by_cases h3 : 100 < len
  · exact walk_b a0 a1 a2 p len cap ⟨by omega, h3⟩ w
  have hq : Int.tmod a1 300 = a1 % 300 := Int.tmod_eq_emod_of_nonneg b1.1
  obtain ⟨n, hn⟩ : ∃ n : Nat, (n : Int) = 1 + a1 % 300 := ⟨(1 + a1 % 300).toNat, by omega⟩
  exact walk_main a0 a1 a2 p len cap l n _ _ b0 hq b1 hn rfl rfl (by omega) (by omega) w w3
set_option maxRecDepth 100000 in
theorem lifted (os : Os) (started : os.Started) (H : Type) (enc : TypeId × Value → H) :
    ReturnsInHanded {} Try.checked os 7 .any (Rows.sbufPiecesSpec.pre6 enc Try.prog Try.f7 Rows.sbufPiecesRow.domain false) (Rows.sbufPiecesSpec.post enc Try.prog Try.f7 false true false false) := by
  refine returnsInHanded_of_change (C := Try.checked) own started (by kernel_rfl) Try.func7
    (ChangeSpec.witness6 (enc := enc) (C := Try.checked) false ⟨#[], #[.int .u32 0, .int .u16 0, .string ByteArray.empty, .slice none 0 0], []⟩ 8 (by kernel_rfl) (by kernel_rfl) (by kernel_rfl) (by kernel_rfl)) ?_
  intro W base args ds gs before hval0 hW hcnd _
  have hval : ∀ (j : Nat) t v, Try.f7.params[j]? = some t → args[j]? = some v → Value.okWide Try.prog W .any base t v := hval0
  have hW' := hW
  obtain ⟨p, q, hA0, hV, rfl, hfz, hnd⟩ := hW
  have hA : DataW.TrodAll enc Try.prog W 0 (fun _ => true) true Try.f7.params.toList args.toList ds p := hA0
  rw [Try.params7] at hA hval
  obtain ⟨v0, vs0, d0, ds0, p0, q0, hargs, rfl, rfl, h0, r0⟩ := trodAll_cons hA
  obtain ⟨v1, vs1, d1, ds1, p1, q1, rfl, rfl, rfl, h1, r1⟩ := trodAll_cons r0
  obtain ⟨v2, vs2, d2, ds2, p2, q2, rfl, rfl, rfl, h2, r2⟩ := trodAll_cons r1
  obtain ⟨v3, vs3, d3, ds3, p3, q3, rfl, rfl, rfl, h3, r3⟩ := trodAll_cons r2
  obtain ⟨rfl, rfl, rfl⟩ := trodAll_nil r3
  obtain rfl : args = #[v0, v1, v2, v3] := by cases args; simp_all
  obtain ⟨rfl, rfl⟩ := trodVars_none hV
  obtain ⟨a0, rfl, rfl, rfl, w0⟩ := open_int Try.underlying26 (hval 0 26 v0 rfl rfl) h0
  obtain ⟨a1, rfl, rfl, rfl, w1⟩ := open_int Try.underlying48 (hval 1 48 v1 rfl rfl) h1
  obtain ⟨a2, rfl, rfl, rfl, w2⟩ := open_string Try.underlying9 (hval 2 9 v2 rfl rfl) h2
  obtain ⟨a3, len3, cap3, rfl⟩ := okWide_slice Try.underlying44 (hval 3 44 v3 rfl rfl)
  have k3 := h3
  have lt3 : ∀ x ∈ p3, x.block < W.heap.size := by obtain ⟨m, hm⟩ := k3; exact DataW.trod_lt m _ _ _ hm
  obtain ⟨l3, w3⟩ : ∃ l, IsU8 W a3 len3 l := by obtain ⟨fuel, hf⟩ := h3; exact open_u8 hf
  clear hA0 hval0
  refine (walk a0 a1 a2 a3 len3 cap3 l3 W w0 w1 w2 w3).mono fun e W' ⟨he, bel⟩ => ?_
  subst he
  exact ⟨_, rfl, _, _, _, [], _, [], hW', trodAll_mk1 (shut_bool Try.underlying4 _), (trodAll_cons_mk (shut_int Try.underlying26 w0) (trodAll_cons_mk (shut_int Try.underlying48 w1) (trodAll_cons_mk (shut_string Try.underlying9 w2) (trodAll_cons_mk (Below.trod laidOut (by kernel_rfl) (of_decide_eq_true (by kernel_rfl)) k3 bel lt3) trodAll_mk0)))), rfl, bel.frame _, fun h => by cases h⟩

/-- THE STATEMENT. -/
theorem proved : Rows.SbufPiecesSaid :=
  OpenClaim.holds_of_wide 7 Try.f7 rfl rfl rfl rfl rfl rfl rfl ⟨rfl, rfl, rfl, rfl, rfl⟩ rfl rfl rfl rfl rfl (by kernel_rfl) Try.func7 (by kernel_rfl)
    (of_decide_eq_true (by kernel_rfl)) (by unfold Func.isWrapper; first | (rw [if_pos (by decide +kernel)]; kernel_rfl) | (rw [if_neg (by decide +kernel)]; exact ⟨rfl, rfl⟩))
    (fun os started H enc _ => lifted os started H enc)
#print axioms proved

end Go.Proofs.Ytcnongkkmjahfaa.sbp
