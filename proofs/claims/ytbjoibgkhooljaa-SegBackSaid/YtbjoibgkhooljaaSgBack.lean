/-
  SegBack: what has bytes is read from them, between the same addresses, or the other way about; a bit of them that is turned is found. Conditions: more than 2000 bytes of data are not asked about, as the statement says.
-/
import Derived.Test.YtbjoibgkhooljaaSgI
import Derived.Test.YtbjoibgkhooljaaIpL
import Derived.Test.YtbjoibgkhooljaaIpO
import Derived.ProofKit
import Derived.OpenShut
import Derived.ShutString
import Derived.ChangeOld
import Derived.Below
namespace Go.Proofs.Ytbjoibgkhooljaa.sgb
open Go.ChangeShapes Go.WideShapes Go.ChangeAt Go.RowKit
open Go.ChangeMaps (open_string shut_string)
open Go.Sort (Holds)
set_option linter.unusedVariables false

theorem holds_setS {w : World} {n : Nat} {cs : Array Value} {t : TypeId} {fz : Nat × Nat} {l : List UInt8} (h : w.heap[n]? = some (.cells cs t fz)) (hh : Holds eb w n 0 l.toArray) (k : Nat) (hk : k < l.length) (y : UInt8) :
    Holds eb (w.setCell ⟨n, k, none⟩ (eb y)) n 0 (l.set k y).toArray := (holds_put h hh k hk y).1
theorem xor_bit (X : UInt8) (Q : Nat) (h : Q < 8) : bits .xor .u8 (X.toNat : Int) (2 ^ Q % 256) = ((X ^^^ (1 <<< UInt8.ofNat Q)).toNat : Int) := by
  have : ∀ (b : Fin 8) (x : Fin 256), bits .xor .u8 (((UInt8.ofNat x.1).toNat : Nat) : Int) (2 ^ b.1 % 256) = ((UInt8.ofNat x.1 ^^^ (1 <<< UInt8.ofNat b.1)).toNat : Int) := by decide +kernel
  have h2 := this ⟨Q, h⟩ ⟨X.toNat, X.toNat_lt⟩
  rw [show UInt8.ofNat X.toNat = X by simp] at h2
  exact h2
set_option maxRecDepth 100000 in
set_option maxHeartbeats 4000000 in
theorem walk_long (f : Sg) (i j : Ip4) (x y : Int) (hm : f.da.size ≤ 9223372036854775807) (h : 2000 < f.da.size) (w : World) :
    Calls Try.prog 7 #[.agg (sgC f), .agg (ipC i), .agg (ipC j), .int .u16 x, .int .u8 y] w fun e w' => e = .returned (.bool true) ∧ Below w.heap.size w w' := by
  go_enter Try.func7, Try.ntmps7
  go_upto_region 1 with fail
  obtain ⟨n, m, k, hn, hm, hk, fa, bl⟩ := sgbx_new w f i j
  have LO : Hid (n < w.heap.size + 3 ∧ m < w.heap.size + 3 ∧ k < w.heap.size + 3 ∧ n ≠ m ∧ n ≠ k ∧ m ≠ k) := Lib.hid (by omega)
  have F0 := Lib.hid fa
  have B0 := Lib.hid bl
  clear fa bl
  generalize World.alloc _ _ = W1 at F0 B0 ⊢
  try rw [hk]
  try rw [hm]
  try rw [hn]
  clear hn hm hk
  go_wp2_with fail
  refine (awakeS _).mono ?_
  rintro e w1 ⟨rfl, b1⟩
  have F1 := Lib.hid (F0.out.grow b1)
  have B1 := bstep B0 b1
  clear b1 F0 B0
  have c7 := F1.out.sg.da
  go_wp2_with fail
  go_ret
  exact ⟨rfl, B1.out⟩
set_option maxRecDepth 100000 in
set_option maxHeartbeats 4000000 in
theorem walk_err (f : Sg) (hf : f.ok) (i j : Ip4) (x y : Int) (hz : f.da.size ≤ 2000) (hE : sgE f ≠ 0) (w : World) :
    Calls Try.prog 7 #[.agg (sgC f), .agg (ipC i), .agg (ipC j), .int .u16 x, .int .u8 y] w fun e w' => e = .returned (.bool true) ∧ Below w.heap.size w w' := by
  have k1 := Lib.hid (fun w => sgBytes_any w f i j hf (by omega))
  rw [sgS, if_neg hE] at k1
  obtain ⟨E, hEe⟩ : ∃ E, sgE f = E := ⟨_, rfl⟩
  rw [hEe] at k1 hE
  have hb : (E != 0) = true := by simpa using hE
  clear hE hEe
  go_enter Try.func7, Try.ntmps7
  go_upto_region 1 with fail
  obtain ⟨n, m, k, hn, hm, hk, fa, bl⟩ := sgbx_new w f i j
  have LO : Hid (n < w.heap.size + 3 ∧ m < w.heap.size + 3 ∧ k < w.heap.size + 3 ∧ n ≠ m ∧ n ≠ k ∧ m ≠ k) := Lib.hid (by omega)
  have F0 := Lib.hid fa
  have B0 := Lib.hid bl
  clear fa bl
  generalize World.alloc _ _ = W1 at F0 B0 ⊢
  try rw [hk]
  try rw [hm]
  try rw [hn]
  clear hn hm hk
  go_wp2_with fail
  refine (awakeS _).mono ?_
  rintro e w1 ⟨rfl, b1⟩
  have F1 := Lib.hid (F0.out.grow b1)
  have B1 := bstep B0 b1
  clear b1 F0 B0
  have c7 := F1.out.sg.da
  have hp := F1.out.sg
  have hi := F1.out.ia
  have hj := F1.out.ja
  go_wp2_with (first | (refine sg_ld (by rfl) (.tmp 5) rfl n rfl _ hp ?_) | (refine ipb_ld (by rfl) (.tmp 6) rfl m rfl _ hi ?_) | (refine ipb_ld (by rfl) (.tmp 7) rfl k rfl _ hj ?_))
  refine (k1.out _).mono ?_
  rintro e w2 ⟨rfl, b2⟩
  have F2 := Lib.hid (F1.out.grow b2)
  have B2 := bstep B1 b2
  clear b2 F1 B1
  clear hp hi hj
  go_wp2_with fail
  go_ret
  exact ⟨rfl, B2.out⟩
set_option maxRecDepth 100000 in
set_option maxHeartbeats 8000000 in
theorem walk_main (f : Sg) (hf : f.ok) (i j : Ip4) (x y : Int) (x0 : 0 ≤ x) (x1 : x ≤ 65535) (y0 : 0 ≤ y) (y1 : y ≤ 255) (hz : f.da.size ≤ 2000) (hE : sgE f = 0) (w : World) :
    Calls Try.prog 7 #[.agg (sgC f), .agg (ipC i), .agg (ipC j), .int .u16 x, .int .u8 y] w fun e w' => e = .returned (.bool true) ∧ Below w.heap.size w w' := by
  have k1 := Lib.hid (fun w => sgBytes_any w f i j hf (by omega))
  have zT := sgS_size (i := i) (j := j) hE
  have hop := opN_le f
  obtain ⟨e1, e2⟩ := read_back10 i j f hf hE
  have k2 := Lib.hid (fun w => sgRead_any w (sgS i j f) i j (by omega))
  rw [srP, e1, if_pos rfl, e2] at k2
  have k3 := Lib.hid (fun w => sgRead_any w (sgS i j f) j i (by omega))
  rw [← srE_swap, ← srP_swap, srP, e1, if_pos rfl, e2] at k3
  have hsum := (srE_zero.1 e1).2.1
  rw [hE] at k1
  obtain ⟨T, hT⟩ : ∃ T, T = sgS i j f := ⟨_, rfl⟩
  rw [← hT] at k1 k2 k3 zT hsum
  obtain ⟨q, hq⟩ : ∃ q, q = T.size := ⟨_, rfl⟩
  have zq : 0 < q := by omega
  have zq2 : q ≤ 3000 := by omega
  have HZ : Hid (T.size = q) := Lib.hid hq.symm
  have HSUM := Lib.hid hsum
  have hqq := eqls f f hf hf true (decide_eq_true rfl)
  clear hT zT hop e1 e2 hsum hE hq
  go_enter Try.func7, Try.ntmps7
  go_upto_region 1 with fail
  obtain ⟨n, m, k, hn, hm, hk, fa, bl⟩ := sgbx_new w f i j
  have LO : Hid (n < w.heap.size + 3 ∧ m < w.heap.size + 3 ∧ k < w.heap.size + 3 ∧ n ≠ m ∧ n ≠ k ∧ m ≠ k) := Lib.hid (by omega)
  have F0 := Lib.hid fa
  have B0 := Lib.hid bl
  clear fa bl
  generalize World.alloc _ _ = W1 at F0 B0 ⊢
  try rw [hk]
  try rw [hm]
  try rw [hn]
  clear hn hm hk
  go_wp2_with fail
  refine (awakeS _).mono ?_
  rintro e w1 ⟨rfl, b1⟩
  have F1 := Lib.hid (F0.out.grow b1)
  have B1 := bstep B0 b1
  clear b1 F0 B0
  have c7 := F1.out.sg.da
  have hp := F1.out.sg
  have hi := F1.out.ia
  have hj := F1.out.ja
  go_wp2_with (first | (refine sg_ld (by rfl) (.tmp 5) rfl n rfl _ hp ?_) | (refine ipb_ld (by rfl) (.tmp 6) rfl m rfl _ hi ?_) | (refine ipb_ld (by rfl) (.tmp 7) rfl k rfl _ hj ?_))
  refine (k1.out _).mono ?_
  rintro e w2 ⟨rfl, b2⟩
  have F2 := Lib.hid (F1.out.grow b2)
  have B2 := bstep B1 b2
  clear b2 F1 B1
  clear hp hi hj
  clear c7
  have hi := F2.out.ia
  have hj := F2.out.ja
  go_wp2_with (first | (refine ipb_ld (by rfl) (.tmp 6) rfl m rfl _ hi ?_) | (refine ipb_ld (by rfl) (.tmp 7) rfl k rfl _ hj ?_))
  refine (k2.out _).mono ?_
  rintro e w3 ⟨rfl, b3⟩
  have F3 := Lib.hid (F2.out.grow b3)
  have B3 := bstep B2 b3
  clear b3 F2 B2
  clear hi hj
  have hst := sg_store w3 f
  go_upto_region 9 with (refine wpList_storeW 47 (.tmp 13) (.tmp 43) rfl rfl (.agg (sgC f)) w3.heap.size rfl rfl hst ?_)
  try simp only [Act.put]
  have Pp : Hid (SgAt (w3.alloc (.cells (sgC f) 47)) w3.heap.size f) := Lib.hid (sg_new _ _ _ rfl)
  have F3s := Lib.hid (F3.out.grow ((Below.refl w3.heap.size w3).alloc (Nat.le_refl _) (.cells (sgC f) 47)))
  have B3s := bstep B3 ((Below.refl w3.heap.size w3).alloc (Nat.le_refl _) (.cells (sgC f) 47))
  clear hst F3 B3
  obtain ⟨p, hnp⟩ : ∃ n, n = w3.heap.size := ⟨_, rfl⟩
  generalize w3.alloc _ = W3s at Pp F3s B3s ⊢
  rw [← hnp] at Pp ⊢
  clear hnp
  have hi := F3s.out.ia
  have hj := F3s.out.ja
  go_wp2_with (first | (refine ipb_ld (by rfl) (.tmp 6) rfl m rfl _ hi ?_) | (refine ipb_ld (by rfl) (.tmp 7) rfl k rfl _ hj ?_))
  refine (k3.out _).mono ?_
  rintro e w4 ⟨rfl, b4⟩
  have F4 := Lib.hid (F3s.out.grow b4)
  have B4 := bstep B3s b4
  have Q4 := Lib.hid (Pp.out.grow b4)
  clear b4 F3s B3s Pp
  clear hi hj
  have hst := sg_store w4 f
  go_upto_region 10 with (refine wpList_storeW 47 (.tmp 15) (.tmp 50) rfl rfl (.agg (sgC f)) w4.heap.size rfl rfl hst ?_)
  try simp only [Act.put]
  have Pu : Hid (SgAt (w4.alloc (.cells (sgC f) 47)) w4.heap.size f) := Lib.hid (sg_new _ _ _ rfl)
  have F4s := Lib.hid (F4.out.grow ((Below.refl w4.heap.size w4).alloc (Nat.le_refl _) (.cells (sgC f) 47)))
  have B4s := bstep B4 ((Below.refl w4.heap.size w4).alloc (Nat.le_refl _) (.cells (sgC f) 47))
  have Q5 := Lib.hid (Q4.out.grow ((Below.refl w4.heap.size w4).alloc (Nat.le_refl _) (.cells (sgC f) 47)))
  clear hst F4 B4 Q4
  obtain ⟨u, hnu⟩ : ∃ n, n = w4.heap.size := ⟨_, rfl⟩
  generalize w4.alloc _ = W4s at Pu F4s B4s Q5 ⊢
  rw [← hnu] at Pu ⊢
  clear hnu
  have hp := F4s.out.sg
  have ha := Q5.out
  have hb := Pu.out
  go_upto_region 12 with (first | (refine sg_ld (by rfl) _ rfl _ rfl _ (by first | exact hp | exact ha | exact hb) ?_) | (refine sg_neq (by rfl) _ _ _ rfl f f rfl rfl true hqq ?_))
  clear hp ha hb hqq Q5 Pu
  have hz2 : (T.size : Int) = (q : Int) := by rw [HZ.out]
  have hz0 : ((q : Int) == 0) = false := by simp; omega
  have hr := Lib.run_convert_string_bytes (P := Try.prog) W4s 9 61 5 T Try.underlying9 Try.underlying61 Try.underlying5
  have hh := Lib.hid (bytes_holds W4s T)
  have hg := Lib.hid (Below.of_none (bytes_grown W4s T))
  have hbn := Lib.hid (Lib.bytesWorld_at_new W4s 5 T)
  generalize Lib.bytesWorld W4s 5 T = W8 at hr hh hg hbn
  rw [HZ.out] at hr
  go_upto_region 14 with fail
  obtain ⟨P, hP⟩ : ∃ P, P = (x % (q : Int)).toNat := ⟨_, rfl⟩
  have hx1 := Int.emod_nonneg x (show (q : Int) ≠ 0 by omega)
  have hx2 := Int.emod_lt_of_pos x (show (0 : Int) < q by omega)
  have xm : x % (q : Int) = (P : Int) := by omega
  have hPm : P < q := by omega
  rw [xm]
  have hsl : T.data.toList.length = q := by rw [list_size, HZ.out]
  obtain ⟨X, hX⟩ : ∃ X, T.data.toList[P]? = some X := ⟨T.data.toList[P]'(by rw [hsl]; exact hPm), List.getElem?_eq_getElem _⟩
  have hPz : P < T.size := by rw [HZ.out]; exact hPm
  have hcf := hh.out P hPz
  rw [Nat.zero_add] at hcf
  have hc : W8.cell? ⟨W4s.heap.size, P, none⟩ = some (.int .u8 (X.toNat : Int)) := by
    rw [hcf.1]
    have h2 : T.data[P]? = some X := by rw [← Array.getElem?_toList]; exact hX
    simp [eb, getElem!_def, h2]
  have hfz := hcf.2
  obtain ⟨Q, hQ⟩ : ∃ Q, Q = (y % 8).toNat := ⟨_, rfl⟩
  have yq : y % 8 = (Q : Int) := by omega
  have hQ8 : Q < 8 := by omega
  have HX := Lib.hid hX
  have HP := Lib.hid hP
  have HSL := Lib.hid hsl
  clear hx1 hx2 xm hX hP hcf hPz hQ hsl
  go_upto_region 15 with fail
  rw [xor_bit X Q hQ8]
  have hlP : P < T.data.toList.length := by rw [HSL.out]; exact hPm
  have hXe : T.data.toList[P] = X := (List.getElem?_eq_some_iff.1 HX.out).2
  obtain ⟨Y, hY⟩ : ∃ Y, Y = X ^^^ (1 <<< UInt8.ofNat Q) := ⟨_, rfl⟩
  rw [← hY]
  obtain ⟨L, hL⟩ : ∃ L, L = T.data.toList.set P Y := ⟨_, rfl⟩
  have hH : Holds eb (W8.setCell ⟨W4s.heap.size, P, none⟩ (.int .u8 (Y.toNat : Int))) W4s.heap.size 0 L.toArray := by
    rw [hL]
    exact holds_setS hbn.out (by have := hh.out; simpa using this) P hlP Y
  have zL : L.length = q := by rw [hL, List.length_set, HSL.out]
  have hne : sumS i j L ≠ 0 := by
    have := turned10 i j T.data.toList P Q hlP hQ8 HSUM.out
    rw [hXe, ← hY, ← hL] at this
    exact this
  obtain ⟨G, hG⟩ : ∃ G, srE i j ⟨L.toArray⟩ = G := ⟨_, rfl⟩
  have hG0 : G ≠ 0 := by
    rw [← hG]
    intro e
    exact hne (srE_zero.1 e).2.1
  have hGb : (G != 0) = true := by simpa using hG0
  have B8 : Hid (Below w.heap.size w (W8.setCell ⟨W4s.heap.size, P, none⟩ (.int .u8 (Y.toNat : Int)))) := Lib.hid ((B4s.out.trans (hg.out.mono B4s.out.size)).setCell B4s.out.size _)
  have hlt1 : m ≠ W4s.heap.size := Nat.ne_of_lt F4s.out.ia.lt
  have hlt2 : k ≠ W4s.heap.size := Nat.ne_of_lt F4s.out.ja.lt
  have I9 : Hid (IpBx (W8.setCell ⟨W4s.heap.size, P, none⟩ (.int .u8 (Y.toNat : Int))) m i) := Lib.hid ((F4s.out.ia.grow hg.out).kept (Below.heap_setCell _ _ _ _ hlt1))
  have J9 : Hid (IpBx (W8.setCell ⟨W4s.heap.size, P, none⟩ (.int .u8 (Y.toNat : Int))) k j) := Lib.hid ((F4s.out.ja.grow hg.out).kept (Below.heap_setCell _ _ _ _ hlt2))
  have k9 := Lib.hid (fun w => sgRead_any w ⟨L.toArray⟩ i j (by show L.toArray.size ≤ _; rw [List.size_toArray, zL]; omega))
  rw [srP, hG, if_neg hG0] at k9
  have cv := conv_text (W8.setCell ⟨W4s.heap.size, P, none⟩ (.int .u8 (Y.toNat : Int))) W4s.heap.size 0 q (grownCap W4s q 0 5) L zL hH
  clear hH hh hg hbn B4s F4s hc hfz hlP hXe hY hL HX HP hG0 hG hne hlt1 hlt2 HSL HSUM LO k1 k2 k3
  generalize W8.setCell _ _ = W9 at B8 cv I9 J9 ⊢
  have hi := I9.out
  have hj := J9.out
  go_wp2_with (first | (refine ipb_ld (by rfl) (.tmp 6) rfl m rfl _ hi ?_) | (refine ipb_ld (by rfl) (.tmp 7) rfl k rfl _ hj ?_))
  refine (k9.out _).mono ?_
  rintro e w9 ⟨rfl, b9⟩
  have B9 := bstep B8 b9
  clear hi hj I9 J9 b9 cv
  have hst := sg_store w9 sgZ
  have hqz := eqls sgZ sgZ sgZ_ok sgZ_ok true (decide_eq_true rfl)
  go_upto_region 16 with (refine wpList_storeW 47 (.tmp 19) (.tmp 92) rfl rfl (.agg (sgC sgZ)) w9.heap.size rfl rfl hst ?_)
  try simp only [Act.put]
  have PZ : SgAt (w9.alloc (.cells (sgC sgZ) 47)) w9.heap.size sgZ := sg_new _ _ _ rfl
  have B9s := bstep B9 ((Below.refl w9.heap.size w9).alloc (Nat.le_refl _) (.cells (sgC sgZ) 47))
  clear hst B9
  generalize w9.alloc _ = W10 at PZ B9s ⊢
  go_wp2_with (first | (refine sg_ld (by rfl) (.tmp 19) rfl _ rfl _ PZ ?_) | (refine sg_eq (by rfl) (.tmp 97) (.tmp 98) _ rfl sgZ sgZ rfl rfl true hqz ?_))
  go_ret
  exact ⟨rfl, B9s.out⟩
theorem walk (f : Sg) (i j : Ip4) (x y : Int) (w0 : f.ok) (w3 : (Lit.int .u16 x).wf = true) (w4 : (Lit.int .u8 y).wf = true) (w : World) :
    Calls Try.prog 7 #[.agg (sgC f), .agg (ipC i), .agg (ipC j), .int .u16 x, .int .u8 y] w fun e w' => e = .returned (.bool true) ∧ Below w.heap.size w w' := by
  have m0 : f.da.size ≤ 9223372036854775807 := by have := w0.2.2.2.2.2.2.2; unfold maxLen at this; omega
  have hx := bounds_u16 w3
  have hy := bounds_u8 w4
  by_cases h1 : 2000 < f.da.size
  · exact walk_long f i j x y m0 h1 w
  by_cases h2 : sgE f = 0
  · exact walk_main f w0 i j x y hx.1 hx.2 hy.1 hy.2 (by omega) h2 w
  · exact walk_err f w0 i j x y (by omega) h2 w

set_option maxRecDepth 100000 in
theorem lifted (os : Os) (started : os.Started) (H : Type) (enc : TypeId × Value → H) :
    ReturnsInHanded {} Try.checked os 7 .any (Rows.segBackSpec.pre6 enc Try.prog Try.f7 Rows.segBackRow.domain false) (Rows.segBackSpec.post enc Try.prog Try.f7 false true false false) := by
  refine returnsInHanded_of_change (C := Try.checked) own started (by kernel_rfl) Try.func7
    (ChangeSpec.witness6 (enc := enc) (C := Try.checked) false ⟨#[], #[.agg #[.int .i64 0, .int .i64 0, .int .u32 0, .int .u32 0, .int .i64 0, .int .i64 0, .int .i64 0, .string ByteArray.empty], .agg #[.int .u8 0, .int .u8 0, .int .u8 0, .int .u8 0], .agg #[.int .u8 0, .int .u8 0, .int .u8 0, .int .u8 0], .int .u16 0, .int .u8 0], []⟩ 8 (by kernel_rfl) (by kernel_rfl) (by kernel_rfl) (by kernel_rfl)) ?_
  intro W base args ds gs before hval0 hW hcnd _
  have hval : ∀ (j : Nat) t v, Try.f7.params[j]? = some t → args[j]? = some v → Value.okWide Try.prog W .any base t v := hval0
  have hW' := hW
  obtain ⟨p, q, hA0, hV, rfl, hfz, hnd⟩ := hW
  have hA : DataW.TrodAll enc Try.prog W 0 (fun _ => true) true Try.f7.params.toList args.toList ds p := hA0
  rw [Try.params7] at hA hval
  obtain ⟨v0, vs0, d0, ds0, p0, q0, hargs, rfl, rfl, h0, r0⟩ := trodAll_cons hA
  obtain ⟨v1, vs1, d1, ds1, p1, q1, rfl, rfl, rfl, h1, r1⟩ := trodAll_cons r0
  obtain ⟨v2, vs2, d2, ds2, p2, q2, rfl, rfl, rfl, h2, r2⟩ := trodAll_cons r1
  obtain ⟨v3, vs3, d3, ds3, p3, q3, rfl, rfl, rfl, h3, r3⟩ := trodAll_cons r2
  obtain ⟨v4, vs4, d4, ds4, p4, q4, rfl, rfl, rfl, h4, r4⟩ := trodAll_cons r3
  obtain ⟨rfl, rfl, rfl⟩ := trodAll_nil r4
  obtain rfl : args = #[v0, v1, v2, v3, v4] := by cases args; simp_all
  obtain ⟨rfl, rfl⟩ := trodVars_none hV
  obtain ⟨a0, rfl, w0⟩ := open_seg (hval 0 47 v0 rfl rfl) h0
  have k0 := h0
  have lt0 : ∀ x ∈ p0, x.block < W.heap.size := by obtain ⟨m, hm⟩ := k0; exact DataW.trod_lt m _ _ _ hm
  obtain ⟨a1, rfl⟩ := open_ip (hval 1 33 v1 rfl rfl) h1
  have k1 := h1
  have lt1 : ∀ x ∈ p1, x.block < W.heap.size := by obtain ⟨m, hm⟩ := k1; exact DataW.trod_lt m _ _ _ hm
  obtain ⟨a2, rfl⟩ := open_ip (hval 2 33 v2 rfl rfl) h2
  have k2 := h2
  have lt2 : ∀ x ∈ p2, x.block < W.heap.size := by obtain ⟨m, hm⟩ := k2; exact DataW.trod_lt m _ _ _ hm
  obtain ⟨a3, rfl, rfl, rfl, w3⟩ := open_int Try.underlying63 (hval 3 63 v3 rfl rfl) h3
  obtain ⟨a4, rfl, rfl, rfl, w4⟩ := open_int Try.underlying5 (hval 4 5 v4 rfl rfl) h4
  clear hA0 hval0
  refine (walk a0 a1 a2 a3 a4 w0 w3 w4 W).mono fun e W' ⟨he, bel⟩ => ?_
  subst he
  exact ⟨_, rfl, _, _, _, [], _, [], hW', trodAll_mk1 (shut_bool Try.underlying4 _), (trodAll_cons_mk (Below.trod laidOut (by kernel_rfl) (of_decide_eq_true (by kernel_rfl)) k0 bel lt0) (trodAll_cons_mk (Below.trod laidOut (by kernel_rfl) (of_decide_eq_true (by kernel_rfl)) k1 bel lt1) (trodAll_cons_mk (Below.trod laidOut (by kernel_rfl) (of_decide_eq_true (by kernel_rfl)) k2 bel lt2) (trodAll_cons_mk (shut_int Try.underlying63 w3) (trodAll_cons_mk (shut_int Try.underlying5 w4) trodAll_mk0))))), rfl, bel.frame _, fun h => by cases h⟩

/-- THE STATEMENT. -/
theorem proved : Rows.SegBackSaid :=
  OpenClaim.holds_of_wide 7 Try.f7 rfl rfl rfl rfl rfl rfl rfl ⟨rfl, rfl, rfl, rfl, rfl⟩ rfl rfl rfl rfl rfl (by kernel_rfl) Try.func7 (by kernel_rfl)
    (of_decide_eq_true (by kernel_rfl)) (by unfold Func.isWrapper; first | (rw [if_pos (by decide +kernel)]; kernel_rfl) | (rw [if_neg (by decide +kernel)]; exact ⟨rfl, rfl⟩))
    (fun os started H enc _ => lifted os started H enc)
#print axioms proved

end Go.Proofs.Ytbjoibgkhooljaa.sgb
