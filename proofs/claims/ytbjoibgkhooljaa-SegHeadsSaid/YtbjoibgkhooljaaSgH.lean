/-
  Layer 10: what bytes are read as by the document. Conditions: a text has at most 2^47 bytes.
-/
import Derived.Test.YtbjoibgkhooljaaSgF
import Derived.Test.YtbjoibgkhooljaaSgE
import Derived.Deep.CutBlock
namespace Go.Proofs.Ytbjoibgkhooljaa
open Go.RowKit Go.Sort
set_option linter.unusedVariables false

/-- The number that bytes are, from a place on. -/
def numB (l : List UInt8) (a : Nat) : Nat → Nat
  | 0 => 0
  | c + 1 => numB l a c * 256 + bt l (a + c)
theorem numB_lt (l : List UInt8) (a : Nat) : ∀ c, numB l a c < 256 ^ c
  | 0 => by simp [numB]
  | c + 1 => by
    have h1 := numB_lt l a c
    have h2 := bt_lt l (a + c)
    rw [numB, Nat.pow_succ]
    have : numB l a c * 256 + 256 ≤ 256 ^ c * 256 := by
      have := Nat.mul_le_mul_right 256 (show numB l a c + 1 ≤ 256 ^ c from h1)
      omega
    omega
theorem numB_two (l : List UInt8) (a : Nat) : numB l a 2 = wd l a := by
  simp only [numB, wd, Nat.add_zero]
  omega
theorem numB_four (l : List UInt8) (a : Nat) : numB l a 4 = rf l a := by
  simp only [numB, rf, Nat.add_zero]
  omega
set_option maxRecDepth 100000 in
set_option maxHeartbeats 2000000 in
theorem rnumber10 (w : World) (s : ByteArray) (p q : Int) (a n : Nat) (hp : p = (a : Int)) (hq : q = (n : Int)) (hs : s.size ≤ 140737488355328) (h : a + n ≤ s.size) (hn : n ≤ 4) (X : Nat) (hX : X = numB s.data.toList a n) :
    Calls Try.prog 66 #[.string s, .int .i64 p, .int .i64 q] w fun e w' => e = .returned (.int .u32 (X : Int)) ∧ Below w.heap.size w w' := by
  subst hp hq
  have HX := Lib.hid hX
  clear hX
  go_enter Try.func66, Try.ntmps66
  go_wp2_with fail
  go_loopw [7, 8] (fun x v wr => ∃ c : Nat, c ≤ n ∧ v = .int .i64 c ∧ x = .int .u32 ((numB s.data.toList a c : Nat) : Int) ∧ Hid (Below w.heap.size w wr)) (fun _ v _ => n - (intOf v).toNat)
  case atStart => exact ⟨0, Nat.zero_le _, rfl, rfl, Lib.hid (Below.refl _ _)⟩
  case round =>
    obtain ⟨c, hc, rfl, rfl, BL⟩ := hrel
    by_cases hlt : c < n
    · have i0 : a + c < s.size := by omega
      obtain ⟨Y, hY⟩ : ∃ Y, Y = bt s.data.toList (a + c) := ⟨_, rfl⟩
      have HY : (s[a + c]'i0).toNat = Y := by rw [hY]; exact bt_at s (a + c) i0
      have hyl := bt_lt s.data.toList (a + c)
      have hb := numB_lt s.data.toList a c
      have hb2 := numB_lt s.data.toList a (c + 1)
      have hp4 : 256 ^ (c + 1) ≤ 256 ^ 4 := Nat.pow_le_pow_right (by decide) (by omega)
      have hpv : (256 : Nat) ^ 4 = 4294967296 := by decide
      have hst : numB s.data.toList a (c + 1) = numB s.data.toList a c * 256 + bt s.data.toList (a + c) := rfl
      rw [← hY] at hst hyl
      obtain ⟨Z, hZ⟩ : ∃ Z, Z = numB s.data.toList a c := ⟨_, rfl⟩
      obtain ⟨Z2, hZ2⟩ : ∃ Z, Z = numB s.data.toList a (c + 1) := ⟨_, rfl⟩
      rw [← hZ, ← hZ2] at hst
      rw [← hZ2] at hb2
      rw [← hZ]
      have w1 : IntKind.u32.wrap ((Z : Int) * 256) = (Z : Int) * 256 := IntWalk.u32_in _ (by omega)
      have w2 : IntKind.u32.wrap (Y : Int) = (Y : Int) := IntWalk.u32_in _ (by omega)
      have w3 : IntKind.u32.wrap ((Z : Int) * 256 + (Y : Int)) = (Z2 : Int) := by rw [IntWalk.u32_in _ (by omega)]; omega
      have w4 : IntKind.i64.wrap ((a : Int) + (c : Int)) = ((a + c : Nat) : Int) := by rw [IntWalk.i64_in _ (by omega)]; omega
      have w5 : IntKind.i64.wrap ((c : Int) + 1) = (c : Int) + 1 := IntWalk.i64_in _ (by omega)
      have hd : decide ((c : Int) < (n : Int)) = true := decide_eq_true (by omega)
      have HZ2 := Lib.hid hZ2
      clear hY hyl hb hb2 hp4 hpv hst hZ hZ2
      go_wp2_with fail
      go_roundw
      case rel => exact ⟨c + 1, by omega, by go_num, by rw [HZ2.out], BL⟩
      case measure => simp [intOf]; omega
    · have hcn : c = n := by omega
      subst hcn
      have hd : decide ((c : Int) < (c : Int)) = false := decide_eq_false (by omega)
      rw [← HX.out]
      clear HX
      go_wp2_with fail
      go_ret
      exact ⟨rfl, BL.out⟩

/-- Two addresses, the room of a segment, and one that is none, a block each. -/
structure RrBx (w : World) (m k n z : Nat) (i j : Ip4) : Prop where
  ia : IpBx w m i
  ja : IpBx w k j
  rm : SgRoom w n
  zs : SgAt w z sgZ
theorem RrBx.grow {w w' : World} {m k n z : Nat} {i j : Ip4} (h : RrBx w m k n z i j) (b : Below w.heap.size w w') : RrBx w' m k n z i j := ⟨h.ia.grow b, h.ja.grow b, h.rm.grow b, h.zs.grow b⟩
theorem rrbx_new (w : World) (i j : Ip4) : ∃ m k n z, w.heap.size = m ∧ w.heap.size + 1 = k ∧ w.heap.size + 1 + 1 = n ∧ w.heap.size + 1 + 1 + 1 = z ∧ w.heap.size ≤ n ∧ RrBx ((((w.alloc (.cells (ipC i) 33)).alloc (.cells (ipC j) 33)).alloc (.cells #[.int .i64 0, .int .i64 0, .int .u32 0, .int .u32 0, .int .i64 0, .int .i64 0, .int .i64 0, .string ⟨#[]⟩] 47)).alloc (.cells #[.int .i64 0, .int .i64 0, .int .u32 0, .int .u32 0, .int .i64 0, .int .i64 0, .int .i64 0, .string ⟨#[]⟩] 47)) m k n z i j ∧ Below w.heap.size w ((((w.alloc (.cells (ipC i) 33)).alloc (.cells (ipC j) 33)).alloc (.cells #[.int .i64 0, .int .i64 0, .int .u32 0, .int .u32 0, .int .i64 0, .int .i64 0, .int .i64 0, .string ⟨#[]⟩] 47)).alloc (.cells #[.int .i64 0, .int .i64 0, .int .u32 0, .int .u32 0, .int .i64 0, .int .i64 0, .int .i64 0, .string ⟨#[]⟩] 47)) := by
  obtain ⟨m, k, n, h1, h2, h3, h4, h5, h6⟩ := rdbx_new w i j
  have ha := (Below.refl (((w.alloc (.cells (ipC i) 33)).alloc (.cells (ipC j) 33)).alloc (.cells #[.int .i64 0, .int .i64 0, .int .u32 0, .int .u32 0, .int .i64 0, .int .i64 0, .int .i64 0, .string ⟨#[]⟩] 47)).heap.size (((w.alloc (.cells (ipC i) 33)).alloc (.cells (ipC j) 33)).alloc (.cells #[.int .i64 0, .int .i64 0, .int .u32 0, .int .u32 0, .int .i64 0, .int .i64 0, .int .i64 0, .string ⟨#[]⟩] 47))).alloc (Nat.le_refl _) (.cells #[.int .i64 0, .int .i64 0, .int .u32 0, .int .u32 0, .int .i64 0, .int .i64 0, .int .i64 0, .string ⟨#[]⟩] 47)
  exact ⟨m, k, n, _, h1, h2, h3, rfl, h4, ⟨h5.ia.grow ha, h5.ja.grow ha, h5.rm.grow ha, sg_new _ _ sgZ (by simp)⟩, h6.trans (ha.mono h6.size)⟩

set_option maxRecDepth 100000 in
set_option maxHeartbeats 4000000 in
theorem rRead10_20 (w : World) (s : ByteArray) (i j : Ip4) (hs : s.size ≤ 140737488355328) (h0 : s.size < 20) :
    Calls Try.prog 26 #[.string s, .agg (ipC i), .agg (ipC j)] w fun e w' => e = .returned (.tuple #[.agg (sgC sgZ), .int .i64 7]) ∧ Below w.heap.size w w' := by
  have h1 : decide ((s.size : Int) < 20) = true := decide_eq_true (by omega)
  go_enter Try.func26, Try.ntmps26
  go_upto_region 2 with fail
  obtain ⟨m, k, n, z, hm, hk, hn, hz0, hge, fa, bl⟩ := rrbx_new w i j
  have RM := Lib.hid fa
  have BL := Lib.hid bl
  have HN := Lib.hid hge
  clear fa bl hge
  generalize World.alloc _ _ = W1 at RM BL ⊢
  try rw [hz0]
  try rw [hn]
  try rw [hk]
  try rw [hm]
  clear hn hm hk hz0
  have hp := RM.out.zs
  obtain ⟨hst, S6⟩ := RM.out.rm.put sgZ
  have S6 := Lib.hid S6
  have B6 := Lib.hid (below_setRow BL.out HN.out (sgC sgZ))
  go_wp2_with (first | (refine sg_ld (by rfl) (.tmp 8) rfl z rfl _ hp ?_) | (refine wpList_storeW 47 (.tmp 6) (.tmp 17) rfl rfl (.agg (sgC sgZ)) n rfl rfl hst ?_))
  exact bodyPost_ret (v := .tuple #[.agg (sgC sgZ), .int .i64 7]) (results_row _ 6 7 47 (by kernel_rfl) _ n _ _ _ _ rfl rfl S6.out Try.underlying47 rfl (by kernel_rfl)) rfl ⟨rfl, B6.out⟩
set_option maxRecDepth 100000 in
set_option maxHeartbeats 4000000 in
theorem rRead10_un (w : World) (s : ByteArray) (i j : Ip4) (hs : s.size ≤ 140737488355328) (h0 : 20 ≤ s.size) (hu : unS s.data.toList < 20) :
    Calls Try.prog 26 #[.string s, .agg (ipC i), .agg (ipC j)] w fun e w' => e = .returned (.tuple #[.agg (sgC sgZ), .int .i64 8]) ∧ Below w.heap.size w w' := by
  have h1 : decide ((s.size : Int) < 20) = false := decide_eq_false (by omega)
  have g1 : ¬ (s.size : Int) < 20 := by omega
  have i12 : 12 < s.size := by omega
  obtain ⟨X, hX⟩ : ∃ X, X = bt s.data.toList 12 := ⟨_, rfl⟩
  have hl := bt_lt s.data.toList 12
  rw [← hX] at hl
  have HX12 : (s[12]'i12).toNat = X := by rw [hX]; exact bt_at s 12 i12
  obtain ⟨Y, hY⟩ : ∃ Y, Y = X / 16 := ⟨_, rfl⟩
  have hU2 : unS s.data.toList = 4 * Y := by rw [unS, ← hX, ← hY]
  obtain ⟨U, hU⟩ : ∃ U, U = unS s.data.toList := ⟨_, rfl⟩
  have u0 : IntKind.i64.wrap (X : Int) = (X : Int) := IntWalk.i64_in _ (by omega)
  have u1 : (X : Int) / 16 = (Y : Int) := by omega
  have u2 : IntKind.i64.wrap (Y : Int) = (Y : Int) := IntWalk.i64_in _ (by omega)
  have u3 : IntKind.i64.wrap (4 * (Y : Int)) = (U : Int) := by rw [IntWalk.i64_in _ (by omega)]; omega
  have h2 : decide ((U : Int) < 20) = true := decide_eq_true (by omega)
  clear hU2 hY hX hl
  go_enter Try.func26, Try.ntmps26
  go_upto_region 2 with fail
  obtain ⟨m, k, n, z, hm, hk, hn, hz0, hge, fa, bl⟩ := rrbx_new w i j
  have RM := Lib.hid fa
  have BL := Lib.hid bl
  have HN := Lib.hid hge
  clear fa bl hge
  generalize World.alloc _ _ = W1 at RM BL ⊢
  try rw [hz0]
  try rw [hn]
  try rw [hk]
  try rw [hm]
  clear hn hm hk hz0
  have hp := RM.out.zs
  obtain ⟨hst, S6⟩ := RM.out.rm.put sgZ
  have S6 := Lib.hid S6
  have B6 := Lib.hid (below_setRow BL.out HN.out (sgC sgZ))
  go_wp2_with (first | (refine sg_ld (by rfl) (.tmp 8) rfl z rfl _ hp ?_) | (refine wpList_storeW 47 (.tmp 6) (.tmp 25) rfl rfl (.agg (sgC sgZ)) n rfl rfl hst ?_))
  exact bodyPost_ret (v := .tuple #[.agg (sgC sgZ), .int .i64 8]) (results_row _ 6 7 47 (by kernel_rfl) _ n _ _ _ _ rfl rfl S6.out Try.underlying47 rfl (by kernel_rfl)) rfl ⟨rfl, B6.out⟩
set_option maxRecDepth 100000 in
set_option maxHeartbeats 4000000 in
theorem rRead10_less (w : World) (s : ByteArray) (i j : Ip4) (hs : s.size ≤ 140737488355328) (h0 : 20 ≤ s.size) (hu : 20 ≤ unS s.data.toList) (hv : s.size < unS s.data.toList) :
    Calls Try.prog 26 #[.string s, .agg (ipC i), .agg (ipC j)] w fun e w' => e = .returned (.tuple #[.agg (sgC sgZ), .int .i64 7]) ∧ Below w.heap.size w w' := by
  have h1 : decide ((s.size : Int) < 20) = false := decide_eq_false (by omega)
  have g1 : ¬ (s.size : Int) < 20 := by omega
  have i12 : 12 < s.size := by omega
  obtain ⟨X, hX⟩ : ∃ X, X = bt s.data.toList 12 := ⟨_, rfl⟩
  have hl := bt_lt s.data.toList 12
  rw [← hX] at hl
  have HX12 : (s[12]'i12).toNat = X := by rw [hX]; exact bt_at s 12 i12
  obtain ⟨Y, hY⟩ : ∃ Y, Y = X / 16 := ⟨_, rfl⟩
  have hU2 : unS s.data.toList = 4 * Y := by rw [unS, ← hX, ← hY]
  obtain ⟨U, hU⟩ : ∃ U, U = unS s.data.toList := ⟨_, rfl⟩
  have u0 : IntKind.i64.wrap (X : Int) = (X : Int) := IntWalk.i64_in _ (by omega)
  have u1 : (X : Int) / 16 = (Y : Int) := by omega
  have u2 : IntKind.i64.wrap (Y : Int) = (Y : Int) := IntWalk.i64_in _ (by omega)
  have u3 : IntKind.i64.wrap (4 * (Y : Int)) = (U : Int) := by rw [IntWalk.i64_in _ (by omega)]; omega
  have h2 : decide ((U : Int) < 20) = false := decide_eq_false (by omega)
  have g2 : ¬ (U : Int) < 20 := by omega
  have h3 : decide ((s.size : Int) < (U : Int)) = true := decide_eq_true (by omega)
  clear hU2 hY hX hl
  go_enter Try.func26, Try.ntmps26
  go_upto_region 2 with fail
  obtain ⟨m, k, n, z, hm, hk, hn, hz0, hge, fa, bl⟩ := rrbx_new w i j
  have RM := Lib.hid fa
  have BL := Lib.hid bl
  have HN := Lib.hid hge
  clear fa bl hge
  generalize World.alloc _ _ = W1 at RM BL ⊢
  try rw [hz0]
  try rw [hn]
  try rw [hk]
  try rw [hm]
  clear hn hm hk hz0
  have hp := RM.out.zs
  obtain ⟨hst, S6⟩ := RM.out.rm.put sgZ
  have S6 := Lib.hid S6
  have B6 := Lib.hid (below_setRow BL.out HN.out (sgC sgZ))
  go_wp2_with (first | (refine sg_ld (by rfl) (.tmp 8) rfl z rfl _ hp ?_) | (refine wpList_storeW 47 (.tmp 6) (.tmp 30) rfl rfl (.agg (sgC sgZ)) n rfl rfl hst ?_))
  exact bodyPost_ret (v := .tuple #[.agg (sgC sgZ), .int .i64 7]) (results_row _ 6 7 47 (by kernel_rfl) _ n _ _ _ _ rfl rfl S6.out Try.underlying47 rfl (by kernel_rfl)) rfl ⟨rfl, B6.out⟩
set_option maxRecDepth 100000 in
set_option maxHeartbeats 4000000 in
theorem rRead10_long (w : World) (s : ByteArray) (i j : Ip4) (hs : s.size ≤ 140737488355328) (h0 : 20 ≤ s.size) (hu : 20 ≤ unS s.data.toList) (hv : unS s.data.toList ≤ s.size) (hl5 : 566 < s.size) :
    Calls Try.prog 26 #[.string s, .agg (ipC i), .agg (ipC j)] w fun e w' => e = .returned (.tuple #[.agg (sgC sgZ), .int .i64 3]) ∧ Below w.heap.size w w' := by
  have h1 : decide ((s.size : Int) < 20) = false := decide_eq_false (by omega)
  have g1 : ¬ (s.size : Int) < 20 := by omega
  have i12 : 12 < s.size := by omega
  obtain ⟨X, hX⟩ : ∃ X, X = bt s.data.toList 12 := ⟨_, rfl⟩
  have hl := bt_lt s.data.toList 12
  rw [← hX] at hl
  have HX12 : (s[12]'i12).toNat = X := by rw [hX]; exact bt_at s 12 i12
  obtain ⟨Y, hY⟩ : ∃ Y, Y = X / 16 := ⟨_, rfl⟩
  have hU2 : unS s.data.toList = 4 * Y := by rw [unS, ← hX, ← hY]
  obtain ⟨U, hU⟩ : ∃ U, U = unS s.data.toList := ⟨_, rfl⟩
  have u0 : IntKind.i64.wrap (X : Int) = (X : Int) := IntWalk.i64_in _ (by omega)
  have u1 : (X : Int) / 16 = (Y : Int) := by omega
  have u2 : IntKind.i64.wrap (Y : Int) = (Y : Int) := IntWalk.i64_in _ (by omega)
  have u3 : IntKind.i64.wrap (4 * (Y : Int)) = (U : Int) := by rw [IntWalk.i64_in _ (by omega)]; omega
  have h2 : decide ((U : Int) < 20) = false := decide_eq_false (by omega)
  have g2 : ¬ (U : Int) < 20 := by omega
  have h3 : decide ((s.size : Int) < (U : Int)) = false := decide_eq_false (by omega)
  have g3 : ¬ (s.size : Int) < (U : Int) := by omega
  have h4 : decide ((566 : Int) < (s.size : Int)) = true := decide_eq_true (by omega)
  clear hU2 hY hX hl
  go_enter Try.func26, Try.ntmps26
  go_upto_region 2 with fail
  obtain ⟨m, k, n, z, hm, hk, hn, hz0, hge, fa, bl⟩ := rrbx_new w i j
  have RM := Lib.hid fa
  have BL := Lib.hid bl
  have HN := Lib.hid hge
  clear fa bl hge
  generalize World.alloc _ _ = W1 at RM BL ⊢
  try rw [hz0]
  try rw [hn]
  try rw [hk]
  try rw [hm]
  clear hn hm hk hz0
  have hp := RM.out.zs
  obtain ⟨hst, S6⟩ := RM.out.rm.put sgZ
  have S6 := Lib.hid S6
  have B6 := Lib.hid (below_setRow BL.out HN.out (sgC sgZ))
  go_wp2_with (first | (refine sg_ld (by rfl) (.tmp 8) rfl z rfl _ hp ?_) | (refine wpList_storeW 47 (.tmp 6) (.tmp 34) rfl rfl (.agg (sgC sgZ)) n rfl rfl hst ?_))
  exact bodyPost_ret (v := .tuple #[.agg (sgC sgZ), .int .i64 3]) (results_row _ 6 7 47 (by kernel_rfl) _ n _ _ _ _ rfl rfl S6.out Try.underlying47 rfl (by kernel_rfl)) rfl ⟨rfl, B6.out⟩
set_option maxRecDepth 100000 in
set_option maxHeartbeats 4000000 in
theorem rRead10_sum (w : World) (s : ByteArray) (i j : Ip4) (h0 : 20 ≤ s.size) (hu : 20 ≤ unS s.data.toList) (hv : unS s.data.toList ≤ s.size) (hl5 : s.size ≤ 566) (K : Nat) (hK : K = sumS i j s.data.toList) (hk0 : K ≠ 0) :
    Calls Try.prog 26 #[.string s, .agg (ipC i), .agg (ipC j)] w fun e w' => e = .returned (.tuple #[.agg (sgC sgZ), .int .i64 9]) ∧ Below w.heap.size w w' := by
  have hs : s.size ≤ 140737488355328 := by omega
  have h1 : decide ((s.size : Int) < 20) = false := decide_eq_false (by omega)
  have g1 : ¬ (s.size : Int) < 20 := by omega
  have i12 : 12 < s.size := by omega
  obtain ⟨X, hX⟩ : ∃ X, X = bt s.data.toList 12 := ⟨_, rfl⟩
  have hl := bt_lt s.data.toList 12
  rw [← hX] at hl
  have HX12 : (s[12]'i12).toNat = X := by rw [hX]; exact bt_at s 12 i12
  obtain ⟨Y, hY⟩ : ∃ Y, Y = X / 16 := ⟨_, rfl⟩
  have hU2 : unS s.data.toList = 4 * Y := by rw [unS, ← hX, ← hY]
  obtain ⟨U, hU⟩ : ∃ U, U = unS s.data.toList := ⟨_, rfl⟩
  have u0 : IntKind.i64.wrap (X : Int) = (X : Int) := IntWalk.i64_in _ (by omega)
  have u1 : (X : Int) / 16 = (Y : Int) := by omega
  have u2 : IntKind.i64.wrap (Y : Int) = (Y : Int) := IntWalk.i64_in _ (by omega)
  have u3 : IntKind.i64.wrap (4 * (Y : Int)) = (U : Int) := by rw [IntWalk.i64_in _ (by omega)]; omega
  have h2 : decide ((U : Int) < 20) = false := decide_eq_false (by omega)
  have g2 : ¬ (U : Int) < 20 := by omega
  have h3 : decide ((s.size : Int) < (U : Int)) = false := decide_eq_false (by omega)
  have g3 : ¬ (s.size : Int) < (U : Int) := by omega
  have h4 : decide ((566 : Int) < (s.size : Int)) = false := decide_eq_false (by omega)
  have g4 : ¬ (566 : Int) < (s.size : Int) := by omega
  have kS := Lib.hid (fun w => rsum10_str w s i j (by omega) K hK)
  have hx : ((K : Int) != 0) = true := by simp; omega
  clear hK hk0
  clear hU2 hY hX hl
  go_enter Try.func26, Try.ntmps26
  go_upto_region 2 with fail
  obtain ⟨m, k, n, z, hm, hk, hn, hz0, hge, fa, bl⟩ := rrbx_new w i j
  have RM := Lib.hid fa
  have BL := Lib.hid bl
  have HN := Lib.hid hge
  clear fa bl hge
  generalize World.alloc _ _ = W1 at RM BL ⊢
  try rw [hz0]
  try rw [hn]
  try rw [hk]
  try rw [hm]
  clear hn hm hk hz0
  have ha := RM.out.ia
  have hc := RM.out.ja
  go_wp2_with (first | (refine ipb_ld (by rfl) (.tmp 4) rfl m rfl _ ha ?_) | (refine ipb_ld (by rfl) (.tmp 5) rfl k rfl _ hc ?_))
  refine (kS.out _).mono ?_
  rintro e w2 ⟨rfl, b2⟩
  have RM2 := Lib.hid (RM.out.grow b2)
  have BL2 := bstep BL b2
  clear b2 RM BL ha hc
  have hp := RM2.out.zs
  obtain ⟨hst, S6⟩ := RM2.out.rm.put sgZ
  have S6 := Lib.hid S6
  have B6 := Lib.hid (below_setRow BL2.out HN.out (sgC sgZ))
  go_wp2_with (first | (refine sg_ld (by rfl) (.tmp 8) rfl z rfl _ hp ?_) | (refine wpList_storeW 47 (.tmp 6) (.tmp 40) rfl rfl (.agg (sgC sgZ)) n rfl rfl hst ?_))
  exact bodyPost_ret (v := .tuple #[.agg (sgC sgZ), .int .i64 9]) (results_row _ 6 7 47 (by kernel_rfl) _ n _ _ _ _ rfl rfl S6.out Try.underlying47 rfl (by kernel_rfl)) rfl ⟨rfl, B6.out⟩
set_option maxRecDepth 100000 in
set_option maxHeartbeats 4000000 in
theorem rRead10_opt (w : World) (s : ByteArray) (i j : Ip4) (h0 : 20 ≤ s.size) (hu : 20 ≤ unS s.data.toList) (hv : unS s.data.toList ≤ s.size) (hl5 : s.size ≤ 566) (hK : sumS i j s.data.toList = 0) (hO : optS s = none) :
    Calls Try.prog 26 #[.string s, .agg (ipC i), .agg (ipC j)] w fun e w' => e = .returned (.tuple #[.agg (sgC sgZ), .int .i64 8]) ∧ Below w.heap.size w w' := by
  have hs : s.size ≤ 140737488355328 := by omega
  have h1 : decide ((s.size : Int) < 20) = false := decide_eq_false (by omega)
  have g1 : ¬ (s.size : Int) < 20 := by omega
  have i12 : 12 < s.size := by omega
  obtain ⟨X, hX⟩ : ∃ X, X = bt s.data.toList 12 := ⟨_, rfl⟩
  have hl := bt_lt s.data.toList 12
  rw [← hX] at hl
  have HX12 : (s[12]'i12).toNat = X := by rw [hX]; exact bt_at s 12 i12
  obtain ⟨Y, hY⟩ : ∃ Y, Y = X / 16 := ⟨_, rfl⟩
  have hU2 : unS s.data.toList = 4 * Y := by rw [unS, ← hX, ← hY]
  obtain ⟨U, hU⟩ : ∃ U, U = unS s.data.toList := ⟨_, rfl⟩
  have u0 : IntKind.i64.wrap (X : Int) = (X : Int) := IntWalk.i64_in _ (by omega)
  have u1 : (X : Int) / 16 = (Y : Int) := by omega
  have u2 : IntKind.i64.wrap (Y : Int) = (Y : Int) := IntWalk.i64_in _ (by omega)
  have u3 : IntKind.i64.wrap (4 * (Y : Int)) = (U : Int) := by rw [IntWalk.i64_in _ (by omega)]; omega
  have h2 : decide ((U : Int) < 20) = false := decide_eq_false (by omega)
  have g2 : ¬ (U : Int) < 20 := by omega
  have h3 : decide ((s.size : Int) < (U : Int)) = false := decide_eq_false (by omega)
  have g3 : ¬ (s.size : Int) < (U : Int) := by omega
  have h4 : decide ((566 : Int) < (s.size : Int)) = false := decide_eq_false (by omega)
  have g4 : ¬ (566 : Int) < (s.size : Int) := by omega
  have kS := Lib.hid (fun w => rsum10_str w s i j (by omega) 0 hK.symm)
  have hu60 : U ≤ 60 := by rw [hU]; exact unS_le _
  obtain ⟨R, hR⟩ : ∃ R : Option Nat, R = none := ⟨_, rfl⟩
  have HR : Hid (optR 60 0 ((s.data.toList.take U).drop 20) = R) := Lib.hid (by rw [hU, hR]; exact hO)
  have HRN := Lib.hid hR
  have HUB : Hid (20 ≤ U ∧ U - 20 ≤ 60) := Lib.hid ⟨by omega, by omega⟩
  have HV : Hid (U ≤ s.size) := Lib.hid (by omega)
  have HLEN : Hid (∀ P, ((s.data.toList.take U).drop P).length = U - P) := Lib.hid (fun P => by rw [List.length_drop, List.length_take, list_size]; omega)
  have HBT : Hid (∀ P c, P + c < U → bt ((s.data.toList.take U).drop P) c = bt s.data.toList (P + c)) := Lib.hid (fun P c h => by
    unfold bt
    rw [List.getD_eq_getElem?_getD, List.getD_eq_getElem?_getD, List.getElem?_drop, List.getElem?_take, if_pos h])
  clear hK hO hR hU
  clear hU2 hY hX hl
  go_enter Try.func26, Try.ntmps26
  go_upto_region 2 with fail
  obtain ⟨m, k, n, z, hm, hk, hn, hz0, hge, fa, bl⟩ := rrbx_new w i j
  have RM := Lib.hid fa
  have BL := Lib.hid bl
  have HN := Lib.hid hge
  clear fa bl hge
  generalize World.alloc _ _ = W1 at RM BL ⊢
  try rw [hz0]
  try rw [hn]
  try rw [hk]
  try rw [hm]
  clear hn hm hk hz0
  have ha := RM.out.ia
  have hc := RM.out.ja
  go_wp2_with (first | (refine ipb_ld (by rfl) (.tmp 4) rfl m rfl _ ha ?_) | (refine ipb_ld (by rfl) (.tmp 5) rfl k rfl _ hc ?_))
  refine (kS.out _).mono ?_
  rintro e w2 ⟨rfl, b2⟩
  have RM2 := Lib.hid (RM.out.grow b2)
  have BL2 := bstep BL b2
  clear b2 RM BL ha hc
  go_wp2_with fail
  clear HX12 i12 u0 u1 u2 u3 h1 h2 h3 h4 g1 g2 g3 g4
  go_loopw [10, 11] (fun o a wr => ∃ (k' M at_ : Nat), o = .int .i64 (M : Int) ∧ a = .int .i64 (at_ : Int) ∧ 20 ≤ at_ ∧ at_ ≤ U ∧ U - at_ ≤ k' ∧ k' ≤ 60 ∧ M < 65536 ∧ Hid (optR k' M ((s.data.toList.take U).drop at_) = R) ∧ Hid (RrBx wr m k n z i j) ∧ Hid (Below w.heap.size w wr)) (fun _ a _ => U - (intOf a).toNat)
  case atStart => exact ⟨60, 0, 20, rfl, rfl, Nat.le_refl _, HUB.out.1, HUB.out.2, Nat.le_refl _, by decide, HR, RM2, BL2⟩
  case round =>
    obtain ⟨k', M, P, rfl, rfl, hP, hPU, hk, hk60, hM, HE, RM, BL⟩ := hrel
    have hus := HUB.out
    have hgv := HV.out
    have hln := HLEN.out P
    have hbt := HBT.out P
    clear RM2 BL2 HR
    by_cases hPU2 : P = U
    · have hRM : R = some M := by rw [← HE.out]; exact optR_zero (.inl (by omega)) (by omega)
      subst hRM
      have hd : decide ((P : Int) < (U : Int)) = false := decide_eq_false (by omega)
      have hd2 : ¬ (P : Int) < (U : Int) := by omega
      clear HE hbt
      exact absurd HRN.out (by simp)
    have hlt : P < U := by omega
    have iP : P < s.size := by omega
    obtain ⟨X, hX⟩ : ∃ X, X = bt s.data.toList P := ⟨_, rfl⟩
    have HX : (s[P]'iP).toNat = X := by rw [hX]; exact bt_at s P iP
    have hxl := bt_lt s.data.toList P
    rw [← hX] at hxl
    have hb0 := hbt 0 (by omega)
    rw [Nat.add_zero, ← hX] at hb0
    have hd : decide ((P : Int) < (U : Int)) = true := decide_eq_true (by omega)
    by_cases h0 : X = 0
    · have hRM : R = some M := by rw [← HE.out]; exact optR_zero (.inr (by rw [hb0]; exact h0)) (by omega)
      subst hRM
      have hb : ((X : Int) != 0) = false := by simp [h0]
      clear HE hbt hX hxl hb0 h0
      exact absurd HRN.out (by simp)
    have hb : ((X : Int) != 0) = true := by simp; omega
    have hno : ¬ (((s.data.toList.take U).drop P).length = 0 ∨ bt ((s.data.toList.take U).drop P) 0 = 0) := by rw [hb0]; omega
    obtain ⟨Z, hZ⟩ : ∃ Z, Z = szO ((s.data.toList.take U).drop P) := ⟨_, rfl⟩
    obtain ⟨Y2, hY2⟩ : ∃ X, X = bt s.data.toList (P + 1) := ⟨_, rfl⟩
    have hyl := bt_lt s.data.toList (P + 1)
    have hz : Z = if X = 1 then 1 else if U - P ≤ 1 then 0 else if Y2 < 2 ∨ U - P < Y2 ∨ (X = 2 ∧ Y2 ≠ 4) then 0 else Y2 := by
      rw [hZ, szO, hb0, hln]
      by_cases hq : U - P ≤ 1
      · rw [if_pos hq, if_pos hq]
      · rw [hbt 1 (by omega), hY2]
    rw [← hY2] at hyl
    have HZZ := Lib.hid hz
    have hdrop : ((s.data.toList.take U).drop P).drop Z = (s.data.toList.take U).drop (P + Z) := by rw [List.drop_drop]
    have hstep : Z ≠ 0 → ∃ k2, k' = k2 + 1 ∧ optR k2 (if X = 2 then wd s.data.toList (P + 2) else M) ((s.data.toList.take U).drop (P + Z)) = R ∧ P + Z ≤ U := by
      intro hz0
      obtain ⟨k2, rfl, hgo⟩ := optR_go (m := M) hno (by rw [hln]; exact hk) (by rw [← hZ]; exact hz0)
      refine ⟨k2, rfl, ?_, ?_⟩
      · rw [← HE.out, hgo, ← hZ, hdrop, hb0]
        by_cases hq : X = 2
        · have h4 := szO_two (l := (s.data.toList.take U).drop P) (by rw [hb0]; exact hq) (by rw [← hZ]; exact hz0)
          rw [hln] at h4
          rw [if_pos hq, if_pos hq, wd, wd, hbt 2 (by omega), hbt 3 (by omega)]
        · rw [if_neg hq, if_neg hq]
      · have := szO_le ((s.data.toList.take U).drop P) (by rw [hln]; omega)
        rw [← hZ, hln] at this
        omega
    have hbad : Z = 0 → R = none := fun h => by rw [← HE.out]; exact optR_bad hno (by rw [hln]; exact hk) (by rw [← hZ]; exact h)
    have HY2e := Lib.hid hY2
    have HSTEP := Lib.hid hstep
    have HBAD := Lib.hid hbad
    clear hstep hbad hz hno hb0 hZ hdrop hbt HE hX hY2
    by_cases h1 : X = 1
    · have hz1 : Z = 1 := by rw [HZZ.out, if_pos h1]
      obtain ⟨k2, hk2, hgo, hle⟩ := HSTEP.out (by omega)
      rw [if_neg (show ¬ X = 2 by omega), hz1] at hgo
      have HG := Lib.hid hgo
      have hb1 : ((X : Int) == 1) = true := by simp [h1]
      have w6 : IntKind.i64.wrap ((P : Int) + 1) = (P : Int) + 1 := IntWalk.i64_in _ (by omega)
      rw [hz1] at hle
      clear hxl h0 HSTEP HBAD hgo h1 hz1 hln
      go_wp2_with fail
      go_roundw
      case rel => exact ⟨k2, M, P + 1, rfl, by go_num, by omega, by omega, by omega, by omega, hM, HG, RM, BL⟩
      case measure => simp [intOf]; omega
    have hb1 : ((X : Int) == 1) = false := by simp; omega
    have w6 : IntKind.i64.wrap ((P : Int) + 1) = ((P + 1 : Nat) : Int) := by rw [IntWalk.i64_in _ (by omega)]; omega
    by_cases h2 : U - P ≤ 1
    · have hz1 : Z = 0 := by rw [HZZ.out, if_neg h1, if_pos h2]
      have hRM : R = none := HBAD.out hz1
      have hd3 : decide ((U : Int) ≤ ((P + 1 : Nat) : Int)) = true := decide_eq_true (by omega)
      clear hxl h0 HSTEP HBAD h1 hz1 hln
      have hp := RM.out.zs
      obtain ⟨hst, S6⟩ := RM.out.rm.put sgZ
      have S6 := Lib.hid S6
      have B6 := Lib.hid (below_setRow BL.out HN.out (sgC sgZ))
      go_wp2_with (first | (refine sg_ld (by rfl) (.tmp 8) rfl z rfl _ hp ?_) | (refine wpList_storeW 47 (.tmp 6) (.tmp 78) rfl rfl (.agg (sgC sgZ)) n rfl rfl hst ?_))
      exact bodyPost_ret (v := .tuple #[.agg (sgC sgZ), .int .i64 8]) (results_row _ 6 7 47 (by kernel_rfl) _ n _ _ _ _ rfl rfl S6.out Try.underlying47 rfl (by kernel_rfl)) rfl ⟨rfl, B6.out⟩
    have hd3 : decide ((U : Int) ≤ ((P + 1 : Nat) : Int)) = false := decide_eq_false (by omega)
    have i1 : P + 1 < s.size := by omega
    have HY2 : (s[P + 1]'i1).toNat = Y2 := by rw [HY2e.out]; exact bt_at s (P + 1) i1
    have hz3 : Z = if Y2 < 2 ∨ U - P < Y2 ∨ (X = 2 ∧ Y2 ≠ 4) then 0 else Y2 := by rw [HZZ.out, if_neg h1, if_neg h2]
    have HZ3 := Lib.hid hz3
    clear hz3
    by_cases h3 : Y2 < 2
    · have hz1 : Z = 0 := by rw [HZ3.out, if_pos (.inl h3)]
      have hRM : R = none := HBAD.out hz1
      have hd4 : decide ((Y2 : Int) < 2) = true := decide_eq_true (by omega)
      clear hxl h0 HSTEP HBAD h1 hz1 hln hyl
      have hp := RM.out.zs
      obtain ⟨hst, S6⟩ := RM.out.rm.put sgZ
      have S6 := Lib.hid S6
      have B6 := Lib.hid (below_setRow BL.out HN.out (sgC sgZ))
      go_wp2_with (first | (refine sg_ld (by rfl) (.tmp 8) rfl z rfl _ hp ?_) | (refine wpList_storeW 47 (.tmp 6) (.tmp 78) rfl rfl (.agg (sgC sgZ)) n rfl rfl hst ?_))
      exact bodyPost_ret (v := .tuple #[.agg (sgC sgZ), .int .i64 8]) (results_row _ 6 7 47 (by kernel_rfl) _ n _ _ _ _ rfl rfl S6.out Try.underlying47 rfl (by kernel_rfl)) rfl ⟨rfl, B6.out⟩
    have hd4 : decide ((Y2 : Int) < 2) = false := decide_eq_false (by omega)
    have w7 : IntKind.i64.wrap (Y2 : Int) = (Y2 : Int) := IntWalk.i64_in _ (by omega)
    have w8 : IntKind.i64.wrap ((P : Int) + (Y2 : Int)) = ((P + Y2 : Nat) : Int) := by rw [IntWalk.i64_in _ (by omega)]; omega
    by_cases h4 : U - P < Y2
    · have hz1 : Z = 0 := by rw [HZ3.out, if_pos (.inr (.inl h4))]
      have hRM : R = none := HBAD.out hz1
      have hd5 : decide ((U : Int) < ((P + Y2 : Nat) : Int)) = true := decide_eq_true (by omega)
      clear hxl h0 HSTEP HBAD h1 hz1 hln hyl
      have hp := RM.out.zs
      obtain ⟨hst, S6⟩ := RM.out.rm.put sgZ
      have S6 := Lib.hid S6
      have B6 := Lib.hid (below_setRow BL.out HN.out (sgC sgZ))
      go_wp2_with (first | (refine sg_ld (by rfl) (.tmp 8) rfl z rfl _ hp ?_) | (refine wpList_storeW 47 (.tmp 6) (.tmp 78) rfl rfl (.agg (sgC sgZ)) n rfl rfl hst ?_))
      exact bodyPost_ret (v := .tuple #[.agg (sgC sgZ), .int .i64 8]) (results_row _ 6 7 47 (by kernel_rfl) _ n _ _ _ _ rfl rfl S6.out Try.underlying47 rfl (by kernel_rfl)) rfl ⟨rfl, B6.out⟩
    have hd5 : decide ((U : Int) < ((P + Y2 : Nat) : Int)) = false := decide_eq_false (by omega)
    by_cases h5 : X = 2
    · have hb5 : ((X : Int) == 2) = true := by simp [h5]
      by_cases h6 : Y2 = 4
      · have hz1 : Z = 4 := by rw [HZ3.out, if_neg (by omega), h6]
        obtain ⟨k2, hk2, hgo, hle⟩ := HSTEP.out (by omega)
        rw [if_pos h5, hz1] at hgo
        rw [hz1] at hle
        have hb6 : ((Y2 : Int) != 4) = false := by simp [h6]
        have hwl := wd_lt s.data.toList (P + 2)
        obtain ⟨V, hV⟩ : ∃ V, V = wd s.data.toList (P + 2) := ⟨_, rfl⟩
        rw [← hV] at hgo hwl
        have HG := Lib.hid hgo
        have kW := Lib.hid (fun w => rnumber10 w s ((P + 2 : Nat) : Int) 2 (P + 2) 2 rfl rfl (by omega) (by omega) (by decide) V (by rw [hV, numB_two]))
        have w9 : IntKind.i64.wrap ((P : Int) + 2) = ((P + 2 : Nat) : Int) := by rw [IntWalk.i64_in _ (by omega)]; omega
        have w10 : IntKind.i64.wrap (V : Int) = (V : Int) := IntWalk.i64_in _ (by omega)
        clear hxl h0 HSTEP HBAD h1 hz1 hln hyl hgo hV h2 h3 h4 h5
        go_wp2_with fail
        refine (kW.out _).mono ?_
        rintro e w3 ⟨rfl, b3⟩
        have RM3 := Lib.hid (RM.out.grow b3)
        have BL3 := bstep BL b3
        go_wp2_with fail
        go_roundw
        case rel => exact ⟨k2, V, P + 4, rfl, by go_num, by omega, by omega, by omega, by omega, hwl, HG, RM3, BL3⟩
        case measure => simp [intOf]; omega
      · have hz1 : Z = 0 := by rw [HZ3.out, if_pos (.inr (.inr ⟨h5, h6⟩))]
        have hRM : R = none := HBAD.out hz1
        have hb6 : ((Y2 : Int) != 4) = true := by simp; omega
        clear hxl h0 HSTEP HBAD h1 hz1 hln hyl
        have hp := RM.out.zs
        obtain ⟨hst, S6⟩ := RM.out.rm.put sgZ
        have S6 := Lib.hid S6
        have B6 := Lib.hid (below_setRow BL.out HN.out (sgC sgZ))
        go_wp2_with (first | (refine sg_ld (by rfl) (.tmp 8) rfl z rfl _ hp ?_) | (refine wpList_storeW 47 (.tmp 6) (.tmp 88) rfl rfl (.agg (sgC sgZ)) n rfl rfl hst ?_))
        exact bodyPost_ret (v := .tuple #[.agg (sgC sgZ), .int .i64 8]) (results_row _ 6 7 47 (by kernel_rfl) _ n _ _ _ _ rfl rfl S6.out Try.underlying47 rfl (by kernel_rfl)) rfl ⟨rfl, B6.out⟩
    · have hb5 : ((X : Int) == 2) = false := by simp; omega
      have hz1 : Z = Y2 := by rw [HZ3.out, if_neg (by omega)]
      obtain ⟨k2, hk2, hgo, hle⟩ := HSTEP.out (by omega)
      rw [if_neg h5, hz1] at hgo
      rw [hz1] at hle
      have HG := Lib.hid hgo
      have HM4 : Hid (20 ≤ P + Y2 ∧ U - (P + Y2) ≤ k2 ∧ P < P + Y2) := Lib.hid ⟨by omega, by omega, by omega⟩
      clear hxl h0 HSTEP HBAD h1 hz1 hln hyl hgo
      go_wp2_with fail
      go_roundw
      case rel => exact ⟨k2, M, P + Y2, rfl, rfl, HM4.out.1, hle, HM4.out.2.1, by omega, hM, HG, RM, BL⟩
      case measure => have := HM4.out; simp [intOf]; omega
end Go.Proofs.Ytbjoibgkhooljaa
