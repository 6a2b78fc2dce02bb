/-
  Layer 10: the document's own small answers: its sum, a segment's length, whether it has a flag. Conditions: a text that is summed has at most 60,000 bytes.
-/
import Derived.Test.YtbjoibgkhooljaaSgB
import Derived.Test.YtbjoibgkhooljaaIcD
import Derived.Test.YtbjoibgkhooljaaIpG
namespace Go.Proofs.Ytbjoibgkhooljaa
open Go.RowKit Go.Sort
set_option linter.unusedVariables false

theorem IpBx.cell {w : World} {n : Nat} {i : Ip4} (h : IpBx w n i) (k : Nat) (X : UInt8) (hX : i.list[k]? = some X) : w.cell? ⟨n, k, none⟩ = some (.int .u8 (X.toNat : Int)) := by
  have := holds_get h.holds k X hX
  rw [Nat.zero_add] at this
  exact this
theorem holds_alloc (w : World) (L : List UInt8) : Holds eb (w.alloc (.cells (L.map eb).toArray 5)) w.heap.size 0 L.toArray := by
  intro j hj
  have hj' : j < L.length := by simpa using hj
  have hb := heap_alloc_new w (.cells (L.map eb).toArray 5)
  refine ⟨?_, by simp only [World.frozen?, hb]; simp⟩
  rw [Nat.zero_add, cell_of_row _ _ j _ _ (0, 0) hb]
  rw [List.getElem?_toArray, List.getElem?_map, List.getElem?_eq_getElem hj']
  simp [getElem!_pos L.toArray j (by simpa using hj')]
theorem conv_06 (w : World) (X Y : UInt8) :
    (convert 61 9 (.slice (some ⟨w.heap.size, 0, none⟩) 4 4)).run Try.prog (w.alloc (.cells #[.int .u8 0, .int .u8 6, .int .u8 (X.toNat : Int), .int .u8 (Y.toNat : Int)] 5)) = .ok (.string ⟨([0, 6, X, Y] : List UInt8).toArray⟩) (w.alloc (.cells #[.int .u8 0, .int .u8 6, .int .u8 (X.toNat : Int), .int .u8 (Y.toNat : Int)] 5)) :=
  conv_text _ w.heap.size 0 4 4 [0, 6, X, Y] rfl (holds_alloc w [0, 6, X, Y])
theorem small10 (w : World) (x : Int) :
    Calls Try.prog 62 #[.int .i64 x] w fun e w' => e = .returned (.bool (decide (0 ≤ x ∧ x ≤ 65535))) ∧ w = w' := by
  by_cases h : 0 ≤ x
  · have e : decide (0 ≤ x ∧ x ≤ 65535) = decide (x ≤ 65535) := by simp [h]
    rw [e]
    clear e
    go_enter Try.func62, Try.ntmps62
    go_wp2
    go_ret
    exact ⟨rfl, rfl⟩
  · have e : decide (0 ≤ x ∧ x ≤ 65535) = false := decide_eq_false (fun g => h g.1)
    rw [e]
    clear e
    go_enter Try.func62, Try.ntmps62
    go_wp2
    go_ret
    exact ⟨rfl, rfl⟩
set_option maxRecDepth 100000 in
set_option maxHeartbeats 1000000 in
theorem has10 (w : World) (f : Sg) (h0 : 0 ≤ f.fl) (h9 : f.fl ≤ 65535) (B : Bool) (hB : B = decide (f.fl / 2 % 2 = 1)) :
    Calls Try.prog 63 #[.agg (sgC f), .int .i64 2] w fun e w' => e = .returned (.bool B) ∧ Below w.heap.size w w' := by
  obtain ⟨X, hX⟩ := Int.eq_ofNat_of_zero_le h0
  have t1 : Int.tdiv f.fl 2 = ((X / 2 : Nat) : Int) := by rw [hX, Int.tdiv_eq_ediv_of_nonneg (by omega)]; omega
  have t2 : Int.tmod ((X / 2 : Nat) : Int) 2 = ((X / 2 % 2 : Nat) : Int) := by rw [Int.tmod_eq_emod_of_nonneg (by omega)]; omega
  obtain ⟨Y, hY⟩ : ∃ Y, Y = X / 2 := ⟨_, rfl⟩
  obtain ⟨Z, hZ⟩ : ∃ Z, Z = Y % 2 := ⟨_, rfl⟩
  rw [← hY] at t1 t2
  rw [← hZ] at t2
  have t3 : f.fl / 2 = (Y : Int) := by omega
  have t4 : (Y : Int) % 2 = (Z : Int) := by omega
  have w1 : IntKind.i64.wrap (Y : Int) = (Y : Int) := IntWalk.i64_in _ (by omega)
  have hb : ((Z : Int) == 1) = B := by
    rw [hB, t3, t4, Bool.eq_iff_iff, beq_iff_eq, decide_eq_true_iff]
  clear hB hY hZ hX t3 t4 h9
  go_enter Try.func63, Try.ntmps63
  go_upto_region 1 with fail
  have FA : Hid (SgAt (w.alloc (.cells (sgC f) 47)) w.heap.size f) := Lib.hid (sg_new w _ f rfl)
  have BL : Hid (Below w.heap.size w (w.alloc (.cells (sgC f) 47))) := Lib.hid ((Below.refl _ _).alloc (Nat.le_refl _) _)
  generalize w.alloc _ = W1 at FA BL ⊢
  have c4 := FA.out.fl
  go_wp2_with fail
  go_ret
  exact ⟨rfl, BL.out⟩
set_option maxRecDepth 100000 in
set_option maxHeartbeats 1000000 in
theorem rLen10 (w : World) (f : Sg) (hz : f.da.size ≤ 140737488355328) :
    Calls Try.prog 27 #[.agg (sgC f)] w fun e w' => e = .returned (.int .i64 (sgN f)) ∧ Below w.heap.size w w' := by
  have a1 := and_1 f.fl
  have a2 := and_2 f.fl
  have w1 : IntKind.i64.wrap ((f.da.size : Int) + 1) = (f.da.size : Int) + 1 := IntWalk.i64_in _ (by omega)
  have w2 : IntKind.i64.wrap ((f.da.size : Int) + 1 + 1) = (f.da.size : Int) + 1 + 1 := IntWalk.i64_in _ (by omega)
  have hN : sgN f = (f.da.size : Int) + (if f.fl / 2 % 2 = 1 then 1 else 0) + (if f.fl % 2 = 1 then 1 else 0) := rfl
  generalize sgN f = M at hN ⊢
  by_cases h2 : f.fl / 2 % 2 = 1 <;> by_cases h1 : f.fl % 2 = 1
  all_goals
    first | rw [if_pos h2] at hN a2 | rw [if_neg h2] at hN a2
    first | rw [if_pos h1] at hN a1 | rw [if_neg h1] at hN a1
    try rw [Int.add_zero] at hN
    try rw [Int.add_zero] at hN
    subst hN
    clear h1 h2 hz
    go_enter Try.func27, Try.ntmps27
    go_upto_region 1 with fail
    have FA : Hid (SgAt (w.alloc (.cells (sgC f) 47)) w.heap.size f) := Lib.hid (sg_new w _ f rfl)
    have BL : Hid (Below w.heap.size w (w.alloc (.cells (sgC f) 47))) := Lib.hid ((Below.refl _ _).alloc (Nat.le_refl _) _)
    generalize w.alloc _ = W1 at FA BL ⊢
    obtain ⟨c0, c1, c2, c3, c4, c5, c6, c7⟩ := FA.out.all
    go_wp2_with fail
    go_ret
    exact ⟨rfl, BL.out⟩
set_option maxRecDepth 100000 in
set_option maxHeartbeats 2000000 in
theorem rsum10 (w : World) (b : List UInt8) (i j : Ip4) (hb : b.length ≤ 60000) (K : Nat) (hK : K = sumS i j b) :
    Calls Try.prog 65 #[.string ⟨b.toArray⟩, .agg (ipC i), .agg (ipC j)] w fun e w' => e = .returned (.int .i64 (K : Int)) ∧ Below w.heap.size w w' := by
  obtain ⟨N, hN⟩ : ∃ N, N = b.length := ⟨_, rfl⟩
  obtain ⟨V1, v1⟩ : ∃ U, U = UInt8.ofNat (N / 256) := ⟨_, rfl⟩
  obtain ⟨V2, v2⟩ : ∃ U, U = UInt8.ofNat (N % 256) := ⟨_, rfl⟩
  have y1 : IntKind.u8.wrap ((N : Int) / 256) = (V1.toNat : Int) := by rw [v1, u8_of _ (by omega)]; congr 1
  have y2 : IntKind.u8.wrap ((N : Int) % 256) = (V2.toNat : Int) := by rw [v2, u8_of _ (by omega)]; congr 1
  obtain ⟨T1, t1⟩ : ∃ L, L = i.list ++ j.list := ⟨_, rfl⟩
  obtain ⟨T2, t2⟩ : ∃ L, L = T1 ++ [0, 6, V1, V2] := ⟨_, rfl⟩
  obtain ⟨T3, t3⟩ : ∃ L, L = T2 ++ b := ⟨_, rfl⟩
  have l1 : T1.length = 8 := by rw [t1]; rfl
  have l2 : T2.length = 12 := by rw [t2, List.length_append, l1]; rfl
  have l3 : T3.length = 12 + N := by rw [t3, List.length_append, l2, hN]
  have e3 : T3 = preL i j b.length ++ b := by rw [t3, t2, t1, v1, v2, ← hN]; rfl
  have C2 := Lib.hid (fun w => add_lst w T1 [0, 6, V1, V2] T2 t2 (by omega))
  have C3 := Lib.hid (fun w => add_lst w T2 b T3 t3 (by omega))
  have hsz : b.toArray.size = N := by rw [List.size_toArray, hN]
  have HSZ := Lib.hid hsz
  have kS := Lib.hid (fun w => rSum_any w ⟨T3.toArray⟩ (by show T3.toArray.size ≤ _; rw [List.size_toArray, l3]; omega))
  rw [show (⟨T3.toArray⟩ : ByteArray).data.toList = T3 from rfl, e3, show sumT (preL i j b.length ++ b) = K from hK.symm, ← e3] at kS
  have HT1 := Lib.hid t1
  have Y1 := Lib.hid y1
  have W1 : Hid (IntKind.i64.wrap ((N : Int) / 256) = (N : Int) / 256) := Lib.hid (IntWalk.i64_in _ (by omega))
  have Y2 := Lib.hid y2
  have HNN := Lib.hid hN
  clear hN v1 v2 y1 y2 t1 t2 t3 l1 l2 l3 e3 hb hK hsz
  go_enter Try.func65, Try.ntmps65
  go_upto_region 1 with fail
  obtain ⟨m, k, hm, hk, fa, bl⟩ := ipbx_new w i j
  have FA := Lib.hid fa
  have BL := Lib.hid bl
  clear fa bl
  generalize World.alloc _ _ = WA at FA BL ⊢
  try rw [hk]
  try rw [hm]
  clear hm hk
  go_wp2_with fail
  go_loopw [7, 8] (fun s q wr => ∃ c : Nat, c ≤ 4 ∧ q = .int .i64 c ∧ s = .string ⟨(i.list.take c).toArray⟩ ∧ Hid (IpBx wr m i ∧ IpBx wr k j) ∧ Hid (Below w.heap.size w wr)) (fun _ q _ => 4 - (intOf q).toNat)
  case atStart => exact ⟨0, by omega, rfl, rfl, FA, BL⟩
  case round =>
    obtain ⟨c, hc, rfl, rfl, fa, bl⟩ := hrel
    clear FA BL
    have hlen : (i.list.take c).length ≤ 4 := by rw [List.length_take]; exact Nat.le_trans (Nat.min_le_right _ _) (Nat.le_refl _)
    by_cases hlt : c < 4
    · obtain ⟨X, hX, ht⟩ := list_at i.list c (by rw [ip_len]; exact hlt)
      have hcl := fa.out.1.cell c X hX
      have hv := conv_byte wr X
      have HT := Lib.hid ht
      clear hX ht
      go_wp2
      go_roundw
      case rel => exact ⟨c + 1, by omega, by go_num, by rw [cat_lists, HT.out], Lib.hid ⟨fa.out.1.grow ((Below.refl _ _).alloc (Nat.le_refl _) _), fa.out.2.grow ((Below.refl _ _).alloc (Nat.le_refl _) _)⟩, Lib.hid (bl.out.alloc bl.out.size _)⟩
      case measure => simp [intOf]; omega
    · have hz : c = 4 := by omega
      have hzi : (c : Int) = 4 := by omega
      have htk : i.list.take c = i.list := by rw [hz]; rfl
      rw [hzi, htk]
      clear hlen hlt hc hz hzi htk
      go_wp2
      go_loopw [7, 9] (fun s q wr => ∃ c : Nat, c ≤ 4 ∧ q = .int .i64 c ∧ s = .string ⟨(i.list ++ j.list.take c).toArray⟩ ∧ Hid (IpBx wr m i ∧ IpBx wr k j) ∧ Hid (Below w.heap.size w wr)) (fun _ q _ => 4 - (intOf q).toNat)
      case atStart => exact ⟨0, by omega, rfl, by simp [Ip4.list], fa, bl⟩
      case round =>
        obtain ⟨c, hc, rfl, rfl, fa2, bl2⟩ := hrel
        rename World => wq
        clear fa bl
        have hlen : (i.list ++ j.list.take c).length ≤ 8 := by
          rw [List.length_append, List.length_take]
          exact Nat.add_le_add (Nat.le_refl 4) (Nat.le_trans (Nat.min_le_right _ _) (Nat.le_refl _))
        by_cases hlt : c < 4
        · obtain ⟨X, hX, ht⟩ := list_at j.list c (by rw [ip_len]; exact hlt)
          have hcl := fa2.out.2.cell c X hX
          have hv := conv_byte wq X
          have hL := (congrArg (fun z => i.list ++ z) ht).trans (List.append_assoc _ _ _).symm
          generalize i.list ++ j.list.take c = L at hlen hL ⊢
          have HT := Lib.hid hL
          clear hX ht hL
          go_wp2
          go_roundw
          case rel => exact ⟨c + 1, by omega, by go_num, by rw [cat_lists]; exact congrArg (fun z : List UInt8 => Value.string ⟨z.toArray⟩) HT.out.symm, Lib.hid ⟨fa2.out.1.grow ((Below.refl _ _).alloc (Nat.le_refl _) _), fa2.out.2.grow ((Below.refl _ _).alloc (Nat.le_refl _) _)⟩, Lib.hid (bl2.out.alloc bl2.out.size _)⟩
          case measure => simp [intOf]; omega
        · have hz : c = 4 := by omega
          have hzi : (c : Int) = 4 := by omega
          have htk : i.list ++ j.list.take c = T1 := by rw [hz, HT1.out]; rfl
          rw [hzi, htk]
          clear hlen hlt hc hz hzi htk
          have hsz := HSZ.out
          have y1 := Y1.out
          have y0 := W1.out
          have y2 := Y2.out
          have hv := conv_06 wq V1 V2
          have BA : Hid (Below w.heap.size w (wq.alloc (.cells #[.int .u8 0, .int .u8 6, .int .u8 (V1.toNat : Int), .int .u8 (V2.toNat : Int)] 5))) := Lib.hid (bl2.out.alloc bl2.out.size _)
          have c2 := C2.out (wq.alloc (.cells #[.int .u8 0, .int .u8 6, .int .u8 (V1.toNat : Int), .int .u8 (V2.toNat : Int)] 5))
          have c3 := C3.out (wq.alloc (.cells #[.int .u8 0, .int .u8 6, .int .u8 (V1.toNat : Int), .int .u8 (V2.toNat : Int)] 5))
          clear fa2 bl2
          have hlN := HNN.out.symm
          go_wp2_with fail
          refine (kS.out _).mono ?_
          rintro e w3 ⟨rfl, b3⟩
          have B3 := bstep BA b3
          go_wp2_with fail
          go_ret
          exact ⟨rfl, B3.out⟩
theorem rsum10_str (w : World) (s : ByteArray) (i j : Ip4) (hb : s.size ≤ 60000) (K : Nat) (hK : K = sumS i j s.data.toList) :
    Calls Try.prog 65 #[.string s, .agg (ipC i), .agg (ipC j)] w fun e w' => e = .returned (.int .i64 (K : Int)) ∧ Below w.heap.size w w' := by
  have h := rsum10 w s.data.toList i j (by rw [list_size]; exact hb) K hK
  simpa using h
/-- Four bytes of a number, in a block of their own. -/
theorem rfour10 (w : World) (x : Int) (X : Nat) (hx : x = (X : Int)) (h : X < 4294967296) (L : List UInt8) (hL : L = four X) :
    Calls Try.prog 64 #[.int .u32 x] w fun e w' => ∃ b, e = .returned (.slice (some ⟨b, 0, none⟩) 4 4) ∧ Holds eb w' b 0 L.toArray ∧ Below w.heap.size w w' := by
  subst hx
  obtain ⟨A1, a1⟩ : ∃ U, U = UInt8.ofNat (X / 16777216) := ⟨_, rfl⟩
  obtain ⟨A2, a2⟩ : ∃ U, U = UInt8.ofNat (X / 65536) := ⟨_, rfl⟩
  obtain ⟨A3, a3⟩ : ∃ U, U = UInt8.ofNat (X / 256) := ⟨_, rfl⟩
  obtain ⟨A4, a4⟩ : ∃ U, U = UInt8.ofNat X := ⟨_, rfl⟩
  have y1 : IntKind.u8.wrap ((X : Int) / 16777216) = (A1.toNat : Int) := by rw [a1, u8_of _ (by omega)]; congr 1
  have y2 : IntKind.u8.wrap ((X : Int) / 65536) = (A2.toNat : Int) := by rw [a2, u8_of _ (by omega)]; congr 1
  have y3 : IntKind.u8.wrap ((X : Int) / 256) = (A3.toNat : Int) := by rw [a3, u8_of _ (by omega)]; congr 1
  have y4 : IntKind.u8.wrap (X : Int) = (A4.toNat : Int) := by rw [a4, u8_of _ (by omega)]; congr 1
  have hL2 : L = [A1, A2, A3, A4] := by rw [hL, a1, a2, a3, a4]; rfl
  subst hL2
  clear hL a1 a2 a3 a4
  have HH := Lib.hid (holds_alloc w [A1, A2, A3, A4])
  have B1 : Hid (Below w.heap.size w (w.alloc (.cells (([A1, A2, A3, A4] : List UInt8).map eb).toArray 5))) := Lib.hid ((Below.refl _ _).alloc (Nat.le_refl _) _)
  go_enter Try.func64, Try.ntmps64
  go_wp2_with fail
  go_ret
  exact ⟨w.heap.size, rfl, HH.out, B1.out⟩

end Go.Proofs.Ytbjoibgkhooljaa
