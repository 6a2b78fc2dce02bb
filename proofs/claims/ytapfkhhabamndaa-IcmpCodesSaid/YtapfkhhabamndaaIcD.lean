/-
  Layer 9: the document's own bytes of a message. Conditions: a message's numbers are numbers of their kind, its data has at most 2^47 bytes.
-/
import Derived.Test.YtapfkhhabamndaaIcC
import Derived.Test.YtapfkhhabamndaaIpL
import Derived.Lib.AppendStr
namespace Go.Proofs.Ytapfkhhabamndaa
open Go.RowKit Go.Sort
set_option linter.unusedVariables false

theorem u8_of (x : Int) (h : 0 ≤ x) : IntKind.u8.wrap x = ((UInt8.ofNat x.toNat).toNat : Int) := by
  obtain ⟨n, rfl⟩ := Int.eq_ofNat_of_zero_le h
  rw [UInt8.toNat_ofNat']
  unfold IntKind.wrap
  simp [IntKind.bits, IntKind.signed]
set_option maxRecDepth 100000 in
set_option maxHeartbeats 1000000 in
theorem rBytes9_arg (w : World) (f : Ic) (h : mayI f = false) :
    Calls Try.prog 24 #[.agg (icC f)] w fun e w' => e = .returned (.tuple #[.string ⟨#[]⟩, .int .i64 1]) ∧ Below w.heap.size w w' := by
  have hx : f.kd < 0 ∨ (0 ≤ f.kd ∧ 255 < f.kd) ∨ (0 ≤ f.kd ∧ f.kd ≤ 255 ∧ f.co < 0) ∨ (0 ≤ f.kd ∧ f.kd ≤ 255 ∧ 0 ≤ f.co ∧ 255 < f.co) := by
    have h2 : ¬ (0 ≤ f.kd ∧ f.kd ≤ 255 ∧ 0 ≤ f.co ∧ f.co ≤ 255) := of_decide_eq_false h
    omega
  clear h
  rcases hx with h1 | ⟨h1, h2⟩ | ⟨h1, h2, h3⟩ | ⟨h1, h2, h3, h4⟩
  all_goals
    go_enter Try.func24, Try.ntmps24
    go_upto_region 1 with fail
    have FA : Hid (IcAt (w.alloc (.cells (icC f) 49)) w.heap.size f) := Lib.hid (ic_new w _ f rfl)
    have BL : Hid (Below w.heap.size w (w.alloc (.cells (icC f) 49))) := Lib.hid ((Below.refl _ _).alloc (Nat.le_refl _) _)
    generalize w.alloc _ = W1 at FA BL ⊢
    obtain ⟨c0, c1, c2, c3⟩ := FA.out.all
    go_wp2_with fail
    go_ret2
    exact ⟨rfl, BL.out⟩
set_option maxRecDepth 100000 in
set_option maxHeartbeats 1000000 in
theorem rBytes9_long (w : World) (f : Ic) (h : mayI f = true) (hl : 558 < f.da.size) (hz : f.da.size ≤ 140737488355328) :
    Calls Try.prog 24 #[.agg (icC f)] w fun e w' => e = .returned (.tuple #[.string ⟨#[]⟩, .int .i64 3]) ∧ Below w.heap.size w w' := by
  obtain ⟨h1, h2, h3, h4⟩ := mayI_all h
  clear h
  go_enter Try.func24, Try.ntmps24
  go_upto_region 1 with fail
  have FA : Hid (IcAt (w.alloc (.cells (icC f) 49)) w.heap.size f) := Lib.hid (ic_new w _ f rfl)
  have BL : Hid (Below w.heap.size w (w.alloc (.cells (icC f) 49))) := Lib.hid ((Below.refl _ _).alloc (Nat.le_refl _) _)
  generalize w.alloc _ = W1 at FA BL ⊢
  obtain ⟨c0, c1, c2, c3⟩ := FA.out.all
  go_wp2_with fail
  go_ret2
  exact ⟨rfl, BL.out⟩
theorem byte_nat (x : Int) (h0 : 0 ≤ x) (h1 : x ≤ 255) : x = ((UInt8.ofNat x.toNat).toNat : Int) := by rw [byte_val]; omega
theorem byte_nat2 (x : Int) (n : Nat) (h0 : 0 ≤ x) (h1 : x % 256 = ((n % 256 : Nat) : Int)) : x % 256 = ((UInt8.ofNat n).toNat : Int) := by rw [byte_val]; exact h1
def l0L (f : Ic) : List UInt8 := icA f ++ [0, 0] ++ four f.re.toNat
theorem l0_cells (f : Ic) (h : mayI f = true) (e0 : 0 ≤ f.re) (e1 : f.re < 4294967296) : [Value.int .u8 f.kd, .int .u8 f.co, .int .u8 0, .int .u8 0, .int .u8 (f.re / 16777216), .int .u8 (f.re / 65536 % 256), .int .u8 (f.re / 256 % 256), .int .u8 (f.re % 256)] = (l0L f).map eb := by
  obtain ⟨h1, h2, h3, h4⟩ := mayI_all h
  have a1 := byte_nat f.kd h1 h2
  have a2 := byte_nat f.co h3 h4
  have a3 : f.re / 16777216 = ((UInt8.ofNat (f.re.toNat / 16777216)).toNat : Int) := by rw [byte_val]; omega
  have a4 : f.re / 65536 % 256 = ((UInt8.ofNat (f.re.toNat / 65536)).toNat : Int) := by rw [byte_val]; omega
  have a5 : f.re / 256 % 256 = ((UInt8.ofNat (f.re.toNat / 256)).toNat : Int) := by rw [byte_val]; omega
  have a6 : f.re % 256 = ((UInt8.ofNat f.re.toNat).toNat : Int) := by rw [byte_val]; omega
  show _ = [eb (UInt8.ofNat f.kd.toNat), eb (UInt8.ofNat f.co.toNat), eb 0, eb 0, eb (UInt8.ofNat (f.re.toNat / 16777216)), eb (UInt8.ofNat (f.re.toNat / 65536)), eb (UInt8.ofNat (f.re.toNat / 256)), eb (UInt8.ofNat f.re.toNat)]
  rw [a3, a4, a5, a6]
  unfold eb
  rw [← a1, ← a2]
  rfl
theorem wpList_append_text {ops : Array Oper} {rest : List Oper} {o : Oper} {a : Act} {w : World} {Q : Exit → Act → World → Prop} (hg : o.guard = none) (s x : Operand)
    (hop : o.op = Op.call { callee := Callee.builtin Builtin.append, args := #[s, x], argTypes := #[103, 9] })
    (base : Nat) (v : Value) (l : List UInt8) (hs : a.eval s = v) (hown : ByRow w base v l) (d : ByteArray) (hx : a.eval x = .string d) (hl : l.length + d.size ≤ 100000) (hb : base ≤ w.heap.size)
    (hK : ∀ v' w', ByRow w' base v' (l ++ d.data.toList) → w.grownBy w' v.ownBlock → wpList Try.prog ops Q rest (a.put o.dst v') w') : wpList Try.prog ops Q (o :: rest) a w := by
  obtain ⟨i, z, h1, h2, h3, h4, h5⟩ := info_u8
  have hz : (Try.prog.info? 5).map (·.zero) = some (some (.int .u8 0)) := by kernel_rfl
  rw [h1] at hz
  have hz2 : i.zero = some (.int .u8 0) := by simpa using hz
  refine Lib.wpList_append_own_string _ hg s x 103 9 hop base 5 i Try.underlying103 Try.underlying9 h1 hz2 h3 h4 v l.length (l.map eb) hs hown d hx (by unfold maxLen; omega) (by omega) hb ?_
  intro v' w' g1 g2 _
  refine hK v' w' ?_ g2
  unfold ByRow
  rw [List.length_append, List.map_append, list_size]
  exact g1
theorem own_below {w W W' : World} {base : Nat} {v : Value} {l : List UInt8} (h : Hid (Below w.heap.size w W)) (hr : ByRow W base v l) (hb : w.heap.size ≤ base) (hg : W.grownBy W' v.ownBlock) : Hid (Below w.heap.size w W') := by
  refine Lib.hid (h.out.trans ⟨hg.os, hg.tape, hg.output, hg.size, fun k hk => hg.block k (by have := h.out.size; omega) (fun e => by have := hr.block e.symm; omega)⟩)

set_option maxRecDepth 100000 in
set_option maxHeartbeats 4000000 in
theorem rBytes9_yes (w : World) (f : Ic) (hf : 0 ≤ f.re ∧ f.re < 4294967296) (h : mayI f = true) (hl : f.da.size ≤ 558) (HL : List UInt8) (hHL : HL = icL f) :
    Calls Try.prog 24 #[.agg (icC f)] w fun e w' => e = .returned (.tuple #[.string ⟨HL.toArray⟩, .int .i64 0]) ∧ Below w.heap.size w w' := by
  obtain ⟨h1, h2, h3, h4⟩ := mayI_all h
  obtain ⟨e0, e1⟩ := hf
  have HC := Lib.hid (l0_cells f h e0 e1)
  obtain ⟨L0, hL0⟩ : ∃ L, L = l0L f := ⟨_, rfl⟩
  rw [← hL0] at HC
  have z0 : L0.length = 8 := by rw [hL0]; rfl
  obtain ⟨LL, hLL⟩ : ∃ L, L = L0 ++ f.da.data.toList := ⟨_, rfl⟩
  have zL : LL.length = 8 + f.da.size := by rw [hLL, List.length_append, z0, list_size]
  have hM : LL = icA f ++ two 0 ++ icH f := by rw [hLL, hL0, l0L, icH, List.append_assoc]; rfl
  obtain ⟨K, hK⟩ : ∃ K, icK f = K := ⟨_, rfl⟩
  have hK2 : K ≤ 65535 := by rw [← hK]; exact icK_le f
  obtain ⟨V1, v1⟩ : ∃ U, U = UInt8.ofNat (K / 256) := ⟨_, rfl⟩
  obtain ⟨V2, v2⟩ : ∃ U, U = UInt8.ofNat (K % 256) := ⟨_, rfl⟩
  have y1 : IntKind.u8.wrap ((K : Int) / 256) = (V1.toNat : Int) := by rw [v1, u8_of _ (by omega)]; congr 1
  have y2 : IntKind.u8.wrap ((K : Int) % 256) = (V2.toNat : Int) := by rw [v2, u8_of _ (by omega)]; congr 1
  have HHL : Hid (HL = (LL.set 2 V1).set 3 V2) := Lib.hid (by rw [hM, hHL, icL, hK, v1, v2]; rfl)
  have kS : Hid (∀ w, Calls Try.prog 56 #[.string ⟨LL.toArray⟩] w fun e w' => e = .returned (.int .i64 K) ∧ Below w.heap.size w w') := Lib.hid (fun w => by
    have := rSum_any w ⟨LL.toArray⟩ (by show LL.toArray.size ≤ _; rw [List.size_toArray, zL]; omega)
    rw [show (⟨LL.toArray⟩ : ByteArray).data.toList = LL from rfl, hM, show sumT (icA f ++ two 0 ++ icH f) = K from hK] at this
    rw [hM]
    exact this)
  have HLL := Lib.hid hLL
  have Z0 := Lib.hid z0
  have ZL := Lib.hid zL
  clear h hL0 hM hK v1 v2 hHL hLL z0 zL
  go_enter Try.func24, Try.ntmps24
  go_upto_region 1 with fail
  have FA : Hid (IcAt (w.alloc (.cells (icC f) 49)) w.heap.size f) := Lib.hid (ic_new w _ f rfl)
  have BL : Hid (Below w.heap.size w (w.alloc (.cells (icC f) 49))) := Lib.hid ((Below.refl _ _).alloc (Nat.le_refl _) _)
  generalize w.alloc _ = W1 at FA BL ⊢
  obtain ⟨c0, c1, c2, c3⟩ := FA.out.all
  go_upto_region 6 with fail
  have B0 := bstep BL ((Below.refl W1.heap.size W1).alloc (Nat.le_refl _) (.cells #[.int .u8 f.kd, .int .u8 f.co, .int .u8 0, .int .u8 0, .int .u8 (f.re / 16777216), .int .u8 (f.re / 65536 % 256), .int .u8 (f.re / 256 % 256), .int .u8 (f.re % 256)] 5))
  have F0 := Lib.hid (FA.out.grow ((Below.refl W1.heap.size W1).alloc (Nat.le_refl _) (.cells #[.int .u8 f.kd, .int .u8 f.co, .int .u8 0, .int .u8 0, .int .u8 (f.re / 16777216), .int .u8 (f.re / 65536 % 256), .int .u8 (f.re / 256 % 256), .int .u8 (f.re % 256)] 5)))
  have R0 : Hid (ByRow (W1.alloc (.cells #[.int .u8 f.kd, .int .u8 f.co, .int .u8 0, .int .u8 0, .int .u8 (f.re / 16777216), .int .u8 (f.re / 65536 % 256), .int .u8 (f.re / 256 % 256), .int .u8 (f.re % 256)] 5)) (w.heap.size + 1) (.slice (some ⟨W1.heap.size, 0, none⟩) 8 8) L0) := Lib.hid (by
    have hlt := FA.out.lt
    unfold ByRow
    rw [Z0.out, ← HC.out]
    exact ⟨rfl, .inr ⟨W1.heap.size, 8, _, rfl, hlt, heap_alloc_new _ _, Nat.le_refl _, by unfold maxLen; omega, rfl, rfl⟩⟩)
  clear c0 c1 c2 c3 FA BL HC
  generalize W1.alloc _ = W2 at B0 F0 R0 ⊢
  have c3 := F0.out.da
  have hz0 : w.heap.size + 1 ≤ W2.heap.size := F0.out.lt
  have HZ0 := Lib.hid hz0
  have hl0 : L0.length + f.da.size ≤ 100000 := by rw [Z0.out]; omega
  have HL0 := Lib.hid hl0
  clear hz0 hl0
  go_upto_region 7 with (refine wpList_append_text rfl (.tmp 50) (.tmp 52) rfl (w.heap.size + 1) _ L0 rfl R0.out f.da rfl HL0.out HZ0.out ?_; intro v' w3 g1 g2; have R3 := Lib.hid g1; have B3 := own_below B0 R0.out (Nat.le_succ _) g2; clear g1 g2)
  rw [← HLL.out] at R3
  clear c3 R0 B0 F0 HZ0 HL0
  obtain ⟨bb, cap, cur, rfl, hbb, hcur, hH⟩ := ByRow.holds R3.out (by rw [ZL.out]; omega)
  have hcv := ByRow.conv R3.out (by rw [ZL.out]; omega)
  have hbz : bb < w3.heap.size := lt_of_row hcur
  have HH := Lib.hid hH
  have HCUR := Lib.hid hcur
  have HNB : Hid (w.heap.size ≤ bb) := Lib.hid (by omega)
  clear hbb hH hcur R3
  have hNL : Hid (2 < LL.length ∧ 3 < LL.length) := Lib.hid (by rw [ZL.out]; omega)
  have hNZ : HL.length = LL.length := by rw [HHL.out, List.length_set, List.length_set]
  have HNZ := Lib.hid hNZ
  have hNC := hNL.out
  obtain ⟨NL, hNLe⟩ : ∃ n, LL.length = n := ⟨_, rfl⟩
  have HNLe := Lib.hid hNLe
  rw [hNLe] at hcv hNC ⊢
  obtain ⟨hn2, hn3⟩ := hNC
  clear hNZ hNLe
  go_wp2_with fail
  refine (kS.out _).mono ?_
  rintro e w4 ⟨rfl, b4⟩
  have B4 := bstep B3 b4
  have hcur4 := (b4.block bb hbz).trans HCUR.out
  have hH4 := holds_below b4 hbz HH.out
  have hp5 := holds_put hcur4 hH4 2 hNL.out.1 V1
  have hp6 := holds_put hp5.2 hp5.1 3 (by rw [List.length_set]; exact hNL.out.2) V2
  have hH6 : Holds eb ((w4.setCell ⟨bb, 2, none⟩ (.int .u8 (V1.toNat : Int))).setCell ⟨bb, 3, none⟩ (.int .u8 (V2.toNat : Int))) bb 0 HL.toArray := by rw [HHL.out]; exact hp6.1
  have hcv6 := conv_text ((w4.setCell ⟨bb, 2, none⟩ (.int .u8 (V1.toNat : Int))).setCell ⟨bb, 3, none⟩ (.int .u8 (V2.toNat : Int))) bb 0 NL cap HL (by rw [HNZ.out, HNLe.out]) hH6
  have B6 : Hid (Below w.heap.size w ((w4.setCell ⟨bb, 2, none⟩ (.int .u8 (V1.toNat : Int))).setCell ⟨bb, 3, none⟩ (.int .u8 (V2.toNat : Int)))) := Lib.hid ((B4.out.setCell HNB.out _).setCell HNB.out _)
  have x1 := (hH4 2 (by rw [List.size_toArray]; exact hNL.out.1)).1
  have x2 := (hH4 3 (by rw [List.size_toArray]; exact hNL.out.2)).1
  have z1 := (hH4 2 (by rw [List.size_toArray]; exact hNL.out.1)).2
  have z2 := (hH4 3 (by rw [List.size_toArray]; exact hNL.out.2)).2
  rw [Nat.zero_add] at x1 x2 z1 z2
  clear hp5 hp6 hH6 hH4 hcur4 hbz hcv B3 B4 HH HCUR kS
  go_upto_region 10 with fail
  clear x1 x2 z1 z2
  generalize ((w4.setCell ⟨bb, 2, none⟩ (.int .u8 (V1.toNat : Int))).setCell ⟨bb, 3, none⟩ (.int .u8 (V2.toNat : Int))) = X6 at hcv6 B6 ⊢
  go_wp2_with fail
  go_ret2
  exact ⟨rfl, B6.out⟩
theorem rBytes9_any (w : World) (f : Ic) (hf : f.ok) (hz : f.da.size ≤ 140737488355328) :
    Calls Try.prog 24 #[.agg (icC f)] w fun e w' => e = .returned (.tuple #[.string (icS f), .int .i64 (icE f)]) ∧ Below w.heap.size w w' := by
  cases h : mayI f with
  | false =>
    have e1 : icE f = 1 := by rw [icE, if_pos h]
    rw [icS, e1, if_neg (by decide)]
    exact rBytes9_arg w f h
  | true =>
    by_cases h2 : 558 < f.da.size
    · have e1 : icE f = 3 := by rw [icE, if_neg (by rw [h]; decide), if_pos h2]
      rw [icS, e1, if_neg (by decide)]
      exact rBytes9_long w f h h2 hz
    · have e1 : icE f = 0 := by rw [icE, if_neg (by rw [h]; decide), if_neg h2]
      rw [icS, e1, if_pos rfl]
      exact rBytes9_yes w f (re_lt hf) h (by omega) _ rfl

end Go.Proofs.Ytapfkhhabamndaa
