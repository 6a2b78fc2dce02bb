/-
  Layer 13, the document's own buffer: Ack, Get. Conditions: as said.
-/
import Derived.Test.YtcnongkkmjahfaaSbF
namespace Go.Proofs.Ytcnongkkmjahfaa
open Go.RowKit
set_option linter.unusedVariables false

set_option maxRecDepth 100000 in
set_option maxHeartbeats 4000000 in
theorem rAckB {w : World} {O : Nat → Prop} {p : Option Addr} {c : Nat} {u : Int} {L : List UInt8} (h : BySl w O p c (hbs u L)) (hu : 0 ≤ u ∧ u < 4294967296) (hL : L.length ≤ 2048) (n e x : Int) (hx : 0 ≤ x ∧ x < 4294967296) (K : Nat) (hK : (K : Int) = if ahN u x ≤ L.length then ahN u x else 0)
    (u' : Int) (hu' : u' = (u + K) % 4294967296) (L' : List UInt8) (hL' : L' = L.drop K) :
    Calls Try.prog 18 #[.agg #[.int .i64 n, .int .u32 e, .slice p L.length c], .int .u32 x] w fun en w' => ∃ (p' : Option Addr) (c' : Nat), en = .returned (.tuple #[.agg #[.int .i64 n, .int .u32 e, .slice p' L'.length c'], .int .i64 K]) ∧ BySl w' O p' c' (hbs u' L') ∧ Below w.heap.size w w' := by
  have S0 := ((RaG.start 2 encB 55 w).push (.cells #[.int .i64 n, .int .u32 e, .slice p L.length c] 36)).push (.cells #[.int .i64 0, .int .u32 0, .slice none 0 0] 36)
  rw [show (w.alloc (.cells #[.int .i64 n, .int .u32 e, .slice p L.length c] 36)).heap.size = w.heap.size + 1 from by simp] at S0
  have HS0 := Lib.hid S0.swapB
  have HR := Lib.hid h
  have HU := Lib.hid hu
  have HX := Lib.hid hx
  have HU' := Lib.hid hu'
  have HL' := Lib.hid hL'
  have HLn := Lib.hid hL
  have HKa : Hid (∀ i : Nat, i < L.length → (((u + i) % 4294967296 + 1) % 4294967296 = x ↔ K = i + 1)) := Lib.hid (fun i hi => by
    unfold ahN at hK
    split at hK <;> omega)
  have HKl : Hid (K ≤ L.length) := Lib.hid (by have := ahN_lo u x; split at hK <;> omega)
  clear S0 h hu hx hu' hL' hL hK
  obtain ⟨l, hl⟩ : ∃ l, l = L.length := ⟨_, rfl⟩
  rw [← hl] at HS0 HKl ⊢
  have HLL := Lib.hid hl
  clear hl
  go_enter Try.func18, Try.ntmps18
  go_upto_region 1 with fail
  generalize (w.alloc _).alloc _ = W1 at HS0 ⊢
  obtain ⟨n1, hn1⟩ : ∃ n1, n1 = w.heap.size + 1 := ⟨_, rfl⟩
  rw [← hn1] at HS0 ⊢
  have HN : Hid (w.heap.size ≤ n1 ∧ w.heap.size ≠ n1) := Lib.hid ⟨by omega, by omega⟩
  clear hn1
  obtain ⟨n0, hn0⟩ : ∃ n0, n0 = w.heap.size := ⟨_, rfl⟩
  rw [← hn0] at HS0 HN ⊢
  have HN0 := Lib.hid hn0
  clear hn0
  have FR : Hid (∀ q ∈ [(n1, Obj.cells #[.int .i64 0, .int .u32 0, .slice none 0 0] 36 (0, 0))], q.1 ≠ n0) := Lib.hid (fun q hq => by rw [List.mem_singleton.1 hq]; exact fun e => HN.out.2 e.symm)
  obtain ⟨b0, b1, b2, f0⟩ := cells3 (HS0.out.get (.head _))
  have f2 := f0 2
  clear f0
  have R1 := Lib.hid (HR.out.grow HS0.out.bl)
  go_upto_region 2 with fail
  go_loop [6] (fun i => ∃ k : Nat, k ≤ l ∧ i = .int .i64 k ∧ Hid (K = 0 ∨ k < K)) (fun i => l - (intOf i).toNat)
  case atStart => exact ⟨0, Nat.zero_le _, rfl, Lib.hid (by omega)⟩
  case round =>
    obtain ⟨k, hk, rfl, HKK⟩ := hrel
    have hl2 : l ≤ 2048 := by rw [HLL.out]; exact HLn.out
    by_cases hlt : k < l
    · have HD : Hid ((hbs u L).length = l) := Lib.hid (by rw [hbs_len]; exact HLL.out.symm)
      obtain ⟨b, o, hp, hbl, hE⟩ := R1.out.elem (by rw [HD.out]; omega)
      have hDk : (hbs u L)[k]? = some ⟨(u + k) % 4294967296, L[k]'(by rw [← HLL.out]; exact hlt)⟩ := by
        rw [hbs_get, List.getElem?_eq_getElem (by rw [← HLL.out]; exact hlt)]; rfl
      have c0 := hE k (by rw [HD.out]; exact hlt) 0 (.int .u32 ((u + k) % 4294967296)) (by
        rw [(List.getElem?_eq_some_iff.1 hDk).2]; rfl)
      rw [Nat.add_zero] at c0
      have hcap := R1.out.cap
      rw [HD.out] at hcap
      have hKi := HKa.out k (by rw [← HLL.out]; exact hlt)
      obtain ⟨a, ha⟩ : ∃ a, a = (u + (k : Int)) % 4294967296 := ⟨_, rfl⟩
      rw [← ha] at c0 hKi
      obtain ⟨a1, ha1⟩ : ∃ a1, a1 = (a + 1) % 4294967296 := ⟨_, rfl⟩
      rw [← ha1] at hKi
      have hwa : IntKind.u32.wrap (a + 1) = a1 := by rw [IntKind.wrap_u32, ha1]
      have q1 : (0 : Int) ≤ (k : Int) := by omega
      have q2 : (k : Int) < (l : Int) := by omega
      have d1 : decide ((k : Int) < (l : Int)) = true := decide_eq_true q2
      have hwj : IntKind.i64.wrap ((k : Int) + 1) = (k : Int) + 1 := IntWalk.i64_in _ (by omega)
      have HP := Lib.hid hp
      subst hp
      clear hE hDk ha ha1
      by_cases hq : K = k + 1
      · have e1 : (a1 == x) = true := by rw [hKi.2 hq]; simp
        have hcl : (k : Int) + 1 ≤ (l : Int) := by omega
        have hc0 : (0 : Int) ≤ (k : Int) + 1 := by omega
        obtain ⟨p', hp'⟩ : ∃ p' : Option Addr, (if c = k + 1 then (some ⟨b, o, none⟩ : Option Addr) else some ⟨b, o + (k + 1) * 2, none⟩) = p' := ⟨_, rfl⟩
        have FIN : Hid (∀ W', Below w.heap.size w W' → BySl W' O p' (c - (k + 1)) (hbs u' L')) := Lib.hid (fun W' hW' => by
          rw [HU'.out, HL'.out, hbs_drop, hq]
          have hb := HR.out.grow hW'
          refine ⟨by rw [List.length_drop, HD.out]; omega, fun h0 => ?_⟩
          rw [List.length_drop, HD.out] at h0
          obtain ⟨b', o', e1, e2, e3, e4⟩ := hb.rd (by rw [HD.out]; omega)
          injection e1 with e1
          injection e1 with e1 e5
          subst e1 e5
          refine ⟨b, o + (k + 1) * 2, by rw [← hp', if_neg (by omega)], e2, e3, ?_⟩
          have := rangeAt_drop (n := (k + 1) * 2) e4
          have ee : (encA encB (hbs u L)).drop ((k + 1) * 2) = encA encB ((hbs u L).drop (k + 1)) := by
            have a1 := encA_append encB ((hbs u L).take (k + 1)) ((hbs u L).drop (k + 1))
            rw [List.take_append_drop] at a1
            rw [a1, List.drop_left' (by rw [encA_length encB_len, List.length_take, HD.out]; omega)]
          rw [ee] at this
          exact this)
        have HLEN : Hid (l - (k + 1) = L'.length) := Lib.hid (by rw [HL'.out, List.length_drop, hq, HLL.out])
        have HQ := Lib.hid hq
        have HCC := Lib.hid hp'
        clear hKi hq hlt
        have R2 := Lib.hid (HS0.out.setF (i := 2) FR.out (by rw [HN0.out]; exact Nat.le_refl _) (.slice p' (l - (k + 1)) (c - (k + 1))) (by show 2 < 3; omega))
        have rg : Hid ((W1.setCell ⟨n0, 2, none⟩ (.slice p' (l - (k + 1)) (c - (k + 1)))).rangeAt n0 0 [.int .i64 n, .int .u32 e, .slice p' (l - (k + 1)) (c - (k + 1))]) := Lib.hid (range3 (R2.out.get (.head _)))
        have ST := Lib.hid (st_buf3 (i := n) (j := e) (p := p') (m := l - (k + 1)) (k := c - (k + 1)) (R2.out.get (.tail _ (.head _))))
        have HW4 := Lib.hid (setRow_heap (W1.setCell ⟨n0, 2, none⟩ (.slice p' (l - (k + 1)) (c - (k + 1)))) n1 _ #[.int .i64 n, .int .u32 e, .slice p' (l - (k + 1)) (c - (k + 1))] _ _ (R2.out.get (.tail _ (.head _))))
        have BL4 := Lib.hid (below_setRowB R2.out.bl (show w.heap.size ≤ n1 by rw [← HN0.out]; exact HN.out.1) #[.int .i64 n, .int .u32 e, .slice p' (l - (k + 1)) (c - (k + 1))])
        clear R2
        go_wp2_with (first | (refine wpList_load_mid rfl 36 _ rfl n0 0 rfl [.int .i64 n, .int .u32 e, .slice p' (l - (k + 1)) (c - (k + 1))] _ rg.out Try.underlying36 rfl (by kernel_rfl) ?_) | (refine wpList_storeW 36 _ _ rfl rfl (.agg #[.int .i64 n, .int .u32 e, .slice p' (l - (k + 1)) (c - (k + 1))]) n1 rfl rfl ST.out ?_))
        exact bodyPost_ret (v := .tuple #[.agg #[.int .i64 n, .int .u32 e, .slice p' (l - (k + 1)) (c - (k + 1))], .int .i64 ((k : Int) + 1)]) (results_row _ 4 5 36 (by kernel_rfl) _ n1 _ _ _ _ rfl rfl HW4.out Try.underlying36 rfl (by kernel_rfl)) rfl ⟨p', c - (k + 1), by rw [← HLEN.out, HQ.out]; rfl, FIN.out _ BL4.out, BL4.out⟩
      · have e1 : (a1 == x) = false := beq_eq_false_iff_ne.2 (fun e => hq (hKi.1 e))
        have K2 : Hid (K = 0 ∨ k + 1 < K) := Lib.hid (by have := HKK.out; omega)
        clear hKi hq hlt
        go_wp2_with fail
        go_round
        case rel => exact ⟨k + 1, by omega, by go_num, K2⟩
        case measure => simp [intOf]; omega
    · obtain rfl : k = l := by omega
      have hK0 : K = 0 := by have := HKK.out; have := HKl.out; omega
      have d1 : decide ((k : Int) < (k : Int)) = false := by simp
      have HK0 := Lib.hid hK0
      clear hlt hK0
      have rg : Hid (W1.rangeAt n0 0 [.int .i64 n, .int .u32 e, .slice p k c]) := Lib.hid (range3 (HS0.out.get (.head _)))
      have ST := Lib.hid (st_buf3 (i := n) (j := e) (p := p) (m := k) (k := c) (HS0.out.get (.tail _ (.head _))))
      have HW4 := Lib.hid (setRow_heap W1 n1 _ #[.int .i64 n, .int .u32 e, .slice p k c] _ _ (HS0.out.get (.tail _ (.head _))))
      have BL4 := Lib.hid (below_setRowB HS0.out.bl (show w.heap.size ≤ n1 by rw [← HN0.out]; exact HN.out.1) #[.int .i64 n, .int .u32 e, .slice p k c])
      have FIN : Hid (BySl (W1.setRow n1 #[.int .i64 n, .int .u32 e, .slice p k c]) O p c (hbs u' L')) := Lib.hid (by
        rw [HU'.out, HL'.out, HK0.out, hbs_drop, List.drop_zero]
        exact HR.out.grow BL4.out)
      have HLEN : Hid (k = L'.length) := Lib.hid (by rw [HL'.out, HK0.out, List.drop_zero, HLL.out])
      go_wp2_with (first | (refine wpList_load_mid rfl 36 _ rfl n0 0 rfl [.int .i64 n, .int .u32 e, .slice p k c] _ rg.out Try.underlying36 rfl (by kernel_rfl) ?_) | (refine wpList_storeW 36 _ _ rfl rfl (.agg #[.int .i64 n, .int .u32 e, .slice p k c]) n1 rfl rfl ST.out ?_))
      exact bodyPost_ret (v := .tuple #[.agg #[.int .i64 n, .int .u32 e, .slice p k c], .int .i64 0]) (results_row _ 4 5 36 (by kernel_rfl) _ n1 _ _ _ _ rfl rfl HW4.out Try.underlying36 rfl (by kernel_rfl)) rfl ⟨p, c, by rw [← HLEN.out, HK0.out]; rfl, FIN.out, BL4.out⟩
end Go.Proofs.Ytcnongkkmjahfaa
