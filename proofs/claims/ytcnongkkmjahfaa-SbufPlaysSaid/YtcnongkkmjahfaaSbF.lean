/-
  Layer 13, the document's own buffer: Write. Conditions: as said.
-/
import Derived.Test.YtcnongkkmjahfaaSbE
namespace Go.Proofs.Ytcnongkkmjahfaa
open Go.RowKit
set_option linter.unusedVariables false

theorem mod32 (a : Int) : 0 ≤ a % 4294967296 ∧ a % 4294967296 < 4294967296 := ⟨Int.emod_nonneg _ (by decide), Int.emod_lt_of_pos _ (by decide)⟩
set_option maxRecDepth 100000 in
set_option maxHeartbeats 4000000 in
theorem rWriteB {w : World} {O : Nat → Prop} {p : Option Addr} {c n : Nat} {u : Int} {L : List UInt8} (h : BySl w O p c (hbs u L)) (hL : L.length ≤ n) (hn : n ≤ 2048) (e : Int) (he : e = (u + L.length) % 4294967296) (X : ByteArray) (K : Nat) (hK : K = min X.size (n - L.length))
    (L' : List UInt8) (hL' : L' = L ++ X.data.toList.take K) (e' : Int) (he' : e' = (u + L'.length) % 4294967296) :
    Calls Try.prog 17 #[.agg #[.int .i64 n, .int .u32 e, .slice p L.length c], .string X] w fun en w' => ∃ (p' : Option Addr) (c' : Nat), en = .returned (.tuple #[.agg #[.int .i64 n, .int .u32 e', .slice p' L'.length c'], .int .i64 K]) ∧ ByRow w' (.slice p' L'.length c') (hbs u L') ∧ (∀ k, (Value.slice p' L'.length c').ownBlock = some k → w.heap.size ≤ k) ∧ Below w.heap.size w w' := by
  have S0 := ((RaG.start 2 encB 55 w).push (.cells #[.int .i64 (n : Int), .int .u32 e, .slice p L.length c] 36)).push (.cells #[.int .i64 0, .int .u32 0, .slice none 0 0] 36)
  rw [show (w.alloc (.cells #[.int .i64 (n : Int), .int .u32 e, .slice p L.length c] 36)).heap.size = w.heap.size + 1 from by simp] at S0
  have HS0 := Lib.hid S0.swapB
  have HR := Lib.hid h
  have HE := Lib.hid he
  have HE' := Lib.hid he'
  have HL' := Lib.hid hL'
  have HKm := Lib.hid hK
  have HLn := Lib.hid hL
  have HN2 := Lib.hid hn
  clear S0 h he he' hL' hK hL hn
  obtain ⟨l, hl⟩ : ∃ l, l = L.length := ⟨_, rfl⟩
  rw [← hl] at HS0 ⊢
  have HLL := Lib.hid hl
  clear hl
  go_enter Try.func17, Try.ntmps17
  go_upto_region 1 with fail
  generalize (w.alloc _).alloc _ = W1 at HS0 ⊢
  obtain ⟨n1, hn1⟩ : ∃ n1, n1 = w.heap.size + 1 := ⟨_, rfl⟩
  rw [← hn1] at HS0 ⊢
  have HN : Hid (w.heap.size ≤ n1 ∧ w.heap.size ≠ n1) := Lib.hid ⟨by omega, by omega⟩
  clear hn1
  obtain ⟨n0, hn0⟩ : ∃ n0, n0 = w.heap.size := ⟨_, rfl⟩
  rw [← hn0] at HS0 HN ⊢
  have HN0 := Lib.hid hn0
  clear hn0
  have FR : Hid (∀ q ∈ [(n1, Obj.cells #[.int .i64 0, .int .u32 0, .slice none 0 0] 36 (0, 0))], q.1 ≠ n0) := Lib.hid (fun q hq => by rw [List.mem_singleton.1 hq]; exact fun e => HN.out.2 e.symm)
  obtain ⟨b0, b1, b2, f0⟩ := cells3 (HS0.out.get (.head _))
  have HDl : Hid (l = (hbs u L).length) := Lib.hid (by rw [hbs_len]; exact HLL.out)
  have HDm : Hid ((hbs u L).length ≤ 1000000) := Lib.hid (by rw [hbs_len]; have := HLn.out; have := HN2.out; omega)
  have R1 := Lib.hid (HR.out.grow HS0.out.bl)
  clear f0
  go_upto_region 4 with (refine wpList_copyB rfl (.tmp 8) (.tmp 10) rfl rfl p c (hbs u L) l HDl.out rfl R1.out HDm.out ?_; intro v2 w2 hrow hgr hbl; have HS2 := Lib.hid (HS0.out.app hgr hrow hbl); clear hrow hgr hbl)
  clear b0 b1 b2 R1 HS0
  have HLX : Hid (X.data.toList.length = X.size) := Lib.hid (by rw [Array.length_toList]; rfl)
  go_loopw [6, 7] (fun v i wr => ∃ (k : Nat) (y : Int), k ≤ K ∧ i = .int .i64 k ∧ Hid (y = (u + ((l + k : Nat) : Int)) % 4294967296) ∧ Hid (RaG 2 encB 55 w wr [(n0, .cells #[.int .i64 (n : Int), .int .u32 y, .slice p l c] 36 (0, 0)), (n1, .cells #[.int .i64 0, .int .u32 0, .slice none 0 0] 36 (0, 0))] v (hbs u (L ++ X.data.toList.take k)))) (fun _ i _ => K - (intOf i).toNat)
  case atStart => exact ⟨0, e, Nat.zero_le _, rfl, Lib.hid (by rw [HE.out, HLL.out]; rfl), Lib.hid (by rw [List.take_zero, List.append_nil]; exact HS2.out)⟩
  case round =>
    clear HS2
    obtain ⟨k, y, hk, rfl, HY, RK⟩ := hrel
    have hkX : k ≤ X.size := by have := HKm.out; omega
    have hkn : l + k ≤ n := by have := HKm.out; have := HLn.out; have := HLL.out; omega
    have hn2 := HN2.out
    obtain ⟨p1, c1, hv1⟩ := RowA.shape RK.out.acc
    have hm0 : (hbs u (L ++ X.data.toList.take k)).length = l + k := by rw [hbs_len, List.length_append, List.length_take, HLX.out, HLL.out]; omega
    rw [hm0] at hv1
    subst hv1
    obtain ⟨m, hm⟩ : ∃ m, m = l + k := ⟨_, rfl⟩
    rw [← hm] at RK hkn ⊢
    rw [← hm] at HY hm0
    have HM := Lib.hid hm
    have HM0 := Lib.hid hm0
    clear hm hm0
    by_cases hlt : k < K
    · have q0 : k < X.size := by have := HKm.out; omega
      have q1 : (0 : Int) ≤ (k : Int) := by omega
      have q2 : (k : Int) < (X.size : Int) := by omega
      have d1 : decide ((k : Int) < (X.size : Int)) = true := decide_eq_true q2
      have d2n : decide (m < n) = true := decide_eq_true (by have := HKm.out; have := HLn.out; have := HLL.out; have := HM.out; omega)
      have hwj : IntKind.i64.wrap ((k : Int) + 1) = (k : Int) + 1 := IntWalk.i64_in _ (by have := HKm.out; omega)
      obtain ⟨y1, hy1⟩ : ∃ y1, y1 = (u + ((m + 1 : Nat) : Int)) % 4294967296 := ⟨_, rfl⟩
      have hwy : IntKind.u32.wrap (y + 1) = y1 := by rw [IntKind.wrap_u32, hy1, HY.out]; omega
      have hxk : X.data.toList[k]? = some X[k] := by
        rw [Array.getElem?_toList, Array.getElem?_eq_getElem (show k < X.data.size from q0)]
        rfl
      have DP : Hid (hbs u (L ++ X.data.toList.take (k + 1)) = hbs u (L ++ X.data.toList.take k) ++ [⟨y, X[k]⟩]) := Lib.hid (by
        rw [List.take_add_one, hxk, Option.toList_some, ← List.append_assoc, hbs_push]
        congr 3
        rw [HY.out, HM.out, List.length_append, List.length_take, HLX.out, HLL.out, Nat.min_eq_left (by omega)])
      have HYb : Hid (y1 = (u + ((m + 1 : Nat) : Int)) % 4294967296) := Lib.hid hy1
      clear hy1 hxk
      obtain ⟨b0, b1, b2, f0⟩ := cells3 (RK.out.get (.head _))
      clear f0
      go_upto_region 5 with fail
      have R10 := Lib.hid ((RK.out.alloc (.cells #[.int .u32 y, .int .u8 (X[k].toNat : Int)] 55)).grow (Below.refl _ _).drew)
      have HC : Hid (∀ (j : Nat) (v : Value), (encB ⟨y, X[k]⟩)[j]? = some v → (wr.alloc (.cells #[.int .u32 y, .int .u8 (X[k].toNat : Int)] 55)).drew.cell? ((⟨wr.heap.size, 0, none⟩ : Addr).add j) = some v) := Lib.hid (by_new wr ⟨y, X[k]⟩)
      obtain ⟨-, g1, -, -⟩ := cells3 (R10.out.get (.head _))
      have HDL5 : Hid ((hbs u (L ++ X.data.toList.take k)).length ≤ 1000000) := Lib.hid (by rw [HM0.out]; omega)
      have HLEN := Lib.hid (show (hbs u (L ++ X.data.toList.take k) ++ [(⟨y, X[k]⟩ : Hb)]).length = m + 1 by rw [List.length_append, HM0.out]; rfl)
      go_region_law (refine step_append_by rfl (.tmp 23) (.tmp 30) rfl (.slice p1 m c1) (hbs u (L ++ X.data.toList.take k)) (by simp [Act.eval]) R10.out.acc HDL5.out ⟨wr.heap.size, 0, none⟩ 1 ⟨y, X[k]⟩ (by simp [Act.eval]) HC.out ?_; intro v' w' hrow hgr hbl2; have R11 := Lib.hid (R10.out.app hgr hrow hbl2); clear hrow hgr hbl2; obtain ⟨p', c', hv'⟩ := RowA.shape R11.out.acc; rw [HLEN.out] at hv'; subst hv'; obtain ⟨b0, b1, b2, f0⟩ := cells3 (R11.out.get (.head _)); have f1 := f0 1; clear f0; have R12 := Lib.hid (R11.out.setF (i := 1) FR.out (by rw [HN0.out]; exact Nat.le_refl _) (.int .u32 y1) (by show 1 < 3; omega)))
      all_goals go_wp2_with fail
      all_goals go_roundw
      all_goals first | exact ⟨k + 1, y1, by omega, by go_num, Lib.hid (by rw [HYb.out, HM.out]; rfl), Lib.hid (by rw [DP.out]; exact R12.out)⟩ | (simp [intOf]; omega)
    · obtain rfl : k = K := by omega
      have hL2 : L ++ X.data.toList.take k = L' := HL'.out.symm
      rw [hL2] at RK HM0
      have hy2 : y = e' := by rw [HY.out, HE'.out, ← HM0.out, hbs_len]
      have hml : m = L'.length := by rw [← HM0.out, hbs_len]
      subst hy2
      have HML := Lib.hid hml
      clear hL2 hml hlt
      obtain ⟨b0, b1, b2, f0⟩ := cells3 (RK.out.get (.head _))
      have f2 := f0 2
      have R2 := Lib.hid (RK.out.setF (i := 2) FR.out (by rw [HN0.out]; exact Nat.le_refl _) (.slice p1 m c1) (by show 2 < 3; omega))
      have rg : Hid ((wr.setCell ⟨n0, 2, none⟩ (.slice p1 m c1)).rangeAt n0 0 [.int .i64 (n : Int), .int .u32 y, .slice p1 m c1]) := Lib.hid (range3 (R2.out.get (.head _)))
      have ST := Lib.hid (st_buf3 (i := (n : Int)) (j := y) (p := p1) (m := m) (k := c1) (R2.out.get (.tail _ (.head _))))
      have HW4 := Lib.hid (setRow_heap (wr.setCell ⟨n0, 2, none⟩ (.slice p1 m c1)) n1 _ #[.int .i64 (n : Int), .int .u32 y, .slice p1 m c1] _ _ (R2.out.get (.tail _ (.head _))))
      have BL4 := Lib.hid (below_setRowB R2.out.bl (show w.heap.size ≤ n1 by rw [← HN0.out]; exact HN.out.1) #[.int .i64 (n : Int), .int .u32 y, .slice p1 m c1])
      have OW : Hid (∀ k, (Value.slice p1 m c1).ownBlock = some k → k ≠ n1) := Lib.hid (R2.out.fx (n1, _) (.tail _ (.head _))).2
      have FIN : Hid (ByRow ((wr.setCell ⟨n0, 2, none⟩ (.slice p1 m c1)).setRow n1 #[.int .i64 (n : Int), .int .u32 y, .slice p1 m c1]) (.slice p1 m c1) (hbs u L') ∧ ∀ k, (Value.slice p1 m c1).ownBlock = some k → w.heap.size ≤ k) := Lib.hid (by
        exact ⟨R2.out.acc.kept (by rw [size_setRow]; exact Nat.le_refl _) (fun k hk => setRow_other _ _ _ _ (OW.out k hk)), R2.out.own⟩)
      have dd : Hid (k = X.size ∨ (k < X.size ∧ n ≤ m)) := Lib.hid (by have := HKm.out; have := HLn.out; have := HLL.out; have := HM.out; omega)
      clear f0 R2 RK
      rcases dd.out with hd | ⟨hd1, hd2⟩
      · have d1n : decide (k < X.size) = false := decide_eq_false (by omega)
        clear hd
        go_wp2_with (first | (refine wpList_load_mid rfl 36 _ rfl n0 0 rfl [.int .i64 (n : Int), .int .u32 y, .slice p1 m c1] _ rg.out Try.underlying36 rfl (by kernel_rfl) ?_) | (refine wpList_storeW 36 _ _ rfl rfl (.agg #[.int .i64 (n : Int), .int .u32 y, .slice p1 m c1]) n1 rfl rfl ST.out ?_))
        exact bodyPost_ret (v := .tuple #[.agg #[.int .i64 (n : Int), .int .u32 y, .slice p1 m c1], .int .i64 k]) (results_row _ 4 5 36 (by kernel_rfl) _ n1 _ _ _ _ rfl rfl HW4.out Try.underlying36 rfl (by kernel_rfl)) rfl ⟨p1, c1, by rw [← HML.out], by rw [← HML.out]; exact FIN.out.1, by rw [← HML.out]; exact FIN.out.2, BL4.out⟩
      · have d1n : decide (k < X.size) = true := decide_eq_true (by omega)
        have d2n : decide (m < n) = false := decide_eq_false (by omega)
        clear hd1 hd2
        go_wp2_with (first | (refine wpList_load_mid rfl 36 _ rfl n0 0 rfl [.int .i64 (n : Int), .int .u32 y, .slice p1 m c1] _ rg.out Try.underlying36 rfl (by kernel_rfl) ?_) | (refine wpList_storeW 36 _ _ rfl rfl (.agg #[.int .i64 (n : Int), .int .u32 y, .slice p1 m c1]) n1 rfl rfl ST.out ?_))
        exact bodyPost_ret (v := .tuple #[.agg #[.int .i64 (n : Int), .int .u32 y, .slice p1 m c1], .int .i64 k]) (results_row _ 4 5 36 (by kernel_rfl) _ n1 _ _ _ _ rfl rfl HW4.out Try.underlying36 rfl (by kernel_rfl)) rfl ⟨p1, c1, by rw [← HML.out], by rw [← HML.out]; exact FIN.out.1, by rw [← HML.out]; exact FIN.out.2, BL4.out⟩
end Go.Proofs.Ytcnongkkmjahfaa
