/-
  The contract of package virtq's describe: the descriptors of a chain in memory. Conditions: each buffer lies in the memory, which New made and which has at most 65536 bytes; each number is from 0 to 63.
-/
import Derived.Test.YtmlicejhkdkhnaaOffer
namespace Go.Proofs.Ytmlicejhkdkhnaa
open Go.RowKit Go.Sort

/-- A descriptor's flags. -/
def flagsOf (wr more : Bool) : Int := (if wr then 2 else 0) + (if more then 1 else 0)
/-- The memory's bytes behind describe. -/
def descs (base : Int) : List Int → List Bf → List UInt8 → List UInt8
  | k :: ks, b :: bs, lm => descs base ks bs (descL lm (base + 16 * k) b.a b.n (flagsOf b.wr (!bs.isEmpty)) (match bs with | [] => 0 | _ :: _ => ks.headD 0))
  | _, _, lm => lm
theorem descs_length (base : Int) : ∀ (ks : List Int) (l : List Bf) (lm : List UInt8), (descs base ks l lm).length = lm.length
  | [], _, _ => by unfold descs; rfl
  | _ :: _, [], _ => by unfold descs; rfl
  | k :: ks, b :: bs, lm => by
    unfold descs
    rw [descs_length base ks bs, descL_length]

theorem descs_at {base : Int} {ns : List Int} {l : List Bf} {lm : List UInt8} {k : Nat} {y : Int} {x : Bf} (hy : ns[k]? = some y) (hx : l[k]? = some x) :
    descs base (ns.drop k) (l.drop k) lm = descs base (ns.drop (k + 1)) (l.drop (k + 1)) (descL lm (base + 16 * y) x.a x.n (flagsOf x.wr (decide (k + 1 < l.length))) (if k + 1 < l.length then ns.getD (k + 1) 0 else 0)) := by
  have h1 := (List.getElem?_eq_some_iff.1 hy).1
  have h2 := (List.getElem?_eq_some_iff.1 hy).2
  have h3 := (List.getElem?_eq_some_iff.1 hx).1
  have h4 := (List.getElem?_eq_some_iff.1 hx).2
  rw [List.drop_eq_getElem_cons h1, List.drop_eq_getElem_cons h3, h2, h4]
  conv => lhs; unfold descs
  by_cases hk : k + 1 < l.length
  · rw [decide_eq_true hk, if_pos hk]
    have h5 : (l.drop (k + 1)).isEmpty = false := by rw [List.drop_eq_getElem_cons hk]; rfl
    rw [h5]
    have h6 : (match l.drop (k + 1) with | [] => (0 : Int) | _ :: _ => (ns.drop (k + 1)).headD 0) = ns.getD (k + 1) 0 := by
      rw [List.drop_eq_getElem_cons hk]
      show (ns.drop (k + 1)).headD 0 = ns.getD (k + 1) 0
      by_cases h7 : k + 1 < ns.length
      · rw [List.drop_eq_getElem_cons h7]
        simp [h7]
      · rw [List.drop_eq_nil_of_le (by omega)]
        simp [List.getElem?_eq_none (show ns.length ≤ k + 1 by omega)]
    rw [h6]
    rfl
  · rw [decide_eq_false hk, if_neg hk]
    have h5 : l.drop (k + 1) = [] := List.drop_eq_nil_of_le (by omega)
    rw [h5]
    rfl

set_option maxRecDepth 100000 in
set_option maxHeartbeats 2000000 in
theorem describe_any (w : World) (q g h : Nat) (lm : List UInt8) (m : Mem w g h lm) (hl : lm.length ≤ 65536) (base : Int) (hb0 : 0 ≤ base) (hb1 : base ≤ 65536) (n : Nat) (mp : Option Nat) (off back : Int) (broken : Bool) (hq : QAt w q g base n mp off back broken)
    (l : List Bf) (v : Value) (hv : IsBufs w v l) (hbd : ∀ x ∈ l, 0 ≤ x.a ∧ x.a ≤ 65536 ∧ 1 ≤ x.n ∧ x.n ≤ 65536)
    (nb ncap : Nat) (ns : List Int) (hns : ns.length = l.length) (hnc : ∀ (i : Nat) (h : i < ns.length), w.cell? ⟨nb, i, none⟩ = some (.int .i64 ns[i])) (hn63 : ∀ y ∈ ns, 0 ≤ y ∧ y ≤ 63) :
    Calls Try.prog 68 #[.pointer (some ⟨q, 0, none⟩), .slice (some ⟨nb, 0, none⟩) l.length ncap, v] w
      fun e w' => e = .returned (.tuple #[]) ∧ Mem w' g h (descs base ns l lm) ∧ w.grownBy w' (some h) := by
  obtain ⟨p, cap, rfl, hle⟩ := hv.form
  have hqh : q ≠ h := m.not_u8 hq.c0 (fun x e => by cases e)
  have hqlt := lt_of_block hq
  obtain ⟨R, hR⟩ : ∃ R, R = descs base ns l lm := ⟨_, rfl⟩
  rw [← hR]
  have HR := Lib.hid hR
  have HM := Lib.hid m
  have HQ := Lib.hid hq
  have HV := Lib.hid hv
  have HB := Lib.hid hbd
  have HNC := Lib.hid hnc
  have HN63 := Lib.hid hn63
  have HNS := Lib.hid hns
  have hmlt := m.lt2
  have o1 : bits .or .u64 0 2 = 2 := by decide +kernel
  have o2 : bits .or .u64 2 1 = 3 := by decide +kernel
  have o3 : bits .or .u64 0 1 = 1 := by decide +kernel
  clear hR hq hv hbd hnc hn63 hns
  go_enter Try.func68, Try.ntmps68
  go_wp2_with fail
  go_loopw [11] (fun iv wr => ∃ (k : Nat) (X : List UInt8), k ≤ l.length ∧ iv = .int .i64 k ∧ Mem wr g h X ∧ X.length ≤ 65536 ∧ Hid (R = descs base (ns.drop k) (l.drop k) X) ∧ w.grownBy wr (some h)) (fun iv _ => l.length - (intOf iv).toNat)
  case atStart => exact ⟨0, lm, Nat.zero_le _, rfl, HM.out, hl, HR, World.grownBy.refl _ _⟩
  case round =>
    obtain ⟨k, X, hk, rfl, mX, hX, HX, kg⟩ := hrel
    by_cases hlt : k < l.length
    · obtain ⟨b, o, x, rfl, hx, c0, c1, c2⟩ := (HV.out.grownMem HM.out kg).at_ k hlt
      have hkn : k < ns.length := by rw [HNS.out]; exact hlt
      have hxb := HB.out x (List.mem_of_getElem? hx)
      have hy := List.getElem?_eq_getElem hkn
      have hyb := HN63.out ns[k] (List.getElem_mem hkn)
      have hcy := HNC.out k hkn
      have hnb : nb ≠ h := HM.out.not_u8 hcy (fun x e => by cases e)
      have keep : ∀ i u, w.cell? ⟨nb, i, none⟩ = some u → wr.cell? ⟨nb, i, none⟩ = some u := fun i u hu =>
        (World.cell?_of_block (w := w) (a := ⟨nb, i, none⟩) (kg.block _ (World.block_lt_of_cell? w _ hu) (fun e => hnb (by injection e)))).trans hu
      have hcy2 := keep _ _ hcy
      generalize ns[k] = y at hy hyb hcy hcy2
      have hstep := descs_at (base := base) (lm := X) hy hx
      rw [← HX.out] at hstep
      obtain ⟨xa, xn, xw⟩ := x
      obtain ⟨xb0, xb1, xb2, xb3⟩ := hxb
      obtain ⟨y0, y1⟩ := hyb
      simp only at c0 c1 c2 xb0 xb1 xb2 xb3 hstep
      have hqr : QAt wr q g base n mp off back broken := HQ.out.kept (kg.block _ hqlt (fun e => hqh (by injection e)))
      by_cases hmore : k + 1 < l.length
      · have hm1 : decide ((k : Int) + 1 < l.length) = true := decide_eq_true (by omega)
        have hm2 : decide (k + 1 < l.length) = true := decide_eq_true hmore
        have hkn1 : k + 1 < ns.length := by rw [HNS.out]; exact hmore
        have hcz := keep _ _ (HNC.out (k + 1) hkn1)
        have hzb := HN63.out ns[k + 1] (List.getElem_mem hkn1)
        have hzg : ns.getD (k + 1) 0 = ns[k + 1] := by simp [hkn1]
        rw [hm2, if_pos hmore, hzg] at hstep
        generalize ns[k + 1] = z at hcz hzb hstep hzg
        obtain ⟨z0, z1⟩ := hzb
        have HS := Lib.hid hstep
        clear keep hstep hy hx hcy hzg
        cases xw with
        | true =>
          have hbl := alloc_two wr (.cells #[.int .i64 xa, .int .i64 xn, .bool true] 83) (.cells #[.int .u64 xa, .int .u64 xn, .int .u64 3, .int .u64 z] 154)
          have ka := (World.grownBy_alloc wr (.cells #[.int .i64 xa, .int .i64 xn, .bool true] 83) none).trans (World.grownBy_alloc _ (.cells #[.int .u64 xa, .int .u64 xn, .int .u64 3, .int .u64 z] 154) none)
          have hcz2 : ((wr.alloc (.cells #[.int .i64 xa, .int .i64 xn, .bool true] 83)).alloc (.cells #[.int .u64 xa, .int .u64 xn, .int .u64 3, .int .u64 0] 154)).cell? ⟨nb, k + 1, none⟩ = some (.int .i64 z) := by rw [kept_grown ((World.grownBy_alloc wr (.cells #[.int .i64 xa, .int .i64 xn, .bool true] 83) none).trans (World.grownBy_alloc _ (.cells #[.int .u64 xa, .int .u64 xn, .int .u64 3, .int .u64 0] 154) none)) ⟨nb, k + 1, none⟩ (by rw [hcz]; rfl)]; exact hcz
          go_wp2_with fail
          generalize (wr.alloc _).alloc _ = W at hbl ka ⊢
          have mW := mX.same ka
          have qW := hqr.kept (ka.block _ (lt_of_block hqr) (by simp))
          have yW : W.cell? ⟨nb, k, none⟩ = some (.int .i64 y) := by rw [kept_grown ka ⟨nb, k, none⟩ (by rw [hcy2]; rfl)]; exact hcy2
          clear c0 c1 c2 hcy2 hqr hcz hcz2
          refine region_tail 9 (by kernel_rfl) (by kernel_rfl) (fun W2 d => ?_)
          have mW2 := mW.same d.grown
          have kg2 := (kg.trans (ka.but _)).trans (d.grown.but _)
          have qW2 := qW.kept (d.block _)
          have e0 := qW2.c0
          have e1 := qW2.c1
          have e2 := qW2.c2
          have e3 := (World.cell?_of_block (w := W) (a := ⟨nb, k, none⟩) (d.block _)).trans yW
          have hb2 := (d.block _).trans hbl
          have e4 := cell_of_block (i := 0) hb2
          have e5 := cell_of_block (i := 1) hb2
          have e6 := cell_of_block (i := 2) hb2
          have e7 := cell_of_block (i := 3) hb2
          clear mW qW yW hbl hb2 d qW2 ka
          simp only [List.take_succ_cons, List.take_zero, List.drop_succ_cons, List.drop_zero]
          repeat still_step
          refine wpStill_nil ?_
          go_wp2_with fail
          refine (putDescriptor_any W2 g h X mW2 base n hX hb0 hb1 y y0 (by omega) xa xn 3 z xb0 (by omega) (by omega) z0).mono ?_
          rintro e w3 ⟨rfl, m3, k3⟩
          have kg3 := kg2.trans k3
          have hX3 : (descL X (base + 16 * y) xa xn 3 z).length ≤ 65536 := by rw [descL_length]; exact hX
          go_wp2_with fail
          go_roundw
          case rel => exact ⟨k + 1, _, by omega, by go_num, m3, hX3, HS, kg3⟩
          case measure => simp [intOf]; omega
        | false =>
          have hbl := alloc_two wr (.cells #[.int .i64 xa, .int .i64 xn, .bool false] 83) (.cells #[.int .u64 xa, .int .u64 xn, .int .u64 1, .int .u64 z] 154)
          have ka := (World.grownBy_alloc wr (.cells #[.int .i64 xa, .int .i64 xn, .bool false] 83) none).trans (World.grownBy_alloc _ (.cells #[.int .u64 xa, .int .u64 xn, .int .u64 1, .int .u64 z] 154) none)
          have hcz2 : ((wr.alloc (.cells #[.int .i64 xa, .int .i64 xn, .bool false] 83)).alloc (.cells #[.int .u64 xa, .int .u64 xn, .int .u64 1, .int .u64 0] 154)).cell? ⟨nb, k + 1, none⟩ = some (.int .i64 z) := by rw [kept_grown ((World.grownBy_alloc wr (.cells #[.int .i64 xa, .int .i64 xn, .bool false] 83) none).trans (World.grownBy_alloc _ (.cells #[.int .u64 xa, .int .u64 xn, .int .u64 1, .int .u64 0] 154) none)) ⟨nb, k + 1, none⟩ (by rw [hcz]; rfl)]; exact hcz
          go_wp2_with fail
          generalize (wr.alloc _).alloc _ = W at hbl ka ⊢
          have mW := mX.same ka
          have qW := hqr.kept (ka.block _ (lt_of_block hqr) (by simp))
          have yW : W.cell? ⟨nb, k, none⟩ = some (.int .i64 y) := by rw [kept_grown ka ⟨nb, k, none⟩ (by rw [hcy2]; rfl)]; exact hcy2
          clear c0 c1 c2 hcy2 hqr hcz hcz2
          refine region_tail 9 (by kernel_rfl) (by kernel_rfl) (fun W2 d => ?_)
          have mW2 := mW.same d.grown
          have kg2 := (kg.trans (ka.but _)).trans (d.grown.but _)
          have qW2 := qW.kept (d.block _)
          have e0 := qW2.c0
          have e1 := qW2.c1
          have e2 := qW2.c2
          have e3 := (World.cell?_of_block (w := W) (a := ⟨nb, k, none⟩) (d.block _)).trans yW
          have hb2 := (d.block _).trans hbl
          have e4 := cell_of_block (i := 0) hb2
          have e5 := cell_of_block (i := 1) hb2
          have e6 := cell_of_block (i := 2) hb2
          have e7 := cell_of_block (i := 3) hb2
          clear mW qW yW hbl hb2 d qW2 ka
          simp only [List.take_succ_cons, List.take_zero, List.drop_succ_cons, List.drop_zero]
          repeat still_step
          refine wpStill_nil ?_
          go_wp2_with fail
          refine (putDescriptor_any W2 g h X mW2 base n hX hb0 hb1 y y0 (by omega) xa xn 1 z xb0 (by omega) (by omega) z0).mono ?_
          rintro e w3 ⟨rfl, m3, k3⟩
          have kg3 := kg2.trans k3
          have hX3 : (descL X (base + 16 * y) xa xn 1 z).length ≤ 65536 := by rw [descL_length]; exact hX
          go_wp2_with fail
          go_roundw
          case rel => exact ⟨k + 1, _, by omega, by go_num, m3, hX3, HS, kg3⟩
          case measure => simp [intOf]; omega
      · have hm1 : decide ((k : Int) + 1 < l.length) = false := decide_eq_false (by omega)
        have hm2 : decide (k + 1 < l.length) = false := decide_eq_false hmore
        rw [hm2, if_neg hmore] at hstep
        have HS := Lib.hid hstep
        clear keep hstep hy hx hcy
        cases xw with
        | true =>
          have hbl := alloc_two wr (.cells #[.int .i64 xa, .int .i64 xn, .bool true] 83) (.cells #[.int .u64 xa, .int .u64 xn, .int .u64 2, .int .u64 0] 154)
          have ka := (World.grownBy_alloc wr (.cells #[.int .i64 xa, .int .i64 xn, .bool true] 83) none).trans (World.grownBy_alloc _ (.cells #[.int .u64 xa, .int .u64 xn, .int .u64 2, .int .u64 0] 154) none)
          go_wp2_with fail
          generalize (wr.alloc _).alloc _ = W at hbl ka ⊢
          have mW := mX.same ka
          have qW := hqr.kept (ka.block _ (lt_of_block hqr) (by simp))
          have yW : W.cell? ⟨nb, k, none⟩ = some (.int .i64 y) := by rw [kept_grown ka ⟨nb, k, none⟩ (by rw [hcy2]; rfl)]; exact hcy2
          clear c0 c1 c2 hcy2 hqr
          refine region_tail 9 (by kernel_rfl) (by kernel_rfl) (fun W2 d => ?_)
          have mW2 := mW.same d.grown
          have kg2 := (kg.trans (ka.but _)).trans (d.grown.but _)
          have qW2 := qW.kept (d.block _)
          have e0 := qW2.c0
          have e1 := qW2.c1
          have e2 := qW2.c2
          have e3 := (World.cell?_of_block (w := W) (a := ⟨nb, k, none⟩) (d.block _)).trans yW
          have hb2 := (d.block _).trans hbl
          have e4 := cell_of_block (i := 0) hb2
          have e5 := cell_of_block (i := 1) hb2
          have e6 := cell_of_block (i := 2) hb2
          have e7 := cell_of_block (i := 3) hb2
          clear mW qW yW hbl hb2 d qW2 ka
          simp only [List.take_succ_cons, List.take_zero, List.drop_succ_cons, List.drop_zero]
          repeat still_step
          refine wpStill_nil ?_
          go_wp2_with fail
          refine (putDescriptor_any W2 g h X mW2 base n hX hb0 hb1 y y0 (by omega) xa xn 2 0 xb0 (by omega) (by omega) (by omega)).mono ?_
          rintro e w3 ⟨rfl, m3, k3⟩
          have kg3 := kg2.trans k3
          have hX3 : (descL X (base + 16 * y) xa xn 2 0).length ≤ 65536 := by rw [descL_length]; exact hX
          go_wp2_with fail
          go_roundw
          case rel => exact ⟨k + 1, _, by omega, by go_num, m3, hX3, HS, kg3⟩
          case measure => simp [intOf]; omega
        | false =>
          have hbl := alloc_two wr (.cells #[.int .i64 xa, .int .i64 xn, .bool false] 83) (.cells #[.int .u64 xa, .int .u64 xn, .int .u64 0, .int .u64 0] 154)
          have ka := (World.grownBy_alloc wr (.cells #[.int .i64 xa, .int .i64 xn, .bool false] 83) none).trans (World.grownBy_alloc _ (.cells #[.int .u64 xa, .int .u64 xn, .int .u64 0, .int .u64 0] 154) none)
          go_wp2_with fail
          generalize (wr.alloc _).alloc _ = W at hbl ka ⊢
          have mW := mX.same ka
          have qW := hqr.kept (ka.block _ (lt_of_block hqr) (by simp))
          have yW : W.cell? ⟨nb, k, none⟩ = some (.int .i64 y) := by rw [kept_grown ka ⟨nb, k, none⟩ (by rw [hcy2]; rfl)]; exact hcy2
          clear c0 c1 c2 hcy2 hqr
          refine region_tail 9 (by kernel_rfl) (by kernel_rfl) (fun W2 d => ?_)
          have mW2 := mW.same d.grown
          have kg2 := (kg.trans (ka.but _)).trans (d.grown.but _)
          have qW2 := qW.kept (d.block _)
          have e0 := qW2.c0
          have e1 := qW2.c1
          have e2 := qW2.c2
          have e3 := (World.cell?_of_block (w := W) (a := ⟨nb, k, none⟩) (d.block _)).trans yW
          have hb2 := (d.block _).trans hbl
          have e4 := cell_of_block (i := 0) hb2
          have e5 := cell_of_block (i := 1) hb2
          have e6 := cell_of_block (i := 2) hb2
          have e7 := cell_of_block (i := 3) hb2
          clear mW qW yW hbl hb2 d qW2 ka
          simp only [List.take_succ_cons, List.take_zero, List.drop_succ_cons, List.drop_zero]
          repeat still_step
          refine wpStill_nil ?_
          go_wp2_with fail
          refine (putDescriptor_any W2 g h X mW2 base n hX hb0 hb1 y y0 (by omega) xa xn 0 0 xb0 (by omega) (by omega) (by omega)).mono ?_
          rintro e w3 ⟨rfl, m3, k3⟩
          have kg3 := kg2.trans k3
          have hX3 : (descL X (base + 16 * y) xa xn 0 0).length ≤ 65536 := by rw [descL_length]; exact hX
          go_wp2_with fail
          go_roundw
          case rel => exact ⟨k + 1, _, by omega, by go_num, m3, hX3, HS, kg3⟩
          case measure => simp [intOf]; omega
    · have hd : decide ((k : Int) < l.length) = false := decide_eq_false (by omega)
      have hRX : R = X := by
        rw [HX.out, List.drop_eq_nil_of_le (show l.length ≤ k by omega), List.drop_eq_nil_of_le (show ns.length ≤ k by rw [HNS.out]; omega)]
        rfl
      have mR : Mem wr g h R := by rw [hRX]; exact mX
      clear hRX
      go_wp2_with fail
      go_end0
      exact ⟨rfl, mR, kg⟩

end Go.Proofs.Ytmlicejhkdkhnaa
