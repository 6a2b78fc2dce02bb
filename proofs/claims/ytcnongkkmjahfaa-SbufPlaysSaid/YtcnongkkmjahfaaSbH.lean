/-
  Layer 13, the document's own buffer: Get. Conditions: as said.
-/
import Derived.Test.YtcnongkkmjahfaaSbG
namespace Go.Proofs.Ytcnongkkmjahfaa
open Go.RowKit
set_option linter.unusedVariables false

theorem conv_one (w : World) (h : Nat) (x : UInt8) (hh : w.heap[h]? = some (.cells #[.int .u8 (x.toNat : Int)] 5 (0, 0))) :
    (convert 44 9 (.slice (some ⟨h, 0, none⟩) 1 1)).run Try.prog w = .ok (.string ⟨#[x]⟩) w :=
  conv_bytesO w h 0 1 [x] 1 rfl (fun j y hy => by
    cases j with
    | zero => simp at hy; subst hy; rw [cell_of_block hh]; rfl
    | succ j => simp at hy)
theorem append_one (d : List UInt8) (x : UInt8) : ((⟨d.toArray⟩ : ByteArray) ++ (⟨#[x]⟩ : ByteArray)) = ⟨(d ++ [x]).toArray⟩ := by
  apply ByteArray.ext
  simp
theorem size_arr (d : List UInt8) : (⟨d.toArray⟩ : ByteArray).size = d.length := rfl
set_option maxRecDepth 100000 in
set_option maxHeartbeats 4000000 in
theorem rGetB {w : World} {O : Nat → Prop} {p : Option Addr} {c : Nat} {u : Int} {L : List UInt8} (h : BySl w O p c (hbs u L)) (hu : 0 ≤ u ∧ u < 4294967296) (hL : L.length ≤ 2048) (n e s x : Int) (hs : 0 ≤ s ∧ s < 4294967296) :
    Calls Try.prog 19 #[.agg #[.int .i64 n, .int .u32 e, .slice p L.length c], .int .u32 s, .int .i64 x] w fun en w' => en = .returned (.string ⟨(getS u s x L).toArray⟩) ∧ Below w.heap.size w w' := by
  have BL := Lib.hid ((Below.refl w.heap.size w).alloc (Nat.le_refl _) (.cells #[.int .i64 n, .int .u32 e, .slice p L.length c] 36))
  have HB := Lib.hid (heap_alloc_new w (.cells #[.int .i64 n, .int .u32 e, .slice p L.length c] 36))
  have HR := Lib.hid h
  have HLn := Lib.hid hL
  obtain ⟨j, hj⟩ : ∃ j : Nat, ahN u s = j := ⟨(ahN u s).toNat, by have := ahN_lo u s; omega⟩
  have HJ : Hid (∀ i : Nat, i < L.length → ((u + i) % 4294967296 = s ↔ j = i)) := Lib.hid (fun i hi => by
    unfold ahN at hj
    omega)
  have HG : Hid (getS u s x L = (L.drop j).take x.toNat) := Lib.hid (by unfold getS; rw [hj, Int.toNat_natCast])
  obtain ⟨l, hl⟩ : ∃ l, l = L.length := ⟨_, rfl⟩
  rw [← hl] at BL HB ⊢
  have HLL := Lib.hid hl
  clear h hu hL hs hj hl
  go_enter Try.func19, Try.ntmps19
  go_upto_region 1 with fail
  generalize w.alloc _ = W1 at BL HB ⊢
  obtain ⟨n0, hn0⟩ : ∃ n0, n0 = w.heap.size := ⟨_, rfl⟩
  rw [← hn0] at HB ⊢
  have HN0 := Lib.hid (show n0 < W1.heap.size from (Array.getElem?_eq_some_iff.1 HB.out).1)
  clear hn0
  go_upto_region 3 with fail
  go_loopw [7, 8, 9] (fun S i _ wr => ∃ k : Nat, k ≤ l ∧ i = .int .i64 k ∧ S = .string ⟨(if j < k then getS u s x L else []).toArray⟩ ∧ Hid (Below W1.heap.size W1 wr)) (fun _ i _ _ => l - (intOf i).toNat)
  case atStart => exact ⟨0, Nat.zero_le _, rfl, by rw [if_neg (by omega)], Lib.hid (Below.refl _ _)⟩
  case round =>
    rename Value => v9
    obtain ⟨k, hk, rfl, rfl, BR⟩ := hrel
    have hl2 : l ≤ 2048 := by rw [HLL.out]; exact HLn.out
    have HBR := Lib.hid ((BR.out.block n0 HN0.out).trans HB.out)
    have BWR := Lib.hid (BL.out.trans (BR.out.mono BL.out.size))
    obtain ⟨b0, b1, b2, -⟩ := cells3 HBR.out
    by_cases hlt : k < l
    · have R1 := Lib.hid (HR.out.grow BWR.out)
      have HD : Hid ((hbs u L).length = l) := Lib.hid (by rw [hbs_len]; exact HLL.out.symm)
      obtain ⟨b, o, hp, hbl, hE⟩ := R1.out.elem (by rw [HD.out]; omega)
      have hDk : (hbs u L)[k]? = some ⟨(u + k) % 4294967296, L[k]'(by rw [← HLL.out]; exact hlt)⟩ := by
        rw [hbs_get, List.getElem?_eq_getElem (by rw [← HLL.out]; exact hlt)]; rfl
      have c0 := hE k (by rw [HD.out]; exact hlt) 0 (.int .u32 ((u + k) % 4294967296)) (by
        rw [(List.getElem?_eq_some_iff.1 hDk).2]; rfl)
      rw [Nat.add_zero] at c0
      have hJk := HJ.out k (by rw [← HLL.out]; exact hlt)
      obtain ⟨a, ha⟩ : ∃ a, a = (u + (k : Int)) % 4294967296 := ⟨_, rfl⟩
      rw [← ha] at c0 hJk
      have q1 : (0 : Int) ≤ (k : Int) := by omega
      have q2 : (k : Int) < (l : Int) := by omega
      have d1 : decide ((k : Int) < (l : Int)) = true := decide_eq_true q2
      have hwj : IntKind.i64.wrap ((k : Int) + 1) = (k : Int) + 1 := IntWalk.i64_in _ (by omega)
      have HP := Lib.hid hp
      subst hp
      clear hE hDk ha
      by_cases hq : j = k
      · have e1 : (a == s) = true := by rw [hJk.2 hq]; simp
        subst hq
        rw [if_neg (Nat.lt_irrefl _)]
        clear hJk
        go_upto_region 7 with fail
        have HWR := Lib.hid (show n0 < wr.heap.size from Nat.lt_of_lt_of_le HN0.out BR.out.size)
        clear b0 b1 b2 c0
        go_loopw [7, 9] (fun S i wq => ∃ q : Nat, q ≤ l - j ∧ q ≤ x.toNat ∧ i = .int .i64 ((j + q : Nat) : Int) ∧ S = .string ⟨((L.drop j).take q).toArray⟩ ∧ Hid (Below wr.heap.size wr wq)) (fun _ i _ => l - (intOf i).toNat)
        case atStart => exact ⟨0, Nat.zero_le _, Nat.zero_le _, by simp, by rw [List.take_zero], Lib.hid (Below.refl _ _)⟩
        case round =>
          rename World => wq
          obtain ⟨q, hq1, hq2, rfl, rfl, BQ⟩ := hrel
          have HBQ := Lib.hid ((BQ.out.block n0 HWR.out).trans HBR.out)
          have BWQ := Lib.hid (BWR.out.trans (BQ.out.mono BWR.out.size))
          obtain ⟨b0, b1, b2, -⟩ := cells3 HBQ.out
          have HSZ : Hid ((⟨((L.drop j).take q).toArray⟩ : ByteArray).size = q) := Lib.hid (by rw [size_arr, List.length_take, List.length_drop, ← HLL.out]; omega)
          obtain ⟨t, ht⟩ : ∃ t, t = j + q := ⟨_, rfl⟩
          rw [← ht]
          have HT := Lib.hid ht
          by_cases hlq : t < l ∧ (q : Int) < x
          · have hLt : L[t]? = some (L[t]'(by rw [← HLL.out]; exact hlq.1)) := List.getElem?_eq_getElem _
            have R2 := Lib.hid (HR.out.grow BWQ.out)
            obtain ⟨b', o', hp', hbl', hE⟩ := R2.out.elem (by rw [HD.out]; omega)
            injection hp' with hp'
            injection hp' with hp' hp3
            subst hp' hp3
            have hDk : (hbs u L)[t]? = some ⟨(u + t) % 4294967296, L[t]'(by rw [← HLL.out]; exact hlq.1)⟩ := by
              rw [hbs_get, hLt]; rfl
            have c1 := hE t (by rw [HD.out]; exact hlq.1) 1 (.int .u8 ((L[t]'(by rw [← HLL.out]; exact hlq.1)).toNat : Int)) (by
              rw [(List.getElem?_eq_some_iff.1 hDk).2]; rfl)
            have HTK : Hid ((L.drop j).take (q + 1) = (L.drop j).take q ++ [L[t]'(by rw [← HLL.out]; exact hlq.1)]) := Lib.hid (by
              rw [List.take_add_one, List.getElem?_drop, ← ht, hLt]; rfl)
            generalize L[t]'(by rw [← HLL.out]; exact hlq.1) = z at c1 HTK
            have q3 : (0 : Int) ≤ (t : Int) := by omega
            have q4 : (t : Int) < (l : Int) := by omega
            have d2 : decide ((t : Int) < (l : Int)) = true := decide_eq_true q4
            have d2n : decide (t < l) = true := decide_eq_true hlq.1
            have d3 : decide ((q : Int) < x) = true := decide_eq_true hlq.2
            have hwt : IntKind.i64.wrap ((t : Int) + 1) = (t : Int) + 1 := IntWalk.i64_in _ (by omega)
            have CV := conv_one (wq.alloc (.cells #[.int .u8 (z.toNat : Int)] 5)) wq.heap.size z (heap_alloc_new wq _)
            have BQ2 := Lib.hid (BQ.out.alloc BQ.out.size (.cells #[.int .u8 (z.toNat : Int)] 5))
            have hsz1 : (⟨#[z]⟩ : ByteArray).size = 1 := rfl
            have HQX := Lib.hid (show q + 1 ≤ l - j ∧ q + 1 ≤ x.toNat by omega)
            generalize hS : (⟨((L.drop j).take q).toArray⟩ : ByteArray) = S at HSZ
            have hS2 := HSZ.out
            have e9 : S.size + (⟨#[z]⟩ : ByteArray).size ≤ 9223372036854775807 := by rw [hS2, hsz1]; omega
            have HS := Lib.hid hS
            rw [hS2, hsz1] at e9
            clear hS hE hDk hLt hlq hq1 hq2 ht
            go_wp2_with fail
            go_roundw
            case rel => exact ⟨q + 1, HQX.out.1, HQX.out.2, by rw [HT.out]; go_num, by rw [HTK.out, ← append_one, HS.out], BQ2⟩
            case measure => simp [intOf]; omega
          · have FIN : Hid ((L.drop j).take q = getS u s x L) := Lib.hid (by
              rw [HG.out]
              by_cases h1 : t < l
              · have h2 : ¬ (q : Int) < x := fun h => hlq ⟨h1, h⟩
                rw [show x.toNat = q by omega]
              · rw [List.take_of_length_le (by rw [List.length_drop, ← HLL.out]; omega), List.take_of_length_le (by rw [List.length_drop, ← HLL.out]; omega)])
            have BQ3 := Lib.hid (BR.out.trans (BQ.out.mono BR.out.size))
            have hS2 := HSZ.out
            generalize hS : (⟨((L.drop j).take q).toArray⟩ : ByteArray) = S at hS2
            have HS := Lib.hid hS
            by_cases h1 : t < l
            · have d2n : decide (t < l) = true := decide_eq_true h1
              have d2 : decide ((t : Int) < (l : Int)) = true := decide_eq_true (by omega)
              have d3 : decide ((q : Int) < x) = false := decide_eq_false (fun h => hlq ⟨h1, h⟩)
              clear hS hlq h1 hq1 hq2 ht
              go_wp2_with fail
              go_roundw
              case rel => exact ⟨j + 1, by omega, by go_num, by rw [if_pos (Nat.lt_succ_self _), ← HS.out, FIN.out], BQ3⟩
              case measure => simp [intOf]; omega
            · have d2n : decide (t < l) = false := decide_eq_false h1
              have d2 : decide ((t : Int) < (l : Int)) = false := decide_eq_false (by omega)
              clear hS hlq h1 hq1 hq2 ht
              go_wp2_with fail
              go_roundw
              case rel => exact ⟨j + 1, by omega, by go_num, by rw [if_pos (Nat.lt_succ_self _), ← HS.out, FIN.out], BQ3⟩
              case measure => simp [intOf]; omega
      · have e1 : (a == s) = false := beq_eq_false_iff_ne.2 (fun e => hq (hJk.1 e))
        have HI : Hid ((if j < k then getS u s x L else []) = if j < k + 1 then getS u s x L else []) := Lib.hid (by
          by_cases h1 : j < k
          · rw [if_pos h1, if_pos (by omega)]
          · rw [if_neg h1, if_neg (by omega)])
        clear hJk hq
        generalize (if j < k then getS u s x L else []) = S at HI ⊢
        go_wp2_with fail
        go_roundw
        case rel => exact ⟨k + 1, by omega, by go_num, by rw [HI.out], BR⟩
        case measure => simp [intOf]; omega
    · obtain rfl : k = l := by omega
      have d1 : decide ((k : Int) < (k : Int)) = false := by simp
      have HI : Hid ((if j < k then getS u s x L else []) = getS u s x L) := Lib.hid (by
        by_cases h1 : j < k
        · rw [if_pos h1]
        · rw [if_neg h1, HG.out, List.drop_eq_nil_of_le (by rw [← HLL.out]; omega), List.take_nil])
      clear hlt
      obtain ⟨S, hS⟩ : ∃ S, getS u s x L = S := ⟨_, rfl⟩
      rw [HI.out, hS]
      have HS := Lib.hid hS
      clear hS HI
      go_wp2_with fail
      go_ret
      exact ⟨by rw [HS.out]; rfl, BWR.out⟩
end Go.Proofs.Ytcnongkkmjahfaa
