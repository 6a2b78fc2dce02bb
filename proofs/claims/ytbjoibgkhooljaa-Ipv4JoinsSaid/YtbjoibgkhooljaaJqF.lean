/-
  Ipv4Joins: whatever pieces come, and however time goes: what is told is the document's. Conditions: more than 100 acts, or more than 60000 bytes, are not asked about, as the statement says.
-/
import Derived.Test.YtbjoibgkhooljaaJqD
import Derived.ProofKit
import Derived.OpenShut
import Derived.ShutString
import Derived.ChangeOld
import Derived.Below
namespace Go.Proofs.Ytbjoibgkhooljaa.ijo
open Go.ChangeShapes Go.WideShapes Go.ChangeAt Go.RowKit
open Go.ChangeMaps (open_string shut_string)
set_option linter.unusedVariables false

set_option maxRecDepth 100000 in
set_option maxHeartbeats 4000000 in
theorem walk_out (a0 : Int) (a1 : Option Addr) (len1 cap1 : Nat) (l1 : List Act8) (w : World) (w1 : IsActs8 w a1 len1 l1) (hB : (decide (100 < len1) || decide (60000 < gN l1 (min len1 101))) = true) :
    Calls Try.prog 3 #[.int .i64 a0, .slice a1 len1 cap1] w fun e w' => e = .returned (.bool true) ∧ Below w.heap.size w w' := by
  have W1 := Lib.hid w1
  have HB := Lib.hid hB.symm
  clear w1 hB
  go_enter Try.func3, Try.ntmps3
  go_wp2_with fail
  refine (awakeD _).mono ?_
  rintro e v1 ⟨rfl, b1⟩
  have B1 := Lib.hid b1
  clear b1
  go_wp2_with fail
  refine (great8 _ a1 len1 cap1 l1 (W1.out.below B1.out) true HB.out).mono ?_
  rintro e v2 ⟨rfl, rfl⟩
  go_wp2_with fail
  go_ret
  exact ⟨rfl, B1.out⟩
set_option maxRecDepth 100000 in
set_option maxHeartbeats 4000000 in
theorem walk_bad (a0 : Int) (a1 : Option Addr) (len1 cap1 : Nat) (l1 : List Act8) (w : World) (w1 : IsActs8 w a1 len1 l1) (hB : (decide (100 < len1) || decide (60000 < gN l1 (min len1 101))) = false) (hbad : a0 < 1 ∨ 1048576 < a0) :
    Calls Try.prog 3 #[.int .i64 a0, .slice a1 len1 cap1] w fun e w' => e = .returned (.bool true) ∧ Below w.heap.size w w' := by
  have W1 := Lib.hid w1
  have HB := Lib.hid hB.symm
  have hN := Lib.hid (fun (w : World) => jnew_bad w a0 hbad)
  clear w1 hB
  rcases hbad with h | h
  case' inr => have h1 : ¬ a0 < 1 := by omega
  all_goals
    go_enter Try.func3, Try.ntmps3
    go_wp2_with fail
    refine (awakeD _).mono ?_
    rintro e v1 ⟨rfl, b1⟩
    have B1 := Lib.hid b1
    clear b1
    go_wp2_with fail
    refine (great8 _ a1 len1 cap1 l1 (W1.out.below B1.out) false HB.out).mono ?_
    rintro e v2 ⟨rfl, rfl⟩
    go_wp2_with fail
    refine (hN.out _).mono ?_
    rintro e v3 ⟨rfl, rfl⟩
    go_wp2_with fail
    go_ret
    exact ⟨rfl, B1.out⟩
set_option maxRecDepth 100000 in
set_option maxHeartbeats 20000000 in
theorem walk_main (a0 : Int) (a1 : Option Addr) (len1 cap1 : Nat) (l1 : List Act8) (w : World) (w1 : IsActs8 w a1 len1 l1) (hB : (decide (100 < len1) || decide (60000 < gN l1 (min len1 101))) = false) (hlo : 1 ≤ a0) (hhi : a0 ≤ 1048576) :
    Calls Try.prog 3 #[.int .i64 a0, .slice a1 len1 cap1] w fun e w' => e = .returned (.bool true) ∧ Below w.heap.size w w' := by
  have W1 := Lib.hid w1
  have HB := Lib.hid hB.symm
  rw [Bool.or_eq_false_iff, decide_eq_false_iff_not, decide_eq_false_iff_not] at hB
  obtain ⟨hB1, hB2⟩ := hB
  have hlen : len1 ≤ 100 := by omega
  rw [Nat.min_eq_left (by omega), ← w1.1] at hB2
  have HEACH := Lib.hid (gN_each (l := l1) (by omega))
  have hg1 : ¬ a0 < 1 := by omega
  have hg2 : ¬ 1048576 < a0 := by omega
  have HLH := Lib.hid (And.intro hlo hhi)
  clear w1 hB1 hB2 hlo hhi
  go_enter Try.func3, Try.ntmps3
  go_wp2_with fail
  refine (awakeD _).mono ?_
  rintro e v1 ⟨rfl, b1⟩
  have B1 := Lib.hid b1
  clear b1
  go_wp2_with fail
  refine (great8 _ a1 len1 cap1 l1 (W1.out.below B1.out) false HB.out).mono ?_
  rintro e v2 ⟨rfl, rfl⟩
  go_wp2_with fail
  refine (progNew B1.out a0 HLH.out.1 HLH.out.2).mono ?_
  rintro e v3 ⟨g, rfl, kk⟩
  have DN := Lib.hid (kk.alloc (.cells #[.int .i64 a0, .slice none 0 0] 31))
  have HB7 : Hid (w.heap.size ≤ v3.heap.size) := Lib.hid kk.bl.size
  clear kk B1 HB
  go_upto_region 11 with fail
  obtain ⟨n7, hn⟩ : ∃ n, n = v3.heap.size := ⟨_, rfl⟩
  generalize v3.alloc _ = v4 at DN ⊢
  rw [← hn] at DN HB7 ⊢
  clear hn hg1 hg2
  go_wp2_with fail
  go_loopw [8] (fun iv wr => ∃ (K : Nat) (dv : Value) (Ld : List Dq), K ≤ len1 ∧ iv = .int .i64 K ∧ Hid (JD w wr [(n7, .cells #[.int .i64 a0, dv] 31 (0, 0))] g a0 (Ld.map cvD) dv Ld) ∧ Hid (IQ K Ld)) (fun iv _ => len1 - (intOf iv).toNat)
  case atStart => exact ⟨0, .slice none 0 0, [], Nat.zero_le _, rfl, DN, Lib.hid ⟨by decide, fun d hd => (by cases hd), fun d hd => (by cases hd), fun d hd => (by cases hd), fun d hd => (by cases hd)⟩⟩
  case round =>
    obtain ⟨K, dv, Ld, hk, rfl, D0, HI⟩ := hrel
    clear DN
    rename World => W0
    by_cases hlt : K < len1
    · have hd : decide ((K : Int) < (len1 : Int)) = true := decide_eq_true (by omega)
      obtain ⟨b, o, c, rfl, hc, hbl, hcd, hrg, hok⟩ := (W1.out.below D0.out.bl).at_ K hlt
      obtain ⟨b', o', c', ee, hc', hbl', hcd', hrg', hok'⟩ := W1.out.at_ K hlt
      have e3 : c' = c := by rw [hc] at hc'; exact (Option.some.inj hc').symm
      injection ee with ee
      injection ee with e1 e2
      subst e1 e2 e3
      obtain ⟨d, f⟩ := c'
      have HZ : Hid (f.da.size ≤ 140737488355328) := Lib.hid (by have := HEACH.out ⟨d, f⟩ (List.mem_of_getElem? hc); show f.da.size ≤ _; have e : (⟨d, f⟩ : Act8).p.da.size = f.da.size := rfl; omega)
      have HF : Hid f.ok := Lib.hid hok
      have HRG : Hid (W0.rangeAt b (o + K * 15 + 1) (pdC f).toList) := Lib.hid hrg
      have HRW : Hid (w.rangeAt b (o + K * 15 + 1) (pdC f).toList) := Lib.hid hrg'
      have hcd0 : W0.cell? ⟨b, o + K * 15, none⟩ = some (.int .i64 d) := hcd
      have HK : Hid (K ≤ 10000) := Lib.hid (by omega)
      have HL5 : Hid ((Ld.map cvD).length ≤ 4) := Lib.hid (by rw [List.length_map]; exact HI.out.le)
      have HFI : Hid (FineL 100000 (Ld.map cvD)) := Lib.hid (HI.out.fine (by omega))
      have q1 : (0 : Int) ≤ (K : Int) := by omega
      have q2 : (K : Int) < (len1 : Int) := by omega
      have q3 := hd
      obtain ⟨d0, hd0⟩ : ∃ e : Bool, (d == 0) = e := ⟨_, rfl⟩
      obtain ⟨d1, hd1⟩ : ∃ e : Bool, (d == 1) = e := ⟨_, rfl⟩
      clear hc hc' hbl hbl' hcd hcd' hrg hrg' hok hok'
      go_upto_region 15 with fail
      clear hcd0
      cases d0 with
      | true =>
        obtain ⟨hs1, hs2⟩ := put_same HI.out f
        obtain ⟨P, B, Ld2, hP⟩ : ∃ P B L, putD f Ld = (P, B, L) := ⟨_, _, _, rfl⟩
        rw [hP] at hs1 hs2
        have HP := Lib.hid hP
        have HQ : Hid (putA f (Ld.map cvD) = (P, B, Ld2.map cvD)) := Lib.hid hs1
        have HI2 : Hid (IQ (K + 1) Ld2) := Lib.hid hs2
        have HPO : Hid P.ok := Lib.hid (by have := putD_ok HI.out f HF.out; rw [hP] at this; exact this)
        clear hs1 hs2 hP
        go_upto_region 16 with fail
        go_cut [9, 10, 11] from 53 to 62 (fun p9 p10 b11 wx => ∃ n9 n10 dv2, p9 = .pointer (some ⟨n9, 0, none⟩) ∧ p10 = .pointer (some ⟨n10, 0, none⟩) ∧ b11 = .bool B ∧ Hid (JD w wx [(n10, .cells (pdC P) 35 (0, 0)), (n9, .cells #[.int .i64 a0, dv2] 31 (0, 0)), (n7, .cells #[.int .i64 a0, dv] 31 (0, 0))] g a0 (Ld.map cvD) dv2 Ld2) ∧ n10 ≠ n9 ∧ n10 ≠ n7 ∧ n9 ≠ n7)
        case first =>
          have HBL : Hid (w.heap.size ≤ W0.heap.size) := Lib.hid D0.out.bl.size
          refine wp_region_noPanic ?_
          refine region_heldE (S := fun V => Below W0.heap.size W0 V) (by kernel_rfl) (fun V d => d.below) (fun V d hS => ?_)
          have DV := Lib.hid (D0.out.grow hS)
          clear d
          refine wpAnyH_take (i := 0) (oi := ⟨some 53, Op.load 31 (Operand.tmp 7), _, _, _, none⟩) (v := (.agg #[.int .i64 a0, dv])) rfl (by kernel_rfl) (by kernel_rfl) (by kernel_rfl) (fun _ _ _ h => h) (yields_rj (by kernel_rfl) (Operand.tmp 7) (by kernel_rfl) n7 (by kernel_rfl) a0 dv (fun _ h => (D0.out.grow h).get (.head _))) hS ?_
          simp only [Act.put]
          refine wpAnyH_take (i := 1) (oi := ⟨some 54, Op.move (Operand.tmp 1), _, _, _, none⟩) (v := (.slice (some ⟨b, o, none⟩) len1 cap1)) rfl (by kernel_rfl) (by kernel_rfl) (by kernel_rfl) (fun _ _ _ h => h) (Or.inl ⟨by rfl, fun w' h' => ?_⟩) hS ?_
          · clear h'
            go_simp
          simp only [Act.put]
          refine wpAnyH_take (i := 2) (oi := ⟨some 55, Op.move (Operand.tmp 8), _, _, _, none⟩) (v := (.int .i64 (K : Int))) rfl (by kernel_rfl) (by kernel_rfl) (by kernel_rfl) (fun _ _ _ h => h) (Or.inl ⟨by rfl, fun w' h' => ?_⟩) hS ?_
          · clear h'
            go_simp
          simp only [Act.put]
          refine wpAnyH_take (i := 3) (oi := ⟨some 56, Op.indexAddr 22 (Operand.tmp 54) (Operand.tmp 55), _, _, _, none⟩) (v := (.pointer (some ⟨b, o + K * 15, none⟩))) rfl (by kernel_rfl) (by kernel_rfl) (by kernel_rfl) (fun _ _ _ h => h) (Or.inl ⟨by rfl, fun w' h' => ?_⟩) hS ?_
          · have c0 := q1
            have c1 := q2
            have c2 := q3
            clear h'
            go_simp
          simp only [Act.put]
          refine wpAnyH_take (i := 4) (oi := ⟨some 57, Op.fieldAddr 37 (Operand.tmp 56) 1, _, _, _, none⟩) (v := (.pointer (some ⟨b, o + K * 15 + 1, none⟩))) rfl (by kernel_rfl) (by kernel_rfl) (by kernel_rfl) (fun _ _ _ h => h) (Or.inl ⟨by rfl, fun w' h' => ?_⟩) hS ?_
          · clear h'
            go_simp
          simp only [Act.put]
          refine wpAnyH_take (i := 5) (oi := ⟨some 58, Op.load 35 (Operand.tmp 57), _, _, _, none⟩) (v := (.agg (pdC f))) rfl (by kernel_rfl) (by kernel_rfl) (by kernel_rfl) (fun _ _ _ h => h) (yields_mid (by kernel_rfl) 35 (Operand.tmp 57) (by kernel_rfl) b (o + K * 15 + 1) (by kernel_rfl) (pdC f) _ (fun _ h => rangeAt_below HRG.out h) Try.underlying35 rfl (by kernel_rfl)) hS ?_
          simp only [Act.put]
          refine wpAnyH_ready (rs := [6, 11, 12]) (by kernel_rfl) (by simp) ?_
          refine AllReadyH.cons rfl (fun K hK => ?_) (AllReadyH.cons rfl (fun K hK => ?_) (AllReadyH.cons rfl (fun K hK => ?_) AllReadyH.nil))
          · go_simp
            refine (docPut DV.out HI.out HK.out f HZ.out HF.out P B Ld2 HP.out).mono ?_
            rintro e v1 ⟨dv2, rfl, kk, bb⟩
            have S1 := hS.trans (bb.mono hS.size)
            have D1 := Lib.hid kk
            clear kk bb DV
            go_simp
            refine hK.out _ _ S1 (fun _ => ?_)
            clear hK K
            refine wpAnyH_take (i := 7) (oi := ⟨some 52, Op.move (Operand.tmp 59), _, _, _, none⟩) (v := (.tuple #[.agg #[.int .i64 a0, dv2], .agg (pdC P), .bool B])) rfl (by kernel_rfl) (by kernel_rfl) (by kernel_rfl) (fun _ _ _ h => h) (Or.inl ⟨by rfl, fun w' h' => ?_⟩) S1 ?_
            · clear h'
              go_simp
            simp only [Act.put]
            refine wpAnyH_take (i := 8) (oi := ⟨some 60, Op.extract (Operand.tmp 52) 0, _, _, _, none⟩) (v := (.agg #[.int .i64 a0, dv2])) rfl (by kernel_rfl) (by kernel_rfl) (by kernel_rfl) (fun _ _ _ h => h) (Or.inl ⟨by rfl, fun w' h' => ?_⟩) S1 ?_
            · clear h'
              go_simp
            simp only [Act.put]
            refine wpAnyH_take (i := 9) (oi := ⟨some 61, Op.extract (Operand.tmp 52) 1, _, _, _, none⟩) (v := (.agg (pdC P))) rfl (by kernel_rfl) (by kernel_rfl) (by kernel_rfl) (fun _ _ _ h => h) (Or.inl ⟨by rfl, fun w' h' => ?_⟩) S1 ?_
            · clear h'
              go_simp
            simp only [Act.put]
            refine wpAnyH_take (i := 10) (oi := ⟨some 62, Op.extract (Operand.tmp 52) 2, _, _, _, none⟩) (v := (.bool B)) rfl (by kernel_rfl) (by kernel_rfl) (by kernel_rfl) (fun _ _ _ h => h) (Or.inl ⟨by rfl, fun w' h' => ?_⟩) S1 ?_
            · clear h'
              go_simp
            simp only [Act.put]
            refine wpAnyH_ready (rs := [11, 12]) (by kernel_rfl) (by simp) ?_
            refine AllReadyH.cons rfl (fun K hK => ?_) (AllReadyH.cons rfl (fun K hK => ?_) AllReadyH.nil)
            · obtain ⟨n9, hn9⟩ : ∃ x, x = v1.heap.size := ⟨_, rfl⟩
              have ne_n9_n7 : n7 ≠ n9 := by have := blk_lt (D1.out.get (.head _)); omega
              have ln9 : W0.heap.size ≤ n9 := by rw [hn9]; exact S1.size
              have D2 := Lib.hid (D1.out.alloc (.cells #[.int .i64 0, .slice none 0 0] 31))
              have S2 := S1.alloc S1.size (.cells #[.int .i64 0, .slice none 0 0] 31)
              go_simp
              rw [← hn9] at D2
              rw [← hn9]
              generalize v1.alloc _ = v2 at D2 S2 ⊢
              clear hn9 D1
              refine hK.out _ _ S2 (fun _ => ?_)
              clear hK K
              refine wpAnyH_ready (rs := [12]) (by kernel_rfl) (by simp) ?_
              refine AllReadyH.cons rfl (fun K hK => ?_) AllReadyH.nil
              obtain ⟨n10, hn10⟩ : ∃ x, x = v2.heap.size := ⟨_, rfl⟩
              have ne_n10_n9 : n9 ≠ n10 := by have := blk_lt (D2.out.get (.head _)); omega
              have ne_n10_n7 : n7 ≠ n10 := by have := blk_lt (D2.out.get (.tail _ (.head _))); omega
              have ln10 : W0.heap.size ≤ n10 := by rw [hn10]; exact S2.size
              have D3 := Lib.hid (D2.out.alloc (.cells #[.int .i64 0, .int .u8 0, .int .u8 0, .int .u8 0, .int .u8 0, .int .u8 0, .int .u8 0, .int .u8 0, .int .u8 0, .int .i64 0, .int .i64 0, .int .i64 0, .bool false, .string ⟨#[]⟩] 35))
              have S3 := S2.alloc S2.size (.cells #[.int .i64 0, .int .u8 0, .int .u8 0, .int .u8 0, .int .u8 0, .int .u8 0, .int .u8 0, .int .u8 0, .int .u8 0, .int .i64 0, .int .i64 0, .int .i64 0, .bool false, .string ⟨#[]⟩] 35)
              go_simp
              rw [← hn10] at D3
              rw [← hn10]
              generalize v2.alloc _ = v3 at D3 S3 ⊢
              clear hn10 D2
              refine hK.out _ _ S3 (fun _ => ?_)
              clear hK K
              refine wpAnyH_ready (rs := [13]) (by kernel_rfl) (by simp) ?_
              refine AllReadyH.cons rfl (fun K hK => ?_) AllReadyH.nil
              have E4 := D3.out.drop (F' := [(n9, .cells #[.int .i64 0, .slice none 0 0] 31 (0, 0)), (n10, .cells #[.int .i64 0, .int .u8 0, .int .u8 0, .int .u8 0, .int .u8 0, .int .u8 0, .int .u8 0, .int .u8 0, .int .u8 0, .int .i64 0, .int .i64 0, .int .i64 0, .bool false, .string ⟨#[]⟩] 35 (0, 0)), (n7, .cells #[.int .i64 a0, dv] 31 (0, 0))]) (fun q hq => by simp only [List.mem_cons, List.not_mem_nil, or_false] at hq ⊢; rcases hq with h | h | h <;> simp [h])
              have hst := rj_put (x := .int .i64 a0) (y := dv2) (E4.get (.head _)) rfl (by obtain ⟨pp, cc, ee⟩ := E4.shape; exact slice_one ee)
              have D4 := Lib.hid (E4.put (ds := #[.int .i64 a0, dv2]) (Nat.le_trans HBL.out ln9) (fun q hq => by simp only [List.mem_cons, List.not_mem_nil, or_false] at hq; rcases hq with h | h <;> rw [h] <;> omega))
              have S4 := below_setRow S3 ln9 #[.int .i64 a0, dv2]
              refine upon_store0 31 _ _ rfl rfl (.agg #[.int .i64 a0, dv2]) n9 rfl rfl hst ?_
              clear hst E4 D3
              refine hK.out _ _ S4 (fun _ => ?_)
              clear hK K
              refine wpAnyH_ready (rs := [14]) (by kernel_rfl) (by simp) ?_
              refine AllReadyH.cons rfl (fun K hK => ?_) AllReadyH.nil
              have E5 := D4.out.drop (F' := [(n10, .cells #[.int .i64 0, .int .u8 0, .int .u8 0, .int .u8 0, .int .u8 0, .int .u8 0, .int .u8 0, .int .u8 0, .int .u8 0, .int .i64 0, .int .i64 0, .int .i64 0, .bool false, .string ⟨#[]⟩] 35 (0, 0)), (n9, .cells #[.int .i64 a0, dv2] 31 (0, 0)), (n7, .cells #[.int .i64 a0, dv] 31 (0, 0))]) (fun q hq => by simp only [List.mem_cons, List.not_mem_nil, or_false] at hq ⊢; rcases hq with h | h | h <;> simp [h])
              have hst := pd_putJ (f := P) (E5.get (.head _)) rfl
              have D5 := Lib.hid (E5.put (ds := (pdC P)) (Nat.le_trans HBL.out ln10) (fun q hq => by simp only [List.mem_cons, List.not_mem_nil, or_false] at hq; rcases hq with h | h <;> rw [h] <;> omega))
              have S5 := below_setRow S4 ln10 (pdC P)
              refine upon_store0 35 _ _ rfl rfl (.agg (pdC P)) n10 rfl rfl hst ?_
              clear hst E5 D4
              refine hK.out _ _ S5 (fun _ => ?_)
              clear hK K
              refine wpAnyH_take (i := 15) (oi := ⟨some 11, Op.assign (Operand.tmp 62), _, _, _, none⟩) (v := (.bool B)) rfl (by kernel_rfl) (by kernel_rfl) (by kernel_rfl) (fun _ _ _ h => h) (Or.inl ⟨by rfl, fun w' h' => ?_⟩) S5 ?_
              · clear h'
                go_simp
              simp only [Act.put]
              refine wpAnyH_done (by kernel_rfl) (NoPanic.normal ?_) _
              go_wp2_with fail
              go_meet
              case rel => exact ⟨n9, n10, dv2, rfl, rfl, rfl, D5, by omega, by omega, by omega⟩
            · obtain ⟨n10, hn10⟩ : ∃ x, x = v1.heap.size := ⟨_, rfl⟩
              have ne_n10_n7 : n7 ≠ n10 := by have := blk_lt (D1.out.get (.head _)); omega
              have ln10 : W0.heap.size ≤ n10 := by rw [hn10]; exact S1.size
              have D2 := Lib.hid (D1.out.alloc (.cells #[.int .i64 0, .int .u8 0, .int .u8 0, .int .u8 0, .int .u8 0, .int .u8 0, .int .u8 0, .int .u8 0, .int .u8 0, .int .i64 0, .int .i64 0, .int .i64 0, .bool false, .string ⟨#[]⟩] 35))
              have S2 := S1.alloc S1.size (.cells #[.int .i64 0, .int .u8 0, .int .u8 0, .int .u8 0, .int .u8 0, .int .u8 0, .int .u8 0, .int .u8 0, .int .u8 0, .int .i64 0, .int .i64 0, .int .i64 0, .bool false, .string ⟨#[]⟩] 35)
              go_simp
              rw [← hn10] at D2
              rw [← hn10]
              generalize v1.alloc _ = v2 at D2 S2 ⊢
              clear hn10 D1
              refine hK.out _ _ S2 (fun _ => ?_)
              clear hK K
              refine wpAnyH_ready (rs := [11]) (by kernel_rfl) (by simp) ?_
              refine AllReadyH.cons rfl (fun K hK => ?_) AllReadyH.nil
              obtain ⟨n9, hn9⟩ : ∃ x, x = v2.heap.size := ⟨_, rfl⟩
              have ne_n9_n10 : n10 ≠ n9 := by have := blk_lt (D2.out.get (.head _)); omega
              have ne_n9_n7 : n7 ≠ n9 := by have := blk_lt (D2.out.get (.tail _ (.head _))); omega
              have ln9 : W0.heap.size ≤ n9 := by rw [hn9]; exact S2.size
              have D3 := Lib.hid (D2.out.alloc (.cells #[.int .i64 0, .slice none 0 0] 31))
              have S3 := S2.alloc S2.size (.cells #[.int .i64 0, .slice none 0 0] 31)
              go_simp
              rw [← hn9] at D3
              rw [← hn9]
              generalize v2.alloc _ = v3 at D3 S3 ⊢
              clear hn9 D2
              refine hK.out _ _ S3 (fun _ => ?_)
              clear hK K
              refine wpAnyH_ready (rs := [13]) (by kernel_rfl) (by simp) ?_
              refine AllReadyH.cons rfl (fun K hK => ?_) AllReadyH.nil
              have E4 := D3.out.drop (F' := [(n9, .cells #[.int .i64 0, .slice none 0 0] 31 (0, 0)), (n10, .cells #[.int .i64 0, .int .u8 0, .int .u8 0, .int .u8 0, .int .u8 0, .int .u8 0, .int .u8 0, .int .u8 0, .int .u8 0, .int .i64 0, .int .i64 0, .int .i64 0, .bool false, .string ⟨#[]⟩] 35 (0, 0)), (n7, .cells #[.int .i64 a0, dv] 31 (0, 0))]) (fun q hq => by simp only [List.mem_cons, List.not_mem_nil, or_false] at hq ⊢; rcases hq with h | h | h <;> simp [h])
              have hst := rj_put (x := .int .i64 a0) (y := dv2) (E4.get (.head _)) rfl (by obtain ⟨pp, cc, ee⟩ := E4.shape; exact slice_one ee)
              have D4 := Lib.hid (E4.put (ds := #[.int .i64 a0, dv2]) (Nat.le_trans HBL.out ln9) (fun q hq => by simp only [List.mem_cons, List.not_mem_nil, or_false] at hq; rcases hq with h | h <;> rw [h] <;> omega))
              have S4 := below_setRow S3 ln9 #[.int .i64 a0, dv2]
              refine upon_store0 31 _ _ rfl rfl (.agg #[.int .i64 a0, dv2]) n9 rfl rfl hst ?_
              clear hst E4 D3
              refine hK.out _ _ S4 (fun _ => ?_)
              clear hK K
              refine wpAnyH_ready (rs := [14]) (by kernel_rfl) (by simp) ?_
              refine AllReadyH.cons rfl (fun K hK => ?_) AllReadyH.nil
              have E5 := D4.out.drop (F' := [(n10, .cells #[.int .i64 0, .int .u8 0, .int .u8 0, .int .u8 0, .int .u8 0, .int .u8 0, .int .u8 0, .int .u8 0, .int .u8 0, .int .i64 0, .int .i64 0, .int .i64 0, .bool false, .string ⟨#[]⟩] 35 (0, 0)), (n9, .cells #[.int .i64 a0, dv2] 31 (0, 0)), (n7, .cells #[.int .i64 a0, dv] 31 (0, 0))]) (fun q hq => by simp only [List.mem_cons, List.not_mem_nil, or_false] at hq ⊢; rcases hq with h | h | h <;> simp [h])
              have hst := pd_putJ (f := P) (E5.get (.head _)) rfl
              have D5 := Lib.hid (E5.put (ds := (pdC P)) (Nat.le_trans HBL.out ln10) (fun q hq => by simp only [List.mem_cons, List.not_mem_nil, or_false] at hq; rcases hq with h | h <;> rw [h] <;> omega))
              have S5 := below_setRow S4 ln10 (pdC P)
              refine upon_store0 35 _ _ rfl rfl (.agg (pdC P)) n10 rfl rfl hst ?_
              clear hst E5 D4
              refine hK.out _ _ S5 (fun _ => ?_)
              clear hK K
              refine wpAnyH_take (i := 15) (oi := ⟨some 11, Op.assign (Operand.tmp 62), _, _, _, none⟩) (v := (.bool B)) rfl (by kernel_rfl) (by kernel_rfl) (by kernel_rfl) (fun _ _ _ h => h) (Or.inl ⟨by rfl, fun w' h' => ?_⟩) S5 ?_
              · clear h'
                go_simp
              simp only [Act.put]
              refine wpAnyH_done (by kernel_rfl) (NoPanic.normal ?_) _
              go_wp2_with fail
              go_meet
              case rel => exact ⟨n9, n10, dv2, rfl, rfl, rfl, D5, by omega, by omega, by omega⟩
          · obtain ⟨n9, hn9⟩ : ∃ x, x = V.heap.size := ⟨_, rfl⟩
            have ne_n9_n7 : n7 ≠ n9 := by have := blk_lt (DV.out.get (.head _)); omega
            have ln9 : W0.heap.size ≤ n9 := by rw [hn9]; exact hS.size
            have D1 := Lib.hid (DV.out.alloc (.cells #[.int .i64 0, .slice none 0 0] 31))
            have S1 := hS.alloc hS.size (.cells #[.int .i64 0, .slice none 0 0] 31)
            go_simp
            rw [← hn9] at D1
            rw [← hn9]
            generalize V.alloc _ = v1 at D1 S1 ⊢
            clear hn9 DV
            refine hK.out _ _ S1 (fun _ => ?_)
            clear hK K
            refine wpAnyH_ready (rs := [6, 12]) (by kernel_rfl) (by simp) ?_
            refine AllReadyH.cons rfl (fun K hK => ?_) (AllReadyH.cons rfl (fun K hK => ?_) AllReadyH.nil)
            · go_simp
              refine (docPut D1.out HI.out HK.out f HZ.out HF.out P B Ld2 HP.out).mono ?_
              rintro e v2 ⟨dv2, rfl, kk, bb⟩
              have S2 := S1.trans (bb.mono S1.size)
              have D2 := Lib.hid kk
              clear kk bb D1
              go_simp
              refine hK.out _ _ S2 (fun _ => ?_)
              clear hK K
              refine wpAnyH_take (i := 7) (oi := ⟨some 52, Op.move (Operand.tmp 59), _, _, _, none⟩) (v := (.tuple #[.agg #[.int .i64 a0, dv2], .agg (pdC P), .bool B])) rfl (by kernel_rfl) (by kernel_rfl) (by kernel_rfl) (fun _ _ _ h => h) (Or.inl ⟨by rfl, fun w' h' => ?_⟩) S2 ?_
              · clear h'
                go_simp
              simp only [Act.put]
              refine wpAnyH_take (i := 8) (oi := ⟨some 60, Op.extract (Operand.tmp 52) 0, _, _, _, none⟩) (v := (.agg #[.int .i64 a0, dv2])) rfl (by kernel_rfl) (by kernel_rfl) (by kernel_rfl) (fun _ _ _ h => h) (Or.inl ⟨by rfl, fun w' h' => ?_⟩) S2 ?_
              · clear h'
                go_simp
              simp only [Act.put]
              refine wpAnyH_take (i := 9) (oi := ⟨some 61, Op.extract (Operand.tmp 52) 1, _, _, _, none⟩) (v := (.agg (pdC P))) rfl (by kernel_rfl) (by kernel_rfl) (by kernel_rfl) (fun _ _ _ h => h) (Or.inl ⟨by rfl, fun w' h' => ?_⟩) S2 ?_
              · clear h'
                go_simp
              simp only [Act.put]
              refine wpAnyH_take (i := 10) (oi := ⟨some 62, Op.extract (Operand.tmp 52) 2, _, _, _, none⟩) (v := (.bool B)) rfl (by kernel_rfl) (by kernel_rfl) (by kernel_rfl) (fun _ _ _ h => h) (Or.inl ⟨by rfl, fun w' h' => ?_⟩) S2 ?_
              · clear h'
                go_simp
              simp only [Act.put]
              refine wpAnyH_ready (rs := [12]) (by kernel_rfl) (by simp) ?_
              refine AllReadyH.cons rfl (fun K hK => ?_) AllReadyH.nil
              obtain ⟨n10, hn10⟩ : ∃ x, x = v2.heap.size := ⟨_, rfl⟩
              have ne_n10_n9 : n9 ≠ n10 := by have := blk_lt (D2.out.get (.head _)); omega
              have ne_n10_n7 : n7 ≠ n10 := by have := blk_lt (D2.out.get (.tail _ (.head _))); omega
              have ln10 : W0.heap.size ≤ n10 := by rw [hn10]; exact S2.size
              have D3 := Lib.hid (D2.out.alloc (.cells #[.int .i64 0, .int .u8 0, .int .u8 0, .int .u8 0, .int .u8 0, .int .u8 0, .int .u8 0, .int .u8 0, .int .u8 0, .int .i64 0, .int .i64 0, .int .i64 0, .bool false, .string ⟨#[]⟩] 35))
              have S3 := S2.alloc S2.size (.cells #[.int .i64 0, .int .u8 0, .int .u8 0, .int .u8 0, .int .u8 0, .int .u8 0, .int .u8 0, .int .u8 0, .int .u8 0, .int .i64 0, .int .i64 0, .int .i64 0, .bool false, .string ⟨#[]⟩] 35)
              go_simp
              rw [← hn10] at D3
              rw [← hn10]
              generalize v2.alloc _ = v3 at D3 S3 ⊢
              clear hn10 D2
              refine hK.out _ _ S3 (fun _ => ?_)
              clear hK K
              refine wpAnyH_ready (rs := [13]) (by kernel_rfl) (by simp) ?_
              refine AllReadyH.cons rfl (fun K hK => ?_) AllReadyH.nil
              have E4 := D3.out.drop (F' := [(n9, .cells #[.int .i64 0, .slice none 0 0] 31 (0, 0)), (n10, .cells #[.int .i64 0, .int .u8 0, .int .u8 0, .int .u8 0, .int .u8 0, .int .u8 0, .int .u8 0, .int .u8 0, .int .u8 0, .int .i64 0, .int .i64 0, .int .i64 0, .bool false, .string ⟨#[]⟩] 35 (0, 0)), (n7, .cells #[.int .i64 a0, dv] 31 (0, 0))]) (fun q hq => by simp only [List.mem_cons, List.not_mem_nil, or_false] at hq ⊢; rcases hq with h | h | h <;> simp [h])
              have hst := rj_put (x := .int .i64 a0) (y := dv2) (E4.get (.head _)) rfl (by obtain ⟨pp, cc, ee⟩ := E4.shape; exact slice_one ee)
              have D4 := Lib.hid (E4.put (ds := #[.int .i64 a0, dv2]) (Nat.le_trans HBL.out ln9) (fun q hq => by simp only [List.mem_cons, List.not_mem_nil, or_false] at hq; rcases hq with h | h <;> rw [h] <;> omega))
              have S4 := below_setRow S3 ln9 #[.int .i64 a0, dv2]
              refine upon_store0 31 _ _ rfl rfl (.agg #[.int .i64 a0, dv2]) n9 rfl rfl hst ?_
              clear hst E4 D3
              refine hK.out _ _ S4 (fun _ => ?_)
              clear hK K
              refine wpAnyH_ready (rs := [14]) (by kernel_rfl) (by simp) ?_
              refine AllReadyH.cons rfl (fun K hK => ?_) AllReadyH.nil
              have E5 := D4.out.drop (F' := [(n10, .cells #[.int .i64 0, .int .u8 0, .int .u8 0, .int .u8 0, .int .u8 0, .int .u8 0, .int .u8 0, .int .u8 0, .int .u8 0, .int .i64 0, .int .i64 0, .int .i64 0, .bool false, .string ⟨#[]⟩] 35 (0, 0)), (n9, .cells #[.int .i64 a0, dv2] 31 (0, 0)), (n7, .cells #[.int .i64 a0, dv] 31 (0, 0))]) (fun q hq => by simp only [List.mem_cons, List.not_mem_nil, or_false] at hq ⊢; rcases hq with h | h | h <;> simp [h])
              have hst := pd_putJ (f := P) (E5.get (.head _)) rfl
              have D5 := Lib.hid (E5.put (ds := (pdC P)) (Nat.le_trans HBL.out ln10) (fun q hq => by simp only [List.mem_cons, List.not_mem_nil, or_false] at hq; rcases hq with h | h <;> rw [h] <;> omega))
              have S5 := below_setRow S4 ln10 (pdC P)
              refine upon_store0 35 _ _ rfl rfl (.agg (pdC P)) n10 rfl rfl hst ?_
              clear hst E5 D4
              refine hK.out _ _ S5 (fun _ => ?_)
              clear hK K
              refine wpAnyH_take (i := 15) (oi := ⟨some 11, Op.assign (Operand.tmp 62), _, _, _, none⟩) (v := (.bool B)) rfl (by kernel_rfl) (by kernel_rfl) (by kernel_rfl) (fun _ _ _ h => h) (Or.inl ⟨by rfl, fun w' h' => ?_⟩) S5 ?_
              · clear h'
                go_simp
              simp only [Act.put]
              refine wpAnyH_done (by kernel_rfl) (NoPanic.normal ?_) _
              go_wp2_with fail
              go_meet
              case rel => exact ⟨n9, n10, dv2, rfl, rfl, rfl, D5, by omega, by omega, by omega⟩
            · obtain ⟨n10, hn10⟩ : ∃ x, x = v1.heap.size := ⟨_, rfl⟩
              have ne_n10_n9 : n9 ≠ n10 := by have := blk_lt (D1.out.get (.head _)); omega
              have ne_n10_n7 : n7 ≠ n10 := by have := blk_lt (D1.out.get (.tail _ (.head _))); omega
              have ln10 : W0.heap.size ≤ n10 := by rw [hn10]; exact S1.size
              have D2 := Lib.hid (D1.out.alloc (.cells #[.int .i64 0, .int .u8 0, .int .u8 0, .int .u8 0, .int .u8 0, .int .u8 0, .int .u8 0, .int .u8 0, .int .u8 0, .int .i64 0, .int .i64 0, .int .i64 0, .bool false, .string ⟨#[]⟩] 35))
              have S2 := S1.alloc S1.size (.cells #[.int .i64 0, .int .u8 0, .int .u8 0, .int .u8 0, .int .u8 0, .int .u8 0, .int .u8 0, .int .u8 0, .int .u8 0, .int .i64 0, .int .i64 0, .int .i64 0, .bool false, .string ⟨#[]⟩] 35)
              go_simp
              rw [← hn10] at D2
              rw [← hn10]
              generalize v1.alloc _ = v2 at D2 S2 ⊢
              clear hn10 D1
              refine hK.out _ _ S2 (fun _ => ?_)
              clear hK K
              refine wpAnyH_ready (rs := [6]) (by kernel_rfl) (by simp) ?_
              refine AllReadyH.cons rfl (fun K hK => ?_) AllReadyH.nil
              go_simp
              refine (docPut D2.out HI.out HK.out f HZ.out HF.out P B Ld2 HP.out).mono ?_
              rintro e v3 ⟨dv2, rfl, kk, bb⟩
              have S3 := S2.trans (bb.mono S2.size)
              have D3 := Lib.hid kk
              clear kk bb D2
              go_simp
              refine hK.out _ _ S3 (fun _ => ?_)
              clear hK K
              refine wpAnyH_take (i := 7) (oi := ⟨some 52, Op.move (Operand.tmp 59), _, _, _, none⟩) (v := (.tuple #[.agg #[.int .i64 a0, dv2], .agg (pdC P), .bool B])) rfl (by kernel_rfl) (by kernel_rfl) (by kernel_rfl) (fun _ _ _ h => h) (Or.inl ⟨by rfl, fun w' h' => ?_⟩) S3 ?_
              · clear h'
                go_simp
              simp only [Act.put]
              refine wpAnyH_take (i := 8) (oi := ⟨some 60, Op.extract (Operand.tmp 52) 0, _, _, _, none⟩) (v := (.agg #[.int .i64 a0, dv2])) rfl (by kernel_rfl) (by kernel_rfl) (by kernel_rfl) (fun _ _ _ h => h) (Or.inl ⟨by rfl, fun w' h' => ?_⟩) S3 ?_
              · clear h'
                go_simp
              simp only [Act.put]
              refine wpAnyH_take (i := 9) (oi := ⟨some 61, Op.extract (Operand.tmp 52) 1, _, _, _, none⟩) (v := (.agg (pdC P))) rfl (by kernel_rfl) (by kernel_rfl) (by kernel_rfl) (fun _ _ _ h => h) (Or.inl ⟨by rfl, fun w' h' => ?_⟩) S3 ?_
              · clear h'
                go_simp
              simp only [Act.put]
              refine wpAnyH_take (i := 10) (oi := ⟨some 62, Op.extract (Operand.tmp 52) 2, _, _, _, none⟩) (v := (.bool B)) rfl (by kernel_rfl) (by kernel_rfl) (by kernel_rfl) (fun _ _ _ h => h) (Or.inl ⟨by rfl, fun w' h' => ?_⟩) S3 ?_
              · clear h'
                go_simp
              simp only [Act.put]
              refine wpAnyH_ready (rs := [13]) (by kernel_rfl) (by simp) ?_
              refine AllReadyH.cons rfl (fun K hK => ?_) AllReadyH.nil
              simp only [List.setIfInBounds_toArray, List.set_cons_zero, List.set_cons_succ]
              have E4 := D3.out.drop (F' := [(n9, .cells #[.int .i64 0, .slice none 0 0] 31 (0, 0)), (n10, .cells #[.int .i64 0, .int .u8 0, .int .u8 0, .int .u8 0, .int .u8 0, .int .u8 0, .int .u8 0, .int .u8 0, .int .u8 0, .int .i64 0, .int .i64 0, .int .i64 0, .bool false, .string ⟨#[]⟩] 35 (0, 0)), (n7, .cells #[.int .i64 a0, dv] 31 (0, 0))]) (fun q hq => by simp only [List.mem_cons, List.not_mem_nil, or_false] at hq ⊢; rcases hq with h | h | h <;> simp [h])
              have hst := rj_put (x := .int .i64 a0) (y := dv2) (E4.get (.head _)) rfl (by obtain ⟨pp, cc, ee⟩ := E4.shape; exact slice_one ee)
              have D4 := Lib.hid (E4.put (ds := #[.int .i64 a0, dv2]) (Nat.le_trans HBL.out ln9) (fun q hq => by simp only [List.mem_cons, List.not_mem_nil, or_false] at hq; rcases hq with h | h <;> rw [h] <;> omega))
              have S4 := below_setRow S3 ln9 #[.int .i64 a0, dv2]
              refine upon_store0 31 _ _ rfl rfl (.agg #[.int .i64 a0, dv2]) n9 rfl rfl hst ?_
              clear hst E4 D3
              refine hK.out _ _ S4 (fun _ => ?_)
              clear hK K
              refine wpAnyH_ready (rs := [14]) (by kernel_rfl) (by simp) ?_
              refine AllReadyH.cons rfl (fun K hK => ?_) AllReadyH.nil
              have E5 := D4.out.drop (F' := [(n10, .cells #[.int .i64 0, .int .u8 0, .int .u8 0, .int .u8 0, .int .u8 0, .int .u8 0, .int .u8 0, .int .u8 0, .int .u8 0, .int .i64 0, .int .i64 0, .int .i64 0, .bool false, .string ⟨#[]⟩] 35 (0, 0)), (n9, .cells #[.int .i64 a0, dv2] 31 (0, 0)), (n7, .cells #[.int .i64 a0, dv] 31 (0, 0))]) (fun q hq => by simp only [List.mem_cons, List.not_mem_nil, or_false] at hq ⊢; rcases hq with h | h | h <;> simp [h])
              have hst := pd_putJ (f := P) (E5.get (.head _)) rfl
              have D5 := Lib.hid (E5.put (ds := (pdC P)) (Nat.le_trans HBL.out ln10) (fun q hq => by simp only [List.mem_cons, List.not_mem_nil, or_false] at hq; rcases hq with h | h <;> rw [h] <;> omega))
              have S5 := below_setRow S4 ln10 (pdC P)
              refine upon_store0 35 _ _ rfl rfl (.agg (pdC P)) n10 rfl rfl hst ?_
              clear hst E5 D4
              refine hK.out _ _ S5 (fun _ => ?_)
              clear hK K
              refine wpAnyH_take (i := 15) (oi := ⟨some 11, Op.assign (Operand.tmp 62), _, _, _, none⟩) (v := (.bool B)) rfl (by kernel_rfl) (by kernel_rfl) (by kernel_rfl) (fun _ _ _ h => h) (Or.inl ⟨by rfl, fun w' h' => ?_⟩) S5 ?_
              · clear h'
                go_simp
              simp only [Act.put]
              refine wpAnyH_done (by kernel_rfl) (NoPanic.normal ?_) _
              go_wp2_with fail
              go_meet
              case rel => exact ⟨n9, n10, dv2, rfl, rfl, rfl, D5, by omega, by omega, by omega⟩
          · obtain ⟨n10, hn10⟩ : ∃ x, x = V.heap.size := ⟨_, rfl⟩
            have ne_n10_n7 : n7 ≠ n10 := by have := blk_lt (DV.out.get (.head _)); omega
            have ln10 : W0.heap.size ≤ n10 := by rw [hn10]; exact hS.size
            have D1 := Lib.hid (DV.out.alloc (.cells #[.int .i64 0, .int .u8 0, .int .u8 0, .int .u8 0, .int .u8 0, .int .u8 0, .int .u8 0, .int .u8 0, .int .u8 0, .int .i64 0, .int .i64 0, .int .i64 0, .bool false, .string ⟨#[]⟩] 35))
            have S1 := hS.alloc hS.size (.cells #[.int .i64 0, .int .u8 0, .int .u8 0, .int .u8 0, .int .u8 0, .int .u8 0, .int .u8 0, .int .u8 0, .int .u8 0, .int .i64 0, .int .i64 0, .int .i64 0, .bool false, .string ⟨#[]⟩] 35)
            go_simp
            rw [← hn10] at D1
            rw [← hn10]
            generalize V.alloc _ = v1 at D1 S1 ⊢
            clear hn10 DV
            refine hK.out _ _ S1 (fun _ => ?_)
            clear hK K
            refine wpAnyH_ready (rs := [6, 11]) (by kernel_rfl) (by simp) ?_
            refine AllReadyH.cons rfl (fun K hK => ?_) (AllReadyH.cons rfl (fun K hK => ?_) AllReadyH.nil)
            · go_simp
              refine (docPut D1.out HI.out HK.out f HZ.out HF.out P B Ld2 HP.out).mono ?_
              rintro e v2 ⟨dv2, rfl, kk, bb⟩
              have S2 := S1.trans (bb.mono S1.size)
              have D2 := Lib.hid kk
              clear kk bb D1
              go_simp
              refine hK.out _ _ S2 (fun _ => ?_)
              clear hK K
              refine wpAnyH_take (i := 7) (oi := ⟨some 52, Op.move (Operand.tmp 59), _, _, _, none⟩) (v := (.tuple #[.agg #[.int .i64 a0, dv2], .agg (pdC P), .bool B])) rfl (by kernel_rfl) (by kernel_rfl) (by kernel_rfl) (fun _ _ _ h => h) (Or.inl ⟨by rfl, fun w' h' => ?_⟩) S2 ?_
              · clear h'
                go_simp
              simp only [Act.put]
              refine wpAnyH_take (i := 8) (oi := ⟨some 60, Op.extract (Operand.tmp 52) 0, _, _, _, none⟩) (v := (.agg #[.int .i64 a0, dv2])) rfl (by kernel_rfl) (by kernel_rfl) (by kernel_rfl) (fun _ _ _ h => h) (Or.inl ⟨by rfl, fun w' h' => ?_⟩) S2 ?_
              · clear h'
                go_simp
              simp only [Act.put]
              refine wpAnyH_take (i := 9) (oi := ⟨some 61, Op.extract (Operand.tmp 52) 1, _, _, _, none⟩) (v := (.agg (pdC P))) rfl (by kernel_rfl) (by kernel_rfl) (by kernel_rfl) (fun _ _ _ h => h) (Or.inl ⟨by rfl, fun w' h' => ?_⟩) S2 ?_
              · clear h'
                go_simp
              simp only [Act.put]
              refine wpAnyH_take (i := 10) (oi := ⟨some 62, Op.extract (Operand.tmp 52) 2, _, _, _, none⟩) (v := (.bool B)) rfl (by kernel_rfl) (by kernel_rfl) (by kernel_rfl) (fun _ _ _ h => h) (Or.inl ⟨by rfl, fun w' h' => ?_⟩) S2 ?_
              · clear h'
                go_simp
              simp only [Act.put]
              refine wpAnyH_ready (rs := [11]) (by kernel_rfl) (by simp) ?_
              refine AllReadyH.cons rfl (fun K hK => ?_) AllReadyH.nil
              obtain ⟨n9, hn9⟩ : ∃ x, x = v2.heap.size := ⟨_, rfl⟩
              have ne_n9_n10 : n10 ≠ n9 := by have := blk_lt (D2.out.get (.head _)); omega
              have ne_n9_n7 : n7 ≠ n9 := by have := blk_lt (D2.out.get (.tail _ (.head _))); omega
              have ln9 : W0.heap.size ≤ n9 := by rw [hn9]; exact S2.size
              have D3 := Lib.hid (D2.out.alloc (.cells #[.int .i64 0, .slice none 0 0] 31))
              have S3 := S2.alloc S2.size (.cells #[.int .i64 0, .slice none 0 0] 31)
              go_simp
              rw [← hn9] at D3
              rw [← hn9]
              generalize v2.alloc _ = v3 at D3 S3 ⊢
              clear hn9 D2
              refine hK.out _ _ S3 (fun _ => ?_)
              clear hK K
              refine wpAnyH_ready (rs := [13]) (by kernel_rfl) (by simp) ?_
              refine AllReadyH.cons rfl (fun K hK => ?_) AllReadyH.nil
              have E4 := D3.out.drop (F' := [(n9, .cells #[.int .i64 0, .slice none 0 0] 31 (0, 0)), (n10, .cells #[.int .i64 0, .int .u8 0, .int .u8 0, .int .u8 0, .int .u8 0, .int .u8 0, .int .u8 0, .int .u8 0, .int .u8 0, .int .i64 0, .int .i64 0, .int .i64 0, .bool false, .string ⟨#[]⟩] 35 (0, 0)), (n7, .cells #[.int .i64 a0, dv] 31 (0, 0))]) (fun q hq => by simp only [List.mem_cons, List.not_mem_nil, or_false] at hq ⊢; rcases hq with h | h | h <;> simp [h])
              have hst := rj_put (x := .int .i64 a0) (y := dv2) (E4.get (.head _)) rfl (by obtain ⟨pp, cc, ee⟩ := E4.shape; exact slice_one ee)
              have D4 := Lib.hid (E4.put (ds := #[.int .i64 a0, dv2]) (Nat.le_trans HBL.out ln9) (fun q hq => by simp only [List.mem_cons, List.not_mem_nil, or_false] at hq; rcases hq with h | h <;> rw [h] <;> omega))
              have S4 := below_setRow S3 ln9 #[.int .i64 a0, dv2]
              refine upon_store0 31 _ _ rfl rfl (.agg #[.int .i64 a0, dv2]) n9 rfl rfl hst ?_
              clear hst E4 D3
              refine hK.out _ _ S4 (fun _ => ?_)
              clear hK K
              refine wpAnyH_ready (rs := [14]) (by kernel_rfl) (by simp) ?_
              refine AllReadyH.cons rfl (fun K hK => ?_) AllReadyH.nil
              have E5 := D4.out.drop (F' := [(n10, .cells #[.int .i64 0, .int .u8 0, .int .u8 0, .int .u8 0, .int .u8 0, .int .u8 0, .int .u8 0, .int .u8 0, .int .u8 0, .int .i64 0, .int .i64 0, .int .i64 0, .bool false, .string ⟨#[]⟩] 35 (0, 0)), (n9, .cells #[.int .i64 a0, dv2] 31 (0, 0)), (n7, .cells #[.int .i64 a0, dv] 31 (0, 0))]) (fun q hq => by simp only [List.mem_cons, List.not_mem_nil, or_false] at hq ⊢; rcases hq with h | h | h <;> simp [h])
              have hst := pd_putJ (f := P) (E5.get (.head _)) rfl
              have D5 := Lib.hid (E5.put (ds := (pdC P)) (Nat.le_trans HBL.out ln10) (fun q hq => by simp only [List.mem_cons, List.not_mem_nil, or_false] at hq; rcases hq with h | h <;> rw [h] <;> omega))
              have S5 := below_setRow S4 ln10 (pdC P)
              refine upon_store0 35 _ _ rfl rfl (.agg (pdC P)) n10 rfl rfl hst ?_
              clear hst E5 D4
              refine hK.out _ _ S5 (fun _ => ?_)
              clear hK K
              refine wpAnyH_take (i := 15) (oi := ⟨some 11, Op.assign (Operand.tmp 62), _, _, _, none⟩) (v := (.bool B)) rfl (by kernel_rfl) (by kernel_rfl) (by kernel_rfl) (fun _ _ _ h => h) (Or.inl ⟨by rfl, fun w' h' => ?_⟩) S5 ?_
              · clear h'
                go_simp
              simp only [Act.put]
              refine wpAnyH_done (by kernel_rfl) (NoPanic.normal ?_) _
              go_wp2_with fail
              go_meet
              case rel => exact ⟨n9, n10, dv2, rfl, rfl, rfl, D5, by omega, by omega, by omega⟩
            · obtain ⟨n9, hn9⟩ : ∃ x, x = v1.heap.size := ⟨_, rfl⟩
              have ne_n9_n10 : n10 ≠ n9 := by have := blk_lt (D1.out.get (.head _)); omega
              have ne_n9_n7 : n7 ≠ n9 := by have := blk_lt (D1.out.get (.tail _ (.head _))); omega
              have ln9 : W0.heap.size ≤ n9 := by rw [hn9]; exact S1.size
              have D2 := Lib.hid (D1.out.alloc (.cells #[.int .i64 0, .slice none 0 0] 31))
              have S2 := S1.alloc S1.size (.cells #[.int .i64 0, .slice none 0 0] 31)
              go_simp
              rw [← hn9] at D2
              rw [← hn9]
              generalize v1.alloc _ = v2 at D2 S2 ⊢
              clear hn9 D1
              refine hK.out _ _ S2 (fun _ => ?_)
              clear hK K
              refine wpAnyH_ready (rs := [6]) (by kernel_rfl) (by simp) ?_
              refine AllReadyH.cons rfl (fun K hK => ?_) AllReadyH.nil
              go_simp
              refine (docPut D2.out HI.out HK.out f HZ.out HF.out P B Ld2 HP.out).mono ?_
              rintro e v3 ⟨dv2, rfl, kk, bb⟩
              have S3 := S2.trans (bb.mono S2.size)
              have D3 := Lib.hid kk
              clear kk bb D2
              go_simp
              refine hK.out _ _ S3 (fun _ => ?_)
              clear hK K
              refine wpAnyH_take (i := 7) (oi := ⟨some 52, Op.move (Operand.tmp 59), _, _, _, none⟩) (v := (.tuple #[.agg #[.int .i64 a0, dv2], .agg (pdC P), .bool B])) rfl (by kernel_rfl) (by kernel_rfl) (by kernel_rfl) (fun _ _ _ h => h) (Or.inl ⟨by rfl, fun w' h' => ?_⟩) S3 ?_
              · clear h'
                go_simp
              simp only [Act.put]
              refine wpAnyH_take (i := 8) (oi := ⟨some 60, Op.extract (Operand.tmp 52) 0, _, _, _, none⟩) (v := (.agg #[.int .i64 a0, dv2])) rfl (by kernel_rfl) (by kernel_rfl) (by kernel_rfl) (fun _ _ _ h => h) (Or.inl ⟨by rfl, fun w' h' => ?_⟩) S3 ?_
              · clear h'
                go_simp
              simp only [Act.put]
              refine wpAnyH_take (i := 9) (oi := ⟨some 61, Op.extract (Operand.tmp 52) 1, _, _, _, none⟩) (v := (.agg (pdC P))) rfl (by kernel_rfl) (by kernel_rfl) (by kernel_rfl) (fun _ _ _ h => h) (Or.inl ⟨by rfl, fun w' h' => ?_⟩) S3 ?_
              · clear h'
                go_simp
              simp only [Act.put]
              refine wpAnyH_take (i := 10) (oi := ⟨some 62, Op.extract (Operand.tmp 52) 2, _, _, _, none⟩) (v := (.bool B)) rfl (by kernel_rfl) (by kernel_rfl) (by kernel_rfl) (fun _ _ _ h => h) (Or.inl ⟨by rfl, fun w' h' => ?_⟩) S3 ?_
              · clear h'
                go_simp
              simp only [Act.put]
              refine wpAnyH_ready (rs := [13]) (by kernel_rfl) (by simp) ?_
              refine AllReadyH.cons rfl (fun K hK => ?_) AllReadyH.nil
              simp only [List.setIfInBounds_toArray, List.set_cons_zero, List.set_cons_succ]
              have E4 := D3.out.drop (F' := [(n9, .cells #[.int .i64 0, .slice none 0 0] 31 (0, 0)), (n10, .cells #[.int .i64 0, .int .u8 0, .int .u8 0, .int .u8 0, .int .u8 0, .int .u8 0, .int .u8 0, .int .u8 0, .int .u8 0, .int .i64 0, .int .i64 0, .int .i64 0, .bool false, .string ⟨#[]⟩] 35 (0, 0)), (n7, .cells #[.int .i64 a0, dv] 31 (0, 0))]) (fun q hq => by simp only [List.mem_cons, List.not_mem_nil, or_false] at hq ⊢; rcases hq with h | h | h <;> simp [h])
              have hst := rj_put (x := .int .i64 a0) (y := dv2) (E4.get (.head _)) rfl (by obtain ⟨pp, cc, ee⟩ := E4.shape; exact slice_one ee)
              have D4 := Lib.hid (E4.put (ds := #[.int .i64 a0, dv2]) (Nat.le_trans HBL.out ln9) (fun q hq => by simp only [List.mem_cons, List.not_mem_nil, or_false] at hq; rcases hq with h | h <;> rw [h] <;> omega))
              have S4 := below_setRow S3 ln9 #[.int .i64 a0, dv2]
              refine upon_store0 31 _ _ rfl rfl (.agg #[.int .i64 a0, dv2]) n9 rfl rfl hst ?_
              clear hst E4 D3
              refine hK.out _ _ S4 (fun _ => ?_)
              clear hK K
              refine wpAnyH_ready (rs := [14]) (by kernel_rfl) (by simp) ?_
              refine AllReadyH.cons rfl (fun K hK => ?_) AllReadyH.nil
              have E5 := D4.out.drop (F' := [(n10, .cells #[.int .i64 0, .int .u8 0, .int .u8 0, .int .u8 0, .int .u8 0, .int .u8 0, .int .u8 0, .int .u8 0, .int .u8 0, .int .i64 0, .int .i64 0, .int .i64 0, .bool false, .string ⟨#[]⟩] 35 (0, 0)), (n9, .cells #[.int .i64 a0, dv2] 31 (0, 0)), (n7, .cells #[.int .i64 a0, dv] 31 (0, 0))]) (fun q hq => by simp only [List.mem_cons, List.not_mem_nil, or_false] at hq ⊢; rcases hq with h | h | h <;> simp [h])
              have hst := pd_putJ (f := P) (E5.get (.head _)) rfl
              have D5 := Lib.hid (E5.put (ds := (pdC P)) (Nat.le_trans HBL.out ln10) (fun q hq => by simp only [List.mem_cons, List.not_mem_nil, or_false] at hq; rcases hq with h | h <;> rw [h] <;> omega))
              have S5 := below_setRow S4 ln10 (pdC P)
              refine upon_store0 35 _ _ rfl rfl (.agg (pdC P)) n10 rfl rfl hst ?_
              clear hst E5 D4
              refine hK.out _ _ S5 (fun _ => ?_)
              clear hK K
              refine wpAnyH_take (i := 15) (oi := ⟨some 11, Op.assign (Operand.tmp 62), _, _, _, none⟩) (v := (.bool B)) rfl (by kernel_rfl) (by kernel_rfl) (by kernel_rfl) (fun _ _ _ h => h) (Or.inl ⟨by rfl, fun w' h' => ?_⟩) S5 ?_
              · clear h'
                go_simp
              simp only [Act.put]
              refine wpAnyH_done (by kernel_rfl) (NoPanic.normal ?_) _
              go_wp2_with fail
              go_meet
              case rel => exact ⟨n9, n10, dv2, rfl, rfl, rfl, D5, by omega, by omega, by omega⟩
        case rest =>
          obtain ⟨n9, n10, dv2, rfl, rfl, rfl, D2, ne1, ne2, ne3⟩ := hcut
          clear D0 HRG
          have HRG2 : Hid (wc.rangeAt b (o + K * 15 + 1) (pdC f).toList) := Lib.hid (rangeAt_below HRW.out D2.out.bl)
          have hrg := HRG2.out
          have hkb : (K : Int) < (len1 : Int) := by omega
          have NE := Lib.hid (And.intro ne1 (And.intro ne2 ne3))
          clear ne1 ne2 ne3
          go_wp2_with (refine pd_ld_midJ rfl _ rfl b (o + K * 15 + 1) rfl f hrg ?_)
          refine (progPut D2.out HL5.out HFI.out f HZ.out P B (Ld2.map cvD) HQ.out).mono ?_
          rintro e w4 ⟨rfl, kk⟩
          have D4 := Lib.hid (kk.alloc (.cells (pdC P) 35))
          have hst := pd_storeZ w4 P
          have HN12 : Hid (n9 ≠ w4.heap.size ∧ n10 ≠ w4.heap.size ∧ n7 ≠ w4.heap.size) := Lib.hid ⟨Nat.ne_of_lt (blk_lt (kk.get (.tail _ (.head _)))), Nat.ne_of_lt (blk_lt (kk.get (.head _))), Nat.ne_of_lt (blk_lt (kk.get (.tail _ (.tail _ (.head _)))))⟩
          clear kk D2 hrg HRG2
          go_upto_region 18 with (refine wpList_storeW 35 (.tmp 12) (.tmp 71) rfl rfl (.agg (pdC P)) w4.heap.size rfl rfl hst ?_)
          try simp only [Act.put]
          obtain ⟨n12, hn⟩ : ∃ n, n = w4.heap.size := ⟨_, rfl⟩
          clear hst
          generalize w4.alloc _ = W5 at D4 ⊢
          rw [← hn] at D4 HN12 ⊢
          clear hn hkb
          have h9 := D4.out.get (.tail _ (.tail _ (.head _)))
          have E5 := D4.out.drop (F' := [(n7, .cells #[.int .i64 a0, dv] 31 (0, 0)), (n12, .cells (pdC P) 35 (0, 0)), (n10, .cells (pdC P) 35 (0, 0))]) (fun q hq => by simp only [List.mem_cons, List.not_mem_nil, or_false] at hq ⊢; rcases hq with h | h | h <;> simp [h])
          have hst := rj_put (x := .int .i64 a0) (y := dv2) (E5.get (.head _)) rfl (by obtain ⟨pp, cc, ee⟩ := E5.shape; exact slice_one ee)
          have D6 := Lib.hid (E5.put (ds := #[.int .i64 a0, dv2]) HB7.out (fun q hq => by have := HN12.out; have := NE.out; simp only [List.mem_cons, List.not_mem_nil, or_false] at hq; rcases hq with h | h <;> rw [h] <;> omega))
          clear E5 D4 HN12 NE
          go_upto_region 19 with (first | (refine rj_ld (by rfl) _ rfl n9 rfl a0 dv2 h9 ?_) | (refine wpList_storeW 31 (.tmp 7) (.tmp 73) rfl rfl (.agg #[.int .i64 a0, dv2]) n7 rfl rfl hst ?_))
          clear hst h9
          generalize W5.setRow _ _ = W8 at D6 ⊢
          have ha : PdAt W8 n12 P := D6.out.get (.tail _ (.head _))
          have hb : PdAt W8 n10 P := D6.out.get (.tail _ (.tail _ (.head _)))
          have hbb : (B != B) = false := by cases B <;> rfl
          have hqq := eqld P P HPO.out HPO.out true (decide_eq_true rfl)
          go_upto_region 24 with (first | (refine pd_ld (by rfl) _ rfl _ rfl _ (by first | exact ha | exact hb) ?_) | (refine pd_neqJ (by rfl) _ _ _ rfl P P rfl rfl true hqq ?_))
          have D8 := Lib.hid (D6.out.drop (F' := [(n7, .cells #[.int .i64 a0, dv2] 31 (0, 0))]) (fun q hq => by simp only [List.mem_cons, List.not_mem_nil, or_false] at hq ⊢; simp [hq]))
          clear ha hb hbb hqq D6 HQ HPO HP HFI HL5
          obtain ⟨pp, cc, hdv⟩ := D8.out.shape
          subst hdv
          have HL4 : Hid ((Ld2.map cvD).length ≤ 4) := Lib.hid (by rw [List.length_map]; exact HI2.out.le)
          have HLL : Hid ((((((Ld2.map cvD).length : Nat) : Int)) != (Ld2.length : Int)) = false) := Lib.hid (by rw [List.length_map]; simp)
          refine wp_region_noPanic ?_
          refine region_heldE (S := fun V => Below W8.heap.size W8 V) (by kernel_rfl) (fun V d => d.below) (fun V d hS => ?_)
          refine wpAnyH_take (i := 0) (oi := ⟨some 88, Op.move (Operand.tmp 5), _, _, _, none⟩) (v := (.pointer (some ⟨g, 0, none⟩))) rfl (by kernel_rfl) (by kernel_rfl) (by kernel_rfl) (fun _ _ _ h => h) (Or.inl ⟨by rfl, fun w' h' => ?_⟩) hS ?_
          · clear h'
            go_simp
          simp only [Act.put]
          refine wpAnyH_take (i := 2) (oi := ⟨some 90, Op.fieldAddr 31 (Operand.tmp 7) 1, _, _, _, none⟩) (v := (.pointer (some ⟨n7, 1, none⟩))) rfl (by kernel_rfl) (by kernel_rfl) (by kernel_rfl) (fun _ _ _ h => h) (Or.inl ⟨by rfl, fun w' h' => ?_⟩) hS ?_
          · clear h'
            go_simp
          simp only [Act.put]
          refine wpAnyH_take (i := 3) (oi := ⟨some 91, Op.load 29 (Operand.tmp 90), _, _, _, none⟩) (v := (.slice pp Ld2.length cc)) rfl (by kernel_rfl) (by kernel_rfl) (by kernel_rfl) (fun _ _ _ h => h) (Or.inl ⟨by rfl, fun w' h' => ?_⟩) hS ?_
          · have c0 := rj_box ((D8.out.grow h').get (.head _))
            clear h'
            go_simp
          simp only [Act.put]
          refine wpAnyH_take (i := 4) (oi := ⟨some 92, Op.call { callee := Callee.builtin Builtin.len, args := #[(Operand.tmp 91)], argTypes := #[29] }, _, _, _, none⟩) (v := (.int .i64 (Ld2.length : Int))) rfl (by kernel_rfl) (by kernel_rfl) (by kernel_rfl) (fun _ _ _ h => h) (Or.inl ⟨by rfl, fun w' h' => ?_⟩) hS ?_
          · clear h'
            go_simp
          simp only [Act.put]
          refine wpAnyH_ready (rs := [1]) (by kernel_rfl) (by simp) ?_
          refine AllReadyH.cons rfl (fun K hK => ?_) AllReadyH.nil
          go_simp
          refine (progLen (D8.out.grow hS) HL4.out).mono ?_
          rintro e wx ⟨rfl, rfl⟩
          go_simp
          refine hK.out _ _ hS (fun _ => ?_)
          clear hK K
          refine wpAnyH_take (i := 5) (oi := ⟨some 93, Op.binOp BinOp.neq 3 (Operand.tmp 89) (Operand.tmp 92) 3, _, _, _, none⟩) (v := (.bool false)) rfl (by kernel_rfl) (by kernel_rfl) (by kernel_rfl) (fun _ _ _ h => h) (Or.inl ⟨by rfl, fun w' h' => ?_⟩) hS ?_
          · have c0 := HLL.out
            clear h'
            go_simp
          simp only [Act.put]
          refine wpAnyH_done (by kernel_rfl) (NoPanic.normal ?_) _
          try simp only [List.setIfInBounds_toArray, List.set_cons_zero, List.set_cons_succ]
          have D9 := Lib.hid (D8.out.grow hS)
          clear hS d D8 HL4 HLL
          have hwk : IntKind.i64.wrap ((K : Int) + 1) = (K : Int) + 1 := IntWalk.i64_in _ (by omega)
          go_wp2_with fail
          go_roundw
          case rel => exact ⟨K + 1, _, Ld2, by omega, by go_num, D9, HI2⟩
          case measure => simp [intOf]; omega
      | false =>
        cases d1 with
        | true =>
          obtain ⟨hs1, hs2⟩ := tick_same HI.out a0 HLH.out.2
          have HAG : Hid (∀ x ∈ Ld.map cvD, 0 ≤ x.age ∧ x.age ≤ 1048576) := Lib.hid (fun x hx => by obtain ⟨y, hy, rfl⟩ := List.mem_map.1 hx; exact HI.out.ag y hy)
          obtain ⟨Ld2, hL2⟩ : ∃ L, tickD a0 Ld = L := ⟨_, rfl⟩
          have HI2 : Hid (IQ (K + 1) Ld2) := Lib.hid (by rw [← hL2]; exact hs2.mono (Nat.le_succ _))
          have HTS : Hid (tickA a0 (Ld.map cvD) = (tickD a0 Ld).map cvD) := Lib.hid hs1
          have HT2 := Lib.hid hL2
          clear hs1 hs2 hL2
          go_wp2_with fail
          refine (progTick D0.out HL5.out HAG.out).mono ?_
          rintro e w2 ⟨rfl, kk⟩
          have D2 := Lib.hid kk
          clear kk D0
          have h7 := D2.out.get (.head _)
          go_wp2_with (refine rj_ld (by rfl) _ rfl n7 rfl a0 dv h7 ?_)
          refine (docTick D2.out HI.out).mono ?_
          rintro e w3 ⟨dv2, rfl, kk, bb⟩
          have hst := rj_put (x := .int .i64 a0) (y := dv2) (kk.get (.head _)) rfl (by obtain ⟨pp, cc, ee⟩ := kk.shape; exact slice_one ee)
          have D3 := Lib.hid (kk.put (ds := #[.int .i64 a0, dv2]) HB7.out (fun q hq => (by cases hq)))
          clear kk bb D2 h7
          go_upto_region 24 with (refine wpList_storeW 31 (.tmp 7) (.tmp 87) rfl rfl (.agg #[.int .i64 a0, dv2]) n7 rfl rfl hst ?_)
          clear hst
          have D8 : Hid (JD w (w3.setRow n7 #[.int .i64 a0, dv2]) [(n7, .cells #[.int .i64 a0, dv2] 31 (0, 0))] g a0 (Ld2.map cvD) dv2 Ld2) := Lib.hid (by have := D3.out; rw [HTS.out, HT2.out] at this; exact this)
          clear D3 HTS HT2 HAG HL5
          generalize w3.setRow _ _ = W8 at D8 ⊢
          obtain ⟨pp, cc, hdv⟩ := D8.out.shape
          subst hdv
          have HL4 : Hid ((Ld2.map cvD).length ≤ 4) := Lib.hid (by rw [List.length_map]; exact HI2.out.le)
          have HLL : Hid ((((((Ld2.map cvD).length : Nat) : Int)) != (Ld2.length : Int)) = false) := Lib.hid (by rw [List.length_map]; simp)
          refine wp_region_noPanic ?_
          refine region_heldE (S := fun V => Below W8.heap.size W8 V) (by kernel_rfl) (fun V d => d.below) (fun V d hS => ?_)
          refine wpAnyH_take (i := 0) (oi := ⟨some 88, Op.move (Operand.tmp 5), _, _, _, none⟩) (v := (.pointer (some ⟨g, 0, none⟩))) rfl (by kernel_rfl) (by kernel_rfl) (by kernel_rfl) (fun _ _ _ h => h) (Or.inl ⟨by rfl, fun w' h' => ?_⟩) hS ?_
          · clear h'
            go_simp
          simp only [Act.put]
          refine wpAnyH_take (i := 2) (oi := ⟨some 90, Op.fieldAddr 31 (Operand.tmp 7) 1, _, _, _, none⟩) (v := (.pointer (some ⟨n7, 1, none⟩))) rfl (by kernel_rfl) (by kernel_rfl) (by kernel_rfl) (fun _ _ _ h => h) (Or.inl ⟨by rfl, fun w' h' => ?_⟩) hS ?_
          · clear h'
            go_simp
          simp only [Act.put]
          refine wpAnyH_take (i := 3) (oi := ⟨some 91, Op.load 29 (Operand.tmp 90), _, _, _, none⟩) (v := (.slice pp Ld2.length cc)) rfl (by kernel_rfl) (by kernel_rfl) (by kernel_rfl) (fun _ _ _ h => h) (Or.inl ⟨by rfl, fun w' h' => ?_⟩) hS ?_
          · have c0 := rj_box ((D8.out.grow h').get (.head _))
            clear h'
            go_simp
          simp only [Act.put]
          refine wpAnyH_take (i := 4) (oi := ⟨some 92, Op.call { callee := Callee.builtin Builtin.len, args := #[(Operand.tmp 91)], argTypes := #[29] }, _, _, _, none⟩) (v := (.int .i64 (Ld2.length : Int))) rfl (by kernel_rfl) (by kernel_rfl) (by kernel_rfl) (fun _ _ _ h => h) (Or.inl ⟨by rfl, fun w' h' => ?_⟩) hS ?_
          · clear h'
            go_simp
          simp only [Act.put]
          refine wpAnyH_ready (rs := [1]) (by kernel_rfl) (by simp) ?_
          refine AllReadyH.cons rfl (fun K hK => ?_) AllReadyH.nil
          go_simp
          refine (progLen (D8.out.grow hS) HL4.out).mono ?_
          rintro e wx ⟨rfl, rfl⟩
          go_simp
          refine hK.out _ _ hS (fun _ => ?_)
          clear hK K
          refine wpAnyH_take (i := 5) (oi := ⟨some 93, Op.binOp BinOp.neq 3 (Operand.tmp 89) (Operand.tmp 92) 3, _, _, _, none⟩) (v := (.bool false)) rfl (by kernel_rfl) (by kernel_rfl) (by kernel_rfl) (fun _ _ _ h => h) (Or.inl ⟨by rfl, fun w' h' => ?_⟩) hS ?_
          · have c0 := HLL.out
            clear h'
            go_simp
          simp only [Act.put]
          refine wpAnyH_done (by kernel_rfl) (NoPanic.normal ?_) _
          try simp only [List.setIfInBounds_toArray, List.set_cons_zero, List.set_cons_succ]
          have D9 := Lib.hid (D8.out.grow hS)
          clear hS d D8 HL4 HLL
          have hwk : IntKind.i64.wrap ((K : Int) + 1) = (K : Int) + 1 := IntWalk.i64_in _ (by omega)
          go_wp2_with fail
          go_roundw
          case rel => exact ⟨K + 1, _, Ld2, by omega, by go_num, D9, HI2⟩
          case measure => simp [intOf]; omega
        | false =>
          obtain ⟨Ld2, rfl⟩ : ∃ L, L = Ld := ⟨_, rfl⟩
          have HI2 : Hid (IQ (K + 1) Ld2) := Lib.hid (HI.out.mono (Nat.le_succ _))
          have D8 := D0
          clear D0 HRG HRW HFI HL5
          rename World => W8
          go_upto_region 24 with fail
          obtain ⟨pp, cc, hdv⟩ := D8.out.shape
          subst hdv
          have HL4 : Hid ((Ld2.map cvD).length ≤ 4) := Lib.hid (by rw [List.length_map]; exact HI2.out.le)
          have HLL : Hid ((((((Ld2.map cvD).length : Nat) : Int)) != (Ld2.length : Int)) = false) := Lib.hid (by rw [List.length_map]; simp)
          refine wp_region_noPanic ?_
          refine region_heldE (S := fun V => Below W8.heap.size W8 V) (by kernel_rfl) (fun V d => d.below) (fun V d hS => ?_)
          refine wpAnyH_take (i := 0) (oi := ⟨some 88, Op.move (Operand.tmp 5), _, _, _, none⟩) (v := (.pointer (some ⟨g, 0, none⟩))) rfl (by kernel_rfl) (by kernel_rfl) (by kernel_rfl) (fun _ _ _ h => h) (Or.inl ⟨by rfl, fun w' h' => ?_⟩) hS ?_
          · clear h'
            go_simp
          simp only [Act.put]
          refine wpAnyH_take (i := 2) (oi := ⟨some 90, Op.fieldAddr 31 (Operand.tmp 7) 1, _, _, _, none⟩) (v := (.pointer (some ⟨n7, 1, none⟩))) rfl (by kernel_rfl) (by kernel_rfl) (by kernel_rfl) (fun _ _ _ h => h) (Or.inl ⟨by rfl, fun w' h' => ?_⟩) hS ?_
          · clear h'
            go_simp
          simp only [Act.put]
          refine wpAnyH_take (i := 3) (oi := ⟨some 91, Op.load 29 (Operand.tmp 90), _, _, _, none⟩) (v := (.slice pp Ld2.length cc)) rfl (by kernel_rfl) (by kernel_rfl) (by kernel_rfl) (fun _ _ _ h => h) (Or.inl ⟨by rfl, fun w' h' => ?_⟩) hS ?_
          · have c0 := rj_box ((D8.out.grow h').get (.head _))
            clear h'
            go_simp
          simp only [Act.put]
          refine wpAnyH_take (i := 4) (oi := ⟨some 92, Op.call { callee := Callee.builtin Builtin.len, args := #[(Operand.tmp 91)], argTypes := #[29] }, _, _, _, none⟩) (v := (.int .i64 (Ld2.length : Int))) rfl (by kernel_rfl) (by kernel_rfl) (by kernel_rfl) (fun _ _ _ h => h) (Or.inl ⟨by rfl, fun w' h' => ?_⟩) hS ?_
          · clear h'
            go_simp
          simp only [Act.put]
          refine wpAnyH_ready (rs := [1]) (by kernel_rfl) (by simp) ?_
          refine AllReadyH.cons rfl (fun K hK => ?_) AllReadyH.nil
          go_simp
          refine (progLen (D8.out.grow hS) HL4.out).mono ?_
          rintro e wx ⟨rfl, rfl⟩
          go_simp
          refine hK.out _ _ hS (fun _ => ?_)
          clear hK K
          refine wpAnyH_take (i := 5) (oi := ⟨some 93, Op.binOp BinOp.neq 3 (Operand.tmp 89) (Operand.tmp 92) 3, _, _, _, none⟩) (v := (.bool false)) rfl (by kernel_rfl) (by kernel_rfl) (by kernel_rfl) (fun _ _ _ h => h) (Or.inl ⟨by rfl, fun w' h' => ?_⟩) hS ?_
          · have c0 := HLL.out
            clear h'
            go_simp
          simp only [Act.put]
          refine wpAnyH_done (by kernel_rfl) (NoPanic.normal ?_) _
          try simp only [List.setIfInBounds_toArray, List.set_cons_zero, List.set_cons_succ]
          have D9 := Lib.hid (D8.out.grow hS)
          clear hS d D8 HL4 HLL
          have hwk : IntKind.i64.wrap ((K : Int) + 1) = (K : Int) + 1 := IntWalk.i64_in _ (by omega)
          go_wp2_with fail
          go_roundw
          case rel => exact ⟨K + 1, _, Ld2, by omega, by go_num, D9, HI2⟩
          case measure => simp [intOf]; omega
    · have hd : decide ((K : Int) < (len1 : Int)) = false := decide_eq_false (by omega)
      go_wp2_with fail
      go_ret
      exact ⟨rfl, D0.out.bl⟩
theorem walk (a0 : Int) (a1 : Option Addr) (len1 cap1 : Nat) (l1 : List Act8) (w : World) (w0 : (Lit.int .i64 a0).wf = true) (w1 : IsActs8 w a1 len1 l1) :
    Calls Try.prog 3 #[.int .i64 a0, .slice a1 len1 cap1] w fun e w' => e = .returned (.bool true) ∧ Below w.heap.size w w' := by
  cases hB : (decide (100 < len1) || decide (60000 < gN l1 (min len1 101))) with
  | true => exact walk_out a0 a1 len1 cap1 l1 w w1 hB
  | false =>
    by_cases hbad : a0 < 1 ∨ 1048576 < a0
    · exact walk_bad a0 a1 len1 cap1 l1 w w1 hB hbad
    · exact walk_main a0 a1 len1 cap1 l1 w w1 hB (by omega) (by omega)

set_option maxRecDepth 100000 in
theorem lifted (os : Os) (started : os.Started) (H : Type) (enc : TypeId × Value → H) :
    ReturnsInHanded {} Try.checked os 3 .any (Rows.ipv4JoinsSpec.pre6 enc Try.prog Try.f3 Rows.ipv4JoinsRow.domain false) (Rows.ipv4JoinsSpec.post enc Try.prog Try.f3 false true false false) := by
  refine returnsInHanded_of_change (C := Try.checked) own started (by kernel_rfl) Try.func3
    (ChangeSpec.witness6 (enc := enc) (C := Try.checked) false ⟨#[], #[.int .i64 0, .slice none 0 0], []⟩ 8 (by kernel_rfl) (by kernel_rfl) (by kernel_rfl) (by kernel_rfl)) ?_
  intro W base args ds gs before hval0 hW hcnd _
  have hval : ∀ (j : Nat) t v, Try.f3.params[j]? = some t → args[j]? = some v → Value.okWide Try.prog W .any base t v := hval0
  have hW' := hW
  obtain ⟨p, q, hA0, hV, rfl, hfz, hnd⟩ := hW
  have hA : DataW.TrodAll enc Try.prog W 0 (fun _ => true) true Try.f3.params.toList args.toList ds p := hA0
  rw [Try.params3] at hA hval
  obtain ⟨v0, vs0, d0, ds0, p0, q0, hargs, rfl, rfl, h0, r0⟩ := trodAll_cons hA
  obtain ⟨v1, vs1, d1, ds1, p1, q1, rfl, rfl, rfl, h1, r1⟩ := trodAll_cons r0
  obtain ⟨rfl, rfl, rfl⟩ := trodAll_nil r1
  obtain rfl : args = #[v0, v1] := by cases args; simp_all
  obtain ⟨rfl, rfl⟩ := trodVars_none hV
  obtain ⟨a0, rfl, rfl, rfl, w0⟩ := open_int Try.underlying3 (hval 0 3 v0 rfl rfl) h0
  obtain ⟨a1, len1, cap1, rfl⟩ := okWide_slice Try.underlying22 (hval 1 22 v1 rfl rfl)
  have k1 := h1
  have lt1 : ∀ x ∈ p1, x.block < W.heap.size := by obtain ⟨m, hm⟩ := k1; exact DataW.trod_lt m _ _ _ hm
  obtain ⟨l1, w1⟩ : ∃ l, IsActs8 W a1 len1 l := by obtain ⟨fuel, hf⟩ := h1; exact open_acts8 hf
  clear hA0 hval0
  refine (walk a0 a1 len1 cap1 l1 W w0 w1).mono fun e W' ⟨he, bel⟩ => ?_
  subst he
  exact ⟨_, rfl, _, _, _, [], _, [], hW', trodAll_mk1 (shut_bool Try.underlying4 _), (trodAll_cons_mk (shut_int Try.underlying3 w0) (trodAll_cons_mk (Below.trod laidOut (by kernel_rfl) (of_decide_eq_true (by kernel_rfl)) k1 bel lt1) trodAll_mk0)), rfl, bel.frame _, fun h => by cases h⟩

/-- THE STATEMENT. -/
theorem proved : Rows.Ipv4JoinsSaid :=
  OpenClaim.holds_of_wide 3 Try.f3 rfl rfl rfl rfl rfl rfl rfl ⟨rfl, rfl, rfl, rfl, rfl⟩ rfl rfl rfl rfl rfl (by kernel_rfl) Try.func3 (by kernel_rfl)
    (of_decide_eq_true (by kernel_rfl)) (by unfold Func.isWrapper; first | (rw [if_pos (by decide +kernel)]; kernel_rfl) | (rw [if_neg (by decide +kernel)]; exact ⟨rfl, rfl⟩))
    (fun os started H enc _ => lifted os started H enc)
#print axioms proved

end Go.Proofs.Ytbjoibgkhooljaa.ijo
