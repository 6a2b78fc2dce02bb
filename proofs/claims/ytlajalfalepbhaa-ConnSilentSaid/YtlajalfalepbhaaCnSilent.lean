/-
  ConnSilent: one that nobody answers sends again, ever later, and gives up, or asks for ever. Conditions: none but the statement's own.
-/
import Derived.Test.YtlajalfalepbhaaCoF
import Derived.ProofKit
import Derived.OpenShut
import Derived.ShutString
import Derived.ChangeOld
import Derived.Below
namespace Go.Proofs.Ytlajalfalepbhaa.cos
open Go.ChangeShapes Go.WideShapes Go.ChangeAt Go.RowKit
open Go.ChangeMaps (open_string shut_string)
set_option linter.unusedVariables false

theorem own : ownKnob Try.prog.godebug = none := by kernel_rfl
theorem laidOut : laidOutB Try.prog = true := by kernel_rfl
abbrev OC (f l m t : Int) : Obj := .cells #[.int .i64 f, .int .i64 l, .int .i64 m, .int .i64 t, .int .i64 3] 31
theorem arm {w W1 w3 : World} {no : Nat} {f l m t : Int} (B1 : Below w.heap.size w W1) (b3 : Below W1.drew.heap.size W1.drew w3) (HO : W1.heap[no]? = some (OC f l m t)) : Below w.heap.size w w3 ∧ w3.heap[no]? = some (OC f l m t) := by
  have k : Below w.heap.size w W1.drew := B1.drew
  exact ⟨k.trans (b3.mono k.size), (b3.block no (Array.getElem?_eq_some_iff.1 HO).1).trans HO⟩
set_option maxRecDepth 100000 in
set_option maxHeartbeats 16000000 in
theorem walk_bad (a0 a1 a2 a3 : Int) (b4 b5 : Bool) (s : ByteArray) (f l m t : Int) (hf : 1 + a0 % 100 = f) (hl : 1 + a1 % 100 = l) (hm : 1 + a2 % 100 = m) (ht : 1 + a3 % 10 = t) (b0 : 0 ≤ a0 ∧ a0 ≤ 255) (b1 : 0 ≤ a1 ∧ a1 ≤ 255) (b2 : 0 ≤ a2 ∧ a2 ≤ 255) (b3 : 0 ≤ a3 ∧ a3 ≤ 255) (hb : l < 1 ∨ f < l ∨ m < f ∨ 1048576 < m) (w : World) :
    Calls Try.prog 7 #[.int .u8 a0, .int .u8 a1, .int .u8 a2, .int .u8 a3, .bool b4, .bool b5, .string s] w fun e w' => e = .returned (.bool true) ∧ Below w.heap.size w w' := by
  have KN : Hid (∀ w2 : World, Calls Try.prog 8 #[.agg (sgC exSyn), .int .u32 500, .agg #[.int .i64 f, .int .i64 l, .int .i64 m, .int .i64 t, .int .i64 3]] w2 fun e w' => e = .returned (.tuple #[.pointer none, .int .i64 1]) ∧ Below w2.heap.size w2 w') := Lib.hid (fun w2 => new_clock w2 exSyn 500 f l m t 3 hb)
  clear hb
  go_enter Try.func7, Try.ntmps7
  go_wp2_with fail
  refine (awakeN _).mono ?_
  rintro e w1 ⟨rfl, bl⟩
  have BL0 := Lib.hid bl
  clear bl
  go_upto_region 4 with fail
  have B1 : Hid (Below w.heap.size w (w1.alloc (OC f l m t))) := Lib.hid (BL0.out.alloc BL0.out.size _)
  have HO : Hid ((w1.alloc (OC f l m t)).heap[w1.heap.size]? = some (OC f l m t)) := Lib.hid (heap_alloc_new w1 _)
  clear hf hl hm ht b0 b1 b2 b3 BL0
  generalize w1.alloc _ = W1 at B1 HO ⊢
  generalize w1.heap.size = no at HO ⊢
  have c0 : W1.cell? ⟨no, 0, none⟩ = some (.int .i64 f) := by rw [cell_of_block HO.out]; rfl
  have c1 : W1.cell? ⟨no, 1, none⟩ = some (.int .i64 l) := by rw [cell_of_block HO.out]; rfl
  have c2 : W1.cell? ⟨no, 2, none⟩ = some (.int .i64 m) := by rw [cell_of_block HO.out]; rfl
  have c3 : W1.cell? ⟨no, 3, none⟩ = some (.int .i64 t) := by rw [cell_of_block HO.out]; rfl
  have c4 : W1.cell? ⟨no, 4, none⟩ = some (.int .i64 3) := by rw [cell_of_block HO.out]; rfl
  go_region_with (first | (go_at_call 9; refine (synC _).mono ?_; rintro e w3 ⟨rfl, b3⟩; have BB := arm B1.out b3 HO.out; have BY := Lib.hid BB.1; have HB := Lib.hid BB.2; clear BB b3; have d0 : w3.cell? ⟨no, 0, none⟩ = some (.int .i64 f) := (by rw [cell_of_block HB.out]; rfl); have d1 : w3.cell? ⟨no, 1, none⟩ = some (.int .i64 l) := (by rw [cell_of_block HB.out]; rfl); have d2 : w3.cell? ⟨no, 2, none⟩ = some (.int .i64 m) := (by rw [cell_of_block HB.out]; rfl); have d3 : w3.cell? ⟨no, 3, none⟩ = some (.int .i64 t) := (by rw [cell_of_block HB.out]; rfl); have d4 : w3.cell? ⟨no, 4, none⟩ = some (.int .i64 3) := (by rw [cell_of_block HB.out]; rfl)) | (go_at_call 8; refine (KN.out _).mono ?_; rintro e w4 ⟨rfl, b4⟩; have BZ : Hid (Below w.heap.size w w4) := Lib.hid (BY.out.trans (b4.mono BY.out.size)); clear b4))
  all_goals
    go_wp2_with fail
    go_ret
    exact ⟨rfl, BZ.out⟩
set_option maxRecDepth 100000 in
set_option maxHeartbeats 16000000 in
theorem walk_main (a0 a1 a2 a3 : Int) (b4 b5 : Bool) (s : ByteArray) (f l m t : Int) (hf : 1 + a0 % 100 = f) (hl : 1 + a1 % 100 = l) (hm : 1 + a2 % 100 = m) (ht : 1 + a3 % 10 = t) (b0 : 0 ≤ a0 ∧ a0 ≤ 255) (b1 : 0 ≤ a1 ∧ a1 ≤ 255) (b2 : 0 ≤ a2 ∧ a2 ≤ 255) (b3 : 0 ≤ a3 ∧ a3 ≤ 255) (hb : ¬ (l < 1 ∨ f < l ∨ m < f ∨ 1048576 < m)) (w : World) :
    Calls Try.prog 7 #[.int .u8 a0, .int .u8 a1, .int .u8 a2, .int .u8 a3, .bool b4, .bool b5, .string s] w fun e w' => e = .returned (.bool true) ∧ Below w.heap.size w w' := by
  have hw : (beginsV exSyn && (withinV t 100 && withinV 3 1048576)) = true := by
    have hw : withinV t 100 = true := by
      unfold withinV
      rw [decide_eq_true (by omega), decide_eq_true (by omega)]
      rfl
    rw [hw]
    have h3 : (beginsV exSyn && (true && withinV 3 1048576)) = true := by kernel_rfl
    exact h3
  have LIM : Hid (¬ (l < 1 ∨ f < l ∨ m < f ∨ 1048576 < m) ∧ (beginsV exSyn && (withinV t 100 && withinV 3 1048576)) = true ∧ 1 ≤ l ∧ l ≤ f ∧ f ≤ m ∧ m ≤ 100 ∧ 1 ≤ t ∧ t ≤ 10) := Lib.hid ⟨hb, hw, by omega, by omega, by omega, by omega, by omega, by omega⟩
  clear hb hw
  go_enter Try.func7, Try.ntmps7
  go_wp2_with fail
  refine (awakeN _).mono ?_
  rintro e w1 ⟨rfl, bl⟩
  have BL0 := Lib.hid bl
  clear bl
  go_upto_region 4 with fail
  have B1 : Hid (Below w.heap.size w (w1.alloc (OC f l m t))) := Lib.hid (BL0.out.alloc BL0.out.size _)
  have HO : Hid ((w1.alloc (OC f l m t)).heap[w1.heap.size]? = some (OC f l m t)) := Lib.hid (heap_alloc_new w1 _)
  clear hf hl hm ht b0 b1 b2 b3 BL0
  generalize w1.alloc _ = W1 at B1 HO ⊢
  generalize w1.heap.size = no at HO ⊢
  have c0 : W1.cell? ⟨no, 0, none⟩ = some (.int .i64 f) := by rw [cell_of_block HO.out]; rfl
  have c1 : W1.cell? ⟨no, 1, none⟩ = some (.int .i64 l) := by rw [cell_of_block HO.out]; rfl
  have c2 : W1.cell? ⟨no, 2, none⟩ = some (.int .i64 m) := by rw [cell_of_block HO.out]; rfl
  have c3 : W1.cell? ⟨no, 3, none⟩ = some (.int .i64 t) := by rw [cell_of_block HO.out]; rfl
  have c4 : W1.cell? ⟨no, 4, none⟩ = some (.int .i64 3) := by rw [cell_of_block HO.out]; rfl
  have KN : Hid (∀ w2 : World, w2.heap[no]? = some (OC f l m t) → Calls Try.prog 8 #[.agg (sgC exSyn), .int .u32 500, .agg #[.int .i64 f, .int .i64 l, .int .i64 m, .int .i64 t, .int .i64 3]] w2 fun e w' => ∃ q : Bq, e = .returned (.tuple #[.pointer (some ⟨q.c, 0, none⟩), .int .i64 0]) ∧ CB w2 [(no, OC f l m t)] q (slN f l m t) w') := Lib.hid (fun w2 h2 => new_ok w2 [(no, OC f l m t)] (fun x hx => by rw [List.mem_singleton.1 hx]; exact h2) exSyn 500 f l m t 3 LIM.out.1 LIM.out.2.1)
  go_cut [16, 17] from 25 (fun v16 v17 wx => ∃ q : Bq, v16 = .pointer (some ⟨q.c, 0, none⟩) ∧ v17 = .int .i64 0 ∧ Hid (CB w [(no, OC f l m t)] q (slN f l m t) wx))
  case first =>
    go_region_with (first | (go_at_call 9; refine (synC _).mono ?_; rintro e w3 ⟨rfl, b3⟩; have BB := arm B1.out b3 HO.out; have BY := Lib.hid BB.1; have HB := Lib.hid BB.2; clear BB b3; have d0 : w3.cell? ⟨no, 0, none⟩ = some (.int .i64 f) := (by rw [cell_of_block HB.out]; rfl); have d1 : w3.cell? ⟨no, 1, none⟩ = some (.int .i64 l) := (by rw [cell_of_block HB.out]; rfl); have d2 : w3.cell? ⟨no, 2, none⟩ = some (.int .i64 m) := (by rw [cell_of_block HB.out]; rfl); have d3 : w3.cell? ⟨no, 3, none⟩ = some (.int .i64 t) := (by rw [cell_of_block HB.out]; rfl); have d4 : w3.cell? ⟨no, 4, none⟩ = some (.int .i64 3) := (by rw [cell_of_block HB.out]; rfl)) | (go_at_call 8; refine (KN.out _ HB.out).mono ?_; rintro e w4 ⟨q, rfl, h⟩; have HQ : Hid (CB w [(no, OC f l m t)] q (slN f l m t) w4) := Lib.hid (h.rebase BY.out); clear h))
    all_goals
      go_wp2_with fail
      go_meet
      exact ⟨q, rfl, rfl, HQ⟩
  case rest =>
    obtain ⟨q, rfl, rfl, HQ⟩ := hcut
    clear c0 c1 c2 c3 c4 KN B1 HO
    have BW : Hid (Below w.heap.size w wc) := Lib.hid HQ.out.bl
    by_cases hz : 100 < (s.size : Int)
    · have g1 : decide (100 < (s.size : Int)) = true := decide_eq_true hz
      clear hz
      go_wp2_with fail
      go_ret
      exact ⟨rfl, BW.out⟩
    have g1 : decide (100 < (s.size : Int)) = false := decide_eq_false hz
    have HZ := Lib.hid hz
    clear hz
    by_cases he0 : s = ⟨#[]⟩
    · subst he0
      go_wp2_with fail
      go_ret
      exact ⟨rfl, BW.out⟩
    have SZ : Hid (1 ≤ s.size ∧ s.size ≤ 100) := Lib.hid ⟨one_char he0, by have := HZ.out; omega⟩
    clear he0 HZ
    cases he : s.toList.isEmpty with
    | true =>
      go_wp2_with fail
      go_ret
      exact ⟨rfl, BW.out⟩
    | false =>
      go_upto_region 7 with fail
      clear g1 he BW
      go_upto_region 8 with (refine (out_ok HQ.out).mono ?_; rintro e wd ⟨p, c, rfl, h, -, -⟩; have H1 : Hid (CB w _ q (outV (slN f l m t)) wd) := Lib.hid h; clear h HQ)
      obtain ⟨win, hwin⟩ : ∃ win : Int, win = if b5 = true then 0 else 1000 := ⟨_, rfl⟩
      have WIN := Lib.hid hwin
      clear hwin
      go_upto_if 63 with fail
      go_cut [18] from 63 (fun v18 wx => v18 = .int .i64 win ∧ wx = wd)
      case first =>
        cases b5
        · obtain rfl : win = 1000 := WIN.out
          go_wp2_with fail
          go_meet
          exact ⟨rfl, rfl⟩
        · obtain rfl : win = 0 := WIN.out
          go_wp2_with fail
          go_meet
          exact ⟨rfl, rfl⟩
      case rest =>
        obtain ⟨rfl, rfl⟩ := hcut
        rename World => wd
        go_upto_if 64 with fail
        go_cut [] from 64 (fun wx => ∃ v, Hid (CB w [(no, OC f l m t)] q v wx) ∧ Hid (AL b4 b5 s.data.toList t v 1 0 0 0))
        case first =>
          cases b4
          · go_wp2_with fail
            go_meet
            exact ⟨_, H1, Lib.hid (st_a _ _ LIM.out.2.2.1 LIM.out.2.2.2.1 LIM.out.2.2.2.2.1 LIM.out.2.2.2.2.2.1 LIM.out.2.2.2.2.2.2.1)⟩
          · cases b5
            · obtain rfl : win = 1000 := WIN.out
              go_wp2_with fail
              refine (in_ok H1.out (slS 1000) (slS_ok (.inl rfl)) (by show 0 ≤ 100000; decide) (by show 0 ≤ 99990000; decide)).mono ?_
              rintro e w5 ⟨rfl, h⟩
              have H2 := Lib.hid h
              clear h H1
              go_wp2_with fail
              refine (write_ok H2.out s (st_n (.inl rfl))).mono ?_
              rintro e w6 ⟨rfl, h⟩
              have H3 := Lib.hid h
              have ST := Lib.hid (st_b (f := f) (l := l) (m := m) (t := t) s SZ.out.1 SZ.out.2 LIM.out.2.2.1 LIM.out.2.2.2.1 LIM.out.2.2.2.2.1 LIM.out.2.2.2.2.2.1 LIM.out.2.2.2.2.2.2.1)
              have KO := Lib.hid (out_ok H3.out)
              rw [ST.out.1] at KO
              clear h H2
              go_wp2_with fail
              refine KO.out.mono ?_
              rintro e w7 ⟨p, c, rfl, h, -, -⟩
              have H4 := Lib.hid h
              clear h H3 KO
              go_wp2_with fail
              go_meet
              exact ⟨_, H4, Lib.hid ST.out.2⟩
            · obtain rfl : win = 0 := WIN.out
              go_wp2_with fail
              refine (in_ok H1.out (slS 0) (slS_ok (.inr rfl)) (by show 0 ≤ 100000; decide) (by show 0 ≤ 99990000; decide)).mono ?_
              rintro e w5 ⟨rfl, h⟩
              have H2 := Lib.hid h
              clear h H1
              go_wp2_with fail
              refine (write_ok H2.out s (st_n (.inr rfl))).mono ?_
              rintro e w6 ⟨rfl, h⟩
              have H3 := Lib.hid h
              have ST := Lib.hid (st_c (f := f) (l := l) (m := m) (t := t) s SZ.out.1 SZ.out.2 LIM.out.2.2.1 LIM.out.2.2.2.1 LIM.out.2.2.2.2.1 LIM.out.2.2.2.2.2.1 LIM.out.2.2.2.2.2.2.1)
              have KO := Lib.hid (out_ok H3.out)
              rw [ST.out.1] at KO
              clear h H2
              go_wp2_with fail
              refine KO.out.mono ?_
              rintro e w7 ⟨p, c, rfl, h, -, -⟩
              have H4 := Lib.hid h
              clear h H3 KO
              go_wp2_with fail
              go_meet
              exact ⟨_, H4, Lib.hid ST.out.2⟩
        case rest =>
          obtain ⟨v, HV, HA⟩ := hcut
          clear H1 WIN
          go_wp2_with fail
          go_loopw [19, 20, 21, 22, 23, 24] (fun v19 v20 v21 v22 v23 v24 wr => ∃ (i : Nat) (sent last gap : Int) (v : Cn), 1 ≤ i ∧ i ≤ 1501 ∧ v19 = .int .i64 sent ∧ v20 = .int .i64 last ∧ v21 = .int .i64 gap ∧ v22 = .int .i64 i ∧ Hid (CB w [(no, OC f l m t)] q v wr) ∧ Hid (AL b4 b5 s.data.toList t v i sent last gap ∨ GO b4 b5 t v sent)) (fun v19 v20 v21 v22 v23 v24 _ => 1501 - (intOf v22).toNat)
          case atStart => exact ⟨1, 0, 0, 0, v, by decide, by decide, rfl, rfl, rfl, rfl, HV, Lib.hid (.inl HA.out)⟩
          case round =>
            clear HV HA
            obtain ⟨i, sent, last, gap, v, hi1, hi2, rfl, rfl, rfl, rfl, HV, HR⟩ := hrel
            have KS := Lib.hid (state_ok HV.out)
            have KR := Lib.hid (reset_ok HV.out)
            have ZZ : Hid (1 ≤ s.data.toList.length ∧ s.data.toList.length ≤ 100) := Lib.hid (by rw [Array.length_toList]; exact SZ.out)
            have c3 : wr.cell? ⟨no, 3, none⟩ = some (.int .i64 t) := by rw [cell_of_block (HV.out.fx _ List.mem_cons_self).1]; rfl
            rcases HR.out with ha | hg
            · have hst := (al_st ZZ.out.1 ZZ.out.2 ha).1
              by_cases h15 : i ≤ 1500
              · have g5 : decide ((i : Int) ≤ 1500) = true := decide_eq_true (by omega)
                obtain ⟨z, hz⟩ : ∃ z, z = v.st := ⟨_, rfl⟩
                rw [← hz] at KS hst
                have g6 : (z == 9) = false := beq_eq_false_iff_ne.2 hst
                have hs0 := (al_st ZZ.out.1 ZZ.out.2 ha).2
                obtain ⟨n, fl, sent2, last2, gap2, q1, q2, q3, q4⟩ := al_round ZZ.out.1 ZZ.out.2 LIM.out.2.2.2.2.2.2.1 LIM.out.2.2.2.2.2.2.2 ha (by omega) (by omega)
                have bd := al_bnd ha
                have Q1 := Lib.hid q1
                have Q2 := Lib.hid q2
                have Q3 := Lib.hid q3
                have Q4 := Lib.hid q4
                have BD := Lib.hid bd
                have HI := Lib.hid (And.intro hi1 h15)
                have HT0 : Hid (Calls Try.prog 17 #[.pointer (some ⟨q.c, 0, none⟩)] wr fun e w' => e = .returned (.tuple #[]) ∧ CB w [(no, OC f l m t)] q (tickV v) w') := Lib.hid (tick_ok HV.out (by rw [hs0]; show 0 ≤ 99990000; decide))
                clear hz hst hs0 q1 q2 q3 q4 bd ha HR h15 hi1 hi2 KR c3 HV
                go_wp2_with fail
                refine KS.out.mono ?_
                rintro e wr ⟨rfl, rfl⟩
                go_wp2_with fail
                refine HT0.out.mono ?_
                rintro e WT ⟨rfl, h⟩
                have HT := Lib.hid h
                clear h HT0 KS g5 g6
                go_wp2_with fail
                refine (out_two HT.out n fl Q1.out).mono ?_
                rintro e WO ⟨p, c, rfl, h, hb⟩
                have HV2 := Lib.hid h
                have HB := Lib.hid hb
                have HN : Hid (n = 0 ∨ n = 1) := Lib.hid (Q1.out.elim (fun a => .inl a.1) (fun a => .inr a.1))
                clear h hb HT Q1
                go_wp2_with fail
                go_loopw [19, 20, 21, 24] (fun v19 v20 v21 v24 wx => ∃ k : Nat, wx = WO ∧ v24 = .int .i64 k ∧ Hid ((k = 0 ∧ v19 = .int .i64 sent ∧ v20 = .int .i64 last ∧ v21 = .int .i64 gap) ∨ (k = 1 ∧ n = 1 ∧ v19 = .int .i64 sent2 ∧ v20 = .int .i64 last2 ∧ v21 = .int .i64 gap2))) (fun v19 v20 v21 v24 _ => 1 - (intOf v24).toNat)
                case atStart => exact ⟨0, rfl, rfl, Lib.hid (.inl ⟨rfl, rfl, rfl, rfl⟩)⟩
                case round =>
                  obtain ⟨k, rfl, rfl, HK⟩ := hrel
                  rename World => WO
                  rcases HK.out with ⟨rfl, rfl, rfl, rfl⟩ | ⟨rfl, hn, rfl, rfl, rfl⟩
                  · rcases HN.out with rfl | rfl
                    · clear HK
                      obtain ⟨r1, r2, r3⟩ := Q2.out (.inl rfl)
                      subst r1 r2 r3
                      have y2 := HI.out
                      have xi : IntKind.i64.wrap ((i : Int) + 1) = ((i + 1 : Nat) : Int) := by rw [IntWalk.i64_in _ (by omega)]; omega
                      clear y2
                      go_wp2_with fail
                      go_roundw
                      case rel => exact ⟨i + 1, _, _, _, _, by have := HI.out; omega, by have := HI.out; omega, rfl, rfl, rfl, rfl, HV2, Lib.hid (by have := Q4.out; rw [show ((i + 1 : Nat) : Int) = (i : Int) + 1 by omega]; exact this)⟩
                      case measure => have := HI.out; simp [intOf]; omega
                    · by_cases hr : fl / 4 % 2 = 1
                      · have ea : bits .and .i64 fl 4 = 4 := by rw [and_4, if_pos hr]
                        obtain ⟨r1, r2, r3⟩ := Q2.out (.inr hr)
                        subst r1 r2 r3
                        obtain ⟨b, rfl, c4⟩ := HB.out rfl
                        clear hr HK
                        go_wp2_with fail
                        go_roundw
                        case rel => exact ⟨1, by first | exact trivial | rfl, by first | exact trivial | rfl | go_num, Lib.hid (.inr (by refine ⟨?_, ?_, ?_, ?_, ?_⟩ <;> first | exact trivial | rfl))⟩
                        case measure => simp [intOf]
                      · have ea : bits .and .i64 fl 4 = 0 := by rw [and_4, if_neg hr]
                        obtain ⟨r1, r2, r3, r4, r5⟩ := Q3.out rfl hr
                        obtain ⟨b, rfl, c4⟩ := HB.out rfl
                        have y1 := BD.out
                        have y2 := HI.out
                        have x1 : IntKind.i64.wrap (sent + 1) = sent2 := by rw [r3]; exact IntWalk.i64_in _ (by omega)
                        have x2 : IntKind.i64.wrap ((i : Int) - last) = gap2 := by rw [r5]; exact IntWalk.i64_in _ (by omega)
                        have x3 : decide (gap2 < gap) = false := decide_eq_false (by omega)
                        have x4 : decide (100 < gap2) = false := decide_eq_false (by omega)
                        have R4 := Lib.hid r4
                        clear hr HK r1 r2 r3 r4 r5 y1 y2
                        go_wp2_with fail
                        go_roundw
                        case rel => exact ⟨1, by first | exact trivial | rfl, by first | exact trivial | rfl | go_num, Lib.hid (.inr (by refine ⟨?_, ?_, ?_, ?_, ?_⟩ <;> first | exact trivial | rfl | rw [R4.out]))⟩
                        case measure => simp [intOf]
                  · subst hn
                    clear HK
                    have y2 := HI.out
                    have xi : IntKind.i64.wrap ((i : Int) + 1) = ((i + 1 : Nat) : Int) := by rw [IntWalk.i64_in _ (by omega)]; omega
                    clear y2
                    go_wp2_with fail
                    go_roundw
                    case rel => exact ⟨i + 1, _, _, _, _, by have := HI.out; omega, by have := HI.out; omega, rfl, rfl, rfl, rfl, HV2, Lib.hid (by have := Q4.out; rw [show ((i + 1 : Nat) : Int) = (i : Int) + 1 by omega]; exact this)⟩
                    case measure => have := HI.out; simp [intOf]; omega
              · obtain ⟨hop, hs2, hrs, h14⟩ := al_end ZZ.out.1 ZZ.out.2 LIM.out.2.2.2.2.2.2.2 ha (by omega)
                have g5 : decide ((i : Int) ≤ 1500) = false := decide_eq_false (by omega)
                have g7 : decide (14 ≤ sent) = true := decide_eq_true h14
                have BW : Hid (Below w.heap.size w wr) := Lib.hid HV.out.bl
                rw [hs2] at KS
                rw [hrs] at KR
                have hb : b4 = true ∧ b5 = true := by
                  cases b4 <;> cases b5
                  · cases hop
                  · cases hop
                  · cases hop
                  · exact ⟨rfl, rfl⟩
                obtain ⟨rfl, rfl⟩ := hb
                clear hop hs2 hrs h14 h15 hi1 hi2 ha HR hst
                go_wp2_with fail
                refine KS.out.mono ?_
                rintro e wr ⟨rfl, rfl⟩
                go_wp2_with fail
                refine KR.out.mono ?_
                rintro e wr ⟨rfl, rfl⟩
                go_wp2_with fail
                go_ret
                exact ⟨rfl, BW.out⟩
            · obtain ⟨hs9, hrs, -, rfl, hop⟩ := hg
              have BW : Hid (Below w.heap.size w wr) := Lib.hid HV.out.bl
              rw [hs9] at KS
              rw [hrs] at KR
              have HOP := Lib.hid hop
              clear hs9 hrs hop HR
              by_cases h15 : i ≤ 1500
              · have g5 : decide ((i : Int) ≤ 1500) = true := decide_eq_true (by omega)
                clear h15 hi1 hi2
                cases b4 <;> cases b5 <;> first
                  | (exfalso; exact absurd HOP.out (by decide))
                  | (go_wp2_with fail
                     refine KS.out.mono ?_
                     rintro e wr ⟨rfl, rfl⟩
                     go_wp2_with fail
                     refine KS.out.mono ?_
                     rintro e wr ⟨rfl, rfl⟩
                     go_wp2_with fail
                     refine KR.out.mono ?_
                     rintro e wr ⟨rfl, rfl⟩
                     go_wp2_with fail
                     go_ret
                     exact ⟨rfl, BW.out⟩)
              · have g5 : decide ((i : Int) ≤ 1500) = false := decide_eq_false (by omega)
                clear h15 hi1 hi2
                cases b4 <;> cases b5 <;> first
                  | (exfalso; exact absurd HOP.out (by decide))
                  | (go_wp2_with fail
                     refine KS.out.mono ?_
                     rintro e wr ⟨rfl, rfl⟩
                     go_wp2_with fail
                     refine KR.out.mono ?_
                     rintro e wr ⟨rfl, rfl⟩
                     go_wp2_with fail
                     go_ret
                     exact ⟨rfl, BW.out⟩)
theorem walk (a0 a1 a2 a3 : Int) (a4 a5 : Bool) (a6 : ByteArray) (w0 : (Lit.int .u8 a0).wf = true) (w1 : (Lit.int .u8 a1).wf = true) (w2 : (Lit.int .u8 a2).wf = true) (w3 : (Lit.int .u8 a3).wf = true) (w6 : a6.size ≤ maxLen) (w : World) :
    Calls Try.prog 7 #[.int .u8 a0, .int .u8 a1, .int .u8 a2, .int .u8 a3, .bool a4, .bool a5, .string a6] w fun e w' => e = .returned (.bool true) ∧ Below w.heap.size w w' := by
  have b0 := sq_u8 w0
  have b1 := sq_u8 w1
  have b2 := sq_u8 w2
  have b3 := sq_u8 w3
  by_cases hb : 1 + a1 % 100 < 1 ∨ 1 + a0 % 100 < 1 + a1 % 100 ∨ 1 + a2 % 100 < 1 + a0 % 100 ∨ 1048576 < 1 + a2 % 100
  · exact walk_bad a0 a1 a2 a3 a4 a5 a6 _ _ _ _ rfl rfl rfl rfl (by omega) (by omega) (by omega) (by omega) hb w
  · exact walk_main a0 a1 a2 a3 a4 a5 a6 _ _ _ _ rfl rfl rfl rfl (by omega) (by omega) (by omega) (by omega) hb w

set_option maxRecDepth 100000 in
theorem lifted (os : Os) (started : os.Started) (H : Type) (enc : TypeId × Value → H) :
    ReturnsInHanded {} Try.checked os 7 .any (Rows.connSilentSpec.pre6 enc Try.prog Try.f7 Rows.connSilentRow.domain false) (Rows.connSilentSpec.post enc Try.prog Try.f7 false true false false) := by
  refine returnsInHanded_of_change (C := Try.checked) own started (by kernel_rfl) Try.func7
    (ChangeSpec.witness6 (enc := enc) (C := Try.checked) false ⟨#[], #[.int .u8 0, .int .u8 0, .int .u8 0, .int .u8 0, .bool false, .bool false, .string ByteArray.empty], []⟩ 8 (by kernel_rfl) (by kernel_rfl) (by kernel_rfl) (by kernel_rfl)) ?_
  intro W base args ds gs before hval0 hW hcnd _
  have hval : ∀ (j : Nat) t v, Try.f7.params[j]? = some t → args[j]? = some v → Value.okWide Try.prog W .any base t v := hval0
  have hW' := hW
  obtain ⟨p, q, hA0, hV, rfl, hfz, hnd⟩ := hW
  have hA : DataW.TrodAll enc Try.prog W 0 (fun _ => true) true Try.f7.params.toList args.toList ds p := hA0
  rw [Try.params7] at hA hval
  obtain ⟨v0, vs0, d0, ds0, p0, q0, hargs, rfl, rfl, h0, r0⟩ := trodAll_cons hA
  obtain ⟨v1, vs1, d1, ds1, p1, q1, rfl, rfl, rfl, h1, r1⟩ := trodAll_cons r0
  obtain ⟨v2, vs2, d2, ds2, p2, q2, rfl, rfl, rfl, h2, r2⟩ := trodAll_cons r1
  obtain ⟨v3, vs3, d3, ds3, p3, q3, rfl, rfl, rfl, h3, r3⟩ := trodAll_cons r2
  obtain ⟨v4, vs4, d4, ds4, p4, q4, rfl, rfl, rfl, h4, r4⟩ := trodAll_cons r3
  obtain ⟨v5, vs5, d5, ds5, p5, q5, rfl, rfl, rfl, h5, r5⟩ := trodAll_cons r4
  obtain ⟨v6, vs6, d6, ds6, p6, q6, rfl, rfl, rfl, h6, r6⟩ := trodAll_cons r5
  obtain ⟨rfl, rfl, rfl⟩ := trodAll_nil r6
  obtain rfl : args = #[v0, v1, v2, v3, v4, v5, v6] := by cases args; simp_all
  obtain ⟨rfl, rfl⟩ := trodVars_none hV
  obtain ⟨a0, rfl, rfl, rfl, w0⟩ := open_int Try.underlying5 (hval 0 5 v0 rfl rfl) h0
  obtain ⟨a1, rfl, rfl, rfl, w1⟩ := open_int Try.underlying5 (hval 1 5 v1 rfl rfl) h1
  obtain ⟨a2, rfl, rfl, rfl, w2⟩ := open_int Try.underlying5 (hval 2 5 v2 rfl rfl) h2
  obtain ⟨a3, rfl, rfl, rfl, w3⟩ := open_int Try.underlying5 (hval 3 5 v3 rfl rfl) h3
  obtain ⟨a4, rfl, rfl, rfl⟩ := open_bool Try.underlying4 (hval 4 4 v4 rfl rfl) h4
  obtain ⟨a5, rfl, rfl, rfl⟩ := open_bool Try.underlying4 (hval 5 4 v5 rfl rfl) h5
  obtain ⟨a6, rfl, rfl, rfl, w6⟩ := open_string Try.underlying9 (hval 6 9 v6 rfl rfl) h6
  clear hA0 hval0
  refine (walk a0 a1 a2 a3 a4 a5 a6 w0 w1 w2 w3 w6 W).mono fun e W' ⟨he, bel⟩ => ?_
  subst he
  exact ⟨_, rfl, _, _, _, [], _, [], hW', trodAll_mk1 (shut_bool Try.underlying4 _), (trodAll_cons_mk (shut_int Try.underlying5 w0) (trodAll_cons_mk (shut_int Try.underlying5 w1) (trodAll_cons_mk (shut_int Try.underlying5 w2) (trodAll_cons_mk (shut_int Try.underlying5 w3) (trodAll_cons_mk (shut_bool Try.underlying4 _) (trodAll_cons_mk (shut_bool Try.underlying4 _) (trodAll_cons_mk (shut_string Try.underlying9 w6) trodAll_mk0))))))), rfl, bel.frame _, fun h => by cases h⟩

/-- THE STATEMENT. -/
theorem proved : Rows.ConnSilentSaid :=
  OpenClaim.holds_of_wide 7 Try.f7 rfl rfl rfl rfl rfl rfl rfl ⟨rfl, rfl, rfl, rfl, rfl⟩ rfl rfl rfl rfl rfl (by kernel_rfl) Try.func7 (by kernel_rfl)
    (of_decide_eq_true (by kernel_rfl)) (by unfold Func.isWrapper; first | (rw [if_pos (by decide +kernel)]; kernel_rfl) | (rw [if_neg (by decide +kernel)]; exact ⟨rfl, rfl⟩))
    (fun os started H enc _ => lifted os started H enc)
#print axioms proved

end Go.Proofs.Ytlajalfalepbhaa.cos
