/-
  WheelOnce: each timer that was set is told once, or cancelled, or there still; none is told ahead of its moment, none that is due is left. No conditions: any acts.
-/
import Derived.Test.YtpbhflnhblblfaaWhP
import Derived.ProofKit
import Derived.OpenShut
import Derived.ShutString
import Derived.ChangeOld
import Derived.Below
namespace Go.Proofs.Ytpbhflnhblblfaa.onc
open Go.ChangeShapes Go.WideShapes Go.ChangeAt Go.RowKit
open Go.ChangeMaps (open_string shut_string)
set_option linter.unusedVariables false

theorem own : ownKnob Try.prog.godebug = none := by kernel_rfl
theorem laidOut : laidOutB Try.prog = true := by kernel_rfl

set_option maxRecDepth 100000 in
set_option maxHeartbeats 20000000 in
theorem walk (a0 : Option Addr) (len0 cap0 : Nat) (l0 : List Act5) (w : World) (w0 : IsActs w a0 len0 l0) :
    Calls Try.prog 6 #[.slice a0 len0 cap0] w fun e w' => e = .returned (.bool true) ∧ Below w.heap.size w w' := by
  have hm0 := w0.2.1
  unfold maxLen at hm0
  by_cases g0 : (400 : Int) < len0
  · go_enter Try.func6, Try.ntmps6
    go_wp2_with (go_at_call 17; refine (awake_any _).mono ?_; rintro e w1 ⟨rfl, b1⟩)
    go_ret
    exact ⟨rfl, b1.below⟩
  have g0' : decide ((400 : Int) < len0) = false := decide_eq_false g0
  have W0 := Lib.hid w0
  clear w0
  go_enter Try.func6, Try.ntmps6
  go_wp2_with fail
  refine (awake_any _).mono ?_
  rintro e v1 ⟨rfl, t1⟩
  go_wp2_with fail
  refine (bNewI v1).mono ?_
  rintro e v2 ⟨rfl, i2, t2, z2⟩
  have T2 := t1.trans t2
  have hmk := @run_makeMap Try.prog
  go_wp2_with fail
  have S0 : OS w.heap.size (v2.alloc (.map #[] 0)) v1.heap.size v2.heap.size 0 0 [] [] := by
    have y1 := t1.size
    have y2 := t2.size
    have k := World.grownBy_alloc v2 (.map #[] 0) none
    refine ⟨fun k => k = v1.heap.size, i2.kept (fun j hj _ => k.block j hj (by simp)), fun j hj => ?_, tab_made v2, by omega⟩
    subst hj
    exact ⟨y1, by simp; omega, by omega⟩
  have T0 := T2.alloc (.map #[] 0)
  generalize v1.heap.size = g at S0 ⊢
  generalize v2.heap.size = mb at S0 ⊢
  generalize v2.alloc (.map #[] 0) = v3 at S0 T0 ⊢
  clear t1 t2 T2 i2 z2 hmk
  go_loopw [5, 6] (fun la i wr => ∃ (k : Nat) (now last : Int) (L : List (Tm Int)), k ≤ len0 ∧ i = .int .i64 k ∧ la = .int .i64 last ∧ OS w.heap.size wr g mb now last L (List.map entT L) ∧ Turn w wr (fun _ => False) ∧ (∀ t ∈ L, t.x = t.id) ∧ L.length ≤ 256 ∧ last ≤ k) (fun _ i _ => len0 - (intOf i).toNat)
  case atStart => exact ⟨0, 0, 0, [], Nat.zero_le _, rfl, rfl, S0, T0, fun t ht => absurd ht List.not_mem_nil, by simp, by omega⟩
  case round =>
    obtain ⟨k, now, last, L, hk, rfl, rfl, SA, T, hx, hL, hla⟩ := hrel
    obtain ⟨wo, rfl⟩ : ∃ wo : World, wo = wr := ⟨_, rfl⟩
    by_cases hlt : k < len0
    · have hd : decide ((k : Int) < (len0 : Int)) = true := by simp; omega
      obtain ⟨b, o, c, rfl, _, hfit, hat⟩ := (W0.out.below T).at_ k hlt
      obtain ⟨d, n, x⟩ := c
      obtain ⟨f0, f1, f2⟩ := hfit
      have hn0 : -9223372036854775808 ≤ n := (wf_i64 f1).1
      have hn1 : n ≤ 9223372036854775807 := (wf_i64 f1).2
      have HWF := Lib.hid f1
      have HRG : Hid (wo.rangeAt b (o + k * 3) [.int .i64 d, .int .i64 n, .int .i64 x]) := Lib.hid (fun j u hu => by
        match j, hu with
        | 0, hu => simp at hu; subst hu; exact hat.1
        | 1, hu => simp at hu; subst hu; exact hat.2.1
        | 2, hu => simp at hu; subst hu; exact hat.2.2)
      have HX := Lib.hid (SA.box [.int .i64 d, .int .i64 n, .int .i64 x])
      have HT1 := Lib.hid (T.alloc (.cells #[.int .i64 d, .int .i64 n, .int .i64 x] 44))
      have hbs := T.size
      have hl0 : 0 ≤ last := by
        obtain ⟨_, ⟨_, _, _, _, _, h0, _⟩, _⟩ := SA
        exact h0
      have hids := Lib.hid (by obtain ⟨_, i, _⟩ := SA; exact i.ids : L.Pairwise (fun x y => x.id < y.id) ∧ ∀ t ∈ L, 1 ≤ t.id ∧ t.id ≤ last)
      have HXS := Lib.hid hx
      have hwl : IntKind.i64.wrap (last + 1) = last + 1 := IntWalk.i64_in _ (by omega)
      obtain ⟨d0, hd0⟩ : ∃ e : Bool, (d == 0) = e := ⟨_, rfl⟩
      obtain ⟨d1, hd1⟩ : ∃ e : Bool, (d == 1) = e := ⟨_, rfl⟩
      clear f0 f1 f2 hat SA T hx
      cases d0 with
      | true =>
        obtain ⟨Oa, iA, nA⟩ := HX.out.step
        by_cases hneg : n < 0
        · have HS := Lib.hid (bSetArgI iA n (last + 1) hneg)
          have HD := Lib.hid HX.out.drop
          have TX := HT1
          have hng : decide (0 ≤ n) = false := by simpa using hneg
          clear iA nA
          go_wp2_with (refine wpList_load_mid rfl 44 (.tmp 34) rfl b (o + k * 3) rfl [.int .i64 d, .int .i64 n, .int .i64 x] _ HRG.out Try.underlying44 rfl (by kernel_rfl) ?_)
          refine HS.out.mono ?_
          rintro e w4 ⟨rfl, rfl⟩
          clear HS
          obtain ⟨Oz, iz, _, tz, _⟩ := HD.out
          have HLz := Lib.hid (bLenI iz (by have := hL; omega))
          have TZ := Lib.hid tz
          clear iz tz
          go_wp2_with fail
          refine HLz.out.mono ?_
          rintro e wq ⟨rfl, rfl⟩
          clear HLz
          go_wp2_with (at_len; refine wpList_len_tab _ rfl _ 58 rfl 3 3 Try.underlying58 mb (List.map entT L) TZ.out rfl ?_)
          go_roundw
          case rel => exact ⟨k + 1, now, last, L, by omega, by go_num, rfl, HD.out, TX.out, HXS.out, hL, by omega⟩
          case measure => simp [intOf]; omega
        · by_cases hfull : 256 ≤ L.length
          · have HS := Lib.hid (bSetFullI iA n (last + 1) (by omega) hfull (by omega))
            have HD := Lib.hid HX.out.drop
            have TX := HT1
            have hlen := fun ty => HX.out.tab.len Try.underlying58 ty
            have hl256 : L.length = 256 := by omega
            have hml : (List.map entT L).length = 256 := by rw [List.length_map]; exact hl256
            rw [hml] at hlen
            clear iA nA
            go_wp2_with (refine wpList_load_mid rfl 44 (.tmp 34) rfl b (o + k * 3) rfl [.int .i64 d, .int .i64 n, .int .i64 x] _ HRG.out Try.underlying44 rfl (by kernel_rfl) ?_)
            refine HS.out.mono ?_
            rintro e w4 ⟨rfl, rfl⟩
            clear HS
            obtain ⟨Oz, iz, _, tz, _⟩ := HD.out
            have HLz := Lib.hid (bLenI iz (by have := hL; omega))
            have TZ := Lib.hid tz
            clear iz tz
            go_wp2_with fail
            refine HLz.out.mono ?_
            rintro e wq ⟨rfl, rfl⟩
            clear HLz
            go_wp2_with (at_len; refine wpList_len_tab _ rfl _ 58 rfl 3 3 Try.underlying58 mb (List.map entT L) TZ.out rfl ?_)
            go_roundw
            case rel => exact ⟨k + 1, now, last, L, by omega, by go_num, rfl, HD.out, TX.out, HXS.out, hL, by omega⟩
            case measure => simp [intOf]; omega
          · have HS := Lib.hid (bSetI iA n (last + 1) (by omega) hn1 (by omega) (by omega))
            have NA := Lib.hid nA
            clear iA nA
            go_wp2_with (refine wpList_load_mid rfl 44 (.tmp 34) rfl b (o + k * 3) rfl [.int .i64 d, .int .i64 n, .int .i64 x] _ HRG.out Try.underlying44 rfl (by kernel_rfl) ?_)
            refine HS.out.mono ?_
            rintro e w4 ⟨rfl, i4, t4⟩
            obtain ⟨X4, bd, bm⟩ := NA.out w4 _ _ _ i4 t4
            have T4 := HT1.out.step t4 bd
            have c1 := X4.cell 1
            have HX4 := Lib.hid X4
            have HT4 := Lib.hid T4
            have HTB := Lib.hid X4.tab
            have hnk := no_key (L := L) (id := last + 1) (fun t ht => by have := (hids.out.2 t ht).2; omega)
            have HNK := Lib.hid hnk
            have hwk : (Lit.int .i64 (last + 1)).wf = true := WalkArith.wf_i64 (by omega)
            clear i4 t4 bd bm X4 T4 NA HS hnk
            go_wp2_with (at_mapUpdate; refine wpList_mapUpdate_tab _ rfl _ _ _ 58 rfl 3 3 Try.underlying58 Try.underlying3 mb (last + 1) (.int .i64 n) (List.map entT L) HTB.out hwk HNK.out rfl rfl rfl ?_; intro w5 b5 k5; have HD := Lib.hid ((HX4.out.map k5 b5).drop); have TX := Lib.hid (HX4.out.mapTurn HT4.out rfl k5); clear b5 k5 c1)
            rw [show List.map entT L ++ [(last + 1, Value.int .i64 n)] = List.map entT (L ++ [⟨last + 1, n, last + 1⟩]) by simp [entT]] at HD
            have hL5 : (L ++ [(⟨last + 1, n, last + 1⟩ : Tm Int)]).length ≤ 256 := by rw [List.length_append]; simp; omega
            obtain ⟨Oz, iz, _, tz, _⟩ := HD.out
            have HLz := Lib.hid (bLenI iz (by have := hL5; omega))
            have TZ := Lib.hid tz
            clear iz tz
            go_wp2_with fail
            refine HLz.out.mono ?_
            rintro e wq ⟨rfl, rfl⟩
            clear HLz
            go_wp2_with (at_len; refine wpList_len_tab _ rfl _ 58 rfl 3 3 Try.underlying58 mb (List.map entT (L ++ [⟨last + 1, n, last + 1⟩])) TZ.out rfl ?_)
            go_roundw
            case rel => exact ⟨k + 1, now, last + 1, (L ++ [⟨last + 1, n, last + 1⟩]), by omega, by go_num, rfl, HD.out, TX.out, (fun t ht => by rcases List.mem_append.1 ht with ht | ht; exact HXS.out t ht; (obtain rfl := List.mem_singleton.1 ht; rfl)), hL5, by omega⟩
            case measure => simp [intOf]; omega
      | false =>
        cases d1 with
        | true =>
          obtain ⟨Oa, iA, nA⟩ := HX.out.step
          have hwl2 : (without n L).length ≤ L.length := List.length_filter_le _ _
          have hL6 : (without n L).length ≤ 256 := by omega
          have hRUN : ∃ v, Hid ((Instr.lookup 58 (.map (some mb)) (.int .i64 n) true).run Try.prog (wo.alloc (.cells [.int .i64 d, .int .i64 n, .int .i64 x].toArray 44)) = .ok (.tuple #[.int .i64 v, .bool (holdsId n L)]) (wo.alloc (.cells [.int .i64 d, .int .i64 n, .int .i64 x].toArray 44))) := by
            cases hh : holdsId n L with
            | true =>
              obtain ⟨t, ht, e⟩ := List.any_eq_true.1 hh
              have e' : t.id = n := by simpa using e
              have hm := ent_mem ht
              rw [e'] at hm
              exact ⟨t.due, Lib.hid (HX.out.tab.look_yes Try.underlying58 Try.underlying3 hm)⟩
            | false =>
              refine ⟨0, Lib.hid (HX.out.tab.look_no Try.underlying58 Try.underlying3 (Try.zeroValue3 _) HWF.out (no_key fun t ht e => ?_))⟩
              have := List.any_eq_false.1 hh t ht
              exact this (by simpa using e)
          obtain ⟨vd, HRUN⟩ := hRUN
          have HS := Lib.hid (bCancelI iA n (by omega))
          have NA := Lib.hid nA
          generalize holdsId n L = hb at HS HRUN
          clear iA nA
          go_wp2_with (first | (refine wpList_load_mid rfl 44 (.tmp 34) rfl b (o + k * 3) rfl [.int .i64 d, .int .i64 n, .int .i64 x] _ HRG.out Try.underlying44 rfl (by kernel_rfl) ?_) | (at_lookup; refine wpList_lookup_tab _ rfl _ _ 58 rfl mb n (.int .i64 vd) hb rfl rfl HRUN.out ?_))
          refine HS.out.mono ?_
          rintro e w4 ⟨rfl, i4, t4⟩
          obtain ⟨X4, bd, bm⟩ := NA.out w4 _ _ _ (i4.mono (fun j _ hj => .inl hj)) t4
          have T4 := HT1.out.step t4 bd
          have c1 := X4.cell 1
          have HX4 := Lib.hid X4
          have HT4 := Lib.hid T4
          have HTB := Lib.hid X4.tab
          clear i4 t4 bd bm X4 T4 NA HS
          have hbb : (hb != hb) = false := by cases hb <;> rfl
          go_wp2_with (at_delete; refine wpList_delete_tab _ rfl _ _ 58 3 rfl 3 Try.underlying58 Try.underlying3 mb n (List.map entT L) HTB.out HWF.out rfl rfl ?_; intro w5 b5 k5; have HD := Lib.hid ((HX4.out.map k5 b5).drop); have TX := Lib.hid (HX4.out.mapTurn HT4.out rfl k5); clear b5 k5 c1)
          rw [ent_without] at HD
          obtain ⟨Oz, iz, _, tz, _⟩ := HD.out
          have HLz := Lib.hid (bLenI iz (by have := hL6; omega))
          have TZ := Lib.hid tz
          clear iz tz
          go_wp2_with fail
          refine HLz.out.mono ?_
          rintro e wq ⟨rfl, rfl⟩
          clear HLz
          go_wp2_with (at_len; refine wpList_len_tab _ rfl _ 58 rfl 3 3 Try.underlying58 mb (List.map entT (without n L)) TZ.out rfl ?_)
          go_roundw
          case rel => exact ⟨k + 1, now, last, (without n L), by omega, by go_num, rfl, HD.out, TX.out, (fun t ht => HXS.out t (mem_without.1 ht).1), hL6, by omega⟩
          case measure => simp [intOf]; omega
        | false =>
          obtain ⟨Oa, iA, nA⟩ := HX.out.step
          obtain ⟨N, hN⟩ : ∃ N, N = max now n := ⟨_, rfl⟩
          have hnw := iA.now0
          have hN1 : N ≤ 9223372036854775807 := by omega
          have HS := Lib.hid (bAdvI iA n hn1 (by omega) N hN)
          have NA := Lib.hid nA
          have hmbl := HX.out.tab.lt
          have htl : (told N L).length ≤ L.length := by rw [(told_perm N L).length_eq]; exact dues_len N L
          have HMEM := Lib.hid (memOk N L)
          have HTX := Lib.hid (fun t (ht : t ∈ told N L) => HXS.out t (mem_dues.1 ((told_perm N L).mem_iff.1 ht)).1)
          have HNX := Lib.hid (nextOk N L)
          have HLA := Lib.hid (leftE_all hids.out.1 N)
          have HLZ := Lib.hid (leftE_zero (told N L) L)
          have HLS := Lib.hid (leftOk (told N L) L)
          have hrl : (rests N L).length ≤ 256 := by have := rests_len N L; omega
          clear iA nA hN
          generalize told N L = TT at HS htl HMEM HTX HNX HLA HLZ HLS
          go_wp2_with (refine wpList_load_mid rfl 44 (.tmp 34) rfl b (o + k * 3) rfl [.int .i64 d, .int .i64 n, .int .i64 x] _ HRG.out Try.underlying44 rfl (by kernel_rfl) ?_)
          refine HS.out.mono ?_
          rintro e w4 ⟨v4, rfl, o4, i4, t4⟩
          obtain ⟨X4, bd, bm⟩ := NA.out w4 _ _ _ i4 t4
          have T4 := Lib.hid (HT1.out.step t4 bd)
          obtain ⟨p, c, hv4, P4⟩ := RowP.of (mb := mb) o4 HTX.out hmbl
          subst hv4
          have HX4 := Lib.hid X4
          have HP4 := Lib.hid P4
          have hT4 := Turn.refl w4 (fun _ => False)
          clear o4 i4 t4 bd bm X4 P4 HS NA hnw hmbl
          go_wp2_with fail
          go_loopw [13] (fun i w5 => ∃ j : Nat, j ≤ TT.length ∧ i = .int .i64 j ∧ Turn w4 w5 (fun _ => False)) (fun i _ => TT.length - (intOf i).toNat)
          case atStart => exact ⟨0, Nat.zero_le _, rfl, hT4⟩
          case round =>
            obtain ⟨j, hj, rfl, T5⟩ := hrel
            obtain ⟨w5, rfl⟩ : ∃ w5 : World, w5 = wr := ⟨_, rfl⟩
            by_cases hjl : j < TT.length
            · have hdj : decide ((j : Int) < (TT.length : Int)) = true := by simp; omega
              obtain ⟨b2, hp2, _, hc2⟩ := (HP4.out.turn T5) (by omega)
              subst hp2
              have cj := hc2 j hjl
              have htj := HMEM.out j hjl
              have hlk := Lib.hid (fun (V : World) (t : Turn w5 V (fun _ => False)) => ((HX4.out.kept (T5.trans t)).tab.look_yes Try.underlying58 Try.underlying3 (ent_mem htj.1)))
              have HNW := Lib.hid (fun (V : World) (t : Turn w5 V (fun _ => False)) => (HX4.out.kept (T5.trans t)).now)
              have hdue : decide (N < TT[j].due) = false := by have := htj.2; simp; omega
              have HCC := Lib.hid hc2
              have HT5 := Lib.hid T5
              have HRUN := Lib.hid (hlk.out w5 (Turn.refl _ _))
              have hjb : (j : Int) < (TT.length : Int) := by omega
              have hT5 := Turn.refl w5 (fun _ => False)
              clear hc2 T5 htj
              rcases Nat.eq_zero_or_pos j with hj0 | hj0
              · subst hj0
                generalize TT[0].due = td at *
                generalize TT[0].id = ti at *
                go_upto_region 18 with (at_lookup; refine wpList_lookup_tab _ rfl _ _ 58 rfl mb ti (.int .i64 td) true rfl rfl HRUN.out ?_)
                refine wp_region_noPanic ?_
                refine region_held (S := fun V => Turn w5 V (fun _ => False)) (by kernel_rfl) (fun V d => d.turn _) (fun V d hS => ?_)
                refine wpAnyH_take (i := 0) (oi := ⟨some 57, Op.move (Operand.tmp 15), _, _, _, none⟩) (v := (.bool true)) rfl (by kernel_rfl) (by kernel_rfl) (by kernel_rfl) (fun _ _ _ h => h) (Or.inl ⟨by rfl, fun w' h' => ?_⟩) hS ?_
                · clear h'
                  go_simp
                simp only [Act.put]
                refine wpAnyH_take (i := 1) (oi := ⟨some 58, Op.unOp UnOp.not 4 (Operand.tmp 57), _, _, _, none⟩) (v := (.bool false)) rfl (by kernel_rfl) (by kernel_rfl) (by kernel_rfl) (fun _ _ _ h => h) (Or.inl ⟨by rfl, fun w' h' => ?_⟩) hS ?_
                · clear h'
                  go_simp
                simp only [Act.put]
                refine wpAnyH_take (i := 2) (oi := ⟨some 59, Op.move (Operand.tmp 58), _, _, _, none⟩) (v := (.bool false)) rfl (by kernel_rfl) (by kernel_rfl) (by kernel_rfl) (fun _ _ _ h => h) (Or.inl ⟨by rfl, fun w' h' => ?_⟩) hS ?_
                · clear h'
                  go_simp
                simp only [Act.put]
                refine wpAnyH_take (i := 3) (oi := ⟨some 60, Op.move (Operand.tmp 14), _, _, _, some (2, false)⟩) (v := (.int .i64 td)) rfl (by kernel_rfl) (by kernel_rfl) (by kernel_rfl) (fun _ _ _ h => h) (Or.inl ⟨by kernel_rfl, fun w' h' => ?_⟩) hS ?_
                · clear h'
                  go_simp
                simp only [Act.put]
                refine wpAnyH_take (i := 4) (oi := ⟨some 61, Op.move (Operand.tmp 3), _, _, _, some (2, false)⟩) (v := (.pointer (some ⟨g, 0, none⟩))) rfl (by kernel_rfl) (by kernel_rfl) (by kernel_rfl) (fun _ _ _ h => h) (Or.inl ⟨by kernel_rfl, fun w' h' => ?_⟩) hS ?_
                · clear h'
                  go_simp
                simp only [Act.put]
                refine wpAnyH_ready (rs := [5]) (by kernel_rfl) (by simp) ?_
                refine AllReadyH.cons rfl (fun K hK => ?_) AllReadyH.nil
                go_simp
                refine (HNW.out V hS).mono ?_
                rintro e w6 ⟨rfl, rfl⟩
                go_simp
                refine hK.out _ _ hS (fun _ => ?_)
                clear hK K
                refine wpAnyH_take (i := 6) (oi := ⟨some 63, Op.binOp BinOp.gtr 3 (Operand.tmp 60) (Operand.tmp 62) 3, _, _, _, some (2, false)⟩) (v := (.bool false)) rfl (by kernel_rfl) (by kernel_rfl) (by kernel_rfl) (fun _ _ _ h => h) (Or.inl ⟨by kernel_rfl, fun w' h' => ?_⟩) hS ?_
                · clear h'
                  go_simp
                simp only [Act.put]
                refine wpAnyH_take (i := 7) (oi := ⟨some 64, Op.pick (Operand.tmp 59) (Operand.const (Value.bool true)) (Operand.tmp 63), _, _, _, none⟩) (v := (.bool false)) rfl (by kernel_rfl) (by kernel_rfl) (by kernel_rfl) (fun _ _ _ h => h) (Or.inl ⟨by rfl, fun w' h' => ?_⟩) hS ?_
                · clear h'
                  go_simp
                simp only [Act.put]
                refine wpAnyH_take (i := 8) (oi := ⟨some 65, Op.move (Operand.tmp 64), _, _, _, none⟩) (v := (.bool false)) rfl (by kernel_rfl) (by kernel_rfl) (by kernel_rfl) (fun _ _ _ h => h) (Or.inl ⟨by rfl, fun w' h' => ?_⟩) hS ?_
                · clear h'
                  go_simp
                simp only [Act.put]
                refine wpAnyH_take (i := 9) (oi := ⟨some 66, Op.move (Operand.tmp 13), _, _, _, some (8, false)⟩) (v := (.int .i64 0)) rfl (by kernel_rfl) (by kernel_rfl) (by kernel_rfl) (fun _ _ _ h => h) (Or.inl ⟨by kernel_rfl, fun w' h' => ?_⟩) hS ?_
                · clear h'
                  go_simp
                simp only [Act.put]
                refine wpAnyH_take (i := 10) (oi := ⟨some 67, Op.binOp BinOp.gtr 3 (Operand.tmp 66) (Operand.const (Value.int IntKind.i64 0)) 3, _, _, _, some (8, false)⟩) (v := (.bool false)) rfl (by kernel_rfl) (by kernel_rfl) (by kernel_rfl) (fun _ _ _ h => h) (Or.inl ⟨by kernel_rfl, fun w' h' => ?_⟩) hS ?_
                · clear h'
                  go_simp
                simp only [Act.put]
                refine wpAnyH_take (i := 11) (oi := ⟨some 68, Op.move (Operand.tmp 67), _, _, _, some (8, false)⟩) (v := (.bool false)) rfl (by kernel_rfl) (by kernel_rfl) (by kernel_rfl) (fun _ _ _ h => h) (Or.inl ⟨by kernel_rfl, fun w' h' => ?_⟩) hS ?_
                · clear h'
                  go_simp
                simp only [Act.put]
                refine wpAnyH_take (i := 12) (oi := ⟨some 69, Op.move (Operand.tmp 4), _, _, _, some (11, true)⟩) (v := undef) rfl (by kernel_rfl) (by kernel_rfl) (by kernel_rfl) (fun _ _ _ h => h) (Or.inr ⟨by kernel_rfl, rfl⟩) hS ?_
                simp only [Act.put]
                refine wpAnyH_take (i := 13) (oi := ⟨some 70, Op.move (Operand.tmp 12), _, _, _, some (11, true)⟩) (v := undef) rfl (by kernel_rfl) (by kernel_rfl) (by kernel_rfl) (fun _ _ _ h => h) (Or.inr ⟨by kernel_rfl, rfl⟩) hS ?_
                simp only [Act.put]
                refine wpAnyH_take (i := 14) (oi := ⟨some 71, Op.move (Operand.tmp 13), _, _, _, some (11, true)⟩) (v := undef) rfl (by kernel_rfl) (by kernel_rfl) (by kernel_rfl) (fun _ _ _ h => h) (Or.inr ⟨by kernel_rfl, rfl⟩) hS ?_
                simp only [Act.put]
                refine wpAnyH_take (i := 15) (oi := ⟨some 72, Op.binOp BinOp.sub 3 (Operand.tmp 71) (Operand.const (Value.int IntKind.i64 1)) 3, _, _, _, some (11, true)⟩) (v := undef) rfl (by kernel_rfl) (by kernel_rfl) (by kernel_rfl) (fun _ _ _ h => h) (Or.inr ⟨by kernel_rfl, rfl⟩) hS ?_
                simp only [Act.put]
                refine wpAnyH_take (i := 16) (oi := ⟨some 73, Op.indexAddr 37 (Operand.tmp 70) (Operand.tmp 72), _, _, _, some (11, true)⟩) (v := undef) rfl (by kernel_rfl) (by kernel_rfl) (by kernel_rfl) (fun _ _ _ h => h) (Or.inr ⟨by kernel_rfl, rfl⟩) hS ?_
                simp only [Act.put]
                refine wpAnyH_take (i := 17) (oi := ⟨some 74, Op.load 3 (Operand.tmp 73), _, _, _, some (11, true)⟩) (v := undef) rfl (by kernel_rfl) (by kernel_rfl) (by kernel_rfl) (fun _ _ _ h => h) (Or.inr ⟨by kernel_rfl, rfl⟩) hS ?_
                simp only [Act.put]
                refine wpAnyH_take (i := 18) (oi := ⟨some 75, Op.lookup 58 (Operand.tmp 69) (Operand.tmp 74) false, _, _, _, some (11, true)⟩) (v := undef) rfl (by kernel_rfl) (by kernel_rfl) (by kernel_rfl) (fun _ _ _ h => h) (Or.inr ⟨by kernel_rfl, rfl⟩) hS ?_
                simp only [Act.put]
                refine wpAnyH_take (i := 19) (oi := ⟨some 76, Op.move (Operand.tmp 14), _, _, _, some (11, true)⟩) (v := undef) rfl (by kernel_rfl) (by kernel_rfl) (by kernel_rfl) (fun _ _ _ h => h) (Or.inr ⟨by kernel_rfl, rfl⟩) hS ?_
                simp only [Act.put]
                refine wpAnyH_take (i := 20) (oi := ⟨some 77, Op.binOp BinOp.gtr 3 (Operand.tmp 75) (Operand.tmp 76) 3, _, _, _, some (11, true)⟩) (v := undef) rfl (by kernel_rfl) (by kernel_rfl) (by kernel_rfl) (fun _ _ _ h => h) (Or.inr ⟨by kernel_rfl, rfl⟩) hS ?_
                simp only [Act.put]
                refine wpAnyH_take (i := 21) (oi := ⟨some 78, Op.move (Operand.tmp 77), _, _, _, some (11, true)⟩) (v := undef) rfl (by kernel_rfl) (by kernel_rfl) (by kernel_rfl) (fun _ _ _ h => h) (Or.inr ⟨by kernel_rfl, rfl⟩) hS ?_
                simp only [Act.put]
                refine wpAnyH_take (i := 22) (oi := ⟨some 79, Op.move (Operand.tmp 4), _, _, _, some (21, false)⟩) (v := undef) rfl (by kernel_rfl) (by kernel_rfl) (by kernel_rfl) (fun _ _ _ h => h) (Or.inr ⟨by kernel_rfl, rfl⟩) hS ?_
                simp only [Act.put]
                refine wpAnyH_take (i := 23) (oi := ⟨some 80, Op.move (Operand.tmp 12), _, _, _, some (21, false)⟩) (v := undef) rfl (by kernel_rfl) (by kernel_rfl) (by kernel_rfl) (fun _ _ _ h => h) (Or.inr ⟨by kernel_rfl, rfl⟩) hS ?_
                simp only [Act.put]
                refine wpAnyH_take (i := 24) (oi := ⟨some 81, Op.move (Operand.tmp 13), _, _, _, some (21, false)⟩) (v := undef) rfl (by kernel_rfl) (by kernel_rfl) (by kernel_rfl) (fun _ _ _ h => h) (Or.inr ⟨by kernel_rfl, rfl⟩) hS ?_
                simp only [Act.put]
                refine wpAnyH_take (i := 25) (oi := ⟨some 82, Op.binOp BinOp.sub 3 (Operand.tmp 81) (Operand.const (Value.int IntKind.i64 1)) 3, _, _, _, some (21, false)⟩) (v := undef) rfl (by kernel_rfl) (by kernel_rfl) (by kernel_rfl) (fun _ _ _ h => h) (Or.inr ⟨by kernel_rfl, rfl⟩) hS ?_
                simp only [Act.put]
                refine wpAnyH_take (i := 26) (oi := ⟨some 83, Op.indexAddr 37 (Operand.tmp 80) (Operand.tmp 82), _, _, _, some (21, false)⟩) (v := undef) rfl (by kernel_rfl) (by kernel_rfl) (by kernel_rfl) (fun _ _ _ h => h) (Or.inr ⟨by kernel_rfl, rfl⟩) hS ?_
                simp only [Act.put]
                refine wpAnyH_take (i := 27) (oi := ⟨some 84, Op.load 3 (Operand.tmp 83), _, _, _, some (21, false)⟩) (v := undef) rfl (by kernel_rfl) (by kernel_rfl) (by kernel_rfl) (fun _ _ _ h => h) (Or.inr ⟨by kernel_rfl, rfl⟩) hS ?_
                simp only [Act.put]
                refine wpAnyH_take (i := 28) (oi := ⟨some 85, Op.lookup 58 (Operand.tmp 79) (Operand.tmp 84) false, _, _, _, some (21, false)⟩) (v := undef) rfl (by kernel_rfl) (by kernel_rfl) (by kernel_rfl) (fun _ _ _ h => h) (Or.inr ⟨by kernel_rfl, rfl⟩) hS ?_
                simp only [Act.put]
                refine wpAnyH_take (i := 29) (oi := ⟨some 86, Op.move (Operand.tmp 14), _, _, _, some (21, false)⟩) (v := undef) rfl (by kernel_rfl) (by kernel_rfl) (by kernel_rfl) (fun _ _ _ h => h) (Or.inr ⟨by kernel_rfl, rfl⟩) hS ?_
                simp only [Act.put]
                refine wpAnyH_take (i := 30) (oi := ⟨some 87, Op.binOp BinOp.eql 3 (Operand.tmp 85) (Operand.tmp 86) 3, _, _, _, some (21, false)⟩) (v := undef) rfl (by kernel_rfl) (by kernel_rfl) (by kernel_rfl) (fun _ _ _ h => h) (Or.inr ⟨by kernel_rfl, rfl⟩) hS ?_
                simp only [Act.put]
                refine wpAnyH_take (i := 31) (oi := ⟨some 88, Op.move (Operand.tmp 87), _, _, _, some (21, false)⟩) (v := undef) rfl (by kernel_rfl) (by kernel_rfl) (by kernel_rfl) (fun _ _ _ h => h) (Or.inr ⟨by kernel_rfl, rfl⟩) hS ?_
                simp only [Act.put]
                refine wpAnyH_take (i := 32) (oi := ⟨some 89, Op.move (Operand.tmp 12), _, _, _, some (31, true)⟩) (v := undef) rfl (by kernel_rfl) (by kernel_rfl) (by kernel_rfl) (fun _ _ _ h => h) (Or.inr ⟨by kernel_rfl, rfl⟩) hS ?_
                simp only [Act.put]
                refine wpAnyH_take (i := 33) (oi := ⟨some 90, Op.move (Operand.tmp 13), _, _, _, some (31, true)⟩) (v := undef) rfl (by kernel_rfl) (by kernel_rfl) (by kernel_rfl) (fun _ _ _ h => h) (Or.inr ⟨by kernel_rfl, rfl⟩) hS ?_
                simp only [Act.put]
                refine wpAnyH_take (i := 34) (oi := ⟨some 91, Op.binOp BinOp.sub 3 (Operand.tmp 90) (Operand.const (Value.int IntKind.i64 1)) 3, _, _, _, some (31, true)⟩) (v := undef) rfl (by kernel_rfl) (by kernel_rfl) (by kernel_rfl) (fun _ _ _ h => h) (Or.inr ⟨by kernel_rfl, rfl⟩) hS ?_
                simp only [Act.put]
                refine wpAnyH_take (i := 35) (oi := ⟨some 92, Op.indexAddr 37 (Operand.tmp 89) (Operand.tmp 91), _, _, _, some (31, true)⟩) (v := undef) rfl (by kernel_rfl) (by kernel_rfl) (by kernel_rfl) (fun _ _ _ h => h) (Or.inr ⟨by kernel_rfl, rfl⟩) hS ?_
                simp only [Act.put]
                refine wpAnyH_take (i := 36) (oi := ⟨some 93, Op.load 3 (Operand.tmp 92), _, _, _, some (31, true)⟩) (v := undef) rfl (by kernel_rfl) (by kernel_rfl) (by kernel_rfl) (fun _ _ _ h => h) (Or.inr ⟨by kernel_rfl, rfl⟩) hS ?_
                simp only [Act.put]
                refine wpAnyH_take (i := 37) (oi := ⟨some 94, Op.move (Operand.tmp 12), _, _, _, some (31, true)⟩) (v := undef) rfl (by kernel_rfl) (by kernel_rfl) (by kernel_rfl) (fun _ _ _ h => h) (Or.inr ⟨by kernel_rfl, rfl⟩) hS ?_
                simp only [Act.put]
                refine wpAnyH_take (i := 38) (oi := ⟨some 95, Op.move (Operand.tmp 13), _, _, _, some (31, true)⟩) (v := undef) rfl (by kernel_rfl) (by kernel_rfl) (by kernel_rfl) (fun _ _ _ h => h) (Or.inr ⟨by kernel_rfl, rfl⟩) hS ?_
                simp only [Act.put]
                refine wpAnyH_take (i := 39) (oi := ⟨some 96, Op.indexAddr 37 (Operand.tmp 94) (Operand.tmp 95), _, _, _, some (31, true)⟩) (v := undef) rfl (by kernel_rfl) (by kernel_rfl) (by kernel_rfl) (fun _ _ _ h => h) (Or.inr ⟨by kernel_rfl, rfl⟩) hS ?_
                simp only [Act.put]
                refine wpAnyH_take (i := 40) (oi := ⟨some 97, Op.load 3 (Operand.tmp 96), _, _, _, some (31, true)⟩) (v := undef) rfl (by kernel_rfl) (by kernel_rfl) (by kernel_rfl) (fun _ _ _ h => h) (Or.inr ⟨by kernel_rfl, rfl⟩) hS ?_
                simp only [Act.put]
                refine wpAnyH_take (i := 41) (oi := ⟨some 98, Op.binOp BinOp.gtr 3 (Operand.tmp 93) (Operand.tmp 97) 3, _, _, _, some (31, true)⟩) (v := undef) rfl (by kernel_rfl) (by kernel_rfl) (by kernel_rfl) (fun _ _ _ h => h) (Or.inr ⟨by kernel_rfl, rfl⟩) hS ?_
                simp only [Act.put]
                refine wpAnyH_take (i := 42) (oi := ⟨some 99, Op.pick (Operand.tmp 88) (Operand.tmp 98) (Operand.const (Value.bool false)), _, _, _, some (21, false)⟩) (v := undef) rfl (by kernel_rfl) (by kernel_rfl) (by kernel_rfl) (fun _ _ _ h => h) (Or.inr ⟨by kernel_rfl, rfl⟩) hS ?_
                simp only [Act.put]
                refine wpAnyH_take (i := 43) (oi := ⟨some 100, Op.pick (Operand.tmp 78) (Operand.const (Value.bool true)) (Operand.tmp 99), _, _, _, some (11, true)⟩) (v := undef) rfl (by kernel_rfl) (by kernel_rfl) (by kernel_rfl) (fun _ _ _ h => h) (Or.inr ⟨by kernel_rfl, rfl⟩) hS ?_
                simp only [Act.put]
                refine wpAnyH_take (i := 44) (oi := ⟨some 101, Op.pick (Operand.tmp 68) (Operand.tmp 100) (Operand.const (Value.bool false)), _, _, _, some (8, false)⟩) (v := (.bool false)) rfl (by kernel_rfl) (by kernel_rfl) (by kernel_rfl) (fun _ _ _ h => h) (Or.inl ⟨by kernel_rfl, fun w' h' => ?_⟩) hS ?_
                · clear h'
                  go_simp
                simp only [Act.put]
                refine wpAnyH_take (i := 45) (oi := ⟨some 102, Op.pick (Operand.tmp 65) (Operand.const (Value.bool true)) (Operand.tmp 101), _, _, _, none⟩) (v := (.bool false)) rfl (by kernel_rfl) (by kernel_rfl) (by kernel_rfl) (fun _ _ _ h => h) (Or.inl ⟨by rfl, fun w' h' => ?_⟩) hS ?_
                · clear h'
                  go_simp
                simp only [Act.put]
                refine wpAnyH_done (by kernel_rfl) (NoPanic.normal ?_) _
                try simp only [List.setIfInBounds_toArray, List.set_cons_zero, List.set_cons_succ]
                have TV := Lib.hid hS
                clear hS d
                go_wp2_with fail
                go_roundw
                case rel => exact ⟨0 + 1, by omega, by go_num, HT5.out.trans TV.out⟩
                case measure => simp [intOf]; omega
              · obtain ⟨q, rfl⟩ : ∃ q, j = q + 1 := ⟨j - 1, by omega⟩
                have hql : q < TT.length := by omega
                have hnx := HNX.out q hjl
                have htq := HMEM.out q hql
                have hlq := Lib.hid (fun (V : World) (t : Turn w5 V (fun _ => False)) => ((HX4.out.kept (HT5.out.trans t)).tab.look_bare Try.underlying58 Try.underlying3 (ent_mem htq.1)))
                have HCQ := Lib.hid (fun (V : World) (t : Turn w5 V (fun _ => False)) => (World.cell?_of_block (a := ⟨b2, q, none⟩) (t.block b2 (World.block_lt_of_cell? w5 _ (HCC.out q hql)) id)).trans (HCC.out q hql))
                have HCJ := Lib.hid (fun (V : World) (t : Turn w5 V (fun _ => False)) => (World.cell?_of_block (a := ⟨b2, q + 1, none⟩) (t.block b2 (World.block_lt_of_cell? w5 _ (HCC.out (q + 1) hjl)) id)).trans (HCC.out (q + 1) hjl))
                have hqi : (q : Int) < (TT.length : Int) := by omega
                have hqj : (q : Int) + 1 < (TT.length : Int) := by omega
                have hq0 : 0 ≤ (q : Int) + 1 := by omega
                have hq9 : (q : Int) ≤ 1000 := by omega
                have hwq : IntKind.i64.wrap (q : Int) = (q : Int) := IntWalk.i64_in _ (by omega)
                clear htq
                generalize TT[q + 1].due = td at *
                generalize TT[q + 1].id = ti at *
                generalize TT[q].due = ud at *
                generalize TT[q].id = ui at *
                have hgt : decide (td < ud) = false := by simp; omega
                go_upto_region 18 with (at_lookup; refine wpList_lookup_tab _ rfl _ _ 58 rfl mb ti (.int .i64 td) true rfl rfl HRUN.out ?_)
                by_cases heq : ud = td
                · have hee : (ud == td) = true := by simpa using heq
                  have hig : decide (ti < ui) = false := by simp; omega
                  clear heq hnx
                  refine wp_region_noPanic ?_
                  refine region_held (S := fun V => Turn w5 V (fun _ => False)) (by kernel_rfl) (fun V d => d.turn _) (fun V d hS => ?_)
                  refine wpAnyH_take (i := 0) (oi := ⟨some 57, Op.move (Operand.tmp 15), _, _, _, none⟩) (v := (.bool true)) rfl (by kernel_rfl) (by kernel_rfl) (by kernel_rfl) (fun _ _ _ h => h) (Or.inl ⟨by rfl, fun w' h' => ?_⟩) hS ?_
                  · clear h'
                    go_simp
                  simp only [Act.put]
                  refine wpAnyH_take (i := 1) (oi := ⟨some 58, Op.unOp UnOp.not 4 (Operand.tmp 57), _, _, _, none⟩) (v := (.bool false)) rfl (by kernel_rfl) (by kernel_rfl) (by kernel_rfl) (fun _ _ _ h => h) (Or.inl ⟨by rfl, fun w' h' => ?_⟩) hS ?_
                  · clear h'
                    go_simp
                  simp only [Act.put]
                  refine wpAnyH_take (i := 2) (oi := ⟨some 59, Op.move (Operand.tmp 58), _, _, _, none⟩) (v := (.bool false)) rfl (by kernel_rfl) (by kernel_rfl) (by kernel_rfl) (fun _ _ _ h => h) (Or.inl ⟨by rfl, fun w' h' => ?_⟩) hS ?_
                  · clear h'
                    go_simp
                  simp only [Act.put]
                  refine wpAnyH_take (i := 3) (oi := ⟨some 60, Op.move (Operand.tmp 14), _, _, _, some (2, false)⟩) (v := (.int .i64 td)) rfl (by kernel_rfl) (by kernel_rfl) (by kernel_rfl) (fun _ _ _ h => h) (Or.inl ⟨by kernel_rfl, fun w' h' => ?_⟩) hS ?_
                  · clear h'
                    go_simp
                  simp only [Act.put]
                  refine wpAnyH_take (i := 4) (oi := ⟨some 61, Op.move (Operand.tmp 3), _, _, _, some (2, false)⟩) (v := (.pointer (some ⟨g, 0, none⟩))) rfl (by kernel_rfl) (by kernel_rfl) (by kernel_rfl) (fun _ _ _ h => h) (Or.inl ⟨by kernel_rfl, fun w' h' => ?_⟩) hS ?_
                  · clear h'
                    go_simp
                  simp only [Act.put]
                  refine wpAnyH_ready (rs := [5]) (by kernel_rfl) (by simp) ?_
                  refine AllReadyH.cons rfl (fun K hK => ?_) AllReadyH.nil
                  go_simp
                  refine (HNW.out V hS).mono ?_
                  rintro e w6 ⟨rfl, rfl⟩
                  go_simp
                  refine hK.out _ _ hS (fun _ => ?_)
                  clear hK K
                  refine wpAnyH_take (i := 6) (oi := ⟨some 63, Op.binOp BinOp.gtr 3 (Operand.tmp 60) (Operand.tmp 62) 3, _, _, _, some (2, false)⟩) (v := (.bool false)) rfl (by kernel_rfl) (by kernel_rfl) (by kernel_rfl) (fun _ _ _ h => h) (Or.inl ⟨by kernel_rfl, fun w' h' => ?_⟩) hS ?_
                  · clear h'
                    go_simp
                  simp only [Act.put]
                  refine wpAnyH_take (i := 7) (oi := ⟨some 64, Op.pick (Operand.tmp 59) (Operand.const (Value.bool true)) (Operand.tmp 63), _, _, _, none⟩) (v := (.bool false)) rfl (by kernel_rfl) (by kernel_rfl) (by kernel_rfl) (fun _ _ _ h => h) (Or.inl ⟨by rfl, fun w' h' => ?_⟩) hS ?_
                  · clear h'
                    go_simp
                  simp only [Act.put]
                  refine wpAnyH_take (i := 8) (oi := ⟨some 65, Op.move (Operand.tmp 64), _, _, _, none⟩) (v := (.bool false)) rfl (by kernel_rfl) (by kernel_rfl) (by kernel_rfl) (fun _ _ _ h => h) (Or.inl ⟨by rfl, fun w' h' => ?_⟩) hS ?_
                  · clear h'
                    go_simp
                  simp only [Act.put]
                  refine wpAnyH_take (i := 9) (oi := ⟨some 66, Op.move (Operand.tmp 13), _, _, _, some (8, false)⟩) (v := (.int .i64 ((q : Int) + 1))) rfl (by kernel_rfl) (by kernel_rfl) (by kernel_rfl) (fun _ _ _ h => h) (Or.inl ⟨by kernel_rfl, fun w' h' => ?_⟩) hS ?_
                  · clear h'
                    go_simp
                  simp only [Act.put]
                  refine wpAnyH_take (i := 10) (oi := ⟨some 67, Op.binOp BinOp.gtr 3 (Operand.tmp 66) (Operand.const (Value.int IntKind.i64 0)) 3, _, _, _, some (8, false)⟩) (v := (.bool true)) rfl (by kernel_rfl) (by kernel_rfl) (by kernel_rfl) (fun _ _ _ h => h) (Or.inl ⟨by kernel_rfl, fun w' h' => ?_⟩) hS ?_
                  · clear h'
                    go_simp
                  simp only [Act.put]
                  refine wpAnyH_take (i := 11) (oi := ⟨some 68, Op.move (Operand.tmp 67), _, _, _, some (8, false)⟩) (v := (.bool true)) rfl (by kernel_rfl) (by kernel_rfl) (by kernel_rfl) (fun _ _ _ h => h) (Or.inl ⟨by kernel_rfl, fun w' h' => ?_⟩) hS ?_
                  · clear h'
                    go_simp
                  simp only [Act.put]
                  refine wpAnyH_take (i := 12) (oi := ⟨some 69, Op.move (Operand.tmp 4), _, _, _, some (11, true)⟩) (v := (.map (some mb))) rfl (by kernel_rfl) (by kernel_rfl) (by kernel_rfl) (fun _ _ _ h => h) (Or.inl ⟨by kernel_rfl, fun w' h' => ?_⟩) hS ?_
                  · clear h'
                    go_simp
                  simp only [Act.put]
                  refine wpAnyH_take (i := 13) (oi := ⟨some 70, Op.move (Operand.tmp 12), _, _, _, some (11, true)⟩) (v := (.slice (some ⟨b2, 0, none⟩) TT.length c)) rfl (by kernel_rfl) (by kernel_rfl) (by kernel_rfl) (fun _ _ _ h => h) (Or.inl ⟨by kernel_rfl, fun w' h' => ?_⟩) hS ?_
                  · clear h'
                    go_simp
                  simp only [Act.put]
                  refine wpAnyH_take (i := 14) (oi := ⟨some 71, Op.move (Operand.tmp 13), _, _, _, some (11, true)⟩) (v := (.int .i64 ((q : Int) + 1))) rfl (by kernel_rfl) (by kernel_rfl) (by kernel_rfl) (fun _ _ _ h => h) (Or.inl ⟨by kernel_rfl, fun w' h' => ?_⟩) hS ?_
                  · clear h'
                    go_simp
                  simp only [Act.put]
                  refine wpAnyH_take (i := 15) (oi := ⟨some 72, Op.binOp BinOp.sub 3 (Operand.tmp 71) (Operand.const (Value.int IntKind.i64 1)) 3, _, _, _, some (11, true)⟩) (v := (.int .i64 (q : Int))) rfl (by kernel_rfl) (by kernel_rfl) (by kernel_rfl) (fun _ _ _ h => h) (Or.inl ⟨by kernel_rfl, fun w' h' => ?_⟩) hS ?_
                  · clear h'
                    go_simp
                  simp only [Act.put]
                  refine wpAnyH_take (i := 16) (oi := ⟨some 73, Op.indexAddr 37 (Operand.tmp 70) (Operand.tmp 72), _, _, _, some (11, true)⟩) (v := (.pointer (some ⟨b2, q, none⟩))) rfl (by kernel_rfl) (by kernel_rfl) (by kernel_rfl) (fun _ _ _ h => h) (Or.inl ⟨by kernel_rfl, fun w' h' => ?_⟩) hS ?_
                  · clear h'
                    go_simp
                  simp only [Act.put]
                  refine wpAnyH_take (i := 17) (oi := ⟨some 74, Op.load 3 (Operand.tmp 73), _, _, _, some (11, true)⟩) (v := (.int .i64 ui)) rfl (by kernel_rfl) (by kernel_rfl) (by kernel_rfl) (fun _ _ _ h => h) (Or.inl ⟨by kernel_rfl, fun w' h' => ?_⟩) hS ?_
                  · have c0 := HCQ.out w' h'
                    clear h'
                    go_simp
                  simp only [Act.put]
                  refine wpAnyH_take (i := 18) (oi := ⟨some 75, Op.lookup 58 (Operand.tmp 69) (Operand.tmp 74) false, _, _, _, some (11, true)⟩) (v := (.int .i64 ud)) rfl (by kernel_rfl) (by kernel_rfl) (by kernel_rfl) (fun _ _ _ h => h) (Or.inl ⟨by kernel_rfl, fun w' h' => ?_⟩) hS ?_
                  · have c0 := hlq.out w' h'
                    clear h'
                    go_simp
                  simp only [Act.put]
                  refine wpAnyH_take (i := 19) (oi := ⟨some 76, Op.move (Operand.tmp 14), _, _, _, some (11, true)⟩) (v := (.int .i64 td)) rfl (by kernel_rfl) (by kernel_rfl) (by kernel_rfl) (fun _ _ _ h => h) (Or.inl ⟨by kernel_rfl, fun w' h' => ?_⟩) hS ?_
                  · clear h'
                    go_simp
                  simp only [Act.put]
                  refine wpAnyH_take (i := 20) (oi := ⟨some 77, Op.binOp BinOp.gtr 3 (Operand.tmp 75) (Operand.tmp 76) 3, _, _, _, some (11, true)⟩) (v := (.bool false)) rfl (by kernel_rfl) (by kernel_rfl) (by kernel_rfl) (fun _ _ _ h => h) (Or.inl ⟨by kernel_rfl, fun w' h' => ?_⟩) hS ?_
                  · clear h'
                    go_simp
                  simp only [Act.put]
                  refine wpAnyH_take (i := 21) (oi := ⟨some 78, Op.move (Operand.tmp 77), _, _, _, some (11, true)⟩) (v := (.bool false)) rfl (by kernel_rfl) (by kernel_rfl) (by kernel_rfl) (fun _ _ _ h => h) (Or.inl ⟨by kernel_rfl, fun w' h' => ?_⟩) hS ?_
                  · clear h'
                    go_simp
                  simp only [Act.put]
                  refine wpAnyH_take (i := 22) (oi := ⟨some 79, Op.move (Operand.tmp 4), _, _, _, some (21, false)⟩) (v := (.map (some mb))) rfl (by kernel_rfl) (by kernel_rfl) (by kernel_rfl) (fun _ _ _ h => h) (Or.inl ⟨by kernel_rfl, fun w' h' => ?_⟩) hS ?_
                  · clear h'
                    go_simp
                  simp only [Act.put]
                  refine wpAnyH_take (i := 23) (oi := ⟨some 80, Op.move (Operand.tmp 12), _, _, _, some (21, false)⟩) (v := (.slice (some ⟨b2, 0, none⟩) TT.length c)) rfl (by kernel_rfl) (by kernel_rfl) (by kernel_rfl) (fun _ _ _ h => h) (Or.inl ⟨by kernel_rfl, fun w' h' => ?_⟩) hS ?_
                  · clear h'
                    go_simp
                  simp only [Act.put]
                  refine wpAnyH_take (i := 24) (oi := ⟨some 81, Op.move (Operand.tmp 13), _, _, _, some (21, false)⟩) (v := (.int .i64 ((q : Int) + 1))) rfl (by kernel_rfl) (by kernel_rfl) (by kernel_rfl) (fun _ _ _ h => h) (Or.inl ⟨by kernel_rfl, fun w' h' => ?_⟩) hS ?_
                  · clear h'
                    go_simp
                  simp only [Act.put]
                  refine wpAnyH_take (i := 25) (oi := ⟨some 82, Op.binOp BinOp.sub 3 (Operand.tmp 81) (Operand.const (Value.int IntKind.i64 1)) 3, _, _, _, some (21, false)⟩) (v := (.int .i64 (q : Int))) rfl (by kernel_rfl) (by kernel_rfl) (by kernel_rfl) (fun _ _ _ h => h) (Or.inl ⟨by kernel_rfl, fun w' h' => ?_⟩) hS ?_
                  · clear h'
                    go_simp
                  simp only [Act.put]
                  refine wpAnyH_take (i := 26) (oi := ⟨some 83, Op.indexAddr 37 (Operand.tmp 80) (Operand.tmp 82), _, _, _, some (21, false)⟩) (v := (.pointer (some ⟨b2, q, none⟩))) rfl (by kernel_rfl) (by kernel_rfl) (by kernel_rfl) (fun _ _ _ h => h) (Or.inl ⟨by kernel_rfl, fun w' h' => ?_⟩) hS ?_
                  · clear h'
                    go_simp
                  simp only [Act.put]
                  refine wpAnyH_take (i := 27) (oi := ⟨some 84, Op.load 3 (Operand.tmp 83), _, _, _, some (21, false)⟩) (v := (.int .i64 ui)) rfl (by kernel_rfl) (by kernel_rfl) (by kernel_rfl) (fun _ _ _ h => h) (Or.inl ⟨by kernel_rfl, fun w' h' => ?_⟩) hS ?_
                  · have c0 := HCQ.out w' h'
                    clear h'
                    go_simp
                  simp only [Act.put]
                  refine wpAnyH_take (i := 28) (oi := ⟨some 85, Op.lookup 58 (Operand.tmp 79) (Operand.tmp 84) false, _, _, _, some (21, false)⟩) (v := (.int .i64 ud)) rfl (by kernel_rfl) (by kernel_rfl) (by kernel_rfl) (fun _ _ _ h => h) (Or.inl ⟨by kernel_rfl, fun w' h' => ?_⟩) hS ?_
                  · have c0 := hlq.out w' h'
                    clear h'
                    go_simp
                  simp only [Act.put]
                  refine wpAnyH_take (i := 29) (oi := ⟨some 86, Op.move (Operand.tmp 14), _, _, _, some (21, false)⟩) (v := (.int .i64 td)) rfl (by kernel_rfl) (by kernel_rfl) (by kernel_rfl) (fun _ _ _ h => h) (Or.inl ⟨by kernel_rfl, fun w' h' => ?_⟩) hS ?_
                  · clear h'
                    go_simp
                  simp only [Act.put]
                  refine wpAnyH_take (i := 30) (oi := ⟨some 87, Op.binOp BinOp.eql 3 (Operand.tmp 85) (Operand.tmp 86) 3, _, _, _, some (21, false)⟩) (v := (.bool true)) rfl (by kernel_rfl) (by kernel_rfl) (by kernel_rfl) (fun _ _ _ h => h) (Or.inl ⟨by kernel_rfl, fun w' h' => ?_⟩) hS ?_
                  · clear h'
                    go_simp
                  simp only [Act.put]
                  refine wpAnyH_take (i := 31) (oi := ⟨some 88, Op.move (Operand.tmp 87), _, _, _, some (21, false)⟩) (v := (.bool true)) rfl (by kernel_rfl) (by kernel_rfl) (by kernel_rfl) (fun _ _ _ h => h) (Or.inl ⟨by kernel_rfl, fun w' h' => ?_⟩) hS ?_
                  · clear h'
                    go_simp
                  simp only [Act.put]
                  refine wpAnyH_take (i := 32) (oi := ⟨some 89, Op.move (Operand.tmp 12), _, _, _, some (31, true)⟩) (v := (.slice (some ⟨b2, 0, none⟩) TT.length c)) rfl (by kernel_rfl) (by kernel_rfl) (by kernel_rfl) (fun _ _ _ h => h) (Or.inl ⟨by kernel_rfl, fun w' h' => ?_⟩) hS ?_
                  · clear h'
                    go_simp
                  simp only [Act.put]
                  refine wpAnyH_take (i := 33) (oi := ⟨some 90, Op.move (Operand.tmp 13), _, _, _, some (31, true)⟩) (v := (.int .i64 ((q : Int) + 1))) rfl (by kernel_rfl) (by kernel_rfl) (by kernel_rfl) (fun _ _ _ h => h) (Or.inl ⟨by kernel_rfl, fun w' h' => ?_⟩) hS ?_
                  · clear h'
                    go_simp
                  simp only [Act.put]
                  refine wpAnyH_take (i := 34) (oi := ⟨some 91, Op.binOp BinOp.sub 3 (Operand.tmp 90) (Operand.const (Value.int IntKind.i64 1)) 3, _, _, _, some (31, true)⟩) (v := (.int .i64 (q : Int))) rfl (by kernel_rfl) (by kernel_rfl) (by kernel_rfl) (fun _ _ _ h => h) (Or.inl ⟨by kernel_rfl, fun w' h' => ?_⟩) hS ?_
                  · clear h'
                    go_simp
                  simp only [Act.put]
                  refine wpAnyH_take (i := 35) (oi := ⟨some 92, Op.indexAddr 37 (Operand.tmp 89) (Operand.tmp 91), _, _, _, some (31, true)⟩) (v := (.pointer (some ⟨b2, q, none⟩))) rfl (by kernel_rfl) (by kernel_rfl) (by kernel_rfl) (fun _ _ _ h => h) (Or.inl ⟨by kernel_rfl, fun w' h' => ?_⟩) hS ?_
                  · clear h'
                    go_simp
                  simp only [Act.put]
                  refine wpAnyH_take (i := 36) (oi := ⟨some 93, Op.load 3 (Operand.tmp 92), _, _, _, some (31, true)⟩) (v := (.int .i64 ui)) rfl (by kernel_rfl) (by kernel_rfl) (by kernel_rfl) (fun _ _ _ h => h) (Or.inl ⟨by kernel_rfl, fun w' h' => ?_⟩) hS ?_
                  · have c0 := HCQ.out w' h'
                    clear h'
                    go_simp
                  simp only [Act.put]
                  refine wpAnyH_take (i := 37) (oi := ⟨some 94, Op.move (Operand.tmp 12), _, _, _, some (31, true)⟩) (v := (.slice (some ⟨b2, 0, none⟩) TT.length c)) rfl (by kernel_rfl) (by kernel_rfl) (by kernel_rfl) (fun _ _ _ h => h) (Or.inl ⟨by kernel_rfl, fun w' h' => ?_⟩) hS ?_
                  · clear h'
                    go_simp
                  simp only [Act.put]
                  refine wpAnyH_take (i := 38) (oi := ⟨some 95, Op.move (Operand.tmp 13), _, _, _, some (31, true)⟩) (v := (.int .i64 ((q : Int) + 1))) rfl (by kernel_rfl) (by kernel_rfl) (by kernel_rfl) (fun _ _ _ h => h) (Or.inl ⟨by kernel_rfl, fun w' h' => ?_⟩) hS ?_
                  · clear h'
                    go_simp
                  simp only [Act.put]
                  refine wpAnyH_take (i := 39) (oi := ⟨some 96, Op.indexAddr 37 (Operand.tmp 94) (Operand.tmp 95), _, _, _, some (31, true)⟩) (v := (.pointer (some ⟨b2, q + 1, none⟩))) rfl (by kernel_rfl) (by kernel_rfl) (by kernel_rfl) (fun _ _ _ h => h) (Or.inl ⟨by kernel_rfl, fun w' h' => ?_⟩) hS ?_
                  · clear h'
                    go_simp
                  simp only [Act.put]
                  refine wpAnyH_take (i := 40) (oi := ⟨some 97, Op.load 3 (Operand.tmp 96), _, _, _, some (31, true)⟩) (v := (.int .i64 ti)) rfl (by kernel_rfl) (by kernel_rfl) (by kernel_rfl) (fun _ _ _ h => h) (Or.inl ⟨by kernel_rfl, fun w' h' => ?_⟩) hS ?_
                  · have c0 := HCJ.out w' h'
                    clear h'
                    go_simp
                  simp only [Act.put]
                  refine wpAnyH_take (i := 41) (oi := ⟨some 98, Op.binOp BinOp.gtr 3 (Operand.tmp 93) (Operand.tmp 97) 3, _, _, _, some (31, true)⟩) (v := (.bool false)) rfl (by kernel_rfl) (by kernel_rfl) (by kernel_rfl) (fun _ _ _ h => h) (Or.inl ⟨by kernel_rfl, fun w' h' => ?_⟩) hS ?_
                  · clear h'
                    go_simp
                  simp only [Act.put]
                  refine wpAnyH_take (i := 42) (oi := ⟨some 99, Op.pick (Operand.tmp 88) (Operand.tmp 98) (Operand.const (Value.bool false)), _, _, _, some (21, false)⟩) (v := (.bool false)) rfl (by kernel_rfl) (by kernel_rfl) (by kernel_rfl) (fun _ _ _ h => h) (Or.inl ⟨by kernel_rfl, fun w' h' => ?_⟩) hS ?_
                  · clear h'
                    go_simp
                  simp only [Act.put]
                  refine wpAnyH_take (i := 43) (oi := ⟨some 100, Op.pick (Operand.tmp 78) (Operand.const (Value.bool true)) (Operand.tmp 99), _, _, _, some (11, true)⟩) (v := (.bool false)) rfl (by kernel_rfl) (by kernel_rfl) (by kernel_rfl) (fun _ _ _ h => h) (Or.inl ⟨by kernel_rfl, fun w' h' => ?_⟩) hS ?_
                  · clear h'
                    go_simp
                  simp only [Act.put]
                  refine wpAnyH_take (i := 44) (oi := ⟨some 101, Op.pick (Operand.tmp 68) (Operand.tmp 100) (Operand.const (Value.bool false)), _, _, _, some (8, false)⟩) (v := (.bool false)) rfl (by kernel_rfl) (by kernel_rfl) (by kernel_rfl) (fun _ _ _ h => h) (Or.inl ⟨by kernel_rfl, fun w' h' => ?_⟩) hS ?_
                  · clear h'
                    go_simp
                  simp only [Act.put]
                  refine wpAnyH_take (i := 45) (oi := ⟨some 102, Op.pick (Operand.tmp 65) (Operand.const (Value.bool true)) (Operand.tmp 101), _, _, _, none⟩) (v := (.bool false)) rfl (by kernel_rfl) (by kernel_rfl) (by kernel_rfl) (fun _ _ _ h => h) (Or.inl ⟨by rfl, fun w' h' => ?_⟩) hS ?_
                  · clear h'
                    go_simp
                  simp only [Act.put]
                  refine wpAnyH_done (by kernel_rfl) (NoPanic.normal ?_) _
                  try simp only [List.setIfInBounds_toArray, List.set_cons_zero, List.set_cons_succ]
                  have TV := Lib.hid hS
                  clear hS d
                  go_wp2_with fail
                  go_roundw
                  case rel => exact ⟨q + 1 + 1, by omega, by go_num, HT5.out.trans TV.out⟩
                  case measure => simp [intOf]; omega
                · have hee : (ud == td) = false := by simpa using heq
                  clear heq hnx
                  refine wp_region_noPanic ?_
                  refine region_held (S := fun V => Turn w5 V (fun _ => False)) (by kernel_rfl) (fun V d => d.turn _) (fun V d hS => ?_)
                  refine wpAnyH_take (i := 0) (oi := ⟨some 57, Op.move (Operand.tmp 15), _, _, _, none⟩) (v := (.bool true)) rfl (by kernel_rfl) (by kernel_rfl) (by kernel_rfl) (fun _ _ _ h => h) (Or.inl ⟨by rfl, fun w' h' => ?_⟩) hS ?_
                  · clear h'
                    go_simp
                  simp only [Act.put]
                  refine wpAnyH_take (i := 1) (oi := ⟨some 58, Op.unOp UnOp.not 4 (Operand.tmp 57), _, _, _, none⟩) (v := (.bool false)) rfl (by kernel_rfl) (by kernel_rfl) (by kernel_rfl) (fun _ _ _ h => h) (Or.inl ⟨by rfl, fun w' h' => ?_⟩) hS ?_
                  · clear h'
                    go_simp
                  simp only [Act.put]
                  refine wpAnyH_take (i := 2) (oi := ⟨some 59, Op.move (Operand.tmp 58), _, _, _, none⟩) (v := (.bool false)) rfl (by kernel_rfl) (by kernel_rfl) (by kernel_rfl) (fun _ _ _ h => h) (Or.inl ⟨by rfl, fun w' h' => ?_⟩) hS ?_
                  · clear h'
                    go_simp
                  simp only [Act.put]
                  refine wpAnyH_take (i := 3) (oi := ⟨some 60, Op.move (Operand.tmp 14), _, _, _, some (2, false)⟩) (v := (.int .i64 td)) rfl (by kernel_rfl) (by kernel_rfl) (by kernel_rfl) (fun _ _ _ h => h) (Or.inl ⟨by kernel_rfl, fun w' h' => ?_⟩) hS ?_
                  · clear h'
                    go_simp
                  simp only [Act.put]
                  refine wpAnyH_take (i := 4) (oi := ⟨some 61, Op.move (Operand.tmp 3), _, _, _, some (2, false)⟩) (v := (.pointer (some ⟨g, 0, none⟩))) rfl (by kernel_rfl) (by kernel_rfl) (by kernel_rfl) (fun _ _ _ h => h) (Or.inl ⟨by kernel_rfl, fun w' h' => ?_⟩) hS ?_
                  · clear h'
                    go_simp
                  simp only [Act.put]
                  refine wpAnyH_ready (rs := [5]) (by kernel_rfl) (by simp) ?_
                  refine AllReadyH.cons rfl (fun K hK => ?_) AllReadyH.nil
                  go_simp
                  refine (HNW.out V hS).mono ?_
                  rintro e w6 ⟨rfl, rfl⟩
                  go_simp
                  refine hK.out _ _ hS (fun _ => ?_)
                  clear hK K
                  refine wpAnyH_take (i := 6) (oi := ⟨some 63, Op.binOp BinOp.gtr 3 (Operand.tmp 60) (Operand.tmp 62) 3, _, _, _, some (2, false)⟩) (v := (.bool false)) rfl (by kernel_rfl) (by kernel_rfl) (by kernel_rfl) (fun _ _ _ h => h) (Or.inl ⟨by kernel_rfl, fun w' h' => ?_⟩) hS ?_
                  · clear h'
                    go_simp
                  simp only [Act.put]
                  refine wpAnyH_take (i := 7) (oi := ⟨some 64, Op.pick (Operand.tmp 59) (Operand.const (Value.bool true)) (Operand.tmp 63), _, _, _, none⟩) (v := (.bool false)) rfl (by kernel_rfl) (by kernel_rfl) (by kernel_rfl) (fun _ _ _ h => h) (Or.inl ⟨by rfl, fun w' h' => ?_⟩) hS ?_
                  · clear h'
                    go_simp
                  simp only [Act.put]
                  refine wpAnyH_take (i := 8) (oi := ⟨some 65, Op.move (Operand.tmp 64), _, _, _, none⟩) (v := (.bool false)) rfl (by kernel_rfl) (by kernel_rfl) (by kernel_rfl) (fun _ _ _ h => h) (Or.inl ⟨by rfl, fun w' h' => ?_⟩) hS ?_
                  · clear h'
                    go_simp
                  simp only [Act.put]
                  refine wpAnyH_take (i := 9) (oi := ⟨some 66, Op.move (Operand.tmp 13), _, _, _, some (8, false)⟩) (v := (.int .i64 ((q : Int) + 1))) rfl (by kernel_rfl) (by kernel_rfl) (by kernel_rfl) (fun _ _ _ h => h) (Or.inl ⟨by kernel_rfl, fun w' h' => ?_⟩) hS ?_
                  · clear h'
                    go_simp
                  simp only [Act.put]
                  refine wpAnyH_take (i := 10) (oi := ⟨some 67, Op.binOp BinOp.gtr 3 (Operand.tmp 66) (Operand.const (Value.int IntKind.i64 0)) 3, _, _, _, some (8, false)⟩) (v := (.bool true)) rfl (by kernel_rfl) (by kernel_rfl) (by kernel_rfl) (fun _ _ _ h => h) (Or.inl ⟨by kernel_rfl, fun w' h' => ?_⟩) hS ?_
                  · clear h'
                    go_simp
                  simp only [Act.put]
                  refine wpAnyH_take (i := 11) (oi := ⟨some 68, Op.move (Operand.tmp 67), _, _, _, some (8, false)⟩) (v := (.bool true)) rfl (by kernel_rfl) (by kernel_rfl) (by kernel_rfl) (fun _ _ _ h => h) (Or.inl ⟨by kernel_rfl, fun w' h' => ?_⟩) hS ?_
                  · clear h'
                    go_simp
                  simp only [Act.put]
                  refine wpAnyH_take (i := 12) (oi := ⟨some 69, Op.move (Operand.tmp 4), _, _, _, some (11, true)⟩) (v := (.map (some mb))) rfl (by kernel_rfl) (by kernel_rfl) (by kernel_rfl) (fun _ _ _ h => h) (Or.inl ⟨by kernel_rfl, fun w' h' => ?_⟩) hS ?_
                  · clear h'
                    go_simp
                  simp only [Act.put]
                  refine wpAnyH_take (i := 13) (oi := ⟨some 70, Op.move (Operand.tmp 12), _, _, _, some (11, true)⟩) (v := (.slice (some ⟨b2, 0, none⟩) TT.length c)) rfl (by kernel_rfl) (by kernel_rfl) (by kernel_rfl) (fun _ _ _ h => h) (Or.inl ⟨by kernel_rfl, fun w' h' => ?_⟩) hS ?_
                  · clear h'
                    go_simp
                  simp only [Act.put]
                  refine wpAnyH_take (i := 14) (oi := ⟨some 71, Op.move (Operand.tmp 13), _, _, _, some (11, true)⟩) (v := (.int .i64 ((q : Int) + 1))) rfl (by kernel_rfl) (by kernel_rfl) (by kernel_rfl) (fun _ _ _ h => h) (Or.inl ⟨by kernel_rfl, fun w' h' => ?_⟩) hS ?_
                  · clear h'
                    go_simp
                  simp only [Act.put]
                  refine wpAnyH_take (i := 15) (oi := ⟨some 72, Op.binOp BinOp.sub 3 (Operand.tmp 71) (Operand.const (Value.int IntKind.i64 1)) 3, _, _, _, some (11, true)⟩) (v := (.int .i64 (q : Int))) rfl (by kernel_rfl) (by kernel_rfl) (by kernel_rfl) (fun _ _ _ h => h) (Or.inl ⟨by kernel_rfl, fun w' h' => ?_⟩) hS ?_
                  · clear h'
                    go_simp
                  simp only [Act.put]
                  refine wpAnyH_take (i := 16) (oi := ⟨some 73, Op.indexAddr 37 (Operand.tmp 70) (Operand.tmp 72), _, _, _, some (11, true)⟩) (v := (.pointer (some ⟨b2, q, none⟩))) rfl (by kernel_rfl) (by kernel_rfl) (by kernel_rfl) (fun _ _ _ h => h) (Or.inl ⟨by kernel_rfl, fun w' h' => ?_⟩) hS ?_
                  · clear h'
                    go_simp
                  simp only [Act.put]
                  refine wpAnyH_take (i := 17) (oi := ⟨some 74, Op.load 3 (Operand.tmp 73), _, _, _, some (11, true)⟩) (v := (.int .i64 ui)) rfl (by kernel_rfl) (by kernel_rfl) (by kernel_rfl) (fun _ _ _ h => h) (Or.inl ⟨by kernel_rfl, fun w' h' => ?_⟩) hS ?_
                  · have c0 := HCQ.out w' h'
                    clear h'
                    go_simp
                  simp only [Act.put]
                  refine wpAnyH_take (i := 18) (oi := ⟨some 75, Op.lookup 58 (Operand.tmp 69) (Operand.tmp 74) false, _, _, _, some (11, true)⟩) (v := (.int .i64 ud)) rfl (by kernel_rfl) (by kernel_rfl) (by kernel_rfl) (fun _ _ _ h => h) (Or.inl ⟨by kernel_rfl, fun w' h' => ?_⟩) hS ?_
                  · have c0 := hlq.out w' h'
                    clear h'
                    go_simp
                  simp only [Act.put]
                  refine wpAnyH_take (i := 19) (oi := ⟨some 76, Op.move (Operand.tmp 14), _, _, _, some (11, true)⟩) (v := (.int .i64 td)) rfl (by kernel_rfl) (by kernel_rfl) (by kernel_rfl) (fun _ _ _ h => h) (Or.inl ⟨by kernel_rfl, fun w' h' => ?_⟩) hS ?_
                  · clear h'
                    go_simp
                  simp only [Act.put]
                  refine wpAnyH_take (i := 20) (oi := ⟨some 77, Op.binOp BinOp.gtr 3 (Operand.tmp 75) (Operand.tmp 76) 3, _, _, _, some (11, true)⟩) (v := (.bool false)) rfl (by kernel_rfl) (by kernel_rfl) (by kernel_rfl) (fun _ _ _ h => h) (Or.inl ⟨by kernel_rfl, fun w' h' => ?_⟩) hS ?_
                  · clear h'
                    go_simp
                  simp only [Act.put]
                  refine wpAnyH_take (i := 21) (oi := ⟨some 78, Op.move (Operand.tmp 77), _, _, _, some (11, true)⟩) (v := (.bool false)) rfl (by kernel_rfl) (by kernel_rfl) (by kernel_rfl) (fun _ _ _ h => h) (Or.inl ⟨by kernel_rfl, fun w' h' => ?_⟩) hS ?_
                  · clear h'
                    go_simp
                  simp only [Act.put]
                  refine wpAnyH_take (i := 22) (oi := ⟨some 79, Op.move (Operand.tmp 4), _, _, _, some (21, false)⟩) (v := (.map (some mb))) rfl (by kernel_rfl) (by kernel_rfl) (by kernel_rfl) (fun _ _ _ h => h) (Or.inl ⟨by kernel_rfl, fun w' h' => ?_⟩) hS ?_
                  · clear h'
                    go_simp
                  simp only [Act.put]
                  refine wpAnyH_take (i := 23) (oi := ⟨some 80, Op.move (Operand.tmp 12), _, _, _, some (21, false)⟩) (v := (.slice (some ⟨b2, 0, none⟩) TT.length c)) rfl (by kernel_rfl) (by kernel_rfl) (by kernel_rfl) (fun _ _ _ h => h) (Or.inl ⟨by kernel_rfl, fun w' h' => ?_⟩) hS ?_
                  · clear h'
                    go_simp
                  simp only [Act.put]
                  refine wpAnyH_take (i := 24) (oi := ⟨some 81, Op.move (Operand.tmp 13), _, _, _, some (21, false)⟩) (v := (.int .i64 ((q : Int) + 1))) rfl (by kernel_rfl) (by kernel_rfl) (by kernel_rfl) (fun _ _ _ h => h) (Or.inl ⟨by kernel_rfl, fun w' h' => ?_⟩) hS ?_
                  · clear h'
                    go_simp
                  simp only [Act.put]
                  refine wpAnyH_take (i := 25) (oi := ⟨some 82, Op.binOp BinOp.sub 3 (Operand.tmp 81) (Operand.const (Value.int IntKind.i64 1)) 3, _, _, _, some (21, false)⟩) (v := (.int .i64 (q : Int))) rfl (by kernel_rfl) (by kernel_rfl) (by kernel_rfl) (fun _ _ _ h => h) (Or.inl ⟨by kernel_rfl, fun w' h' => ?_⟩) hS ?_
                  · clear h'
                    go_simp
                  simp only [Act.put]
                  refine wpAnyH_take (i := 26) (oi := ⟨some 83, Op.indexAddr 37 (Operand.tmp 80) (Operand.tmp 82), _, _, _, some (21, false)⟩) (v := (.pointer (some ⟨b2, q, none⟩))) rfl (by kernel_rfl) (by kernel_rfl) (by kernel_rfl) (fun _ _ _ h => h) (Or.inl ⟨by kernel_rfl, fun w' h' => ?_⟩) hS ?_
                  · clear h'
                    go_simp
                  simp only [Act.put]
                  refine wpAnyH_take (i := 27) (oi := ⟨some 84, Op.load 3 (Operand.tmp 83), _, _, _, some (21, false)⟩) (v := (.int .i64 ui)) rfl (by kernel_rfl) (by kernel_rfl) (by kernel_rfl) (fun _ _ _ h => h) (Or.inl ⟨by kernel_rfl, fun w' h' => ?_⟩) hS ?_
                  · have c0 := HCQ.out w' h'
                    clear h'
                    go_simp
                  simp only [Act.put]
                  refine wpAnyH_take (i := 28) (oi := ⟨some 85, Op.lookup 58 (Operand.tmp 79) (Operand.tmp 84) false, _, _, _, some (21, false)⟩) (v := (.int .i64 ud)) rfl (by kernel_rfl) (by kernel_rfl) (by kernel_rfl) (fun _ _ _ h => h) (Or.inl ⟨by kernel_rfl, fun w' h' => ?_⟩) hS ?_
                  · have c0 := hlq.out w' h'
                    clear h'
                    go_simp
                  simp only [Act.put]
                  refine wpAnyH_take (i := 29) (oi := ⟨some 86, Op.move (Operand.tmp 14), _, _, _, some (21, false)⟩) (v := (.int .i64 td)) rfl (by kernel_rfl) (by kernel_rfl) (by kernel_rfl) (fun _ _ _ h => h) (Or.inl ⟨by kernel_rfl, fun w' h' => ?_⟩) hS ?_
                  · clear h'
                    go_simp
                  simp only [Act.put]
                  refine wpAnyH_take (i := 30) (oi := ⟨some 87, Op.binOp BinOp.eql 3 (Operand.tmp 85) (Operand.tmp 86) 3, _, _, _, some (21, false)⟩) (v := (.bool false)) rfl (by kernel_rfl) (by kernel_rfl) (by kernel_rfl) (fun _ _ _ h => h) (Or.inl ⟨by kernel_rfl, fun w' h' => ?_⟩) hS ?_
                  · clear h'
                    go_simp
                  simp only [Act.put]
                  refine wpAnyH_take (i := 31) (oi := ⟨some 88, Op.move (Operand.tmp 87), _, _, _, some (21, false)⟩) (v := (.bool false)) rfl (by kernel_rfl) (by kernel_rfl) (by kernel_rfl) (fun _ _ _ h => h) (Or.inl ⟨by kernel_rfl, fun w' h' => ?_⟩) hS ?_
                  · clear h'
                    go_simp
                  simp only [Act.put]
                  refine wpAnyH_take (i := 32) (oi := ⟨some 89, Op.move (Operand.tmp 12), _, _, _, some (31, true)⟩) (v := undef) rfl (by kernel_rfl) (by kernel_rfl) (by kernel_rfl) (fun _ _ _ h => h) (Or.inr ⟨by kernel_rfl, rfl⟩) hS ?_
                  simp only [Act.put]
                  refine wpAnyH_take (i := 33) (oi := ⟨some 90, Op.move (Operand.tmp 13), _, _, _, some (31, true)⟩) (v := undef) rfl (by kernel_rfl) (by kernel_rfl) (by kernel_rfl) (fun _ _ _ h => h) (Or.inr ⟨by kernel_rfl, rfl⟩) hS ?_
                  simp only [Act.put]
                  refine wpAnyH_take (i := 34) (oi := ⟨some 91, Op.binOp BinOp.sub 3 (Operand.tmp 90) (Operand.const (Value.int IntKind.i64 1)) 3, _, _, _, some (31, true)⟩) (v := undef) rfl (by kernel_rfl) (by kernel_rfl) (by kernel_rfl) (fun _ _ _ h => h) (Or.inr ⟨by kernel_rfl, rfl⟩) hS ?_
                  simp only [Act.put]
                  refine wpAnyH_take (i := 35) (oi := ⟨some 92, Op.indexAddr 37 (Operand.tmp 89) (Operand.tmp 91), _, _, _, some (31, true)⟩) (v := undef) rfl (by kernel_rfl) (by kernel_rfl) (by kernel_rfl) (fun _ _ _ h => h) (Or.inr ⟨by kernel_rfl, rfl⟩) hS ?_
                  simp only [Act.put]
                  refine wpAnyH_take (i := 36) (oi := ⟨some 93, Op.load 3 (Operand.tmp 92), _, _, _, some (31, true)⟩) (v := undef) rfl (by kernel_rfl) (by kernel_rfl) (by kernel_rfl) (fun _ _ _ h => h) (Or.inr ⟨by kernel_rfl, rfl⟩) hS ?_
                  simp only [Act.put]
                  refine wpAnyH_take (i := 37) (oi := ⟨some 94, Op.move (Operand.tmp 12), _, _, _, some (31, true)⟩) (v := undef) rfl (by kernel_rfl) (by kernel_rfl) (by kernel_rfl) (fun _ _ _ h => h) (Or.inr ⟨by kernel_rfl, rfl⟩) hS ?_
                  simp only [Act.put]
                  refine wpAnyH_take (i := 38) (oi := ⟨some 95, Op.move (Operand.tmp 13), _, _, _, some (31, true)⟩) (v := undef) rfl (by kernel_rfl) (by kernel_rfl) (by kernel_rfl) (fun _ _ _ h => h) (Or.inr ⟨by kernel_rfl, rfl⟩) hS ?_
                  simp only [Act.put]
                  refine wpAnyH_take (i := 39) (oi := ⟨some 96, Op.indexAddr 37 (Operand.tmp 94) (Operand.tmp 95), _, _, _, some (31, true)⟩) (v := undef) rfl (by kernel_rfl) (by kernel_rfl) (by kernel_rfl) (fun _ _ _ h => h) (Or.inr ⟨by kernel_rfl, rfl⟩) hS ?_
                  simp only [Act.put]
                  refine wpAnyH_take (i := 40) (oi := ⟨some 97, Op.load 3 (Operand.tmp 96), _, _, _, some (31, true)⟩) (v := undef) rfl (by kernel_rfl) (by kernel_rfl) (by kernel_rfl) (fun _ _ _ h => h) (Or.inr ⟨by kernel_rfl, rfl⟩) hS ?_
                  simp only [Act.put]
                  refine wpAnyH_take (i := 41) (oi := ⟨some 98, Op.binOp BinOp.gtr 3 (Operand.tmp 93) (Operand.tmp 97) 3, _, _, _, some (31, true)⟩) (v := undef) rfl (by kernel_rfl) (by kernel_rfl) (by kernel_rfl) (fun _ _ _ h => h) (Or.inr ⟨by kernel_rfl, rfl⟩) hS ?_
                  simp only [Act.put]
                  refine wpAnyH_take (i := 42) (oi := ⟨some 99, Op.pick (Operand.tmp 88) (Operand.tmp 98) (Operand.const (Value.bool false)), _, _, _, some (21, false)⟩) (v := (.bool false)) rfl (by kernel_rfl) (by kernel_rfl) (by kernel_rfl) (fun _ _ _ h => h) (Or.inl ⟨by kernel_rfl, fun w' h' => ?_⟩) hS ?_
                  · clear h'
                    go_simp
                  simp only [Act.put]
                  refine wpAnyH_take (i := 43) (oi := ⟨some 100, Op.pick (Operand.tmp 78) (Operand.const (Value.bool true)) (Operand.tmp 99), _, _, _, some (11, true)⟩) (v := (.bool false)) rfl (by kernel_rfl) (by kernel_rfl) (by kernel_rfl) (fun _ _ _ h => h) (Or.inl ⟨by kernel_rfl, fun w' h' => ?_⟩) hS ?_
                  · clear h'
                    go_simp
                  simp only [Act.put]
                  refine wpAnyH_take (i := 44) (oi := ⟨some 101, Op.pick (Operand.tmp 68) (Operand.tmp 100) (Operand.const (Value.bool false)), _, _, _, some (8, false)⟩) (v := (.bool false)) rfl (by kernel_rfl) (by kernel_rfl) (by kernel_rfl) (fun _ _ _ h => h) (Or.inl ⟨by kernel_rfl, fun w' h' => ?_⟩) hS ?_
                  · clear h'
                    go_simp
                  simp only [Act.put]
                  refine wpAnyH_take (i := 45) (oi := ⟨some 102, Op.pick (Operand.tmp 65) (Operand.const (Value.bool true)) (Operand.tmp 101), _, _, _, none⟩) (v := (.bool false)) rfl (by kernel_rfl) (by kernel_rfl) (by kernel_rfl) (fun _ _ _ h => h) (Or.inl ⟨by rfl, fun w' h' => ?_⟩) hS ?_
                  · clear h'
                    go_simp
                  simp only [Act.put]
                  refine wpAnyH_done (by kernel_rfl) (NoPanic.normal ?_) _
                  try simp only [List.setIfInBounds_toArray, List.set_cons_zero, List.set_cons_succ]
                  have TV := Lib.hid hS
                  clear hS d
                  go_wp2_with fail
                  go_roundw
                  case rel => exact ⟨q + 1 + 1, by omega, by go_num, HT5.out.trans TV.out⟩
                  case measure => simp [intOf]; omega
            · have hjj : j = TT.length := by omega
              have hdj : decide ((j : Int) < (TT.length : Int)) = false := by simp; omega
              have X5 : OX w.heap.size w5 g mb N last (rests N L) (leftE TT L 0) wo.heap.size [.int .i64 d, .int .i64 n, .int .i64 x] := by rw [HLZ.out]; exact HX4.out.kept T5
              have P5 := HP4.out.turn T5
              have T5' := T4.out.trans T5
              clear T5 hjj
              go_wp2_with fail
              go_loopw [16] (fun i w6 => ∃ j : Nat, j ≤ TT.length ∧ i = .int .i64 j ∧ OX w.heap.size w6 g mb N last (rests N L) (leftE TT L j) wo.heap.size [.int .i64 d, .int .i64 n, .int .i64 x] ∧ RowP mb w6 p TT ∧ Turn w w6 (fun _ => False)) (fun i _ => TT.length - (intOf i).toNat)
              case atStart => exact ⟨0, Nat.zero_le _, rfl, X5, P5, T5'⟩
              case round =>
                obtain ⟨j, hj, rfl, X6, P6, T6⟩ := hrel
                obtain ⟨w6, rfl⟩ : ∃ w6 : World, w6 = wr := ⟨_, rfl⟩
                clear X5 P5 T5'
                by_cases hjl : j < TT.length
                · have hdj : decide ((j : Int) < (TT.length : Int)) = true := by simp; omega
                  have hjb : (j : Int) < (TT.length : Int) := by omega
                  have HP6 := Lib.hid P6
                  have HX6 := Lib.hid X6
                  have HT6 := Lib.hid T6
                  have HTB := Lib.hid X6.tab
                  obtain ⟨b2, hp2, _, hc2⟩ := P6 (by omega)
                  have cj := hc2 j hjl
                  have hls := Lib.hid (HLS.out j hjl)
                  have htj := hids.out.2 _ (HMEM.out j hjl).1
                  have hwk : (Lit.int .i64 TT[j].id).wf = true := WalkArith.wf_i64 (by omega)
                  subst hp2
                  clear P6 X6 T6 hc2 htj
                  generalize TT[j].id = ti at cj hls hwk
                  go_wp2_with (at_delete; refine wpList_delete_tab _ rfl _ _ 58 3 rfl 3 Try.underlying58 Try.underlying3 mb ti (leftE TT L j) HTB.out hwk rfl rfl ?_; intro w7 b7 k7; have X7 := Lib.hid (HX6.out.map k7 b7); have P7 := Lib.hid (HP6.out.map k7); have T7 := Lib.hid (HX6.out.mapTurn HT6.out rfl k7); clear b7 k7 cj)
                  go_roundw
                  case rel => exact ⟨j + 1, by omega, by go_num, by have := X7.out; rw [hls.out] at this; exact this, P7.out, T7.out⟩
                  case measure => simp [intOf]; omega
                · have hdj : decide ((j : Int) < (TT.length : Int)) = false := by simp; omega
                  have hjj : j = TT.length := by omega
                  rw [hjj, HLA.out] at X6
                  obtain ⟨O7, i7⟩ := X6.wheel
                  have hNXT := bNextI i7 (by omega)
                  have hlsm := fun m => least_some _ (rests N L) m rfl
                  have hrs := fun t (ht : t ∈ rests N L) => (mem_rests.1 ht).2
                  clear i7 hjj P6
                  cases hle : least (rests N L) with
                  | none =>
                    rw [hle] at hNXT
                    have HNXT := Lib.hid hNXT
                    clear hNXT hle hlsm hrs
                    go_wp2_with fail
                    refine HNXT.out.mono ?_
                    rintro e w8 ⟨rfl, t8⟩
                    have HD := Lib.hid (X6.kept t8).drop
                    have TX := Lib.hid (T6.trans t8)
                    clear t8 X6 T6 HNXT
                    obtain ⟨Oz, iz, _, tz, _⟩ := HD.out
                    have HLz := Lib.hid (bLenI iz (by have := hrl; omega))
                    have TZ := Lib.hid tz
                    clear iz tz
                    go_wp2_with fail
                    refine HLz.out.mono ?_
                    rintro e wq ⟨rfl, rfl⟩
                    clear HLz
                    go_wp2_with (at_len; refine wpList_len_tab _ rfl _ 58 rfl 3 3 Try.underlying58 mb (List.map entT (rests N L)) TZ.out rfl ?_)
                    go_roundw
                    case rel => exact ⟨k + 1, N, last, (rests N L), by omega, by go_num, rfl, HD.out, TX.out, (fun t ht => HXS.out t (mem_rests.1 ht).1), hrl, by omega⟩
                    case measure => simp [intOf]; omega
                  | some m =>
                    rw [hle] at hNXT
                    have HNXT := Lib.hid hNXT
                    have hmN : decide (m ≤ N) = false := by
                      obtain ⟨⟨t, ht, e⟩, _⟩ := hlsm m hle
                      have := hrs t ht
                      simp; omega
                    clear hNXT hle hlsm hrs
                    go_wp2_with fail
                    refine HNXT.out.mono ?_
                    rintro e w8 ⟨rfl, t8⟩
                    have HD := Lib.hid (X6.kept t8).drop
                    have TX := Lib.hid (T6.trans t8)
                    have HNOW := Lib.hid (X6.kept t8).now
                    clear t8 X6 T6 HNXT
                    go_wp2_with fail
                    refine HNOW.out.mono ?_
                    rintro e w9 ⟨rfl, rfl⟩
                    clear HNOW
                    obtain ⟨Oz, iz, _, tz, _⟩ := HD.out
                    have HLz := Lib.hid (bLenI iz (by have := hrl; omega))
                    have TZ := Lib.hid tz
                    clear iz tz
                    go_wp2_with fail
                    refine HLz.out.mono ?_
                    rintro e wq ⟨rfl, rfl⟩
                    clear HLz
                    go_wp2_with (at_len; refine wpList_len_tab _ rfl _ 58 rfl 3 3 Try.underlying58 mb (List.map entT (rests N L)) TZ.out rfl ?_)
                    go_roundw
                    case rel => exact ⟨k + 1, N, last, (rests N L), by omega, by go_num, rfl, HD.out, TX.out, (fun t ht => HXS.out t (mem_rests.1 ht).1), hrl, by omega⟩
                    case measure => simp [intOf]; omega
    · obtain rfl : k = len0 := by omega
      have hd : decide ((k : Int) < (k : Int)) = false := by simp
      clear SA
      go_wp2_with fail
      go_ret
      exact ⟨rfl, T.below⟩

set_option maxRecDepth 100000 in
theorem lifted (os : Os) (started : os.Started) (H : Type) (enc : TypeId × Value → H) :
    ReturnsInHanded {} Try.checked os 6 .any (Rows.wheelOnceSpec.pre6 enc Try.prog Try.f6 Rows.wheelOnceRow.domain false) (Rows.wheelOnceSpec.post enc Try.prog Try.f6 false true false false) := by
  refine returnsInHanded_of_change (C := Try.checked) own started (by kernel_rfl) Try.func6
    (ChangeSpec.witness6 (enc := enc) (C := Try.checked) false ⟨#[], #[.slice none 0 0], []⟩ 8 (by kernel_rfl) (by kernel_rfl) (by kernel_rfl) (by kernel_rfl)) ?_
  intro W base args ds gs before hval0 hW hcnd _
  have hval : ∀ (j : Nat) t v, Try.f6.params[j]? = some t → args[j]? = some v → Value.okWide Try.prog W .any base t v := hval0
  have hW' := hW
  obtain ⟨p, q, hA0, hV, rfl, hfz, hnd⟩ := hW
  have hA : DataW.TrodAll enc Try.prog W 0 (fun _ => true) true Try.f6.params.toList args.toList ds p := hA0
  rw [Try.params6] at hA hval
  obtain ⟨v0, vs0, d0, ds0, p0, q0, hargs, rfl, rfl, h0, r0⟩ := trodAll_cons hA
  obtain ⟨rfl, rfl, rfl⟩ := trodAll_nil r0
  obtain rfl : args = #[v0] := by cases args; simp_all
  obtain ⟨rfl, rfl⟩ := trodVars_none hV
  obtain ⟨a0, len0, cap0, rfl⟩ := okWide_slice Try.underlying39 (hval 0 39 v0 rfl rfl)
  have k0 := h0
  have lt0 : ∀ x ∈ p0, x.block < W.heap.size := by obtain ⟨m, hm⟩ := k0; exact DataW.trod_lt m _ _ _ hm
  obtain ⟨l0, w0⟩ : ∃ l, IsActs W a0 len0 l := by obtain ⟨fuel, hf⟩ := h0; exact open_acts hf
  clear hA0 hval0
  refine (walk a0 len0 cap0 l0 W w0).mono fun e W' ⟨he, bel⟩ => ?_
  subst he
  exact ⟨_, rfl, _, _, _, [], _, [], hW', trodAll_mk1 (shut_bool Try.underlying4 _), (trodAll_cons_mk (Below.trod laidOut (by kernel_rfl) (of_decide_eq_true (by kernel_rfl)) k0 bel lt0) trodAll_mk0), rfl, bel.frame _, fun h => by cases h⟩

/-- THE STATEMENT. -/
theorem proved : Rows.WheelOnceSaid :=
  OpenClaim.holds_of_wide 6 Try.f6 rfl rfl rfl rfl rfl rfl rfl ⟨rfl, rfl, rfl, rfl, rfl⟩ rfl rfl rfl rfl rfl (by kernel_rfl) Try.func6 (by kernel_rfl)
    (of_decide_eq_true (by kernel_rfl)) (by unfold Func.isWrapper; first | (rw [if_pos (by decide +kernel)]; kernel_rfl) | (rw [if_neg (by decide +kernel)]; exact ⟨rfl, rfl⟩))
    (fun os started H enc _ => lifted os started H enc)
#print axioms proved

end Go.Proofs.Ytpbhflnhblblfaa.onc
