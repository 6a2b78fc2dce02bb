/-
  WheelPlays: what is told, and how it stands, is the document's. No conditions: any acts.
-/
import Derived.Test.YtbbmfgeagdblcaaWhT
import Derived.ProofKit
import Derived.OpenShut
import Derived.ShutString
import Derived.ChangeOld
import Derived.Below
namespace Go.Proofs.Ytbbmfgeagdblcaa.pla
open Go.ChangeShapes Go.WideShapes Go.ChangeAt Go.RowKit
open Go.ChangeMaps (open_string shut_string)
set_option linter.unusedVariables false

theorem own : ownKnob Try.prog.godebug = none := by kernel_rfl
theorem laidOut : laidOutB Try.prog = true := by kernel_rfl

theorem own_turn {w w' : World} {B : Nat} {e : TypeId} {size : Nat} {v : Value} {n : Nat} {xs : List Value} {O : Nat → Prop} (h : w.ownsRow B e size v n xs) (t : Turn w w' O) (ho : ∀ k, v.ownBlock = some k → ¬ O k) : w'.ownsRow B e size v n xs := by
  refine ⟨h.1, ?_⟩
  rcases h.2 with h2 | ⟨b, cap, cur, hv, hb, hh, hr⟩
  · exact .inl h2
  · refine .inr ⟨b, cap, cur, hv, hb, ?_, hr⟩
    rw [t.block b (Array.getElem?_eq_some_iff.1 hh).1 (ho b (by rw [hv]; rfl))]
    exact hh
theorem own_low' {w : World} {B : Nat} {e : TypeId} {size : Nat} {v : Value} {n : Nat} {xs : List Value} (h : w.ownsRow B e size v n xs) : ∀ k, v.ownBlock = some k → B ≤ k := fun k hk => (World.ownsRow.lt h k hk).1

set_option maxRecDepth 100000 in
set_option maxHeartbeats 20000000 in
theorem walk (a0 : Option Addr) (len0 cap0 : Nat) (l0 : List Act5) (w : World) (w0 : IsActs w a0 len0 l0) :
    Calls Try.prog 3 #[.slice a0 len0 cap0] w fun e w' => e = .returned (.bool true) ∧ Below w.heap.size w w' := by
  have hm0 := w0.2.1
  unfold maxLen at hm0
  by_cases g0 : (400 : Int) < len0
  · go_enter Try.func3, Try.ntmps3
    go_wp2_with (go_at_call 9; refine (awake_any _).mono ?_; rintro e w1 ⟨rfl, b1⟩)
    go_ret
    exact ⟨rfl, b1.below⟩
  have g0' : decide ((400 : Int) < len0) = false := decide_eq_false g0
  have W0 := Lib.hid w0
  clear w0
  go_enter Try.func3, Try.ntmps3
  go_wp2_with fail
  refine (awake_any _).mono ?_
  rintro e v1 ⟨rfl, t1⟩
  go_wp2_with fail
  refine (bNewI v1).mono ?_
  rintro e v2 ⟨rfl, i2, t2, z2⟩
  have T2 := t1.trans t2
  go_wp2_with fail
  have S0 : DS (fun k => k = v1.heap.size) w.heap.size (v2.alloc (.cells #[.slice none 0 0, .int .i64 0, .int .i64 0] 28)) v1.heap.size v2.heap.size 0 0 [] 0 0 [] none 0 := by
    have y1 := t1.size
    have y2 := t2.size
    have k := World.grownBy_alloc v2 (.cells #[.slice none 0 0, .int .i64 0, .int .i64 0] 28) none
    refine ⟨i2.kept (fun j hj _ => k.block j hj (by simp)), fun j hj => ?_, _root_.Go.heap_alloc_new v2 _, by omega, World.ownsRow_nil _ _ _ _, fun k hk => by simp [Value.ownBlock] at hk⟩
    subst hj
    exact ⟨y1, by simp; omega, by omega, by simp [Value.ownBlock]⟩
  have T0 := T2.alloc (.cells #[.slice none 0 0, .int .i64 0, .int .i64 0] 28)
  generalize hg : v1.heap.size = g at S0 ⊢
  generalize hm : v2.heap.size = m at S0 ⊢
  generalize v2.alloc (.cells #[.slice none 0 0, .int .i64 0, .int .i64 0] 28) = v3 at S0 T0 ⊢
  clear t1 t2 T2 i2 z2 hg hm
  go_loopw [5] (fun i wr => ∃ (O : Nat → Prop) (k : Nat) (now last : Int) (L : List (Tm Int)) (p : Option Addr) (c : Nat), k ≤ len0 ∧ i = .int .i64 k ∧ DS O w.heap.size wr g m now last L now last L p c ∧ Turn w wr (fun _ => False) ∧ L.length ≤ 256 ∧ last ≤ k) (fun i _ => len0 - (intOf i).toNat)
  case atStart => exact ⟨_, 0, 0, 0, [], none, 0, Nat.zero_le _, rfl, S0, T0, by simp, by omega⟩
  case round =>
    obtain ⟨O, k, now, last, L, p, c, hk, rfl, SA, T, hL, hla⟩ := hrel
    obtain ⟨wo, rfl⟩ : ∃ wo : World, wo = wr := ⟨_, rfl⟩
    by_cases hlt : k < len0
    · have hd : decide ((k : Int) < (len0 : Int)) = true := by simp; omega
      obtain ⟨b, o, ac, rfl, _, hfit, hat⟩ := (W0.out.below T).at_ k hlt
      obtain ⟨d, n, x⟩ := ac
      obtain ⟨f0, f1, f2⟩ := hfit
      have hn0 : -9223372036854775808 ≤ n := (wf_i64 f1).1
      have hn1 : n ≤ 9223372036854775807 := (wf_i64 f1).2
      have HRG : Hid (wo.rangeAt b (o + k * 3) [.int .i64 d, .int .i64 n, .int .i64 x]) := Lib.hid (fun j u hu => by
        match j, hu with
        | 0, hu => simp at hu; subst hu; exact hat.1
        | 1, hu => simp at hu; subst hu; exact hat.2.1
        | 2, hu => simp at hu; subst hu; exact hat.2.2)
      have tb := (Turn.refl wo (fun _ => False)).alloc (.cells #[.int .i64 d, .int .i64 n, .int .i64 x] 30)
      have HBX := Lib.hid (_root_.Go.heap_alloc_new wo (.cells #[.int .i64 d, .int .i64 n, .int .i64 x] 30))
      have HX := Lib.hid (SA.kept tb)
      have HT1 := Lib.hid (T.trans tb)
      have hbs := T.size
      have hl0 : 0 ≤ last := by
        obtain ⟨_, _, _, _, _, h0, _⟩ := SA.wheel
        exact h0
      have hids := Lib.hid SA.wheel.ids
      have m0 := (cell_of_cells (i := 0) HX.out.vbox)
      have m1 := (cell_of_cells (i := 1) HX.out.vbox)
      have m2 := (cell_of_cells (i := 2) HX.out.vbox)
      obtain ⟨d0, hd0⟩ : ∃ e : Bool, (d == 0) = e := ⟨_, rfl⟩
      obtain ⟨d1, hd1⟩ : ∃ e : Bool, (d == 1) = e := ⟨_, rfl⟩
      have SAv := Lib.hid SA.vbox
      clear f0 f1 f2 hat SA T tb
      cases d0 with
      | true =>
        by_cases hbad : n < 0 ∨ 256 ≤ L.length
        · have HR := Lib.hid (rSet_bad (wo.alloc (.cells #[.int .i64 d, .int .i64 n, .int .i64 x] 30)) p c now last L n x hbad)
          obtain ⟨er, her⟩ : ∃ er : Int, (if n < 0 then (1 : Int) else 6) = er := ⟨_, rfl⟩
          rw [her] at HR
          go_wp2_with (refine wpList_load_mid rfl 30 (.tmp 35) rfl b (o + k * 3) rfl [.int .i64 d, .int .i64 n, .int .i64 x] _ HRG.out Try.underlying30 rfl (by kernel_rfl) ?_)
          refine HR.out.mono ?_
          rintro e w3 ⟨rfl, t3⟩
          have t34 := t3.alloc (.cells #[.slice p L.length c, .int .i64 now, .int .i64 last] 28)
          have HX4 := Lib.hid (HX.out.kept t34)
          have hb4 := (t34.block _ (Array.getElem?_eq_some_iff.1 HBX.out).1 id).trans HBX.out
          have n1 := (cell_of_cells (i := 1) hb4)
          have n2 := (cell_of_cells (i := 2) hb4)
          have v0 := (cell_of_cells (i := 0) HX4.out.vbox)
          have v1 := (cell_of_cells (i := 1) HX4.out.vbox)
          have v2 := (cell_of_cells (i := 2) HX4.out.vbox)
          have y0 := (frozen_of_cells (i := 0) HX4.out.vbox)
          have y1 := (frozen_of_cells (i := 1) HX4.out.vbox)
          have y2 := (frozen_of_cells (i := 2) HX4.out.vbox)
          have HT4 := Lib.hid (HT1.out.trans t34)
          have HS : Hid (Calls Try.prog 12 #[.pointer (some ⟨g, 0, none⟩), .int .i64 n, .int .i64 x] (w3.alloc (.cells #[.slice p L.length c, .int .i64 now, .int .i64 last] 28)) fun e w' => e = .returned (.tuple #[.int .i64 0, .int .i64 er]) ∧ w3.alloc (.cells #[.slice p L.length c, .int .i64 now, .int .i64 last] 28) = w') := Lib.hid (by
            by_cases hneg : n < 0
            · rw [if_pos hneg] at her; subst her; exact bSetArgI HX4.out.wheel n x hneg
            · rw [if_neg hneg] at her; subst her; exact bSetFullI HX4.out.wheel n x (by omega) (by omega) (by omega))
          clear t3 t34 hb4 HR her
          go_wp2_with fail
          refine HS.out.mono ?_
          rintro e w5 ⟨rfl, hw5⟩
          subst hw5
          clear HS
          have D5 := HX4.out.anew HX4.out.row (fun k hk => ⟨HX4.out.far k hk, fun ho => (HX4.out.mine k ho).2.2.2 hk⟩) now last
          have HD := Lib.hid D5.1
          have TX := Lib.hid (HT4.out.step D5.2 (fun j hj => by rw [hj]; exact HX4.out.low))
          clear D5
          have HN := Lib.hid (rNext _ p c (now) (last) L HD.out.row (by have := hL; omega))
          have z0 := (cell_of_cells (i := 0) HD.out.vbox)
          have z1 := (cell_of_cells (i := 1) HD.out.vbox)
          have z2 := (cell_of_cells (i := 2) HD.out.vbox)
          generalize hln : (least L).getD 0 = ln at HN
          generalize hlb : (least L).isSome = lb at HN
          go_wp2_with fail
          refine HN.out.mono ?_
          rintro e wq ⟨rfl, tq⟩
          have D6 := Lib.hid (HD.out.kept tq)
          have HN2 := Lib.hid (bNextI D6.out.wheel (by have := hL; omega))
          rw [hln, hlb] at HN2
          clear HN z0 z1 z2
          go_wp2_with fail
          refine HN2.out.mono ?_
          rintro e wr2 ⟨rfl, tr⟩
          have D7 := Lib.hid (D6.out.kept tr)
          have TX7 := Lib.hid ((TX.out.trans tq).trans tr)
          have hbb : (lb != lb) = false := by cases lb <;> rfl
          clear HN2 tq tr
          go_wp2_with fail
          refine wp_region_noPanic ?_
          refine region_held (S := fun V => Turn wr2 V (fun _ => False)) (by kernel_rfl) (fun V d => d.turn _) (fun V d hS => ?_)
          refine wpAnyH_take (i := 0) (oi := ⟨some 122, Op.move (Operand.tmp 17), _, _, _, none⟩) (v := (.int .i64 ln)) rfl (by kernel_rfl) (by kernel_rfl) (by kernel_rfl) (fun _ _ _ h => h) (Or.inl ⟨by rfl, fun w' h' => ?_⟩) hS ?_
          · clear h'
            go_simp
          simp only [Act.put]
          refine wpAnyH_take (i := 1) (oi := ⟨some 123, Op.move (Operand.tmp 19), _, _, _, none⟩) (v := (.int .i64 ln)) rfl (by kernel_rfl) (by kernel_rfl) (by kernel_rfl) (fun _ _ _ h => h) (Or.inl ⟨by rfl, fun w' h' => ?_⟩) hS ?_
          · clear h'
            go_simp
          simp only [Act.put]
          refine wpAnyH_take (i := 2) (oi := ⟨some 124, Op.binOp BinOp.neq 3 (Operand.tmp 122) (Operand.tmp 123) 3, _, _, _, none⟩) (v := (.bool false)) rfl (by kernel_rfl) (by kernel_rfl) (by kernel_rfl) (fun _ _ _ h => h) (Or.inl ⟨by rfl, fun w' h' => ?_⟩) hS ?_
          · clear h'
            go_simp
          simp only [Act.put]
          refine wpAnyH_take (i := 3) (oi := ⟨some 125, Op.move (Operand.tmp 124), _, _, _, none⟩) (v := (.bool false)) rfl (by kernel_rfl) (by kernel_rfl) (by kernel_rfl) (fun _ _ _ h => h) (Or.inl ⟨by rfl, fun w' h' => ?_⟩) hS ?_
          · clear h'
            go_simp
          simp only [Act.put]
          refine wpAnyH_take (i := 4) (oi := ⟨some 126, Op.move (Operand.tmp 18), _, _, _, some (3, false)⟩) (v := (.bool lb)) rfl (by kernel_rfl) (by kernel_rfl) (by kernel_rfl) (fun _ _ _ h => h) (Or.inl ⟨by kernel_rfl, fun w' h' => ?_⟩) hS ?_
          · clear h'
            go_simp
          simp only [Act.put]
          refine wpAnyH_take (i := 5) (oi := ⟨some 127, Op.move (Operand.tmp 20), _, _, _, some (3, false)⟩) (v := (.bool lb)) rfl (by kernel_rfl) (by kernel_rfl) (by kernel_rfl) (fun _ _ _ h => h) (Or.inl ⟨by kernel_rfl, fun w' h' => ?_⟩) hS ?_
          · clear h'
            go_simp
          simp only [Act.put]
          refine wpAnyH_take (i := 6) (oi := ⟨some 128, Op.binOp BinOp.neq 4 (Operand.tmp 126) (Operand.tmp 127) 4, _, _, _, some (3, false)⟩) (v := (.bool false)) rfl (by kernel_rfl) (by kernel_rfl) (by kernel_rfl) (fun _ _ _ h => h) (Or.inl ⟨by kernel_rfl, fun w' h' => ?_⟩) hS ?_
          · clear h'
            go_simp
          simp only [Act.put]
          refine wpAnyH_take (i := 7) (oi := ⟨some 129, Op.pick (Operand.tmp 125) (Operand.const (Value.bool true)) (Operand.tmp 128), _, _, _, none⟩) (v := (.bool false)) rfl (by kernel_rfl) (by kernel_rfl) (by kernel_rfl) (fun _ _ _ h => h) (Or.inl ⟨by rfl, fun w' h' => ?_⟩) hS ?_
          · clear h'
            go_simp
          simp only [Act.put]
          refine wpAnyH_take (i := 8) (oi := ⟨some 130, Op.move (Operand.tmp 129), _, _, _, none⟩) (v := (.bool false)) rfl (by kernel_rfl) (by kernel_rfl) (by kernel_rfl) (fun _ _ _ h => h) (Or.inl ⟨by rfl, fun w' h' => ?_⟩) hS ?_
          · clear h'
            go_simp
          simp only [Act.put]
          refine wpAnyH_take (i := 9) (oi := ⟨some 131, Op.move (Operand.tmp 3), _, _, _, some (8, false)⟩) (v := (.pointer (some ⟨g, 0, none⟩))) rfl (by kernel_rfl) (by kernel_rfl) (by kernel_rfl) (fun _ _ _ h => h) (Or.inl ⟨by kernel_rfl, fun w' h' => ?_⟩) hS ?_
          · clear h'
            go_simp
          simp only [Act.put]
          refine wpAnyH_take (i := 11) (oi := ⟨some 133, Op.fieldAddr 28 (Operand.tmp 4) 1, _, _, _, some (8, false)⟩) (v := (.pointer (some ⟨m, 1, none⟩))) rfl (by kernel_rfl) (by kernel_rfl) (by kernel_rfl) (fun _ _ _ h => h) (Or.inl ⟨by kernel_rfl, fun w' h' => ?_⟩) hS ?_
          · clear h'
            go_simp
          simp only [Act.put]
          refine wpAnyH_take (i := 12) (oi := ⟨some 134, Op.load 3 (Operand.tmp 133), _, _, _, some (8, false)⟩) (v := (.int .i64 (now))) rfl (by kernel_rfl) (by kernel_rfl) (by kernel_rfl) (fun _ _ _ h => h) (Or.inl ⟨by kernel_rfl, fun w' h' => ?_⟩) hS ?_
          · have c0 := (cell_of_cells (i := 1) (D7.out.kept h').vbox)
            clear h'
            go_simp
          simp only [Act.put]
          refine wpAnyH_ready (rs := [10]) (by kernel_rfl) (by simp) ?_
          refine AllReadyH.cons rfl (fun K hK => ?_) AllReadyH.nil
          go_simp
          refine (bNowI (D7.out.kept hS).wheel).mono ?_
          rintro e wx ⟨rfl, rfl⟩
          go_simp
          refine hK.out _ _ hS (fun _ => ?_)
          clear hK K
          refine wpAnyH_take (i := 13) (oi := ⟨some 135, Op.binOp BinOp.neq 3 (Operand.tmp 132) (Operand.tmp 134) 3, _, _, _, some (8, false)⟩) (v := (.bool false)) rfl (by kernel_rfl) (by kernel_rfl) (by kernel_rfl) (fun _ _ _ h => h) (Or.inl ⟨by kernel_rfl, fun w' h' => ?_⟩) hS ?_
          · clear h'
            go_simp
          simp only [Act.put]
          refine wpAnyH_take (i := 14) (oi := ⟨some 136, Op.pick (Operand.tmp 130) (Operand.const (Value.bool true)) (Operand.tmp 135), _, _, _, none⟩) (v := (.bool false)) rfl (by kernel_rfl) (by kernel_rfl) (by kernel_rfl) (fun _ _ _ h => h) (Or.inl ⟨by rfl, fun w' h' => ?_⟩) hS ?_
          · clear h'
            go_simp
          simp only [Act.put]
          refine wpAnyH_take (i := 15) (oi := ⟨some 137, Op.move (Operand.tmp 136), _, _, _, none⟩) (v := (.bool false)) rfl (by kernel_rfl) (by kernel_rfl) (by kernel_rfl) (fun _ _ _ h => h) (Or.inl ⟨by rfl, fun w' h' => ?_⟩) hS ?_
          · clear h'
            go_simp
          simp only [Act.put]
          refine wpAnyH_take (i := 16) (oi := ⟨some 138, Op.move (Operand.tmp 3), _, _, _, some (15, false)⟩) (v := (.pointer (some ⟨g, 0, none⟩))) rfl (by kernel_rfl) (by kernel_rfl) (by kernel_rfl) (fun _ _ _ h => h) (Or.inl ⟨by kernel_rfl, fun w' h' => ?_⟩) hS ?_
          · clear h'
            go_simp
          simp only [Act.put]
          refine wpAnyH_take (i := 18) (oi := ⟨some 140, Op.fieldAddr 28 (Operand.tmp 4) 0, _, _, _, some (15, false)⟩) (v := (.pointer (some ⟨m, 0, none⟩))) rfl (by kernel_rfl) (by kernel_rfl) (by kernel_rfl) (fun _ _ _ h => h) (Or.inl ⟨by kernel_rfl, fun w' h' => ?_⟩) hS ?_
          · clear h'
            go_simp
          simp only [Act.put]
          refine wpAnyH_take (i := 19) (oi := ⟨some 141, Op.load 26 (Operand.tmp 140), _, _, _, some (15, false)⟩) (v := (.slice p L.length c)) rfl (by kernel_rfl) (by kernel_rfl) (by kernel_rfl) (fun _ _ _ h => h) (Or.inl ⟨by kernel_rfl, fun w' h' => ?_⟩) hS ?_
          · have c0 := (cell_of_cells (i := 0) (D7.out.kept h').vbox)
            clear h'
            go_simp
          simp only [Act.put]
          refine wpAnyH_take (i := 20) (oi := ⟨some 142, Op.call { callee := Callee.builtin Builtin.len, args := #[(Operand.tmp 141)], argTypes := #[26] }, _, _, _, some (15, false)⟩) (v := (.int .i64 (L.length : Int))) rfl (by kernel_rfl) (by kernel_rfl) (by kernel_rfl) (fun _ _ _ h => h) (Or.inl ⟨by kernel_rfl, fun w' h' => ?_⟩) hS ?_
          · clear h'
            go_simp
          simp only [Act.put]
          refine wpAnyH_ready (rs := [17]) (by kernel_rfl) (by simp) ?_
          refine AllReadyH.cons rfl (fun K hK => ?_) AllReadyH.nil
          go_simp
          refine (bLenI (D7.out.kept hS).wheel (by omega)).mono ?_
          rintro e wx ⟨rfl, rfl⟩
          go_simp
          refine hK.out _ _ hS (fun _ => ?_)
          clear hK K
          refine wpAnyH_take (i := 21) (oi := ⟨some 143, Op.binOp BinOp.neq 3 (Operand.tmp 139) (Operand.tmp 142) 3, _, _, _, some (15, false)⟩) (v := (.bool false)) rfl (by kernel_rfl) (by kernel_rfl) (by kernel_rfl) (fun _ _ _ h => h) (Or.inl ⟨by kernel_rfl, fun w' h' => ?_⟩) hS ?_
          · clear h'
            go_simp
          simp only [Act.put]
          refine wpAnyH_take (i := 22) (oi := ⟨some 144, Op.pick (Operand.tmp 137) (Operand.const (Value.bool true)) (Operand.tmp 143), _, _, _, none⟩) (v := (.bool false)) rfl (by kernel_rfl) (by kernel_rfl) (by kernel_rfl) (fun _ _ _ h => h) (Or.inl ⟨by rfl, fun w' h' => ?_⟩) hS ?_
          · clear h'
            go_simp
          simp only [Act.put]
          refine wpAnyH_done (by kernel_rfl) (NoPanic.normal ?_) _
          try simp only [List.setIfInBounds_toArray, List.set_cons_zero, List.set_cons_succ]
          have TV := Lib.hid hS
          clear hS d
          go_wp2_with fail
          go_roundw
          case rel => exact ⟨_, k + 1, now, last, L, p, c, by omega, by go_num, D7.out.kept TV.out, TX7.out.trans TV.out, hL, (by omega)⟩
          case measure => simp [intOf]; omega
        · obtain ⟨L5, hL5⟩ : ∃ L5, L5 = L ++ [(⟨last + 1, n, x⟩ : Tm Int)] := ⟨_, rfl⟩
          have hl5 : L.length + 1 = L5.length := by rw [hL5]; simp
          have hR := rSet_ok (wo.alloc (.cells #[.int .i64 d, .int .i64 n, .int .i64 x] 30)) p c now last L n x HX.out.row (by omega) (by omega) hl0 (by omega)
          rw [← hL5, hl5] at hR
          have HR := Lib.hid hR
          have hl6 : L5.length ≤ 256 := by omega
          have HL5 := Lib.hid hL5
          clear hR hL5 hl5
          go_wp2_with (refine wpList_load_mid rfl 30 (.tmp 35) rfl b (o + k * 3) rfl [.int .i64 d, .int .i64 n, .int .i64 x] _ HRG.out Try.underlying30 rfl (by kernel_rfl) ?_)
          refine HR.out.mono ?_
          rintro e w3 ⟨p2, c2, rfl, r3, q3, t3⟩
          have t34 := t3.alloc (.cells #[.slice p2 L5.length c2, .int .i64 now, .int .i64 (last + 1)] 28)
          have HX4 := Lib.hid (HX.out.kept t34)
          have hb4 := (t34.block _ (Array.getElem?_eq_some_iff.1 HBX.out).1 id).trans HBX.out
          have n1 := (cell_of_cells (i := 1) hb4)
          have n2 := (cell_of_cells (i := 2) hb4)
          have HB7 := Lib.hid (_root_.Go.heap_alloc_new w3 (.cells #[.slice p2 L5.length c2, .int .i64 now, .int .i64 (last + 1)] 28))
          have HR4 := Lib.hid (r3.turn ((Turn.refl w3 (fun _ => False)).alloc (.cells #[.slice p2 L5.length c2, .int .i64 now, .int .i64 (last + 1)] 28)) (fun _ _ h => h))
          have HQ3 := Lib.hid q3
          have HLT := Lib.hid (World.ownsRow.lt r3)
          have hs3 := t3.size
          have hS := bSetI HX4.out.wheel n x (by omega) hn1 (by omega) (by omega)
          rw [← HL5.out] at hS
          have HS := Lib.hid hS
          have HT4 := Lib.hid (HT1.out.trans t34)
          clear t3 t34 hb4 HR r3 q3 hS
          go_wp2_with fail
          refine HS.out.mono ?_
          rintro e w5 ⟨rfl, i5, t5⟩
          have XV := Lib.hid (HX4.out.step i5 t5)
          have b7 := HX4.out.block t5 HB7.out (fun ho => by have := (HX.out.mine _ ho).2.1; omega)
          have u0 := (cell_of_cells (i := 0) b7)
          have u1 := (cell_of_cells (i := 1) b7)
          have u2 := (cell_of_cells (i := 2) b7)
          have v0 := (cell_of_cells (i := 0) XV.out.vbox)
          have v1 := (cell_of_cells (i := 1) XV.out.vbox)
          have v2 := (cell_of_cells (i := 2) XV.out.vbox)
          have y0 := (frozen_of_cells (i := 0) XV.out.vbox)
          have y1 := (frozen_of_cells (i := 1) XV.out.vbox)
          have y2 := (frozen_of_cells (i := 2) XV.out.vbox)
          have T5 := HT4.out.step t5 (fun j hj => (HX4.out.mine j hj).1)
          have r5 := HR4.out.turn t5 (fun k hk ho => by have := HQ3.out k hk; have := (HX.out.mine k ho).2.1; omega)
          have hml := (Array.getElem?_eq_some_iff.1 HX.out.vbox).1
          have D5 := XV.out.anew r5 (fun k hk => by
            have z1 := HQ3.out k hk
            have z2 := (HLT.out k hk).2
            refine ⟨by omega, fun ho => ?_⟩
            rcases ho with ho | ho
            · have := (HX.out.mine k ho).2.1; omega
            · have := ho.1; simp at this; omega) now (last + 1)
          have HD := Lib.hid D5.1
          have TX := Lib.hid (T5.step D5.2 (fun j hj => by rw [hj]; exact HX4.out.low))
          clear D5 r5 i5 t5 b7 T5 HS
          go_wp2_with fail
          have HN := Lib.hid (rNext _ p2 c2 (now) ((last + 1)) L5 HD.out.row (by have := hl6; omega))
          have z0 := (cell_of_cells (i := 0) HD.out.vbox)
          have z1 := (cell_of_cells (i := 1) HD.out.vbox)
          have z2 := (cell_of_cells (i := 2) HD.out.vbox)
          generalize hln : (least L5).getD 0 = ln at HN
          generalize hlb : (least L5).isSome = lb at HN
          go_wp2_with fail
          refine HN.out.mono ?_
          rintro e wq ⟨rfl, tq⟩
          have D6 := Lib.hid (HD.out.kept tq)
          have HN2 := Lib.hid (bNextI D6.out.wheel (by have := hl6; omega))
          rw [hln, hlb] at HN2
          clear HN z0 z1 z2
          go_wp2_with fail
          refine HN2.out.mono ?_
          rintro e wr2 ⟨rfl, tr⟩
          have D7 := Lib.hid (D6.out.kept tr)
          have TX7 := Lib.hid ((TX.out.trans tq).trans tr)
          have hbb : (lb != lb) = false := by cases lb <;> rfl
          clear HN2 tq tr
          go_wp2_with fail
          refine wp_region_noPanic ?_
          refine region_held (S := fun V => Turn wr2 V (fun _ => False)) (by kernel_rfl) (fun V d => d.turn _) (fun V d hS => ?_)
          refine wpAnyH_take (i := 0) (oi := ⟨some 122, Op.move (Operand.tmp 17), _, _, _, none⟩) (v := (.int .i64 ln)) rfl (by kernel_rfl) (by kernel_rfl) (by kernel_rfl) (fun _ _ _ h => h) (Or.inl ⟨by rfl, fun w' h' => ?_⟩) hS ?_
          · clear h'
            go_simp
          simp only [Act.put]
          refine wpAnyH_take (i := 1) (oi := ⟨some 123, Op.move (Operand.tmp 19), _, _, _, none⟩) (v := (.int .i64 ln)) rfl (by kernel_rfl) (by kernel_rfl) (by kernel_rfl) (fun _ _ _ h => h) (Or.inl ⟨by rfl, fun w' h' => ?_⟩) hS ?_
          · clear h'
            go_simp
          simp only [Act.put]
          refine wpAnyH_take (i := 2) (oi := ⟨some 124, Op.binOp BinOp.neq 3 (Operand.tmp 122) (Operand.tmp 123) 3, _, _, _, none⟩) (v := (.bool false)) rfl (by kernel_rfl) (by kernel_rfl) (by kernel_rfl) (fun _ _ _ h => h) (Or.inl ⟨by rfl, fun w' h' => ?_⟩) hS ?_
          · clear h'
            go_simp
          simp only [Act.put]
          refine wpAnyH_take (i := 3) (oi := ⟨some 125, Op.move (Operand.tmp 124), _, _, _, none⟩) (v := (.bool false)) rfl (by kernel_rfl) (by kernel_rfl) (by kernel_rfl) (fun _ _ _ h => h) (Or.inl ⟨by rfl, fun w' h' => ?_⟩) hS ?_
          · clear h'
            go_simp
          simp only [Act.put]
          refine wpAnyH_take (i := 4) (oi := ⟨some 126, Op.move (Operand.tmp 18), _, _, _, some (3, false)⟩) (v := (.bool lb)) rfl (by kernel_rfl) (by kernel_rfl) (by kernel_rfl) (fun _ _ _ h => h) (Or.inl ⟨by kernel_rfl, fun w' h' => ?_⟩) hS ?_
          · clear h'
            go_simp
          simp only [Act.put]
          refine wpAnyH_take (i := 5) (oi := ⟨some 127, Op.move (Operand.tmp 20), _, _, _, some (3, false)⟩) (v := (.bool lb)) rfl (by kernel_rfl) (by kernel_rfl) (by kernel_rfl) (fun _ _ _ h => h) (Or.inl ⟨by kernel_rfl, fun w' h' => ?_⟩) hS ?_
          · clear h'
            go_simp
          simp only [Act.put]
          refine wpAnyH_take (i := 6) (oi := ⟨some 128, Op.binOp BinOp.neq 4 (Operand.tmp 126) (Operand.tmp 127) 4, _, _, _, some (3, false)⟩) (v := (.bool false)) rfl (by kernel_rfl) (by kernel_rfl) (by kernel_rfl) (fun _ _ _ h => h) (Or.inl ⟨by kernel_rfl, fun w' h' => ?_⟩) hS ?_
          · clear h'
            go_simp
          simp only [Act.put]
          refine wpAnyH_take (i := 7) (oi := ⟨some 129, Op.pick (Operand.tmp 125) (Operand.const (Value.bool true)) (Operand.tmp 128), _, _, _, none⟩) (v := (.bool false)) rfl (by kernel_rfl) (by kernel_rfl) (by kernel_rfl) (fun _ _ _ h => h) (Or.inl ⟨by rfl, fun w' h' => ?_⟩) hS ?_
          · clear h'
            go_simp
          simp only [Act.put]
          refine wpAnyH_take (i := 8) (oi := ⟨some 130, Op.move (Operand.tmp 129), _, _, _, none⟩) (v := (.bool false)) rfl (by kernel_rfl) (by kernel_rfl) (by kernel_rfl) (fun _ _ _ h => h) (Or.inl ⟨by rfl, fun w' h' => ?_⟩) hS ?_
          · clear h'
            go_simp
          simp only [Act.put]
          refine wpAnyH_take (i := 9) (oi := ⟨some 131, Op.move (Operand.tmp 3), _, _, _, some (8, false)⟩) (v := (.pointer (some ⟨g, 0, none⟩))) rfl (by kernel_rfl) (by kernel_rfl) (by kernel_rfl) (fun _ _ _ h => h) (Or.inl ⟨by kernel_rfl, fun w' h' => ?_⟩) hS ?_
          · clear h'
            go_simp
          simp only [Act.put]
          refine wpAnyH_take (i := 11) (oi := ⟨some 133, Op.fieldAddr 28 (Operand.tmp 4) 1, _, _, _, some (8, false)⟩) (v := (.pointer (some ⟨m, 1, none⟩))) rfl (by kernel_rfl) (by kernel_rfl) (by kernel_rfl) (fun _ _ _ h => h) (Or.inl ⟨by kernel_rfl, fun w' h' => ?_⟩) hS ?_
          · clear h'
            go_simp
          simp only [Act.put]
          refine wpAnyH_take (i := 12) (oi := ⟨some 134, Op.load 3 (Operand.tmp 133), _, _, _, some (8, false)⟩) (v := (.int .i64 (now))) rfl (by kernel_rfl) (by kernel_rfl) (by kernel_rfl) (fun _ _ _ h => h) (Or.inl ⟨by kernel_rfl, fun w' h' => ?_⟩) hS ?_
          · have c0 := (cell_of_cells (i := 1) (D7.out.kept h').vbox)
            clear h'
            go_simp
          simp only [Act.put]
          refine wpAnyH_ready (rs := [10]) (by kernel_rfl) (by simp) ?_
          refine AllReadyH.cons rfl (fun K hK => ?_) AllReadyH.nil
          go_simp
          refine (bNowI (D7.out.kept hS).wheel).mono ?_
          rintro e wx ⟨rfl, rfl⟩
          go_simp
          refine hK.out _ _ hS (fun _ => ?_)
          clear hK K
          refine wpAnyH_take (i := 13) (oi := ⟨some 135, Op.binOp BinOp.neq 3 (Operand.tmp 132) (Operand.tmp 134) 3, _, _, _, some (8, false)⟩) (v := (.bool false)) rfl (by kernel_rfl) (by kernel_rfl) (by kernel_rfl) (fun _ _ _ h => h) (Or.inl ⟨by kernel_rfl, fun w' h' => ?_⟩) hS ?_
          · clear h'
            go_simp
          simp only [Act.put]
          refine wpAnyH_take (i := 14) (oi := ⟨some 136, Op.pick (Operand.tmp 130) (Operand.const (Value.bool true)) (Operand.tmp 135), _, _, _, none⟩) (v := (.bool false)) rfl (by kernel_rfl) (by kernel_rfl) (by kernel_rfl) (fun _ _ _ h => h) (Or.inl ⟨by rfl, fun w' h' => ?_⟩) hS ?_
          · clear h'
            go_simp
          simp only [Act.put]
          refine wpAnyH_take (i := 15) (oi := ⟨some 137, Op.move (Operand.tmp 136), _, _, _, none⟩) (v := (.bool false)) rfl (by kernel_rfl) (by kernel_rfl) (by kernel_rfl) (fun _ _ _ h => h) (Or.inl ⟨by rfl, fun w' h' => ?_⟩) hS ?_
          · clear h'
            go_simp
          simp only [Act.put]
          refine wpAnyH_take (i := 16) (oi := ⟨some 138, Op.move (Operand.tmp 3), _, _, _, some (15, false)⟩) (v := (.pointer (some ⟨g, 0, none⟩))) rfl (by kernel_rfl) (by kernel_rfl) (by kernel_rfl) (fun _ _ _ h => h) (Or.inl ⟨by kernel_rfl, fun w' h' => ?_⟩) hS ?_
          · clear h'
            go_simp
          simp only [Act.put]
          refine wpAnyH_take (i := 18) (oi := ⟨some 140, Op.fieldAddr 28 (Operand.tmp 4) 0, _, _, _, some (15, false)⟩) (v := (.pointer (some ⟨m, 0, none⟩))) rfl (by kernel_rfl) (by kernel_rfl) (by kernel_rfl) (fun _ _ _ h => h) (Or.inl ⟨by kernel_rfl, fun w' h' => ?_⟩) hS ?_
          · clear h'
            go_simp
          simp only [Act.put]
          refine wpAnyH_take (i := 19) (oi := ⟨some 141, Op.load 26 (Operand.tmp 140), _, _, _, some (15, false)⟩) (v := (.slice p2 L5.length c2)) rfl (by kernel_rfl) (by kernel_rfl) (by kernel_rfl) (fun _ _ _ h => h) (Or.inl ⟨by kernel_rfl, fun w' h' => ?_⟩) hS ?_
          · have c0 := (cell_of_cells (i := 0) (D7.out.kept h').vbox)
            clear h'
            go_simp
          simp only [Act.put]
          refine wpAnyH_take (i := 20) (oi := ⟨some 142, Op.call { callee := Callee.builtin Builtin.len, args := #[(Operand.tmp 141)], argTypes := #[26] }, _, _, _, some (15, false)⟩) (v := (.int .i64 (L5.length : Int))) rfl (by kernel_rfl) (by kernel_rfl) (by kernel_rfl) (fun _ _ _ h => h) (Or.inl ⟨by kernel_rfl, fun w' h' => ?_⟩) hS ?_
          · clear h'
            go_simp
          simp only [Act.put]
          refine wpAnyH_ready (rs := [17]) (by kernel_rfl) (by simp) ?_
          refine AllReadyH.cons rfl (fun K hK => ?_) AllReadyH.nil
          go_simp
          refine (bLenI (D7.out.kept hS).wheel (by omega)).mono ?_
          rintro e wx ⟨rfl, rfl⟩
          go_simp
          refine hK.out _ _ hS (fun _ => ?_)
          clear hK K
          refine wpAnyH_take (i := 21) (oi := ⟨some 143, Op.binOp BinOp.neq 3 (Operand.tmp 139) (Operand.tmp 142) 3, _, _, _, some (15, false)⟩) (v := (.bool false)) rfl (by kernel_rfl) (by kernel_rfl) (by kernel_rfl) (fun _ _ _ h => h) (Or.inl ⟨by kernel_rfl, fun w' h' => ?_⟩) hS ?_
          · clear h'
            go_simp
          simp only [Act.put]
          refine wpAnyH_take (i := 22) (oi := ⟨some 144, Op.pick (Operand.tmp 137) (Operand.const (Value.bool true)) (Operand.tmp 143), _, _, _, none⟩) (v := (.bool false)) rfl (by kernel_rfl) (by kernel_rfl) (by kernel_rfl) (fun _ _ _ h => h) (Or.inl ⟨by rfl, fun w' h' => ?_⟩) hS ?_
          · clear h'
            go_simp
          simp only [Act.put]
          refine wpAnyH_done (by kernel_rfl) (NoPanic.normal ?_) _
          try simp only [List.setIfInBounds_toArray, List.set_cons_zero, List.set_cons_succ]
          have TV := Lib.hid hS
          clear hS d
          go_wp2_with fail
          go_roundw
          case rel => exact ⟨_, k + 1, now, (last + 1), L5, p2, c2, by omega, by go_num, D7.out.kept TV.out, TX7.out.trans TV.out, hl6, (by omega)⟩
          case measure => simp [intOf]; omega
      | false =>
        cases d1 with
        | true =>
          obtain ⟨L5, hL5⟩ : ∃ L5, without n L = L5 := ⟨_, rfl⟩
          obtain ⟨hb, hhb⟩ : ∃ hb, holdsId n L = hb := ⟨_, rfl⟩
          have hl6 : L5.length ≤ 256 := by rw [← hL5]; have : (without n L).length ≤ L.length := List.length_filter_le _ _; omega
          have hR := rCancel (wo.alloc (.cells #[.int .i64 d, .int .i64 n, .int .i64 x] 30)) p c now last L n HX.out.row (by omega)
          rw [hL5, hhb] at hR
          have HR := Lib.hid hR
          have hbb : (hb != hb) = false := by cases hb <;> rfl
          clear hR
          go_wp2_with (refine wpList_load_mid rfl 30 (.tmp 35) rfl b (o + k * 3) rfl [.int .i64 d, .int .i64 n, .int .i64 x] _ HRG.out Try.underlying30 rfl (by kernel_rfl) ?_)
          refine HR.out.mono ?_
          rintro e w3 ⟨p2, c2, rfl, r3, q3, t3⟩
          have t34 := t3.alloc (.cells #[.slice p2 L5.length c2, .int .i64 now, .int .i64 last] 28)
          have XV := Lib.hid (HX.out.kept t34)
          have hb4 := (t34.block _ (Array.getElem?_eq_some_iff.1 HBX.out).1 id).trans HBX.out
          have n1 := (cell_of_cells (i := 1) hb4)
          have hml := (Array.getElem?_eq_some_iff.1 SAv.out).1
          have hne : m ≠ wo.heap.size := by omega
          have hne2 : wo.heap.size ≠ m := by omega
          have r4 := r3.turn ((Turn.refl w3 (fun _ => False)).alloc (.cells #[.slice p2 L5.length c2, .int .i64 now, .int .i64 last] 28)) (fun _ _ h => h)
          have D5 := XV.out.anew r4 (fun k hk => by
            have z1 := q3 k hk
            have z3 : wo.heap.size < (wo.alloc (.cells #[.int .i64 d, .int .i64 n, .int .i64 x] 30)).heap.size := by simp
            exact ⟨by omega, fun ho => by have := (HX.out.mine k ho).2.1; omega⟩) now last
          have HD5 := Lib.hid D5.1
          have TX5 := Lib.hid ((HT1.out.trans t34).step D5.2 (fun j hj => by rw [hj]; exact XV.out.low))
          have T45 := Lib.hid D5.2
          have HT3 := Lib.hid t3
          have v0 := (cell_of_cells (i := 0) XV.out.vbox)
          have v1 := (cell_of_cells (i := 1) XV.out.vbox)
          have v2 := (cell_of_cells (i := 2) XV.out.vbox)
          have y0 := (frozen_of_cells (i := 0) XV.out.vbox)
          have y1 := (frozen_of_cells (i := 1) XV.out.vbox)
          have y2 := (frozen_of_cells (i := 2) XV.out.vbox)
          have hS := bCancelI HD5.out.wheel n (by omega)
          rw [hL5, hhb] at hS
          have HS := Lib.hid hS
          clear hS D5 r4 t34 hb4 r3 q3 t3 HR
          go_wp2_with fail
          refine HS.out.mono ?_
          rintro e w6 ⟨rfl, i6, t6⟩
          have HD := Lib.hid (HD5.out.step (i6.mono (fun j _ hj => .inl hj)) t6)
          have TX := Lib.hid (TX5.out.step t6 (fun j hj => (HD5.out.mine j hj).1))
          clear HS i6 t6 v0 v1 v2 y0 y1 y2 n1
          have HN := Lib.hid (rNext _ p2 c2 (now) (last) L5 HD.out.row (by have := hl6; omega))
          have z0 := (cell_of_cells (i := 0) HD.out.vbox)
          have z1 := (cell_of_cells (i := 1) HD.out.vbox)
          have z2 := (cell_of_cells (i := 2) HD.out.vbox)
          generalize hln : (least L5).getD 0 = ln at HN
          generalize hlb : (least L5).isSome = lb at HN
          go_wp2_with fail
          refine HN.out.mono ?_
          rintro e wq ⟨rfl, tq⟩
          have D6 := Lib.hid (HD.out.kept tq)
          have HN2 := Lib.hid (bNextI D6.out.wheel (by have := hl6; omega))
          rw [hln, hlb] at HN2
          clear HN z0 z1 z2
          go_wp2_with fail
          refine HN2.out.mono ?_
          rintro e wr2 ⟨rfl, tr⟩
          have D7 := Lib.hid (D6.out.kept tr)
          have TX7 := Lib.hid ((TX.out.trans tq).trans tr)
          have hbb : (lb != lb) = false := by cases lb <;> rfl
          clear HN2 tq tr
          go_wp2_with fail
          refine wp_region_noPanic ?_
          refine region_held (S := fun V => Turn wr2 V (fun _ => False)) (by kernel_rfl) (fun V d => d.turn _) (fun V d hS => ?_)
          refine wpAnyH_take (i := 0) (oi := ⟨some 122, Op.move (Operand.tmp 17), _, _, _, none⟩) (v := (.int .i64 ln)) rfl (by kernel_rfl) (by kernel_rfl) (by kernel_rfl) (fun _ _ _ h => h) (Or.inl ⟨by rfl, fun w' h' => ?_⟩) hS ?_
          · clear h'
            go_simp
          simp only [Act.put]
          refine wpAnyH_take (i := 1) (oi := ⟨some 123, Op.move (Operand.tmp 19), _, _, _, none⟩) (v := (.int .i64 ln)) rfl (by kernel_rfl) (by kernel_rfl) (by kernel_rfl) (fun _ _ _ h => h) (Or.inl ⟨by rfl, fun w' h' => ?_⟩) hS ?_
          · clear h'
            go_simp
          simp only [Act.put]
          refine wpAnyH_take (i := 2) (oi := ⟨some 124, Op.binOp BinOp.neq 3 (Operand.tmp 122) (Operand.tmp 123) 3, _, _, _, none⟩) (v := (.bool false)) rfl (by kernel_rfl) (by kernel_rfl) (by kernel_rfl) (fun _ _ _ h => h) (Or.inl ⟨by rfl, fun w' h' => ?_⟩) hS ?_
          · clear h'
            go_simp
          simp only [Act.put]
          refine wpAnyH_take (i := 3) (oi := ⟨some 125, Op.move (Operand.tmp 124), _, _, _, none⟩) (v := (.bool false)) rfl (by kernel_rfl) (by kernel_rfl) (by kernel_rfl) (fun _ _ _ h => h) (Or.inl ⟨by rfl, fun w' h' => ?_⟩) hS ?_
          · clear h'
            go_simp
          simp only [Act.put]
          refine wpAnyH_take (i := 4) (oi := ⟨some 126, Op.move (Operand.tmp 18), _, _, _, some (3, false)⟩) (v := (.bool lb)) rfl (by kernel_rfl) (by kernel_rfl) (by kernel_rfl) (fun _ _ _ h => h) (Or.inl ⟨by kernel_rfl, fun w' h' => ?_⟩) hS ?_
          · clear h'
            go_simp
          simp only [Act.put]
          refine wpAnyH_take (i := 5) (oi := ⟨some 127, Op.move (Operand.tmp 20), _, _, _, some (3, false)⟩) (v := (.bool lb)) rfl (by kernel_rfl) (by kernel_rfl) (by kernel_rfl) (fun _ _ _ h => h) (Or.inl ⟨by kernel_rfl, fun w' h' => ?_⟩) hS ?_
          · clear h'
            go_simp
          simp only [Act.put]
          refine wpAnyH_take (i := 6) (oi := ⟨some 128, Op.binOp BinOp.neq 4 (Operand.tmp 126) (Operand.tmp 127) 4, _, _, _, some (3, false)⟩) (v := (.bool false)) rfl (by kernel_rfl) (by kernel_rfl) (by kernel_rfl) (fun _ _ _ h => h) (Or.inl ⟨by kernel_rfl, fun w' h' => ?_⟩) hS ?_
          · clear h'
            go_simp
          simp only [Act.put]
          refine wpAnyH_take (i := 7) (oi := ⟨some 129, Op.pick (Operand.tmp 125) (Operand.const (Value.bool true)) (Operand.tmp 128), _, _, _, none⟩) (v := (.bool false)) rfl (by kernel_rfl) (by kernel_rfl) (by kernel_rfl) (fun _ _ _ h => h) (Or.inl ⟨by rfl, fun w' h' => ?_⟩) hS ?_
          · clear h'
            go_simp
          simp only [Act.put]
          refine wpAnyH_take (i := 8) (oi := ⟨some 130, Op.move (Operand.tmp 129), _, _, _, none⟩) (v := (.bool false)) rfl (by kernel_rfl) (by kernel_rfl) (by kernel_rfl) (fun _ _ _ h => h) (Or.inl ⟨by rfl, fun w' h' => ?_⟩) hS ?_
          · clear h'
            go_simp
          simp only [Act.put]
          refine wpAnyH_take (i := 9) (oi := ⟨some 131, Op.move (Operand.tmp 3), _, _, _, some (8, false)⟩) (v := (.pointer (some ⟨g, 0, none⟩))) rfl (by kernel_rfl) (by kernel_rfl) (by kernel_rfl) (fun _ _ _ h => h) (Or.inl ⟨by kernel_rfl, fun w' h' => ?_⟩) hS ?_
          · clear h'
            go_simp
          simp only [Act.put]
          refine wpAnyH_take (i := 11) (oi := ⟨some 133, Op.fieldAddr 28 (Operand.tmp 4) 1, _, _, _, some (8, false)⟩) (v := (.pointer (some ⟨m, 1, none⟩))) rfl (by kernel_rfl) (by kernel_rfl) (by kernel_rfl) (fun _ _ _ h => h) (Or.inl ⟨by kernel_rfl, fun w' h' => ?_⟩) hS ?_
          · clear h'
            go_simp
          simp only [Act.put]
          refine wpAnyH_take (i := 12) (oi := ⟨some 134, Op.load 3 (Operand.tmp 133), _, _, _, some (8, false)⟩) (v := (.int .i64 (now))) rfl (by kernel_rfl) (by kernel_rfl) (by kernel_rfl) (fun _ _ _ h => h) (Or.inl ⟨by kernel_rfl, fun w' h' => ?_⟩) hS ?_
          · have c0 := (cell_of_cells (i := 1) (D7.out.kept h').vbox)
            clear h'
            go_simp
          simp only [Act.put]
          refine wpAnyH_ready (rs := [10]) (by kernel_rfl) (by simp) ?_
          refine AllReadyH.cons rfl (fun K hK => ?_) AllReadyH.nil
          go_simp
          refine (bNowI (D7.out.kept hS).wheel).mono ?_
          rintro e wx ⟨rfl, rfl⟩
          go_simp
          refine hK.out _ _ hS (fun _ => ?_)
          clear hK K
          refine wpAnyH_take (i := 13) (oi := ⟨some 135, Op.binOp BinOp.neq 3 (Operand.tmp 132) (Operand.tmp 134) 3, _, _, _, some (8, false)⟩) (v := (.bool false)) rfl (by kernel_rfl) (by kernel_rfl) (by kernel_rfl) (fun _ _ _ h => h) (Or.inl ⟨by kernel_rfl, fun w' h' => ?_⟩) hS ?_
          · clear h'
            go_simp
          simp only [Act.put]
          refine wpAnyH_take (i := 14) (oi := ⟨some 136, Op.pick (Operand.tmp 130) (Operand.const (Value.bool true)) (Operand.tmp 135), _, _, _, none⟩) (v := (.bool false)) rfl (by kernel_rfl) (by kernel_rfl) (by kernel_rfl) (fun _ _ _ h => h) (Or.inl ⟨by rfl, fun w' h' => ?_⟩) hS ?_
          · clear h'
            go_simp
          simp only [Act.put]
          refine wpAnyH_take (i := 15) (oi := ⟨some 137, Op.move (Operand.tmp 136), _, _, _, none⟩) (v := (.bool false)) rfl (by kernel_rfl) (by kernel_rfl) (by kernel_rfl) (fun _ _ _ h => h) (Or.inl ⟨by rfl, fun w' h' => ?_⟩) hS ?_
          · clear h'
            go_simp
          simp only [Act.put]
          refine wpAnyH_take (i := 16) (oi := ⟨some 138, Op.move (Operand.tmp 3), _, _, _, some (15, false)⟩) (v := (.pointer (some ⟨g, 0, none⟩))) rfl (by kernel_rfl) (by kernel_rfl) (by kernel_rfl) (fun _ _ _ h => h) (Or.inl ⟨by kernel_rfl, fun w' h' => ?_⟩) hS ?_
          · clear h'
            go_simp
          simp only [Act.put]
          refine wpAnyH_take (i := 18) (oi := ⟨some 140, Op.fieldAddr 28 (Operand.tmp 4) 0, _, _, _, some (15, false)⟩) (v := (.pointer (some ⟨m, 0, none⟩))) rfl (by kernel_rfl) (by kernel_rfl) (by kernel_rfl) (fun _ _ _ h => h) (Or.inl ⟨by kernel_rfl, fun w' h' => ?_⟩) hS ?_
          · clear h'
            go_simp
          simp only [Act.put]
          refine wpAnyH_take (i := 19) (oi := ⟨some 141, Op.load 26 (Operand.tmp 140), _, _, _, some (15, false)⟩) (v := (.slice p2 L5.length c2)) rfl (by kernel_rfl) (by kernel_rfl) (by kernel_rfl) (fun _ _ _ h => h) (Or.inl ⟨by kernel_rfl, fun w' h' => ?_⟩) hS ?_
          · have c0 := (cell_of_cells (i := 0) (D7.out.kept h').vbox)
            clear h'
            go_simp
          simp only [Act.put]
          refine wpAnyH_take (i := 20) (oi := ⟨some 142, Op.call { callee := Callee.builtin Builtin.len, args := #[(Operand.tmp 141)], argTypes := #[26] }, _, _, _, some (15, false)⟩) (v := (.int .i64 (L5.length : Int))) rfl (by kernel_rfl) (by kernel_rfl) (by kernel_rfl) (fun _ _ _ h => h) (Or.inl ⟨by kernel_rfl, fun w' h' => ?_⟩) hS ?_
          · clear h'
            go_simp
          simp only [Act.put]
          refine wpAnyH_ready (rs := [17]) (by kernel_rfl) (by simp) ?_
          refine AllReadyH.cons rfl (fun K hK => ?_) AllReadyH.nil
          go_simp
          refine (bLenI (D7.out.kept hS).wheel (by omega)).mono ?_
          rintro e wx ⟨rfl, rfl⟩
          go_simp
          refine hK.out _ _ hS (fun _ => ?_)
          clear hK K
          refine wpAnyH_take (i := 21) (oi := ⟨some 143, Op.binOp BinOp.neq 3 (Operand.tmp 139) (Operand.tmp 142) 3, _, _, _, some (15, false)⟩) (v := (.bool false)) rfl (by kernel_rfl) (by kernel_rfl) (by kernel_rfl) (fun _ _ _ h => h) (Or.inl ⟨by kernel_rfl, fun w' h' => ?_⟩) hS ?_
          · clear h'
            go_simp
          simp only [Act.put]
          refine wpAnyH_take (i := 22) (oi := ⟨some 144, Op.pick (Operand.tmp 137) (Operand.const (Value.bool true)) (Operand.tmp 143), _, _, _, none⟩) (v := (.bool false)) rfl (by kernel_rfl) (by kernel_rfl) (by kernel_rfl) (fun _ _ _ h => h) (Or.inl ⟨by rfl, fun w' h' => ?_⟩) hS ?_
          · clear h'
            go_simp
          simp only [Act.put]
          refine wpAnyH_done (by kernel_rfl) (NoPanic.normal ?_) _
          try simp only [List.setIfInBounds_toArray, List.set_cons_zero, List.set_cons_succ]
          have TV := Lib.hid hS
          clear hS d
          go_wp2_with fail
          go_roundw
          case rel => exact ⟨_, k + 1, now, last, L5, p2, c2, by omega, by go_num, D7.out.kept TV.out, TX7.out.trans TV.out, hl6, (by omega)⟩
          case measure => simp [intOf]; omega
        | false =>
          obtain ⟨d2, hd2⟩ : ∃ e : Bool, (d == 2) = e := ⟨_, rfl⟩
          obtain ⟨d3, hd3⟩ : ∃ e : Bool, (d == 3) = e := ⟨_, rfl⟩
          cases d2 with
          | true =>
            have hd3' : d3 = false := by rw [← hd3]; have : d = 2 := by simpa using hd2
                                         subst this; rfl
            subst hd3'
            have hnv1 : n ≤ 9223372036854775807 := by omega
            obtain ⟨N, hN⟩ : ∃ N, N = max now n := ⟨_, rfl⟩
            obtain ⟨L5, hL5⟩ : ∃ L5, rests N L = L5 := ⟨_, rfl⟩
            obtain ⟨TT, hTT⟩ : ∃ TT, told N L = TT := ⟨_, rfl⟩
            have hl6 : L5.length ≤ 256 := by rw [← hL5]; have := rests_len N L; omega
            have htl : TT.length ≤ L.length := by rw [← hTT, (told_perm N L).length_eq]; exact dues_len N L
            have hR := rAdv (wo.alloc (.cells #[.int .i64 d, .int .i64 n, .int .i64 x] 30)) p c now last L n HX.out.row (by omega) hids.out.1 N hN
            rw [hL5, hTT] at hR
            have HR := Lib.hid hR
            have HNN := Lib.hid hN
            clear hR hN
            go_wp2_with (refine wpList_load_mid rfl 30 (.tmp 35) rfl b (o + k * 3) rfl [.int .i64 d, .int .i64 n, .int .i64 x] _ HRG.out Try.underlying30 rfl (by kernel_rfl) ?_)
            refine HR.out.mono ?_
            rintro e w3 ⟨p2, c2, vo, rfl, r3, q3, o3, t3⟩
            have t34 := t3.alloc (.cells #[.slice p2 L5.length c2, .int .i64 N, .int .i64 last] 28)
            have XV := Lib.hid (HX.out.kept t34)
            have hb4 := (t34.block _ (Array.getElem?_eq_some_iff.1 HBX.out).1 id).trans HBX.out
            have n1 := (cell_of_cells (i := 1) hb4)
            have hml := (Array.getElem?_eq_some_iff.1 SAv.out).1
            have hne : m ≠ wo.heap.size := by omega
            have hne2 : wo.heap.size ≠ m := by omega
            have r4 := r3.turn ((Turn.refl w3 (fun _ => False)).alloc (.cells #[.slice p2 L5.length c2, .int .i64 N, .int .i64 last] 28)) (fun _ _ h => h)
            have D5 := XV.out.anew r4 (fun k hk => by
              have z3 : wo.heap.size < (wo.alloc (.cells #[.int .i64 d, .int .i64 n, .int .i64 x] 30)).heap.size := by simp
              rcases q3 k hk with z1 | z1
              · exact ⟨by omega, fun ho => by have := (HX.out.mine k ho).2.1; omega⟩
              · exact ⟨HX.out.far k z1, fun ho => (HX.out.mine k ho).2.2.2 z1⟩) N last
            have HD5 := Lib.hid D5.1
            have TX5 := Lib.hid ((HT1.out.trans t34).step D5.2 (fun j hj => by rw [hj]; exact XV.out.low))
            have T45 := Lib.hid D5.2
            have HT3 := Lib.hid t3
            have v0 := (cell_of_cells (i := 0) XV.out.vbox)
            have v1 := (cell_of_cells (i := 1) XV.out.vbox)
            have v2 := (cell_of_cells (i := 2) XV.out.vbox)
            have y0 := (frozen_of_cells (i := 0) XV.out.vbox)
            have y1 := (frozen_of_cells (i := 1) XV.out.vbox)
            have y2 := (frozen_of_cells (i := 2) XV.out.vbox)
            have hS := bAdvI HD5.out.wheel n hnv1 (by omega) N (by have := HNN.out; omega)
            rw [hL5, hTT] at hS
            have HS := Lib.hid hS
            have HO3 := Lib.hid (own_turn (own_turn o3 ((Turn.refl w3 (fun _ => False)).alloc (.cells #[.slice p2 L5.length c2, .int .i64 N, .int .i64 last] 28)) (fun _ _ h => h)) T45.out (fun k hk e => by have := (own_low' o3 k hk); have z3 : wo.heap.size < (wo.alloc (.cells #[.int .i64 d, .int .i64 n, .int .i64 x] 30)).heap.size := (by simp); omega))
            have HO4 := Lib.hid (fun k hk => own_low' o3 k hk)
            clear hS D5 r4 t34 hb4 r3 q3 t3 o3 HR
            go_wp2_with fail
            refine HS.out.mono ?_
            rintro e w6 ⟨vw, rfl, o6, i6, t6⟩
            have hsm := same_any (va := vw) (vb := vo) (ns := TT.map fun t => t.x) (by simpa [Function.comp_def] using o6) (by simpa [Function.comp_def] using own_turn HO3.out t6 (fun k hk ho => by have := HO4.out k hk; have := (HX.out.mine k ho).2.1; omega)) (by simp; omega)
            have HSM := Lib.hid hsm
            have HD6 := Lib.hid (HD5.out.step i6 t6)
            have TX6 := Lib.hid (TX5.out.step t6 (fun j hj => (HD5.out.mine j hj).1))
            clear HS i6 t6 v0 v1 v2 y0 y1 y2 n1 o6 hsm
            go_wp2_with fail
            refine HSM.out.mono ?_
            rintro e w7 ⟨rfl, t7⟩
            have HD := Lib.hid (HD6.out.kept t7)
            have TX := Lib.hid (TX6.out.trans t7)
            clear HSM t7
            have HN := Lib.hid (rNext _ p2 c2 (N) (last) L5 HD.out.row (by have := hl6; omega))
            have z0 := (cell_of_cells (i := 0) HD.out.vbox)
            have z1 := (cell_of_cells (i := 1) HD.out.vbox)
            have z2 := (cell_of_cells (i := 2) HD.out.vbox)
            generalize hln : (least L5).getD 0 = ln at HN
            generalize hlb : (least L5).isSome = lb at HN
            go_wp2_with fail
            refine HN.out.mono ?_
            rintro e wq ⟨rfl, tq⟩
            have D6 := Lib.hid (HD.out.kept tq)
            have HN2 := Lib.hid (bNextI D6.out.wheel (by have := hl6; omega))
            rw [hln, hlb] at HN2
            clear HN z0 z1 z2
            go_wp2_with fail
            refine HN2.out.mono ?_
            rintro e wr2 ⟨rfl, tr⟩
            have D7 := Lib.hid (D6.out.kept tr)
            have TX7 := Lib.hid ((TX.out.trans tq).trans tr)
            have hbb : (lb != lb) = false := by cases lb <;> rfl
            clear HN2 tq tr
            go_wp2_with fail
            refine wp_region_noPanic ?_
            refine region_held (S := fun V => Turn wr2 V (fun _ => False)) (by kernel_rfl) (fun V d => d.turn _) (fun V d hS => ?_)
            refine wpAnyH_take (i := 0) (oi := ⟨some 122, Op.move (Operand.tmp 17), _, _, _, none⟩) (v := (.int .i64 ln)) rfl (by kernel_rfl) (by kernel_rfl) (by kernel_rfl) (fun _ _ _ h => h) (Or.inl ⟨by rfl, fun w' h' => ?_⟩) hS ?_
            · clear h'
              go_simp
            simp only [Act.put]
            refine wpAnyH_take (i := 1) (oi := ⟨some 123, Op.move (Operand.tmp 19), _, _, _, none⟩) (v := (.int .i64 ln)) rfl (by kernel_rfl) (by kernel_rfl) (by kernel_rfl) (fun _ _ _ h => h) (Or.inl ⟨by rfl, fun w' h' => ?_⟩) hS ?_
            · clear h'
              go_simp
            simp only [Act.put]
            refine wpAnyH_take (i := 2) (oi := ⟨some 124, Op.binOp BinOp.neq 3 (Operand.tmp 122) (Operand.tmp 123) 3, _, _, _, none⟩) (v := (.bool false)) rfl (by kernel_rfl) (by kernel_rfl) (by kernel_rfl) (fun _ _ _ h => h) (Or.inl ⟨by rfl, fun w' h' => ?_⟩) hS ?_
            · clear h'
              go_simp
            simp only [Act.put]
            refine wpAnyH_take (i := 3) (oi := ⟨some 125, Op.move (Operand.tmp 124), _, _, _, none⟩) (v := (.bool false)) rfl (by kernel_rfl) (by kernel_rfl) (by kernel_rfl) (fun _ _ _ h => h) (Or.inl ⟨by rfl, fun w' h' => ?_⟩) hS ?_
            · clear h'
              go_simp
            simp only [Act.put]
            refine wpAnyH_take (i := 4) (oi := ⟨some 126, Op.move (Operand.tmp 18), _, _, _, some (3, false)⟩) (v := (.bool lb)) rfl (by kernel_rfl) (by kernel_rfl) (by kernel_rfl) (fun _ _ _ h => h) (Or.inl ⟨by kernel_rfl, fun w' h' => ?_⟩) hS ?_
            · clear h'
              go_simp
            simp only [Act.put]
            refine wpAnyH_take (i := 5) (oi := ⟨some 127, Op.move (Operand.tmp 20), _, _, _, some (3, false)⟩) (v := (.bool lb)) rfl (by kernel_rfl) (by kernel_rfl) (by kernel_rfl) (fun _ _ _ h => h) (Or.inl ⟨by kernel_rfl, fun w' h' => ?_⟩) hS ?_
            · clear h'
              go_simp
            simp only [Act.put]
            refine wpAnyH_take (i := 6) (oi := ⟨some 128, Op.binOp BinOp.neq 4 (Operand.tmp 126) (Operand.tmp 127) 4, _, _, _, some (3, false)⟩) (v := (.bool false)) rfl (by kernel_rfl) (by kernel_rfl) (by kernel_rfl) (fun _ _ _ h => h) (Or.inl ⟨by kernel_rfl, fun w' h' => ?_⟩) hS ?_
            · clear h'
              go_simp
            simp only [Act.put]
            refine wpAnyH_take (i := 7) (oi := ⟨some 129, Op.pick (Operand.tmp 125) (Operand.const (Value.bool true)) (Operand.tmp 128), _, _, _, none⟩) (v := (.bool false)) rfl (by kernel_rfl) (by kernel_rfl) (by kernel_rfl) (fun _ _ _ h => h) (Or.inl ⟨by rfl, fun w' h' => ?_⟩) hS ?_
            · clear h'
              go_simp
            simp only [Act.put]
            refine wpAnyH_take (i := 8) (oi := ⟨some 130, Op.move (Operand.tmp 129), _, _, _, none⟩) (v := (.bool false)) rfl (by kernel_rfl) (by kernel_rfl) (by kernel_rfl) (fun _ _ _ h => h) (Or.inl ⟨by rfl, fun w' h' => ?_⟩) hS ?_
            · clear h'
              go_simp
            simp only [Act.put]
            refine wpAnyH_take (i := 9) (oi := ⟨some 131, Op.move (Operand.tmp 3), _, _, _, some (8, false)⟩) (v := (.pointer (some ⟨g, 0, none⟩))) rfl (by kernel_rfl) (by kernel_rfl) (by kernel_rfl) (fun _ _ _ h => h) (Or.inl ⟨by kernel_rfl, fun w' h' => ?_⟩) hS ?_
            · clear h'
              go_simp
            simp only [Act.put]
            refine wpAnyH_take (i := 11) (oi := ⟨some 133, Op.fieldAddr 28 (Operand.tmp 4) 1, _, _, _, some (8, false)⟩) (v := (.pointer (some ⟨m, 1, none⟩))) rfl (by kernel_rfl) (by kernel_rfl) (by kernel_rfl) (fun _ _ _ h => h) (Or.inl ⟨by kernel_rfl, fun w' h' => ?_⟩) hS ?_
            · clear h'
              go_simp
            simp only [Act.put]
            refine wpAnyH_take (i := 12) (oi := ⟨some 134, Op.load 3 (Operand.tmp 133), _, _, _, some (8, false)⟩) (v := (.int .i64 (N))) rfl (by kernel_rfl) (by kernel_rfl) (by kernel_rfl) (fun _ _ _ h => h) (Or.inl ⟨by kernel_rfl, fun w' h' => ?_⟩) hS ?_
            · have c0 := (cell_of_cells (i := 1) (D7.out.kept h').vbox)
              clear h'
              go_simp
            simp only [Act.put]
            refine wpAnyH_ready (rs := [10]) (by kernel_rfl) (by simp) ?_
            refine AllReadyH.cons rfl (fun K hK => ?_) AllReadyH.nil
            go_simp
            refine (bNowI (D7.out.kept hS).wheel).mono ?_
            rintro e wx ⟨rfl, rfl⟩
            go_simp
            refine hK.out _ _ hS (fun _ => ?_)
            clear hK K
            refine wpAnyH_take (i := 13) (oi := ⟨some 135, Op.binOp BinOp.neq 3 (Operand.tmp 132) (Operand.tmp 134) 3, _, _, _, some (8, false)⟩) (v := (.bool false)) rfl (by kernel_rfl) (by kernel_rfl) (by kernel_rfl) (fun _ _ _ h => h) (Or.inl ⟨by kernel_rfl, fun w' h' => ?_⟩) hS ?_
            · clear h'
              go_simp
            simp only [Act.put]
            refine wpAnyH_take (i := 14) (oi := ⟨some 136, Op.pick (Operand.tmp 130) (Operand.const (Value.bool true)) (Operand.tmp 135), _, _, _, none⟩) (v := (.bool false)) rfl (by kernel_rfl) (by kernel_rfl) (by kernel_rfl) (fun _ _ _ h => h) (Or.inl ⟨by rfl, fun w' h' => ?_⟩) hS ?_
            · clear h'
              go_simp
            simp only [Act.put]
            refine wpAnyH_take (i := 15) (oi := ⟨some 137, Op.move (Operand.tmp 136), _, _, _, none⟩) (v := (.bool false)) rfl (by kernel_rfl) (by kernel_rfl) (by kernel_rfl) (fun _ _ _ h => h) (Or.inl ⟨by rfl, fun w' h' => ?_⟩) hS ?_
            · clear h'
              go_simp
            simp only [Act.put]
            refine wpAnyH_take (i := 16) (oi := ⟨some 138, Op.move (Operand.tmp 3), _, _, _, some (15, false)⟩) (v := (.pointer (some ⟨g, 0, none⟩))) rfl (by kernel_rfl) (by kernel_rfl) (by kernel_rfl) (fun _ _ _ h => h) (Or.inl ⟨by kernel_rfl, fun w' h' => ?_⟩) hS ?_
            · clear h'
              go_simp
            simp only [Act.put]
            refine wpAnyH_take (i := 18) (oi := ⟨some 140, Op.fieldAddr 28 (Operand.tmp 4) 0, _, _, _, some (15, false)⟩) (v := (.pointer (some ⟨m, 0, none⟩))) rfl (by kernel_rfl) (by kernel_rfl) (by kernel_rfl) (fun _ _ _ h => h) (Or.inl ⟨by kernel_rfl, fun w' h' => ?_⟩) hS ?_
            · clear h'
              go_simp
            simp only [Act.put]
            refine wpAnyH_take (i := 19) (oi := ⟨some 141, Op.load 26 (Operand.tmp 140), _, _, _, some (15, false)⟩) (v := (.slice p2 L5.length c2)) rfl (by kernel_rfl) (by kernel_rfl) (by kernel_rfl) (fun _ _ _ h => h) (Or.inl ⟨by kernel_rfl, fun w' h' => ?_⟩) hS ?_
            · have c0 := (cell_of_cells (i := 0) (D7.out.kept h').vbox)
              clear h'
              go_simp
            simp only [Act.put]
            refine wpAnyH_take (i := 20) (oi := ⟨some 142, Op.call { callee := Callee.builtin Builtin.len, args := #[(Operand.tmp 141)], argTypes := #[26] }, _, _, _, some (15, false)⟩) (v := (.int .i64 (L5.length : Int))) rfl (by kernel_rfl) (by kernel_rfl) (by kernel_rfl) (fun _ _ _ h => h) (Or.inl ⟨by kernel_rfl, fun w' h' => ?_⟩) hS ?_
            · clear h'
              go_simp
            simp only [Act.put]
            refine wpAnyH_ready (rs := [17]) (by kernel_rfl) (by simp) ?_
            refine AllReadyH.cons rfl (fun K hK => ?_) AllReadyH.nil
            go_simp
            refine (bLenI (D7.out.kept hS).wheel (by omega)).mono ?_
            rintro e wx ⟨rfl, rfl⟩
            go_simp
            refine hK.out _ _ hS (fun _ => ?_)
            clear hK K
            refine wpAnyH_take (i := 21) (oi := ⟨some 143, Op.binOp BinOp.neq 3 (Operand.tmp 139) (Operand.tmp 142) 3, _, _, _, some (15, false)⟩) (v := (.bool false)) rfl (by kernel_rfl) (by kernel_rfl) (by kernel_rfl) (fun _ _ _ h => h) (Or.inl ⟨by kernel_rfl, fun w' h' => ?_⟩) hS ?_
            · clear h'
              go_simp
            simp only [Act.put]
            refine wpAnyH_take (i := 22) (oi := ⟨some 144, Op.pick (Operand.tmp 137) (Operand.const (Value.bool true)) (Operand.tmp 143), _, _, _, none⟩) (v := (.bool false)) rfl (by kernel_rfl) (by kernel_rfl) (by kernel_rfl) (fun _ _ _ h => h) (Or.inl ⟨by rfl, fun w' h' => ?_⟩) hS ?_
            · clear h'
              go_simp
            simp only [Act.put]
            refine wpAnyH_done (by kernel_rfl) (NoPanic.normal ?_) _
            try simp only [List.setIfInBounds_toArray, List.set_cons_zero, List.set_cons_succ]
            have TV := Lib.hid hS
            clear hS d
            go_wp2_with fail
            go_roundw
            case rel => exact ⟨_, k + 1, N, last, L5, p2, c2, by omega, by go_num, D7.out.kept TV.out, TX7.out.trans TV.out, hl6, (by omega)⟩
            case measure => simp [intOf]; omega
          | false =>
            cases d3 with
            | true =>
              obtain ⟨nv, hnv⟩ : ∃ nv, IntKind.i64.wrap (now + n.tmod 1000) = nv := ⟨_, rfl⟩
              have hnv1 : nv ≤ 9223372036854775807 := by rw [← hnv, IntKind.wrap_i64]; omega
              obtain ⟨N, hN⟩ : ∃ N, N = max now nv := ⟨_, rfl⟩
              obtain ⟨L5, hL5⟩ : ∃ L5, rests N L = L5 := ⟨_, rfl⟩
              obtain ⟨TT, hTT⟩ : ∃ TT, told N L = TT := ⟨_, rfl⟩
              have hl6 : L5.length ≤ 256 := by rw [← hL5]; have := rests_len N L; omega
              have htl : TT.length ≤ L.length := by rw [← hTT, (told_perm N L).length_eq]; exact dues_len N L
              have hR := rAdv (wo.alloc (.cells #[.int .i64 d, .int .i64 n, .int .i64 x] 30)) p c now last L nv HX.out.row (by omega) hids.out.1 N hN
              rw [hL5, hTT] at hR
              have HR := Lib.hid hR
              have HNN := Lib.hid hN
              clear hR hN
              go_wp2_with (refine wpList_load_mid rfl 30 (.tmp 35) rfl b (o + k * 3) rfl [.int .i64 d, .int .i64 n, .int .i64 x] _ HRG.out Try.underlying30 rfl (by kernel_rfl) ?_)
              refine HR.out.mono ?_
              rintro e w3 ⟨p2, c2, vo, rfl, r3, q3, o3, t3⟩
              have t34 := t3.alloc (.cells #[.slice p2 L5.length c2, .int .i64 N, .int .i64 last] 28)
              have XV := Lib.hid (HX.out.kept t34)
              have hb4 := (t34.block _ (Array.getElem?_eq_some_iff.1 HBX.out).1 id).trans HBX.out
              have n1 := (cell_of_cells (i := 1) hb4)
              have hml := (Array.getElem?_eq_some_iff.1 SAv.out).1
              have hne : m ≠ wo.heap.size := by omega
              have hne2 : wo.heap.size ≠ m := by omega
              have r4 := r3.turn ((Turn.refl w3 (fun _ => False)).alloc (.cells #[.slice p2 L5.length c2, .int .i64 N, .int .i64 last] 28)) (fun _ _ h => h)
              have D5 := XV.out.anew r4 (fun k hk => by
                have z3 : wo.heap.size < (wo.alloc (.cells #[.int .i64 d, .int .i64 n, .int .i64 x] 30)).heap.size := by simp
                rcases q3 k hk with z1 | z1
                · exact ⟨by omega, fun ho => by have := (HX.out.mine k ho).2.1; omega⟩
                · exact ⟨HX.out.far k z1, fun ho => (HX.out.mine k ho).2.2.2 z1⟩) N last
              have HD5 := Lib.hid D5.1
              have TX5 := Lib.hid ((HT1.out.trans t34).step D5.2 (fun j hj => by rw [hj]; exact XV.out.low))
              have T45 := Lib.hid D5.2
              have HT3 := Lib.hid t3
              have v0 := (cell_of_cells (i := 0) XV.out.vbox)
              have v1 := (cell_of_cells (i := 1) XV.out.vbox)
              have v2 := (cell_of_cells (i := 2) XV.out.vbox)
              have y0 := (frozen_of_cells (i := 0) XV.out.vbox)
              have y1 := (frozen_of_cells (i := 1) XV.out.vbox)
              have y2 := (frozen_of_cells (i := 2) XV.out.vbox)
              have hS := bAdvI HD5.out.wheel nv hnv1 (by omega) N (by have := HNN.out; omega)
              rw [hL5, hTT] at hS
              have HS := Lib.hid hS
              have HO3 := Lib.hid (own_turn (own_turn o3 ((Turn.refl w3 (fun _ => False)).alloc (.cells #[.slice p2 L5.length c2, .int .i64 N, .int .i64 last] 28)) (fun _ _ h => h)) T45.out (fun k hk e => by have := (own_low' o3 k hk); have z3 : wo.heap.size < (wo.alloc (.cells #[.int .i64 d, .int .i64 n, .int .i64 x] 30)).heap.size := (by simp); omega))
              have HO4 := Lib.hid (fun k hk => own_low' o3 k hk)
              clear hS D5 r4 t34 hb4 r3 q3 t3 o3 HR
              go_wp2_with fail
              refine HS.out.mono ?_
              rintro e w6 ⟨vw, rfl, o6, i6, t6⟩
              have hsm := same_any (va := vw) (vb := vo) (ns := TT.map fun t => t.x) (by simpa [Function.comp_def] using o6) (by simpa [Function.comp_def] using own_turn HO3.out t6 (fun k hk ho => by have := HO4.out k hk; have := (HX.out.mine k ho).2.1; omega)) (by simp; omega)
              have HSM := Lib.hid hsm
              have HD6 := Lib.hid (HD5.out.step i6 t6)
              have TX6 := Lib.hid (TX5.out.step t6 (fun j hj => (HD5.out.mine j hj).1))
              clear HS i6 t6 v0 v1 v2 y0 y1 y2 n1 o6 hsm
              go_wp2_with fail
              refine HSM.out.mono ?_
              rintro e w7 ⟨rfl, t7⟩
              have HD := Lib.hid (HD6.out.kept t7)
              have TX := Lib.hid (TX6.out.trans t7)
              clear HSM t7
              have HN := Lib.hid (rNext _ p2 c2 (N) (last) L5 HD.out.row (by have := hl6; omega))
              have z0 := (cell_of_cells (i := 0) HD.out.vbox)
              have z1 := (cell_of_cells (i := 1) HD.out.vbox)
              have z2 := (cell_of_cells (i := 2) HD.out.vbox)
              generalize hln : (least L5).getD 0 = ln at HN
              generalize hlb : (least L5).isSome = lb at HN
              go_wp2_with fail
              refine HN.out.mono ?_
              rintro e wq ⟨rfl, tq⟩
              have D6 := Lib.hid (HD.out.kept tq)
              have HN2 := Lib.hid (bNextI D6.out.wheel (by have := hl6; omega))
              rw [hln, hlb] at HN2
              clear HN z0 z1 z2
              go_wp2_with fail
              refine HN2.out.mono ?_
              rintro e wr2 ⟨rfl, tr⟩
              have D7 := Lib.hid (D6.out.kept tr)
              have TX7 := Lib.hid ((TX.out.trans tq).trans tr)
              have hbb : (lb != lb) = false := by cases lb <;> rfl
              clear HN2 tq tr
              go_wp2_with fail
              refine wp_region_noPanic ?_
              refine region_held (S := fun V => Turn wr2 V (fun _ => False)) (by kernel_rfl) (fun V d => d.turn _) (fun V d hS => ?_)
              refine wpAnyH_take (i := 0) (oi := ⟨some 122, Op.move (Operand.tmp 17), _, _, _, none⟩) (v := (.int .i64 ln)) rfl (by kernel_rfl) (by kernel_rfl) (by kernel_rfl) (fun _ _ _ h => h) (Or.inl ⟨by rfl, fun w' h' => ?_⟩) hS ?_
              · clear h'
                go_simp
              simp only [Act.put]
              refine wpAnyH_take (i := 1) (oi := ⟨some 123, Op.move (Operand.tmp 19), _, _, _, none⟩) (v := (.int .i64 ln)) rfl (by kernel_rfl) (by kernel_rfl) (by kernel_rfl) (fun _ _ _ h => h) (Or.inl ⟨by rfl, fun w' h' => ?_⟩) hS ?_
              · clear h'
                go_simp
              simp only [Act.put]
              refine wpAnyH_take (i := 2) (oi := ⟨some 124, Op.binOp BinOp.neq 3 (Operand.tmp 122) (Operand.tmp 123) 3, _, _, _, none⟩) (v := (.bool false)) rfl (by kernel_rfl) (by kernel_rfl) (by kernel_rfl) (fun _ _ _ h => h) (Or.inl ⟨by rfl, fun w' h' => ?_⟩) hS ?_
              · clear h'
                go_simp
              simp only [Act.put]
              refine wpAnyH_take (i := 3) (oi := ⟨some 125, Op.move (Operand.tmp 124), _, _, _, none⟩) (v := (.bool false)) rfl (by kernel_rfl) (by kernel_rfl) (by kernel_rfl) (fun _ _ _ h => h) (Or.inl ⟨by rfl, fun w' h' => ?_⟩) hS ?_
              · clear h'
                go_simp
              simp only [Act.put]
              refine wpAnyH_take (i := 4) (oi := ⟨some 126, Op.move (Operand.tmp 18), _, _, _, some (3, false)⟩) (v := (.bool lb)) rfl (by kernel_rfl) (by kernel_rfl) (by kernel_rfl) (fun _ _ _ h => h) (Or.inl ⟨by kernel_rfl, fun w' h' => ?_⟩) hS ?_
              · clear h'
                go_simp
              simp only [Act.put]
              refine wpAnyH_take (i := 5) (oi := ⟨some 127, Op.move (Operand.tmp 20), _, _, _, some (3, false)⟩) (v := (.bool lb)) rfl (by kernel_rfl) (by kernel_rfl) (by kernel_rfl) (fun _ _ _ h => h) (Or.inl ⟨by kernel_rfl, fun w' h' => ?_⟩) hS ?_
              · clear h'
                go_simp
              simp only [Act.put]
              refine wpAnyH_take (i := 6) (oi := ⟨some 128, Op.binOp BinOp.neq 4 (Operand.tmp 126) (Operand.tmp 127) 4, _, _, _, some (3, false)⟩) (v := (.bool false)) rfl (by kernel_rfl) (by kernel_rfl) (by kernel_rfl) (fun _ _ _ h => h) (Or.inl ⟨by kernel_rfl, fun w' h' => ?_⟩) hS ?_
              · clear h'
                go_simp
              simp only [Act.put]
              refine wpAnyH_take (i := 7) (oi := ⟨some 129, Op.pick (Operand.tmp 125) (Operand.const (Value.bool true)) (Operand.tmp 128), _, _, _, none⟩) (v := (.bool false)) rfl (by kernel_rfl) (by kernel_rfl) (by kernel_rfl) (fun _ _ _ h => h) (Or.inl ⟨by rfl, fun w' h' => ?_⟩) hS ?_
              · clear h'
                go_simp
              simp only [Act.put]
              refine wpAnyH_take (i := 8) (oi := ⟨some 130, Op.move (Operand.tmp 129), _, _, _, none⟩) (v := (.bool false)) rfl (by kernel_rfl) (by kernel_rfl) (by kernel_rfl) (fun _ _ _ h => h) (Or.inl ⟨by rfl, fun w' h' => ?_⟩) hS ?_
              · clear h'
                go_simp
              simp only [Act.put]
              refine wpAnyH_take (i := 9) (oi := ⟨some 131, Op.move (Operand.tmp 3), _, _, _, some (8, false)⟩) (v := (.pointer (some ⟨g, 0, none⟩))) rfl (by kernel_rfl) (by kernel_rfl) (by kernel_rfl) (fun _ _ _ h => h) (Or.inl ⟨by kernel_rfl, fun w' h' => ?_⟩) hS ?_
              · clear h'
                go_simp
              simp only [Act.put]
              refine wpAnyH_take (i := 11) (oi := ⟨some 133, Op.fieldAddr 28 (Operand.tmp 4) 1, _, _, _, some (8, false)⟩) (v := (.pointer (some ⟨m, 1, none⟩))) rfl (by kernel_rfl) (by kernel_rfl) (by kernel_rfl) (fun _ _ _ h => h) (Or.inl ⟨by kernel_rfl, fun w' h' => ?_⟩) hS ?_
              · clear h'
                go_simp
              simp only [Act.put]
              refine wpAnyH_take (i := 12) (oi := ⟨some 134, Op.load 3 (Operand.tmp 133), _, _, _, some (8, false)⟩) (v := (.int .i64 (N))) rfl (by kernel_rfl) (by kernel_rfl) (by kernel_rfl) (fun _ _ _ h => h) (Or.inl ⟨by kernel_rfl, fun w' h' => ?_⟩) hS ?_
              · have c0 := (cell_of_cells (i := 1) (D7.out.kept h').vbox)
                clear h'
                go_simp
              simp only [Act.put]
              refine wpAnyH_ready (rs := [10]) (by kernel_rfl) (by simp) ?_
              refine AllReadyH.cons rfl (fun K hK => ?_) AllReadyH.nil
              go_simp
              refine (bNowI (D7.out.kept hS).wheel).mono ?_
              rintro e wx ⟨rfl, rfl⟩
              go_simp
              refine hK.out _ _ hS (fun _ => ?_)
              clear hK K
              refine wpAnyH_take (i := 13) (oi := ⟨some 135, Op.binOp BinOp.neq 3 (Operand.tmp 132) (Operand.tmp 134) 3, _, _, _, some (8, false)⟩) (v := (.bool false)) rfl (by kernel_rfl) (by kernel_rfl) (by kernel_rfl) (fun _ _ _ h => h) (Or.inl ⟨by kernel_rfl, fun w' h' => ?_⟩) hS ?_
              · clear h'
                go_simp
              simp only [Act.put]
              refine wpAnyH_take (i := 14) (oi := ⟨some 136, Op.pick (Operand.tmp 130) (Operand.const (Value.bool true)) (Operand.tmp 135), _, _, _, none⟩) (v := (.bool false)) rfl (by kernel_rfl) (by kernel_rfl) (by kernel_rfl) (fun _ _ _ h => h) (Or.inl ⟨by rfl, fun w' h' => ?_⟩) hS ?_
              · clear h'
                go_simp
              simp only [Act.put]
              refine wpAnyH_take (i := 15) (oi := ⟨some 137, Op.move (Operand.tmp 136), _, _, _, none⟩) (v := (.bool false)) rfl (by kernel_rfl) (by kernel_rfl) (by kernel_rfl) (fun _ _ _ h => h) (Or.inl ⟨by rfl, fun w' h' => ?_⟩) hS ?_
              · clear h'
                go_simp
              simp only [Act.put]
              refine wpAnyH_take (i := 16) (oi := ⟨some 138, Op.move (Operand.tmp 3), _, _, _, some (15, false)⟩) (v := (.pointer (some ⟨g, 0, none⟩))) rfl (by kernel_rfl) (by kernel_rfl) (by kernel_rfl) (fun _ _ _ h => h) (Or.inl ⟨by kernel_rfl, fun w' h' => ?_⟩) hS ?_
              · clear h'
                go_simp
              simp only [Act.put]
              refine wpAnyH_take (i := 18) (oi := ⟨some 140, Op.fieldAddr 28 (Operand.tmp 4) 0, _, _, _, some (15, false)⟩) (v := (.pointer (some ⟨m, 0, none⟩))) rfl (by kernel_rfl) (by kernel_rfl) (by kernel_rfl) (fun _ _ _ h => h) (Or.inl ⟨by kernel_rfl, fun w' h' => ?_⟩) hS ?_
              · clear h'
                go_simp
              simp only [Act.put]
              refine wpAnyH_take (i := 19) (oi := ⟨some 141, Op.load 26 (Operand.tmp 140), _, _, _, some (15, false)⟩) (v := (.slice p2 L5.length c2)) rfl (by kernel_rfl) (by kernel_rfl) (by kernel_rfl) (fun _ _ _ h => h) (Or.inl ⟨by kernel_rfl, fun w' h' => ?_⟩) hS ?_
              · have c0 := (cell_of_cells (i := 0) (D7.out.kept h').vbox)
                clear h'
                go_simp
              simp only [Act.put]
              refine wpAnyH_take (i := 20) (oi := ⟨some 142, Op.call { callee := Callee.builtin Builtin.len, args := #[(Operand.tmp 141)], argTypes := #[26] }, _, _, _, some (15, false)⟩) (v := (.int .i64 (L5.length : Int))) rfl (by kernel_rfl) (by kernel_rfl) (by kernel_rfl) (fun _ _ _ h => h) (Or.inl ⟨by kernel_rfl, fun w' h' => ?_⟩) hS ?_
              · clear h'
                go_simp
              simp only [Act.put]
              refine wpAnyH_ready (rs := [17]) (by kernel_rfl) (by simp) ?_
              refine AllReadyH.cons rfl (fun K hK => ?_) AllReadyH.nil
              go_simp
              refine (bLenI (D7.out.kept hS).wheel (by omega)).mono ?_
              rintro e wx ⟨rfl, rfl⟩
              go_simp
              refine hK.out _ _ hS (fun _ => ?_)
              clear hK K
              refine wpAnyH_take (i := 21) (oi := ⟨some 143, Op.binOp BinOp.neq 3 (Operand.tmp 139) (Operand.tmp 142) 3, _, _, _, some (15, false)⟩) (v := (.bool false)) rfl (by kernel_rfl) (by kernel_rfl) (by kernel_rfl) (fun _ _ _ h => h) (Or.inl ⟨by kernel_rfl, fun w' h' => ?_⟩) hS ?_
              · clear h'
                go_simp
              simp only [Act.put]
              refine wpAnyH_take (i := 22) (oi := ⟨some 144, Op.pick (Operand.tmp 137) (Operand.const (Value.bool true)) (Operand.tmp 143), _, _, _, none⟩) (v := (.bool false)) rfl (by kernel_rfl) (by kernel_rfl) (by kernel_rfl) (fun _ _ _ h => h) (Or.inl ⟨by rfl, fun w' h' => ?_⟩) hS ?_
              · clear h'
                go_simp
              simp only [Act.put]
              refine wpAnyH_done (by kernel_rfl) (NoPanic.normal ?_) _
              try simp only [List.setIfInBounds_toArray, List.set_cons_zero, List.set_cons_succ]
              have TV := Lib.hid hS
              clear hS d
              go_wp2_with fail
              go_roundw
              case rel => exact ⟨_, k + 1, N, last, L5, p2, c2, by omega, by go_num, D7.out.kept TV.out, TX7.out.trans TV.out, hl6, (by omega)⟩
              case measure => simp [intOf]; omega
            | false =>
              have HD := Lib.hid HX.out
              have TX := HT1
              go_wp2_with (refine wpList_load_mid rfl 30 (.tmp 35) rfl b (o + k * 3) rfl [.int .i64 d, .int .i64 n, .int .i64 x] _ HRG.out Try.underlying30 rfl (by kernel_rfl) ?_)
              have HN := Lib.hid (rNext _ p c (now) (last) L HD.out.row (by have := hL; omega))
              have z0 := (cell_of_cells (i := 0) HD.out.vbox)
              have z1 := (cell_of_cells (i := 1) HD.out.vbox)
              have z2 := (cell_of_cells (i := 2) HD.out.vbox)
              generalize hln : (least L).getD 0 = ln at HN
              generalize hlb : (least L).isSome = lb at HN
              go_wp2_with fail
              refine HN.out.mono ?_
              rintro e wq ⟨rfl, tq⟩
              have D6 := Lib.hid (HD.out.kept tq)
              have HN2 := Lib.hid (bNextI D6.out.wheel (by have := hL; omega))
              rw [hln, hlb] at HN2
              clear HN z0 z1 z2
              go_wp2_with fail
              refine HN2.out.mono ?_
              rintro e wr2 ⟨rfl, tr⟩
              have D7 := Lib.hid (D6.out.kept tr)
              have TX7 := Lib.hid ((TX.out.trans tq).trans tr)
              have hbb : (lb != lb) = false := by cases lb <;> rfl
              clear HN2 tq tr
              go_wp2_with fail
              refine wp_region_noPanic ?_
              refine region_held (S := fun V => Turn wr2 V (fun _ => False)) (by kernel_rfl) (fun V d => d.turn _) (fun V d hS => ?_)
              refine wpAnyH_take (i := 0) (oi := ⟨some 122, Op.move (Operand.tmp 17), _, _, _, none⟩) (v := (.int .i64 ln)) rfl (by kernel_rfl) (by kernel_rfl) (by kernel_rfl) (fun _ _ _ h => h) (Or.inl ⟨by rfl, fun w' h' => ?_⟩) hS ?_
              · clear h'
                go_simp
              simp only [Act.put]
              refine wpAnyH_take (i := 1) (oi := ⟨some 123, Op.move (Operand.tmp 19), _, _, _, none⟩) (v := (.int .i64 ln)) rfl (by kernel_rfl) (by kernel_rfl) (by kernel_rfl) (fun _ _ _ h => h) (Or.inl ⟨by rfl, fun w' h' => ?_⟩) hS ?_
              · clear h'
                go_simp
              simp only [Act.put]
              refine wpAnyH_take (i := 2) (oi := ⟨some 124, Op.binOp BinOp.neq 3 (Operand.tmp 122) (Operand.tmp 123) 3, _, _, _, none⟩) (v := (.bool false)) rfl (by kernel_rfl) (by kernel_rfl) (by kernel_rfl) (fun _ _ _ h => h) (Or.inl ⟨by rfl, fun w' h' => ?_⟩) hS ?_
              · clear h'
                go_simp
              simp only [Act.put]
              refine wpAnyH_take (i := 3) (oi := ⟨some 125, Op.move (Operand.tmp 124), _, _, _, none⟩) (v := (.bool false)) rfl (by kernel_rfl) (by kernel_rfl) (by kernel_rfl) (fun _ _ _ h => h) (Or.inl ⟨by rfl, fun w' h' => ?_⟩) hS ?_
              · clear h'
                go_simp
              simp only [Act.put]
              refine wpAnyH_take (i := 4) (oi := ⟨some 126, Op.move (Operand.tmp 18), _, _, _, some (3, false)⟩) (v := (.bool lb)) rfl (by kernel_rfl) (by kernel_rfl) (by kernel_rfl) (fun _ _ _ h => h) (Or.inl ⟨by kernel_rfl, fun w' h' => ?_⟩) hS ?_
              · clear h'
                go_simp
              simp only [Act.put]
              refine wpAnyH_take (i := 5) (oi := ⟨some 127, Op.move (Operand.tmp 20), _, _, _, some (3, false)⟩) (v := (.bool lb)) rfl (by kernel_rfl) (by kernel_rfl) (by kernel_rfl) (fun _ _ _ h => h) (Or.inl ⟨by kernel_rfl, fun w' h' => ?_⟩) hS ?_
              · clear h'
                go_simp
              simp only [Act.put]
              refine wpAnyH_take (i := 6) (oi := ⟨some 128, Op.binOp BinOp.neq 4 (Operand.tmp 126) (Operand.tmp 127) 4, _, _, _, some (3, false)⟩) (v := (.bool false)) rfl (by kernel_rfl) (by kernel_rfl) (by kernel_rfl) (fun _ _ _ h => h) (Or.inl ⟨by kernel_rfl, fun w' h' => ?_⟩) hS ?_
              · clear h'
                go_simp
              simp only [Act.put]
              refine wpAnyH_take (i := 7) (oi := ⟨some 129, Op.pick (Operand.tmp 125) (Operand.const (Value.bool true)) (Operand.tmp 128), _, _, _, none⟩) (v := (.bool false)) rfl (by kernel_rfl) (by kernel_rfl) (by kernel_rfl) (fun _ _ _ h => h) (Or.inl ⟨by rfl, fun w' h' => ?_⟩) hS ?_
              · clear h'
                go_simp
              simp only [Act.put]
              refine wpAnyH_take (i := 8) (oi := ⟨some 130, Op.move (Operand.tmp 129), _, _, _, none⟩) (v := (.bool false)) rfl (by kernel_rfl) (by kernel_rfl) (by kernel_rfl) (fun _ _ _ h => h) (Or.inl ⟨by rfl, fun w' h' => ?_⟩) hS ?_
              · clear h'
                go_simp
              simp only [Act.put]
              refine wpAnyH_take (i := 9) (oi := ⟨some 131, Op.move (Operand.tmp 3), _, _, _, some (8, false)⟩) (v := (.pointer (some ⟨g, 0, none⟩))) rfl (by kernel_rfl) (by kernel_rfl) (by kernel_rfl) (fun _ _ _ h => h) (Or.inl ⟨by kernel_rfl, fun w' h' => ?_⟩) hS ?_
              · clear h'
                go_simp
              simp only [Act.put]
              refine wpAnyH_take (i := 11) (oi := ⟨some 133, Op.fieldAddr 28 (Operand.tmp 4) 1, _, _, _, some (8, false)⟩) (v := (.pointer (some ⟨m, 1, none⟩))) rfl (by kernel_rfl) (by kernel_rfl) (by kernel_rfl) (fun _ _ _ h => h) (Or.inl ⟨by kernel_rfl, fun w' h' => ?_⟩) hS ?_
              · clear h'
                go_simp
              simp only [Act.put]
              refine wpAnyH_take (i := 12) (oi := ⟨some 134, Op.load 3 (Operand.tmp 133), _, _, _, some (8, false)⟩) (v := (.int .i64 (now))) rfl (by kernel_rfl) (by kernel_rfl) (by kernel_rfl) (fun _ _ _ h => h) (Or.inl ⟨by kernel_rfl, fun w' h' => ?_⟩) hS ?_
              · have c0 := (cell_of_cells (i := 1) (D7.out.kept h').vbox)
                clear h'
                go_simp
              simp only [Act.put]
              refine wpAnyH_ready (rs := [10]) (by kernel_rfl) (by simp) ?_
              refine AllReadyH.cons rfl (fun K hK => ?_) AllReadyH.nil
              go_simp
              refine (bNowI (D7.out.kept hS).wheel).mono ?_
              rintro e wx ⟨rfl, rfl⟩
              go_simp
              refine hK.out _ _ hS (fun _ => ?_)
              clear hK K
              refine wpAnyH_take (i := 13) (oi := ⟨some 135, Op.binOp BinOp.neq 3 (Operand.tmp 132) (Operand.tmp 134) 3, _, _, _, some (8, false)⟩) (v := (.bool false)) rfl (by kernel_rfl) (by kernel_rfl) (by kernel_rfl) (fun _ _ _ h => h) (Or.inl ⟨by kernel_rfl, fun w' h' => ?_⟩) hS ?_
              · clear h'
                go_simp
              simp only [Act.put]
              refine wpAnyH_take (i := 14) (oi := ⟨some 136, Op.pick (Operand.tmp 130) (Operand.const (Value.bool true)) (Operand.tmp 135), _, _, _, none⟩) (v := (.bool false)) rfl (by kernel_rfl) (by kernel_rfl) (by kernel_rfl) (fun _ _ _ h => h) (Or.inl ⟨by rfl, fun w' h' => ?_⟩) hS ?_
              · clear h'
                go_simp
              simp only [Act.put]
              refine wpAnyH_take (i := 15) (oi := ⟨some 137, Op.move (Operand.tmp 136), _, _, _, none⟩) (v := (.bool false)) rfl (by kernel_rfl) (by kernel_rfl) (by kernel_rfl) (fun _ _ _ h => h) (Or.inl ⟨by rfl, fun w' h' => ?_⟩) hS ?_
              · clear h'
                go_simp
              simp only [Act.put]
              refine wpAnyH_take (i := 16) (oi := ⟨some 138, Op.move (Operand.tmp 3), _, _, _, some (15, false)⟩) (v := (.pointer (some ⟨g, 0, none⟩))) rfl (by kernel_rfl) (by kernel_rfl) (by kernel_rfl) (fun _ _ _ h => h) (Or.inl ⟨by kernel_rfl, fun w' h' => ?_⟩) hS ?_
              · clear h'
                go_simp
              simp only [Act.put]
              refine wpAnyH_take (i := 18) (oi := ⟨some 140, Op.fieldAddr 28 (Operand.tmp 4) 0, _, _, _, some (15, false)⟩) (v := (.pointer (some ⟨m, 0, none⟩))) rfl (by kernel_rfl) (by kernel_rfl) (by kernel_rfl) (fun _ _ _ h => h) (Or.inl ⟨by kernel_rfl, fun w' h' => ?_⟩) hS ?_
              · clear h'
                go_simp
              simp only [Act.put]
              refine wpAnyH_take (i := 19) (oi := ⟨some 141, Op.load 26 (Operand.tmp 140), _, _, _, some (15, false)⟩) (v := (.slice p L.length c)) rfl (by kernel_rfl) (by kernel_rfl) (by kernel_rfl) (fun _ _ _ h => h) (Or.inl ⟨by kernel_rfl, fun w' h' => ?_⟩) hS ?_
              · have c0 := (cell_of_cells (i := 0) (D7.out.kept h').vbox)
                clear h'
                go_simp
              simp only [Act.put]
              refine wpAnyH_take (i := 20) (oi := ⟨some 142, Op.call { callee := Callee.builtin Builtin.len, args := #[(Operand.tmp 141)], argTypes := #[26] }, _, _, _, some (15, false)⟩) (v := (.int .i64 (L.length : Int))) rfl (by kernel_rfl) (by kernel_rfl) (by kernel_rfl) (fun _ _ _ h => h) (Or.inl ⟨by kernel_rfl, fun w' h' => ?_⟩) hS ?_
              · clear h'
                go_simp
              simp only [Act.put]
              refine wpAnyH_ready (rs := [17]) (by kernel_rfl) (by simp) ?_
              refine AllReadyH.cons rfl (fun K hK => ?_) AllReadyH.nil
              go_simp
              refine (bLenI (D7.out.kept hS).wheel (by omega)).mono ?_
              rintro e wx ⟨rfl, rfl⟩
              go_simp
              refine hK.out _ _ hS (fun _ => ?_)
              clear hK K
              refine wpAnyH_take (i := 21) (oi := ⟨some 143, Op.binOp BinOp.neq 3 (Operand.tmp 139) (Operand.tmp 142) 3, _, _, _, some (15, false)⟩) (v := (.bool false)) rfl (by kernel_rfl) (by kernel_rfl) (by kernel_rfl) (fun _ _ _ h => h) (Or.inl ⟨by kernel_rfl, fun w' h' => ?_⟩) hS ?_
              · clear h'
                go_simp
              simp only [Act.put]
              refine wpAnyH_take (i := 22) (oi := ⟨some 144, Op.pick (Operand.tmp 137) (Operand.const (Value.bool true)) (Operand.tmp 143), _, _, _, none⟩) (v := (.bool false)) rfl (by kernel_rfl) (by kernel_rfl) (by kernel_rfl) (fun _ _ _ h => h) (Or.inl ⟨by rfl, fun w' h' => ?_⟩) hS ?_
              · clear h'
                go_simp
              simp only [Act.put]
              refine wpAnyH_done (by kernel_rfl) (NoPanic.normal ?_) _
              try simp only [List.setIfInBounds_toArray, List.set_cons_zero, List.set_cons_succ]
              have TV := Lib.hid hS
              clear hS d
              go_wp2_with fail
              go_roundw
              case rel => exact ⟨_, k + 1, now, last, L, p, c, by omega, by go_num, D7.out.kept TV.out, TX7.out.trans TV.out, hL, (by omega)⟩
              case measure => simp [intOf]; omega
    · obtain rfl : k = len0 := by omega
      have hd : decide ((k : Int) < (k : Int)) = false := by simp
      clear SA
      go_wp2_with fail
      go_ret
      exact ⟨rfl, T.below⟩

set_option maxRecDepth 100000 in
theorem lifted (os : Os) (started : os.Started) (H : Type) (enc : TypeId × Value → H) :
    ReturnsInHanded {} Try.checked os 3 .any (Rows.wheelPlaysSpec.pre6 enc Try.prog Try.f3 Rows.wheelPlaysRow.domain false) (Rows.wheelPlaysSpec.post enc Try.prog Try.f3 false true false false) := by
  refine returnsInHanded_of_change (C := Try.checked) own started (by kernel_rfl) Try.func3
    (ChangeSpec.witness6 (enc := enc) (C := Try.checked) false ⟨#[], #[.slice none 0 0], []⟩ 8 (by kernel_rfl) (by kernel_rfl) (by kernel_rfl) (by kernel_rfl)) ?_
  intro W base args ds gs before hval0 hW hcnd _
  have hval : ∀ (j : Nat) t v, Try.f3.params[j]? = some t → args[j]? = some v → Value.okWide Try.prog W .any base t v := hval0
  have hW' := hW
  obtain ⟨p, q, hA0, hV, rfl, hfz, hnd⟩ := hW
  have hA : DataW.TrodAll enc Try.prog W 0 (fun _ => true) true Try.f3.params.toList args.toList ds p := hA0
  rw [Try.params3] at hA hval
  obtain ⟨v0, vs0, d0, ds0, p0, q0, hargs, rfl, rfl, h0, r0⟩ := trodAll_cons hA
  obtain ⟨rfl, rfl, rfl⟩ := trodAll_nil r0
  obtain rfl : args = #[v0] := by cases args; simp_all
  obtain ⟨rfl, rfl⟩ := trodVars_none hV
  obtain ⟨a0, len0, cap0, rfl⟩ := okWide_slice Try.underlying22 (hval 0 22 v0 rfl rfl)
  have k0 := h0
  have lt0 : ∀ x ∈ p0, x.block < W.heap.size := by obtain ⟨m, hm⟩ := k0; exact DataW.trod_lt m _ _ _ hm
  obtain ⟨l0, w0⟩ : ∃ l, IsActs W a0 len0 l := by obtain ⟨fuel, hf⟩ := h0; exact open_acts hf
  clear hA0 hval0
  refine (walk a0 len0 cap0 l0 W w0).mono fun e W' ⟨he, bel⟩ => ?_
  subst he
  exact ⟨_, rfl, _, _, _, [], _, [], hW', trodAll_mk1 (shut_bool Try.underlying4 _), (trodAll_cons_mk (Below.trod laidOut (by kernel_rfl) (of_decide_eq_true (by kernel_rfl)) k0 bel lt0) trodAll_mk0), rfl, bel.frame _, fun h => by cases h⟩

/-- THE STATEMENT. -/
theorem proved : Rows.WheelPlaysSaid :=
  OpenClaim.holds_of_wide 3 Try.f3 rfl rfl rfl rfl rfl rfl rfl ⟨rfl, rfl, rfl, rfl, rfl⟩ rfl rfl rfl rfl rfl (by kernel_rfl) Try.func3 (by kernel_rfl)
    (of_decide_eq_true (by kernel_rfl)) (by unfold Func.isWrapper; first | (rw [if_pos (by decide +kernel)]; kernel_rfl) | (rw [if_neg (by decide +kernel)]; exact ⟨rfl, rfl⟩))
    (fun os started H enc _ => lifted os started H enc)
#print axioms proved

end Go.Proofs.Ytbbmfgeagdblcaa.pla
