/-
  ConnResets: a Rst with just the number that is wanted ends a connection. Conditions: none but the statement's own.
-/
import Derived.Test.YtlajalfalepbhaaCpA
import Derived.ProofKit
import Derived.OpenShut
import Derived.ShutString
import Derived.ChangeOld
import Derived.Below
namespace Go.Proofs.Ytlajalfalepbhaa
open Go.RowKit Go.ChangeShapes Go.WideShapes Go.Deep
set_option linter.unusedVariables false

theorem CB.setFx {w0 w : World} {n : Nat} {cur : Array Value} {ty : TypeId} {q : Bq} {v : Cn} (h : CB w0 [(n, .cells cur ty)] q v w) (hn : w0.heap.size ≤ n) (i : Nat) (x : Value) (hi : i < cur.size) :
    CB w0 [(n, .cells (cur.setIfInBounds i x) ty)] q v (w.setCell ⟨n, i, none⟩ x) := by
  obtain ⟨sl, m, hsl⟩ := h.ex
  have hh := h.fx _ List.mem_cons_self
  have k : ∀ j, j ≠ n → (w.setCell ⟨n, i, none⟩ x).heap[j]? = w.heap[j]? := fun j hj => Below.heap_setCell _ _ _ _ (by show j ≠ n; exact hj)
  refine ⟨⟨sl, m.kept (by simp [World.setCell]) (fun j hj => k j ?_), fun j hj => ⟨(hsl j hj).1, fun y hy => ?_⟩⟩, h.ok, ?_, h.own, fun y hy => ?_⟩
  · rintro rfl
    rcases hj with e | e
    · exact hh.2 e
    · exact (hsl _ e).2 _ List.mem_cons_self rfl
  · rw [List.mem_singleton.1 hy]
    exact (hsl j hj).2 (n, .cells cur ty) List.mem_cons_self
  · exact below_turn h.bl ((Turn.refl w (fun j => j = n)).setCell rfl i x) h.bl.size (fun j hj => by rw [hj]; exact hn)
  · rw [List.mem_singleton.1 hy]
    exact ⟨set_cellsB hh.1 x hi, hh.2⟩
theorem wf_wrap (y : Int) : (Lit.int .i64 (IntKind.i64.wrap y)).wf = true := by
  simp [Lit.wf, IntKind.wrap, IntKind.min, IntKind.max, IntKind.signed, IntKind.bits] <;> (try split) <;> omega
theorem fa_new : Fa 101 1 exN := by
  rw [ex_n]
  exact ⟨(fun e => by cases e), by show (101 : Int) ≤ 101; decide, by show (101 : Int) ≤ 101; decide, by show 1 ≤ 1; decide⟩
theorem rstS_ok {x : Int} (h : 0 ≤ x ∧ x < 4294967296) : (rstS x).ok := by
  refine ⟨by show (Lit.int .i64 0).wf = true; decide, by show (Lit.int .i64 0).wf = true; decide, ?_, by show (Lit.int .u32 0).wf = true; decide, by show (Lit.int .i64 4).wf = true; decide, by show (Lit.int .i64 0).wf = true; decide, by show (Lit.int .i64 0).wf = true; decide, by show 0 ≤ maxLen; exact Nat.zero_le _⟩
  show (Lit.int .u32 x).wf = true
  simp [Lit.wf, IntKind.min, IntKind.max, IntKind.signed, IntKind.bits]
  omega
theorem far1_ok : far1.ok := by
  refine ⟨?_, ?_, ?_, ?_, ?_, ?_, ?_, ?_⟩ <;> decide
theorem ack_one {v : Cn} (h : v.sent = []) : (ackV v).sent = [sgTo v (segOf v.nxt 0 0 ⟨#[]⟩) 16] := by
  show v.sent ++ _ = _
  rw [h]
  rfl
end Go.Proofs.Ytlajalfalepbhaa

namespace Go.Proofs.Ytlajalfalepbhaa.cor
open Go.ChangeShapes Go.WideShapes Go.ChangeAt Go.RowKit
open Go.ChangeMaps (open_string shut_string)
set_option linter.unusedVariables false

theorem own : ownKnob Try.prog.godebug = none := by kernel_rfl
theorem laidOut : laidOutB Try.prog = true := by kernel_rfl
set_option maxRecDepth 100000 in
set_option maxHeartbeats 16000000 in
theorem walk_out (far : Int) (p : Option Addr) (len cap : Nat) (l : List Act15) (w : World) (hl : IsActs15 w p len l) (h : great15 l = true) :
    Calls Try.prog 6 #[.slice p len cap, .int .u32 far] w fun e w' => e = .returned (.bool true) ∧ Below w.heap.size w w' := by
  have HG := Lib.hid h
  have HT := Lib.hid hl
  clear h hl
  go_enter Try.func6, Try.ntmps6
  go_wp2_with fail
  refine (awakeN _).mono ?_
  rintro e w1 ⟨rfl, bl⟩
  have BL0 := Lib.hid bl
  clear bl
  go_wp2_with fail
  refine (Great15_any w1 p len cap l (HT.out.below BL0.out)).mono ?_
  rintro e w2 ⟨rfl, b2⟩
  rw [HG.out]
  have B2 := Lib.hid (BL0.out.trans (b2.mono BL0.out.size))
  clear b2 BL0
  go_wp2_with fail
  go_ret
  exact ⟨rfl, B2.out⟩
set_option maxRecDepth 100000 in
set_option maxHeartbeats 16000000 in
theorem walk_main (far : Int) (hf : 0 ≤ far ∧ far < 4294967296) (p : Option Addr) (len cap : Nat) (l : List Act15) (w : World) (hl : IsActs15 w p len l) (h : great15 l = false) :
    Calls Try.prog 6 #[.slice p len cap, .int .u32 far] w fun e w' => e = .returned (.bool true) ∧ Below w.heap.size w w' := by
  have HG := Lib.hid h
  have HSM := Lib.hid (great15_no h).2
  have hlen : len ≤ 100 := by have := (great15_no h).1; rw [hl.1] at this; exact this
  have HT := Lib.hid hl
  have HFR := Lib.hid hf
  clear h hl hf
  go_enter Try.func6, Try.ntmps6
  go_wp2_with fail
  refine (awakeN _).mono ?_
  rintro e w1 ⟨rfl, bl⟩
  have BL0 := Lib.hid bl
  clear bl
  go_wp2_with fail
  refine (Great15_any w1 p len cap l (HT.out.below BL0.out)).mono ?_
  rintro e w2 ⟨rfl, b2⟩
  rw [HG.out]
  have B2 := Lib.hid (BL0.out.trans (b2.mono BL0.out.size))
  clear b2 BL0
  go_wp2_with fail
  refine (synC _).mono ?_
  rintro e w3 ⟨rfl, b3⟩
  go_wp2_with fail
  refine (howC _).mono ?_
  rintro e w4 ⟨rfl, b4⟩
  have B4 := Lib.hid ((B2.out.trans (b3.mono B2.out.size)).trans (b4.mono (B2.out.trans (b3.mono B2.out.size)).size))
  clear b3 b4 B2
  go_wp2_with fail
  refine (new_ok w4 [] (fun x hx => by cases hx) exSyn 500 10 2 60 3 5 (by omega) (by kernel_rfl)).mono ?_
  rintro e W1 ⟨q, rfl, h⟩
  have H1 : Hid (CB w [] q exN W1) := Lib.hid (h.rebase B4.out)
  clear h B4 HG
  go_wp2_with fail
  go_loopw [7, 8, 9] (fun v7 v8 v9 wr => ∃ (k : Nat) (v : Cn), k ≤ len ∧ v7 = .int .i64 k ∧ Hid (CB w [] q v wr) ∧ Hid (Fa (101 + 2048 * k) (1 + 2100 * k) v)) (fun v7 v8 v9 _ => len - (intOf v7).toNat)
  case atStart => exact ⟨0, exN, Nat.zero_le _, rfl, H1, Lib.hid fa_new⟩
  case round =>
    clear H1
    obtain ⟨k, v, hk, rfl, HB, HF2⟩ := hrel
    by_cases hlt : k < len
    · have hk2 : k ≤ 99 := by omega
      have HFA := HF2
      obtain ⟨b, o, ⟨cd, cs, ck, cn, ct⟩, hp, hck, hb, hfit, hat⟩ := (HT.out.below HB.out.bl).at_ k hlt
      have TW : Hid (wr.rangeAt b (o + k * 12) [.int .i64 cd, .int .i64 cs.fr, .int .i64 cs.dt, .int .u32 cs.sq, .int .u32 cs.ak, .int .i64 cs.fl, .int .i64 cs.wi, .int .i64 cs.ms, .string cs.da, .bool ck, .int .i64 cn, .string ct]) := Lib.hid hat
      have SMC : Hid (cs.da.size ≤ 30000 ∧ ct.size ≤ 30000) := Lib.hid (HSM.out _ (List.mem_of_getElem? hck))
      have SOK : Hid cs.ok := Lib.hid hfit.2.1
      subst hp
      clear hck hb hfit hat
      have q1 : (0 : Int) ≤ (k : Int) := by omega
      have q2 : (k : Int) < (len : Int) := by omega
      have q3 : decide ((k : Int) < (len : Int)) = true := decide_eq_true q2
      have q4 : IntKind.i64.wrap ((k : Int) + 1) = (k : Int) + 1 := IntWalk.i64_in _ (by omega)
      have B1 : Hid (CB w [(wr.heap.size, .cells #[.int .i64 cd, .int .i64 cs.fr, .int .i64 cs.dt, .int .u32 cs.sq, .int .u32 cs.ak, .int .i64 cs.fl, .int .i64 cs.wi, .int .i64 cs.ms, .string cs.da, .bool ck, .int .i64 cn, .string ct] 64)] q v (wr.alloc (.cells #[.int .i64 cd, .int .i64 cs.fr, .int .i64 cs.dt, .int .u32 cs.sq, .int .u32 cs.ak, .int .i64 cs.fl, .int .i64 cs.wi, .int .i64 cs.ms, .string cs.da, .bool ck, .int .i64 cn, .string ct] 64))) := Lib.hid (HB.out.keepNew _)
      have NA : Hid (w.heap.size ≤ wr.heap.size) := Lib.hid HB.out.size
      go_upto_region 12 with (refine wpList_load_mid rfl 64 _ rfl b (o + k * 12) rfl [.int .i64 cd, .int .i64 cs.fr, .int .i64 cs.dt, .int .u32 cs.sq, .int .u32 cs.ak, .int .i64 cs.fl, .int .i64 cs.wi, .int .i64 cs.ms, .string cs.da, .bool ck, .int .i64 cn, .string ct] _ TW.out Try.underlying64 rfl (by kernel_rfl) ?_)
      generalize wr.alloc _ = w5 at B1 ⊢
      generalize wr.heap.size = na at B1 NA ⊢
      clear TW
      have a0 : w5.cell? ⟨na, 0, none⟩ = some (.int .i64 cd) := by rw [cell_of_block B1.out.hd]; rfl
      have a1 : w5.cell? ⟨na, 1, none⟩ = some (.int .i64 cs.fr) := by rw [cell_of_block B1.out.hd]; rfl
      have a2 : w5.cell? ⟨na, 2, none⟩ = some (.int .i64 cs.dt) := by rw [cell_of_block B1.out.hd]; rfl
      have a3 : w5.cell? ⟨na, 3, none⟩ = some (.int .u32 cs.sq) := by rw [cell_of_block B1.out.hd]; rfl
      have a4 : w5.cell? ⟨na, 4, none⟩ = some (.int .u32 cs.ak) := by rw [cell_of_block B1.out.hd]; rfl
      have a5 : w5.cell? ⟨na, 5, none⟩ = some (.int .i64 cs.fl) := by rw [cell_of_block B1.out.hd]; rfl
      have a6 : w5.cell? ⟨na, 6, none⟩ = some (.int .i64 cs.wi) := by rw [cell_of_block B1.out.hd]; rfl
      have a7 : w5.cell? ⟨na, 7, none⟩ = some (.int .i64 cs.ms) := by rw [cell_of_block B1.out.hd]; rfl
      have a8 : w5.cell? ⟨na, 8, none⟩ = some (.string cs.da) := by rw [cell_of_block B1.out.hd]; rfl
      have a9 : w5.cell? ⟨na, 9, none⟩ = some (.bool ck) := by rw [cell_of_block B1.out.hd]; rfl
      have a10 : w5.cell? ⟨na, 10, none⟩ = some (.int .i64 cn) := by rw [cell_of_block B1.out.hd]; rfl
      have a11 : w5.cell? ⟨na, 11, none⟩ = some (.string ct) := by rw [cell_of_block B1.out.hd]; rfl
      by_cases hd0 : cd = 0
      · by_cases hw : cs.wi < 0
        · have d1 : decide (cs.wi < 0) = true := decide_eq_true hw
          subst hd0
          obtain ⟨f2, hf2⟩ : ∃ f2, f2 = bits .andNot .i64 cs.fl 4 := ⟨_, rfl⟩
          have e1 := hf2.symm
          have WF : Hid ((Lit.int .i64 f2).wf = true) := Lib.hid (by rw [hf2]; exact wf_wrap _)
          clear hf2
          have fz : w5.frozen? ⟨na, 5, none⟩ = false := by simp [World.frozen?, B1.out.hd]
          have B2 : Hid (CB w [(na, .cells (act15C 0 { cs with fl := f2 } ck cn ct) 64)] q v (w5.setCell ⟨na, 5, none⟩ (.int .i64 f2))) := Lib.hid (B1.out.setFx NA.out 5 _ (by show 5 < 12; decide))
          go_upto_region 15 with fail
          generalize World.setCell _ _ _ = w7 at B2 ⊢
          clear a0 a1 a2 a3 a4 a5 a6 a7 a8 a9 a10 a11 fz e1
          have a0 : w7.cell? ⟨na, 0, none⟩ = some (.int .i64 0) := by rw [cell_of_block B2.out.hd]; rfl
          have a1 : w7.cell? ⟨na, 1, none⟩ = some (.int .i64 cs.fr) := by rw [cell_of_block B2.out.hd]; rfl
          have a2 : w7.cell? ⟨na, 2, none⟩ = some (.int .i64 cs.dt) := by rw [cell_of_block B2.out.hd]; rfl
          have a3 : w7.cell? ⟨na, 3, none⟩ = some (.int .u32 cs.sq) := by rw [cell_of_block B2.out.hd]; rfl
          have a4 : w7.cell? ⟨na, 4, none⟩ = some (.int .u32 cs.ak) := by rw [cell_of_block B2.out.hd]; rfl
          have a5 : w7.cell? ⟨na, 5, none⟩ = some (.int .i64 f2) := by rw [cell_of_block B2.out.hd]; rfl
          have a6 : w7.cell? ⟨na, 6, none⟩ = some (.int .i64 cs.wi) := by rw [cell_of_block B2.out.hd]; rfl
          have a7 : w7.cell? ⟨na, 7, none⟩ = some (.int .i64 cs.ms) := by rw [cell_of_block B2.out.hd]; rfl
          have a8 : w7.cell? ⟨na, 8, none⟩ = some (.string cs.da) := by rw [cell_of_block B2.out.hd]; rfl
          have a9 : w7.cell? ⟨na, 9, none⟩ = some (.bool ck) := by rw [cell_of_block B2.out.hd]; rfl
          have a10 : w7.cell? ⟨na, 10, none⟩ = some (.int .i64 cn) := by rw [cell_of_block B2.out.hd]; rfl
          have a11 : w7.cell? ⟨na, 11, none⟩ = some (.string ct) := by rw [cell_of_block B2.out.hd]; rfl
          have fz6 : w7.frozen? ⟨na, 6, none⟩ = false := by simp [World.frozen?, B2.out.hd]
          have B3 : Hid (CB w [(na, .cells (act15C 0 { cs with fl := f2, wi := 0 } ck cn ct) 64)] q v (w7.setCell ⟨na, 6, none⟩ (.int .i64 0))) := Lib.hid (B2.out.setFx NA.out 6 _ (by show 6 < 12; decide))
          go_upto_region 17 with fail
          generalize World.setCell _ _ _ = w8 at B3 ⊢
          clear a0 a1 a2 a3 a4 a5 a6 a7 a8 a9 a10 a11 fz6
          have a0 : w8.cell? ⟨na, 0, none⟩ = some (.int .i64 0) := by rw [cell_of_block B3.out.hd]; rfl
          have a1 : w8.cell? ⟨na, 1, none⟩ = some (.int .i64 cs.fr) := by rw [cell_of_block B3.out.hd]; rfl
          have a2 : w8.cell? ⟨na, 2, none⟩ = some (.int .i64 cs.dt) := by rw [cell_of_block B3.out.hd]; rfl
          have a3 : w8.cell? ⟨na, 3, none⟩ = some (.int .u32 cs.sq) := by rw [cell_of_block B3.out.hd]; rfl
          have a4 : w8.cell? ⟨na, 4, none⟩ = some (.int .u32 cs.ak) := by rw [cell_of_block B3.out.hd]; rfl
          have a5 : w8.cell? ⟨na, 5, none⟩ = some (.int .i64 f2) := by rw [cell_of_block B3.out.hd]; rfl
          have a6 : w8.cell? ⟨na, 6, none⟩ = some (.int .i64 0) := by rw [cell_of_block B3.out.hd]; rfl
          have a7 : w8.cell? ⟨na, 7, none⟩ = some (.int .i64 cs.ms) := by rw [cell_of_block B3.out.hd]; rfl
          have a8 : w8.cell? ⟨na, 8, none⟩ = some (.string cs.da) := by rw [cell_of_block B3.out.hd]; rfl
          have a9 : w8.cell? ⟨na, 9, none⟩ = some (.bool ck) := by rw [cell_of_block B3.out.hd]; rfl
          have a10 : w8.cell? ⟨na, 10, none⟩ = some (.int .i64 cn) := by rw [cell_of_block B3.out.hd]; rfl
          have a11 : w8.cell? ⟨na, 11, none⟩ = some (.string ct) := by rw [cell_of_block B3.out.hd]; rfl
          go_wp2_with fail
          refine (in_ok B3.out { cs with fl := f2, wi := 0 } ⟨SOK.out.1, SOK.out.2.1, SOK.out.2.2.1, SOK.out.2.2.2.1, WF.out, (by show (Lit.int .i64 0).wf = true; decide), SOK.out.2.2.2.2.2.2.1, SOK.out.2.2.2.2.2.2.2⟩ (show cs.da.size ≤ 100000 by have := SMC.out; omega) (by have := HFA.out.ln; omega)).mono ?_
          rintro e w6 ⟨rfl, h⟩
          have B9 := Lib.hid h.let_
          have F9 : Hid (Fa (101 + 2048 * (k + 1 : Nat)) (1 + 2100 * (k + 1)) _) := Lib.hid ((HFA.out.step (st_in v { cs with fl := f2, wi := 0 }) HB.out.llen (by have := HB.out.wlen; omega) (by omega)).mono (by omega) (by omega))
          clear h
          go_wp2_with fail
          go_roundw
          case rel => exact ⟨k + 1, _, by omega, by go_num, B9, F9⟩
          case measure => simp [intOf]; omega
        · have d1 : decide (cs.wi < 0) = false := decide_eq_false hw
          by_cases hw2 : 65535 < cs.wi
          · have d2 : decide (65535 < cs.wi) = true := decide_eq_true hw2
            subst hd0
            obtain ⟨f2, hf2⟩ : ∃ f2, f2 = bits .andNot .i64 cs.fl 4 := ⟨_, rfl⟩
            have e1 := hf2.symm
            have WF : Hid ((Lit.int .i64 f2).wf = true) := Lib.hid (by rw [hf2]; exact wf_wrap _)
            clear hf2
            have fz : w5.frozen? ⟨na, 5, none⟩ = false := by simp [World.frozen?, B1.out.hd]
            have B2 : Hid (CB w [(na, .cells (act15C 0 { cs with fl := f2 } ck cn ct) 64)] q v (w5.setCell ⟨na, 5, none⟩ (.int .i64 f2))) := Lib.hid (B1.out.setFx NA.out 5 _ (by show 5 < 12; decide))
            go_upto_region 15 with fail
            generalize World.setCell _ _ _ = w7 at B2 ⊢
            clear a0 a1 a2 a3 a4 a5 a6 a7 a8 a9 a10 a11 fz e1
            have a0 : w7.cell? ⟨na, 0, none⟩ = some (.int .i64 0) := by rw [cell_of_block B2.out.hd]; rfl
            have a1 : w7.cell? ⟨na, 1, none⟩ = some (.int .i64 cs.fr) := by rw [cell_of_block B2.out.hd]; rfl
            have a2 : w7.cell? ⟨na, 2, none⟩ = some (.int .i64 cs.dt) := by rw [cell_of_block B2.out.hd]; rfl
            have a3 : w7.cell? ⟨na, 3, none⟩ = some (.int .u32 cs.sq) := by rw [cell_of_block B2.out.hd]; rfl
            have a4 : w7.cell? ⟨na, 4, none⟩ = some (.int .u32 cs.ak) := by rw [cell_of_block B2.out.hd]; rfl
            have a5 : w7.cell? ⟨na, 5, none⟩ = some (.int .i64 f2) := by rw [cell_of_block B2.out.hd]; rfl
            have a6 : w7.cell? ⟨na, 6, none⟩ = some (.int .i64 cs.wi) := by rw [cell_of_block B2.out.hd]; rfl
            have a7 : w7.cell? ⟨na, 7, none⟩ = some (.int .i64 cs.ms) := by rw [cell_of_block B2.out.hd]; rfl
            have a8 : w7.cell? ⟨na, 8, none⟩ = some (.string cs.da) := by rw [cell_of_block B2.out.hd]; rfl
            have a9 : w7.cell? ⟨na, 9, none⟩ = some (.bool ck) := by rw [cell_of_block B2.out.hd]; rfl
            have a10 : w7.cell? ⟨na, 10, none⟩ = some (.int .i64 cn) := by rw [cell_of_block B2.out.hd]; rfl
            have a11 : w7.cell? ⟨na, 11, none⟩ = some (.string ct) := by rw [cell_of_block B2.out.hd]; rfl
            have fz6 : w7.frozen? ⟨na, 6, none⟩ = false := by simp [World.frozen?, B2.out.hd]
            have B3 : Hid (CB w [(na, .cells (act15C 0 { cs with fl := f2, wi := 0 } ck cn ct) 64)] q v (w7.setCell ⟨na, 6, none⟩ (.int .i64 0))) := Lib.hid (B2.out.setFx NA.out 6 _ (by show 6 < 12; decide))
            go_upto_region 17 with fail
            generalize World.setCell _ _ _ = w8 at B3 ⊢
            clear a0 a1 a2 a3 a4 a5 a6 a7 a8 a9 a10 a11 fz6
            have a0 : w8.cell? ⟨na, 0, none⟩ = some (.int .i64 0) := by rw [cell_of_block B3.out.hd]; rfl
            have a1 : w8.cell? ⟨na, 1, none⟩ = some (.int .i64 cs.fr) := by rw [cell_of_block B3.out.hd]; rfl
            have a2 : w8.cell? ⟨na, 2, none⟩ = some (.int .i64 cs.dt) := by rw [cell_of_block B3.out.hd]; rfl
            have a3 : w8.cell? ⟨na, 3, none⟩ = some (.int .u32 cs.sq) := by rw [cell_of_block B3.out.hd]; rfl
            have a4 : w8.cell? ⟨na, 4, none⟩ = some (.int .u32 cs.ak) := by rw [cell_of_block B3.out.hd]; rfl
            have a5 : w8.cell? ⟨na, 5, none⟩ = some (.int .i64 f2) := by rw [cell_of_block B3.out.hd]; rfl
            have a6 : w8.cell? ⟨na, 6, none⟩ = some (.int .i64 0) := by rw [cell_of_block B3.out.hd]; rfl
            have a7 : w8.cell? ⟨na, 7, none⟩ = some (.int .i64 cs.ms) := by rw [cell_of_block B3.out.hd]; rfl
            have a8 : w8.cell? ⟨na, 8, none⟩ = some (.string cs.da) := by rw [cell_of_block B3.out.hd]; rfl
            have a9 : w8.cell? ⟨na, 9, none⟩ = some (.bool ck) := by rw [cell_of_block B3.out.hd]; rfl
            have a10 : w8.cell? ⟨na, 10, none⟩ = some (.int .i64 cn) := by rw [cell_of_block B3.out.hd]; rfl
            have a11 : w8.cell? ⟨na, 11, none⟩ = some (.string ct) := by rw [cell_of_block B3.out.hd]; rfl
            go_wp2_with fail
            refine (in_ok B3.out { cs with fl := f2, wi := 0 } ⟨SOK.out.1, SOK.out.2.1, SOK.out.2.2.1, SOK.out.2.2.2.1, WF.out, (by show (Lit.int .i64 0).wf = true; decide), SOK.out.2.2.2.2.2.2.1, SOK.out.2.2.2.2.2.2.2⟩ (show cs.da.size ≤ 100000 by have := SMC.out; omega) (by have := HFA.out.ln; omega)).mono ?_
            rintro e w6 ⟨rfl, h⟩
            have B9 := Lib.hid h.let_
            have F9 : Hid (Fa (101 + 2048 * (k + 1 : Nat)) (1 + 2100 * (k + 1)) _) := Lib.hid ((HFA.out.step (st_in v { cs with fl := f2, wi := 0 }) HB.out.llen (by have := HB.out.wlen; omega) (by omega)).mono (by omega) (by omega))
            clear h
            go_wp2_with fail
            go_roundw
            case rel => exact ⟨k + 1, _, by omega, by go_num, B9, F9⟩
            case measure => simp [intOf]; omega
          · have d2 : decide (65535 < cs.wi) = false := decide_eq_false hw2
            subst hd0
            obtain ⟨f2, hf2⟩ : ∃ f2, f2 = bits .andNot .i64 cs.fl 4 := ⟨_, rfl⟩
            have e1 := hf2.symm
            have WF : Hid ((Lit.int .i64 f2).wf = true) := Lib.hid (by rw [hf2]; exact wf_wrap _)
            clear hf2
            have fz : w5.frozen? ⟨na, 5, none⟩ = false := by simp [World.frozen?, B1.out.hd]
            have B2 : Hid (CB w [(na, .cells (act15C 0 { cs with fl := f2 } ck cn ct) 64)] q v (w5.setCell ⟨na, 5, none⟩ (.int .i64 f2))) := Lib.hid (B1.out.setFx NA.out 5 _ (by show 5 < 12; decide))
            go_upto_region 15 with fail
            generalize World.setCell _ _ _ = w7 at B2 ⊢
            clear a0 a1 a2 a3 a4 a5 a6 a7 a8 a9 a10 a11 fz e1
            have a0 : w7.cell? ⟨na, 0, none⟩ = some (.int .i64 0) := by rw [cell_of_block B2.out.hd]; rfl
            have a1 : w7.cell? ⟨na, 1, none⟩ = some (.int .i64 cs.fr) := by rw [cell_of_block B2.out.hd]; rfl
            have a2 : w7.cell? ⟨na, 2, none⟩ = some (.int .i64 cs.dt) := by rw [cell_of_block B2.out.hd]; rfl
            have a3 : w7.cell? ⟨na, 3, none⟩ = some (.int .u32 cs.sq) := by rw [cell_of_block B2.out.hd]; rfl
            have a4 : w7.cell? ⟨na, 4, none⟩ = some (.int .u32 cs.ak) := by rw [cell_of_block B2.out.hd]; rfl
            have a5 : w7.cell? ⟨na, 5, none⟩ = some (.int .i64 f2) := by rw [cell_of_block B2.out.hd]; rfl
            have a6 : w7.cell? ⟨na, 6, none⟩ = some (.int .i64 cs.wi) := by rw [cell_of_block B2.out.hd]; rfl
            have a7 : w7.cell? ⟨na, 7, none⟩ = some (.int .i64 cs.ms) := by rw [cell_of_block B2.out.hd]; rfl
            have a8 : w7.cell? ⟨na, 8, none⟩ = some (.string cs.da) := by rw [cell_of_block B2.out.hd]; rfl
            have a9 : w7.cell? ⟨na, 9, none⟩ = some (.bool ck) := by rw [cell_of_block B2.out.hd]; rfl
            have a10 : w7.cell? ⟨na, 10, none⟩ = some (.int .i64 cn) := by rw [cell_of_block B2.out.hd]; rfl
            have a11 : w7.cell? ⟨na, 11, none⟩ = some (.string ct) := by rw [cell_of_block B2.out.hd]; rfl
            have B3 := B2
            go_wp2_with fail
            refine (in_ok B3.out { cs with fl := f2 } ⟨SOK.out.1, SOK.out.2.1, SOK.out.2.2.1, SOK.out.2.2.2.1, WF.out, SOK.out.2.2.2.2.2.1, SOK.out.2.2.2.2.2.2.1, SOK.out.2.2.2.2.2.2.2⟩ (show cs.da.size ≤ 100000 by have := SMC.out; omega) (by have := HFA.out.ln; omega)).mono ?_
            rintro e w6 ⟨rfl, h⟩
            have B9 := Lib.hid h.let_
            have F9 : Hid (Fa (101 + 2048 * (k + 1 : Nat)) (1 + 2100 * (k + 1)) _) := Lib.hid ((HFA.out.step (st_in v { cs with fl := f2 }) HB.out.llen (by have := HB.out.wlen; omega) (by omega)).mono (by omega) (by omega))
            clear h
            go_wp2_with fail
            go_roundw
            case rel => exact ⟨k + 1, _, by omega, by go_num, B9, F9⟩
            case measure => simp [intOf]; omega
      have e0 : (cd == 0) = false := beq_eq_false_iff_ne.2 hd0
      by_cases hd1 : cd = 1
      · subst hd1
        go_upto_region 19 with fail
        clear a0 a1 a2 a3 a4 a5 a6 a7 a8 a9 a10 a11 e0 hd0
        go_wp2_with fail
        go_loopw [9] (fun v9 wx => ∃ (j : Nat) (v2 : Cn), j ≤ 19 ∧ v9 = .int .i64 j ∧ Hid (CB w [(na, .cells #[.int .i64 1, .int .i64 cs.fr, .int .i64 cs.dt, .int .u32 cs.sq, .int .u32 cs.ak, .int .i64 cs.fl, .int .i64 cs.wi, .int .i64 cs.ms, .string cs.da, .bool ck, .int .i64 cn, .string ct] 64)] q v2 wx) ∧ Hid (Fa (101 + 2048 * k) (1 + 2100 * k + j) v2)) (fun v9 _ => 20 - (intOf v9).toNat)
        case atStart => exact ⟨0, v, by decide, rfl, B1, HFA⟩
        case round =>
          obtain ⟨j, v2, hj, rfl, B6, F6⟩ := hrel
          have a10 : wr.cell? ⟨na, 10, none⟩ = some (.int .i64 cn) := by rw [cell_of_block B6.out.hd]; rfl
          go_wp2_with fail
          refine (ticks_any wr cn).mono ?_
          rintro e wr ⟨kk, hkk, rfl, rfl⟩
          have q5 : (0 : Int) ≤ (kk : Int) := by omega
          by_cases hj2 : (j : Int) < (kk : Int) % 20
          · have d5 : decide ((j : Int) < (kk : Int) % 20) = true := decide_eq_true hj2
            have d6 : IntKind.i64.wrap ((j : Int) + 1) = (j : Int) + 1 := IntWalk.i64_in _ (by omega)
            have HJ : Hid (j + 1 ≤ 19) := Lib.hid (by omega)
            clear hj2 hkk hj
            go_wp2_with fail
            refine (tick_ok B6.out (by have := F6.out.ln; have := HJ.out; omega)).mono ?_
            rintro e w6 ⟨rfl, h⟩
            have B7 := Lib.hid h
            clear h
            go_wp2_with fail
            go_roundw
            case rel => exact ⟨j + 1, _, HJ.out, by go_num, B7, Lib.hid F6.out.tick⟩
            case measure => have := HJ.out; simp [intOf]; omega
          · have d5 : decide ((j : Int) < (kk : Int) % 20) = false := decide_eq_false hj2
            have B9 := Lib.hid B6.out.let_
            have F9 : Hid (Fa (101 + 2048 * (k + 1 : Nat)) (1 + 2100 * (k + 1)) v2) := Lib.hid (F6.out.mono (by omega) (by omega))
            clear hj2 hkk hj
            go_wp2_with fail
            go_roundw
            case rel => exact ⟨k + 1, _, by omega, by go_num, B9, F9⟩
            case measure => simp [intOf]; omega
      have e1 : (cd == 1) = false := beq_eq_false_iff_ne.2 hd1
      by_cases hd2 : cd = 2
      · subst hd2
        clear hd0
        go_wp2_with fail
        refine (write_ok B1.out ct (by have := HFA.out.ln; omega)).mono ?_
        rintro e w6 ⟨rfl, h⟩
        have B9 := Lib.hid h.let_
        have F9 : Hid (Fa (101 + 2048 * (k + 1 : Nat)) (1 + 2100 * (k + 1)) _) := Lib.hid ((HFA.out.step (st_write v ct) HB.out.llen (by have := HB.out.wlen; omega) (by omega)).mono (by omega) (by omega))
        clear h
        go_wp2_with fail
        go_roundw
        case rel => exact ⟨k + 1, _, by omega, by go_num, B9, F9⟩
        case measure => simp [intOf]; omega
      have e2 : (cd == 2) = false := beq_eq_false_iff_ne.2 hd2
      by_cases hd3 : cd = 3
      · subst hd3
        clear hd0
        go_wp2_with fail
        refine (read_ok B1.out cn (by have := HFA.out.ln; omega)).mono ?_
        rintro e w6 ⟨rfl, h⟩
        have B9 := Lib.hid h.let_
        have F9 : Hid (Fa (101 + 2048 * (k + 1 : Nat)) (1 + 2100 * (k + 1)) _) := Lib.hid ((HFA.out.step (st_read v cn) HB.out.llen (by have := HB.out.wlen; omega) (by omega)).mono (by omega) (by omega))
        clear h
        go_wp2_with fail
        go_roundw
        case rel => exact ⟨k + 1, _, by omega, by go_num, B9, F9⟩
        case measure => simp [intOf]; omega
      have e3 : (cd == 3) = false := beq_eq_false_iff_ne.2 hd3
      by_cases hd4 : cd = 4
      · subst hd4
        clear hd0
        go_wp2_with fail
        refine (close_ok B1.out (by have := HFA.out.ln; omega)).mono ?_
        rintro e w6 ⟨rfl, h⟩
        have B9 := Lib.hid h.let_
        have F9 : Hid (Fa (101 + 2048 * (k + 1 : Nat)) (1 + 2100 * (k + 1)) _) := Lib.hid ((HFA.out.step (st_close v) HB.out.llen (by have := HB.out.wlen; omega) (by omega)).mono (by omega) (by omega))
        clear h
        go_wp2_with fail
        go_roundw
        case rel => exact ⟨k + 1, _, by omega, by go_num, B9, F9⟩
        case measure => simp [intOf]; omega
      have e4 : (cd == 4) = false := beq_eq_false_iff_ne.2 hd4
      have B9 := Lib.hid B1.out.let_
      have F9 : Hid (Fa (101 + 2048 * (k + 1 : Nat)) (1 + 2100 * (k + 1)) v) := Lib.hid (HFA.out.mono (by omega) (by omega))
      go_wp2_with fail
      go_roundw
      case rel => exact ⟨k + 1, _, by omega, by go_num, B9, F9⟩
      case measure => simp [intOf]; omega
    · obtain rfl : k = len := by omega
      have q3 : decide ((k : Int) < (k : Int)) = false := by simp
      have FA : Hid (Fa 1000000 0 (outV v)) := Lib.hid ⟨HF2.out.rk, HF2.out.n0, by have := HF2.out.n1; show v.nx ≤ _; omega, Nat.le_refl _⟩
      go_wp2_with fail
      refine (out_ok HB.out).mono ?_
      rintro e W2 ⟨p2, c2, rfl, h, -, -⟩
      have H2 : Hid (CB w [] q (outV v) W2) := Lib.hid h
      have WL : Hid ((outV v).W.length ≤ 2048) := Lib.hid (by have := h.wlen; omega)
      clear h HB HF2 HT HSM q3
      generalize outV v = v1 at H2 FA WL
      go_wp2_with fail
      refine (state_ok H2.out).mono ?_
      rintro e W2 ⟨rfl, rfl⟩
      by_cases h9 : v1.st = 9
      · have S9 := Lib.hid h9
        rw [h9]
        clear h9
        go_wp2_with fail
        refine (in_ok H2.out (rstS far) (rstS_ok HFR.out) (by show 0 ≤ 100000; decide) (by have := FA.out.ln; omega)).mono ?_
        rintro e W3 ⟨rfl, h⟩
        have H3 : Hid (CB w [] q v1 W3) := Lib.hid (by have e : inV v1 (rstS far) = v1 := if_pos S9.out; rw [e] at h; exact h)
        clear h H2
        have KO := Lib.hid (out_ok H3.out)
        rw [show v1.sent.length = 0 from Nat.le_zero.1 FA.out.ln] at KO
        go_wp2_with fail
        refine KO.out.mono ?_
        rintro e W4 ⟨p3, c3, rfl, h, -, -⟩
        have KS := Lib.hid (state_ok h)
        have BW := Lib.hid h.bl
        rw [show (outV v1).st = 9 from S9.out] at KS
        clear h KO
        go_wp2_with fail
        refine KS.out.mono ?_
        rintro e W4 ⟨rfl, rfl⟩
        go_wp2_with fail
        go_ret
        exact ⟨rfl, BW.out⟩
      · have g9 : (v1.st == 9) = false := beq_eq_false_iff_ne.2 h9
        have S9 := Lib.hid h9
        obtain ⟨was, hwas⟩ : ∃ was, was = v1.st := ⟨_, rfl⟩
        rw [← hwas] at g9 ⊢
        have WAS := Lib.hid hwas
        clear h9 hwas
        go_wp2_with fail
        refine (in_ok H2.out far1 far1_ok (by show 0 ≤ 100000; decide) (by have := FA.out.ln; omega)).mono ?_
        rintro e W3 ⟨rfl, h⟩
        have H3 : Hid (CB w [] q (ackV v1) W3) := Lib.hid (by rw [far_in FA.out (by omega) WL.out S9.out] at h; exact h)
        clear h H2
        go_wp2_with fail
        refine (out_one H3.out (ack_one (by have := FA.out.ln; exact List.length_eq_zero_iff.1 (by omega)))).mono ?_
        rintro e W4 ⟨b, c4, cur, rfl, h, hcur, -⟩
        have H4 : Hid (CB w [(b, .cells cur 28)] q (outV (ackV v1)) W4) := Lib.hid h
        have x3 : W4.cell? ⟨b, 3, none⟩ = some (.int .u32 (wantV v1)) := by rw [cell_of_block h.hd]; exact hcur 3 _ rfl
        have x5 : W4.cell? ⟨b, 5, none⟩ = some (.int .i64 (v1.W.length : Nat)) := by rw [cell_of_block h.hd]; exact hcur 5 _ rfl
        clear h H3 hcur
        have V2 : Hid ((outV (ackV v1)).st = was ∧ (outV (ackV v1)).rs = false ∧ wantV (outV (ackV v1)) = wantV v1 ∧ (outV (ackV v1)).W.length = v1.W.length ∧ (outV (ackV v1)).sent = []) := Lib.hid ⟨WAS.out.symm, rs_no FA.out.rk S9.out, rfl, rfl, rfl⟩
        have WI : Hid (101 ≤ wantV v1 ∧ wantV v1 ≤ 1000001) := Lib.hid (want_in FA.out (by omega))
        have W9 : Hid (was ≠ 9) := Lib.hid (by rw [WAS.out]; exact S9.out)
        generalize outV (ackV v1) = v2 at H4 V2
        obtain ⟨wt, hwt⟩ : ∃ wt, wt = wantV v1 := ⟨_, rfl⟩
        obtain ⟨wl, hwl⟩ : ∃ wl, wl = v1.W.length := ⟨_, rfl⟩
        rw [← hwt] at x3 V2 WI
        rw [← hwl] at x5 V2
        clear hwt hwl WAS S9 FA WL g9
        have hf0 := HFR.out.1
        have hf1 := HFR.out.2
        by_cases hz : 0 < far
        · have d1 : decide (0 < far) = true := decide_eq_true hz
          obtain ⟨x, hx⟩ : ∃ x, x = (wt + far) % 4294967296 := ⟨_, rfl⟩
          have eW : IntKind.u32.wrap (wt + far) = x := by rw [hx]; exact IntKind.wrap_u32 _
          have eF : IntKind.i64.wrap far = far := IntWalk.i64_in _ (by omega)
          have XB : Hid (0 ≤ x ∧ x < 4294967296) := Lib.hid (by omega)
          have WV : winV v2 = max (wl : Int) 1 := by
            unfold winV
            rw [V2.out.2.2.2.1]
            split <;> omega
          have E : Hid (inV v2 (rstS x) = if far < max (wl : Int) 1 then ackV v2 else v2) := Lib.hid (by
            have h := rst_far (v := v2) (by rw [V2.out.2.2.1]; have := WI.out; omega) hz hf1 (by rw [V2.out.1]; exact W9.out)
            rw [V2.out.2.2.1, ← hx, WV] at h
            exact h)
          clear hx WV hf0 hf1 hz
          by_cases hw : far < max (wl : Int) 1
          · have d2 : decide (far < max (wl : Int) 1) = true := decide_eq_true hw
            go_wp2_with fail
            refine (in_ok H4.out (rstS x) (rstS_ok XB.out) (by show 0 ≤ 100000; decide) (by rw [V2.out.2.2.2.2]; show 0 ≤ 99990000; decide)).mono ?_
            rintro e W5 ⟨rfl, h⟩
            have H5 : Hid (CB w _ q (ackV v2) W5) := Lib.hid (by rw [E.out, if_pos hw] at h; exact h)
            have KO := Lib.hid (out_ok H5.out)
            have V4 : Hid ((outV (ackV v2)).st = was ∧ (outV (ackV v2)).rs = false ∧ wantV (outV (ackV v2)) = wt ∧ (outV (ackV v2)).sent = []) := Lib.hid ⟨V2.out.1, V2.out.2.1, V2.out.2.2.1, rfl⟩
            rw [show (ackV v2).sent.length = 1 from by first | (rw [V2.out.2.2.2.2]; rfl) | (rw [ack_one V2.out.2.2.2.2]; rfl)] at KO
            clear h hw
            go_wp2_with fail
            refine KO.out.mono ?_
            rintro e W6 ⟨p6, c6, rfl, h, -, -⟩
            have H6 := Lib.hid h
            clear h KO H5 E V2
            generalize outV (ackV v2) = v4 at H6 V4
            have KS2 := Lib.hid (state_ok H6.out)
            have KR2 := Lib.hid (reset_ok H6.out)
            rw [V4.out.1] at KS2
            rw [V4.out.2.1] at KR2
            go_wp2_with fail
            refine KS2.out.mono ?_
            rintro e W6 ⟨rfl, rfl⟩
            go_wp2_with fail
            refine KR2.out.mono ?_
            rintro e W6 ⟨rfl, rfl⟩
            go_wp2_with fail
            refine (in_ok H6.out (rstS wt) (rstS_ok (by have := WI.out; omega)) (by show 0 ≤ 100000; decide) (by rw [V4.out.2.2.2]; show 0 ≤ 99990000; decide)).mono ?_
            rintro e W7 ⟨rfl, h⟩
            have H7 : Hid (CB w _ q { v4 with st := 9, rs := true } W7) := Lib.hid (by
              have e7 := rst_here (v := v4) (by rw [V4.out.2.2.1]; have := WI.out; omega) (by rw [V4.out.1]; exact W9.out)
              rw [V4.out.2.2.1] at e7
              rw [e7] at h
              exact h)
            have KS := Lib.hid (state_ok H7.out)
            have KR := Lib.hid (reset_ok H7.out)
            have KO := Lib.hid (out_ok H7.out)
            rw [show ({ v4 with st := 9, rs := true } : Cn).st = 9 from rfl] at KS
            rw [show ({ v4 with st := 9, rs := true } : Cn).rs = true from rfl] at KR
            rw [show ({ v4 with st := 9, rs := true } : Cn).sent.length = 0 from by show v4.sent.length = 0; rw [V4.out.2.2.2]; rfl] at KO
            clear h
            go_wp2_with fail
            refine KS.out.mono ?_
            rintro e W7 ⟨rfl, rfl⟩
            go_wp2_with fail
            refine KR.out.mono ?_
            rintro e W7 ⟨rfl, rfl⟩
            go_wp2_with fail
            refine KO.out.mono ?_
            rintro e W8 ⟨p8, c8, rfl, h, -, -⟩
            have BW := Lib.hid h.bl
            clear h
            go_wp2_with fail
            go_ret
            exact ⟨rfl, BW.out⟩
          · have d2 : decide (far < max (wl : Int) 1) = false := decide_eq_false hw
            go_wp2_with fail
            refine (in_ok H4.out (rstS x) (rstS_ok XB.out) (by show 0 ≤ 100000; decide) (by rw [V2.out.2.2.2.2]; show 0 ≤ 99990000; decide)).mono ?_
            rintro e W5 ⟨rfl, h⟩
            have H5 : Hid (CB w _ q (v2) W5) := Lib.hid (by rw [E.out, if_neg (Int.not_lt.2 hw)] at h; exact h)
            have KO := Lib.hid (out_ok H5.out)
            have V4 : Hid ((outV (v2)).st = was ∧ (outV (v2)).rs = false ∧ wantV (outV (v2)) = wt ∧ (outV (v2)).sent = []) := Lib.hid ⟨V2.out.1, V2.out.2.1, V2.out.2.2.1, rfl⟩
            rw [show (v2).sent.length = 0 from by first | (rw [V2.out.2.2.2.2]; rfl) | (rw [ack_one V2.out.2.2.2.2]; rfl)] at KO
            clear h hw
            go_wp2_with fail
            refine KO.out.mono ?_
            rintro e W6 ⟨p6, c6, rfl, h, -, -⟩
            have H6 := Lib.hid h
            clear h KO H5 E V2
            generalize outV (v2) = v4 at H6 V4
            have KS2 := Lib.hid (state_ok H6.out)
            have KR2 := Lib.hid (reset_ok H6.out)
            rw [V4.out.1] at KS2
            rw [V4.out.2.1] at KR2
            go_wp2_with fail
            refine KS2.out.mono ?_
            rintro e W6 ⟨rfl, rfl⟩
            go_wp2_with fail
            refine KR2.out.mono ?_
            rintro e W6 ⟨rfl, rfl⟩
            go_wp2_with fail
            refine (in_ok H6.out (rstS wt) (rstS_ok (by have := WI.out; omega)) (by show 0 ≤ 100000; decide) (by rw [V4.out.2.2.2]; show 0 ≤ 99990000; decide)).mono ?_
            rintro e W7 ⟨rfl, h⟩
            have H7 : Hid (CB w _ q { v4 with st := 9, rs := true } W7) := Lib.hid (by
              have e7 := rst_here (v := v4) (by rw [V4.out.2.2.1]; have := WI.out; omega) (by rw [V4.out.1]; exact W9.out)
              rw [V4.out.2.2.1] at e7
              rw [e7] at h
              exact h)
            have KS := Lib.hid (state_ok H7.out)
            have KR := Lib.hid (reset_ok H7.out)
            have KO := Lib.hid (out_ok H7.out)
            rw [show ({ v4 with st := 9, rs := true } : Cn).st = 9 from rfl] at KS
            rw [show ({ v4 with st := 9, rs := true } : Cn).rs = true from rfl] at KR
            rw [show ({ v4 with st := 9, rs := true } : Cn).sent.length = 0 from by show v4.sent.length = 0; rw [V4.out.2.2.2]; rfl] at KO
            clear h
            go_wp2_with fail
            refine KS.out.mono ?_
            rintro e W7 ⟨rfl, rfl⟩
            go_wp2_with fail
            refine KR.out.mono ?_
            rintro e W7 ⟨rfl, rfl⟩
            go_wp2_with fail
            refine KO.out.mono ?_
            rintro e W8 ⟨p8, c8, rfl, h, -, -⟩
            have BW := Lib.hid h.bl
            clear h
            go_wp2_with fail
            go_ret
            exact ⟨rfl, BW.out⟩
        · have d1 : decide (0 < far) = false := decide_eq_false hz
          have V4 : Hid (v2.st = was ∧ v2.rs = false ∧ wantV v2 = wt ∧ v2.sent = []) := Lib.hid ⟨V2.out.1, V2.out.2.1, V2.out.2.2.1, V2.out.2.2.2.2⟩
          clear hf0 hf1 hz V2
          go_wp2_with fail
          refine (in_ok H4.out (rstS wt) (rstS_ok (by have := WI.out; omega)) (by show 0 ≤ 100000; decide) (by rw [V4.out.2.2.2]; show 0 ≤ 99990000; decide)).mono ?_
          rintro e W7 ⟨rfl, h⟩
          have H7 : Hid (CB w _ q { v2 with st := 9, rs := true } W7) := Lib.hid (by
            have e7 := rst_here (v := v2) (by rw [V4.out.2.2.1]; have := WI.out; omega) (by rw [V4.out.1]; exact W9.out)
            rw [V4.out.2.2.1] at e7
            rw [e7] at h
            exact h)
          have KS := Lib.hid (state_ok H7.out)
          have KR := Lib.hid (reset_ok H7.out)
          have KO := Lib.hid (out_ok H7.out)
          rw [show ({ v2 with st := 9, rs := true } : Cn).st = 9 from rfl] at KS
          rw [show ({ v2 with st := 9, rs := true } : Cn).rs = true from rfl] at KR
          rw [show ({ v2 with st := 9, rs := true } : Cn).sent.length = 0 from by show v2.sent.length = 0; rw [V4.out.2.2.2]; rfl] at KO
          clear h
          go_wp2_with fail
          refine KS.out.mono ?_
          rintro e W7 ⟨rfl, rfl⟩
          go_wp2_with fail
          refine KR.out.mono ?_
          rintro e W7 ⟨rfl, rfl⟩
          go_wp2_with fail
          refine KO.out.mono ?_
          rintro e W8 ⟨p8, c8, rfl, h, -, -⟩
          have BW := Lib.hid h.bl
          clear h
          go_wp2_with fail
          go_ret
          exact ⟨rfl, BW.out⟩
theorem walk (p : Option Addr) (len cap : Nat) (l : List Act15) (a1 : Int) (w : World) (w0 : IsActs15 w p len l) (w1 : (Lit.int .u32 a1).wf = true) :
    Calls Try.prog 6 #[.slice p len cap, .int .u32 a1] w fun e w' => e = .returned (.bool true) ∧ Below w.heap.size w w' := by
  have b1 := sq_u32 w1
  cases hg : great15 l with
  | true => exact walk_out a1 p len cap l w w0 hg
  | false => exact walk_main a1 (by omega) p len cap l w w0 hg

set_option maxRecDepth 100000 in
theorem lifted (os : Os) (started : os.Started) (H : Type) (enc : TypeId × Value → H) :
    ReturnsInHanded {} Try.checked os 6 .any (Rows.connResetsSpec.pre6 enc Try.prog Try.f6 Rows.connResetsRow.domain false) (Rows.connResetsSpec.post enc Try.prog Try.f6 false true false false) := by
  refine returnsInHanded_of_change (C := Try.checked) own started (by kernel_rfl) Try.func6
    (ChangeSpec.witness6 (enc := enc) (C := Try.checked) false ⟨#[], #[.slice none 0 0, .int .u32 0], []⟩ 8 (by kernel_rfl) (by kernel_rfl) (by kernel_rfl) (by kernel_rfl)) ?_
  intro W base args ds gs before hval0 hW hcnd _
  have hval : ∀ (j : Nat) t v, Try.f6.params[j]? = some t → args[j]? = some v → Value.okWide Try.prog W .any base t v := hval0
  have hW' := hW
  obtain ⟨p, q, hA0, hV, rfl, hfz, hnd⟩ := hW
  have hA : DataW.TrodAll enc Try.prog W 0 (fun _ => true) true Try.f6.params.toList args.toList ds p := hA0
  rw [Try.params6] at hA hval
  obtain ⟨v0, vs0, d0, ds0, p0, q0, hargs, rfl, rfl, h0, r0⟩ := trodAll_cons hA
  obtain ⟨v1, vs1, d1, ds1, p1, q1, rfl, rfl, rfl, h1, r1⟩ := trodAll_cons r0
  obtain ⟨rfl, rfl, rfl⟩ := trodAll_nil r1
  obtain rfl : args = #[v0, v1] := by cases args; simp_all
  obtain ⟨rfl, rfl⟩ := trodVars_none hV
  obtain ⟨a0, len0, cap0, rfl⟩ := okWide_slice Try.underlying61 (hval 0 61 v0 rfl rfl)
  have k0 := h0
  have lt0 : ∀ x ∈ p0, x.block < W.heap.size := by obtain ⟨m, hm⟩ := k0; exact DataW.trod_lt m _ _ _ hm
  obtain ⟨l0, w0⟩ : ∃ l, IsActs15 W a0 len0 l := by obtain ⟨fuel, hf⟩ := h0; exact open_acts15 hf
  obtain ⟨a1, rfl, rfl, rfl, w1⟩ := open_int Try.underlying26 (hval 1 26 v1 rfl rfl) h1
  clear hA0 hval0
  refine (walk a0 len0 cap0 l0 a1 W w0 w1).mono fun e W' ⟨he, bel⟩ => ?_
  subst he
  exact ⟨_, rfl, _, _, _, [], _, [], hW', trodAll_mk1 (shut_bool Try.underlying4 _), (trodAll_cons_mk (Below.trod laidOut (by kernel_rfl) (of_decide_eq_true (by kernel_rfl)) k0 bel lt0) (trodAll_cons_mk (shut_int Try.underlying26 w1) trodAll_mk0)), rfl, bel.frame _, fun h => by cases h⟩

/-- THE STATEMENT. -/
theorem proved : Rows.ConnResetsSaid :=
  OpenClaim.holds_of_wide 6 Try.f6 rfl rfl rfl rfl rfl rfl rfl ⟨rfl, rfl, rfl, rfl, rfl⟩ rfl rfl rfl rfl rfl (by kernel_rfl) Try.func6 (by kernel_rfl)
    (of_decide_eq_true (by kernel_rfl)) (by unfold Func.isWrapper; first | (rw [if_pos (by decide +kernel)]; kernel_rfl) | (rw [if_neg (by decide +kernel)]; exact ⟨rfl, rfl⟩))
    (fun os started H enc _ => lifted os started H enc)
#print axioms proved

end Go.Proofs.Ytlajalfalepbhaa.cor
