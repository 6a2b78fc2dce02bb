/-
  ConnKnown: the chapter's examples, step by step. No conditions.
-/
import Derived.Test.YtlajalfalepbhaaCoC
import Derived.ProofKit
import Derived.OpenShut
import Derived.ShutString
import Derived.ChangeOld
import Derived.Below
namespace Go.Proofs.Ytlajalfalepbhaa.cok
open Go.ChangeShapes Go.WideShapes Go.ChangeAt Go.RowKit
open Go.ChangeMaps (open_string shut_string)
set_option linter.unusedVariables false

theorem own : ownKnob Try.prog.godebug = none := by kernel_rfl
set_option maxRecDepth 100000 in
set_option maxHeartbeats 8000000 in
theorem walk (w : World) :
    Calls Try.prog 3 #[] w fun e w' => e = .returned (.bool true) ∧ Below w.heap.size w w' := by
  go_enter Try.func3, Try.ntmps3
  go_wp2_with fail
  refine (synC _).mono ?_
  rintro e w1 ⟨rfl, b1⟩
  go_wp2_with fail
  refine (howC _).mono ?_
  rintro e w2 ⟨rfl, b2⟩
  have B2 := Lib.hid (b1.trans (b2.mono b1.size))
  clear b1 b2
  go_wp2_with fail
  refine (new_ok w2 [] (fun x hx => by cases hx) exSyn 500 10 2 60 3 5 (by omega) (by kernel_rfl)).mono ?_
  rintro e W1 ⟨q, rfl, h⟩
  have H1 : Hid (CB w [] q exN W1) := Lib.hid (h.rebase B2.out)
  clear h B2
  go_wp2_with fail
  refine (out_ok H1.out).mono ?_
  rintro e W2 ⟨p, c, rfl, h, -, -⟩
  have H2 : Hid (CB w _ q exA W2) := Lib.hid h
  clear h H1
  have KS : Hid (Calls Try.prog 12 #[.pointer (some ⟨q.c, 0, none⟩)] W2 fun e w' => e = .returned (.int .i64 1) ∧ w' = W2) := Lib.hid (by have h := state_ok H2.out; rw [ex_a] at h; exact h)
  go_wp2_with fail
  refine KS.out.mono ?_
  rintro e W2 ⟨rfl, rfl⟩
  clear KS
  go_wp2_with fail
  refine (in_ok H2.out kS2 kS_ok.1 (by decide) (by rw [ex_a]; decide)).mono ?_
  rintro e W3 ⟨rfl, h⟩
  have H3 : Hid (CB w _ q kk2 W3) := Lib.hid h
  clear h H2
  go_wp2_with fail
  refine (read_ok H3.out 9 (by rw [kk2_eq]; decide)).mono ?_
  rintro e W4 ⟨rfl, h⟩
  have H4 : Hid (CB w _ q kk3 W4) := Lib.hid h
  clear h H3
  go_wp2_with fail
  refine (out_ok H4.out).mono ?_
  rintro e W5 ⟨p, c, rfl, h, -, -⟩
  have H5 : Hid (CB w _ q (outV kk3) W5) := Lib.hid h
  clear h H4
  have KW : Hid (Calls Try.prog 15 #[.pointer (some ⟨q.c, 0, none⟩), .string ⟨#[111, 107]⟩] W5 fun e w' => e = .returned (.int .i64 2) ∧ CB w _ q kk4 w') := Lib.hid ((write_ok H5.out ⟨#[111, 107]⟩ (by rw [kk3_eq]; decide)).mono fun e w' ⟨x, y⟩ => ⟨by rw [x, kk3_eq]; rfl, y⟩)
  go_wp2_with fail
  refine KW.out.mono ?_
  rintro e W6 ⟨rfl, h⟩
  have H6 : Hid (CB w _ q kk4 W6) := Lib.hid h
  clear h KW H5
  rw [kk4_eq] at H6
  go_wp2_with fail
  refine (out_one H6.out rfl).mono ?_
  rintro e W7 ⟨ba, ca, ua, rfl, h, CU, -⟩
  have H7 : Hid (CB w _ q (outV kk4) W7) := Lib.hid (by rw [kk4_eq]; exact h)
  have Ua := Lib.hid CU
  clear h CU H6
  go_wp2_with fail
  refine (close_ok H7.out (by rw [kk4_eq]; decide)).mono ?_
  rintro e W8 ⟨rfl, h⟩
  have H8 : Hid (CB w _ q kk5 W8) := Lib.hid h
  clear h H7
  have KS : Hid (Calls Try.prog 12 #[.pointer (some ⟨q.c, 0, none⟩)] W8 fun e w' => e = .returned (.int .i64 3) ∧ w' = W8) := Lib.hid (by have h := state_ok H8.out; rw [kk5_eq] at h; exact h)
  go_wp2_with fail
  refine KS.out.mono ?_
  rintro e W8 ⟨rfl, rfl⟩
  clear KS
  rw [kk5_eq] at H8
  go_wp2_with fail
  refine (out_one H8.out rfl).mono ?_
  rintro e W9 ⟨bb, cb, ub, rfl, h, CU, -⟩
  have H9 : Hid (CB w _ q (outV kk5) W9) := Lib.hid (by rw [kk5_eq]; exact h)
  have Ub := Lib.hid CU
  clear h CU H8
  go_wp2_with fail
  refine (in_ok H9.out kS6 kS_ok.2 (by decide) (by rw [kk5_eq]; decide)).mono ?_
  rintro e W10 ⟨rfl, h⟩
  have H10 : Hid (CB w _ q kk6 W10) := Lib.hid h
  clear h H9
  have KS : Hid (Calls Try.prog 12 #[.pointer (some ⟨q.c, 0, none⟩)] W10 fun e w' => e = .returned (.int .i64 6) ∧ w' = W10) := Lib.hid (by have h := state_ok H10.out; rw [kk6_eq] at h; exact h)
  go_wp2_with fail
  refine KS.out.mono ?_
  rintro e W10 ⟨rfl, rfl⟩
  clear KS
  rw [kk6_eq] at H10
  go_wp2_with fail
  refine (out_one H10.out rfl).mono ?_
  rintro e W11 ⟨bd, cd, ud, rfl, h, CU, -⟩
  have H11 : Hid (CB w _ q (kk7 0) W11) := Lib.hid (by show CB w _ q (outV kk6) _; rw [kk6_eq]; exact h)
  have Ud := Lib.hid CU
  clear h CU H10
  obtain ⟨fx, hfx⟩ : ∃ fx, fx = [(bd, Obj.cells ud 28 (0, 0)), (bb, Obj.cells ub 28 (0, 0)), (ba, Obj.cells ua 28 (0, 0))] := ⟨_, rfl⟩
  have HF := Lib.hid hfx
  rw [← hfx] at H11
  clear hfx
  go_wp2_with fail
  go_loopw [10] (fun iv wr => ∃ k : Nat, k ≤ 4 ∧ iv = .int .i64 k ∧ Hid (CB w fx q (kk7 k) wr)) (fun iv _ => 4 - (intOf iv).toNat)
  case atStart => exact ⟨0, by decide, rfl, H11⟩
  case round =>
    clear H11
    obtain ⟨k, hk, rfl, HK⟩ := hrel
    by_cases h4 : k < 4
    · go_wp2_with fail
      refine (tick_ok HK.out (by rw [kk7_eq k hk]; show 0 ≤ 99990000; decide)).mono ?_
      rintro e WT ⟨rfl, h⟩
      have HT : Hid (CB w fx q (kk7 (k + 1)) WT) := Lib.hid h
      clear h HK
      go_wp2_with fail
      go_roundw
      case rel => exact ⟨k + 1, by omega, by go_num, HT⟩
      case measure => simp [intOf]; omega
    · have e4 : k = 4 := by omega
      subst e4
      have H50 := HK
      clear HK
      rename World => W50
      have KS : Hid (Calls Try.prog 12 #[.pointer (some ⟨q.c, 0, none⟩)] W50 fun e w' => e = .returned (.int .i64 6) ∧ w' = W50) := Lib.hid (by have h := state_ok H50.out; rw [kk7_eq 4 (by decide)] at h; exact h)
      go_wp2_with fail
      refine KS.out.mono ?_
      rintro e W50 ⟨rfl, rfl⟩
      clear KS
      go_wp2_with fail
      refine (tick_ok H50.out (by rw [kk7_eq 4 (by decide)]; decide)).mono ?_
      rintro e W51 ⟨rfl, h⟩
      have H51 : Hid (CB w fx q (tickV (kk7 4)) W51) := Lib.hid h
      clear h H50
      go_wp2_with fail
      refine (howC W51).mono ?_
      rintro e W52 ⟨rfl, h⟩
      have H52 := Lib.hid (H51.out.grow h)
      clear h H51
      go_wp2_with fail
      refine (new_bad W52 ⟨0, 0, 0, 0, 16, 0, 0, ⟨#[]⟩⟩ 1 10 2 60 3 5 (by omega) (by kernel_rfl)).mono ?_
      rintro e W53 ⟨rfl, h⟩
      have H53 := Lib.hid (H52.out.grow h)
      clear h H52
      go_wp2_with fail
      refine (synC W53).mono ?_
      rintro e W54 ⟨rfl, h⟩
      have H54 := Lib.hid (H53.out.grow h)
      clear h H53
      go_wp2_with fail
      refine (new_bad W54 exSyn 1 1 1 1 0 1 (by omega) (by kernel_rfl)).mono ?_
      rintro e W55 ⟨rfl, h⟩
      have H55 := Lib.hid (H54.out.grow h)
      clear h H54
      obtain ⟨L1, hL1⟩ : ∃ L, L = W55.alloc (.cells (sgC ⟨10, 9, 501, 103, 24, 2048, 0, ⟨#[111, 107]⟩⟩) 28) := ⟨_, rfl⟩
      obtain ⟨L2, hL2⟩ : ∃ L, L = L1.alloc (.cells (sgC ⟨10, 9, 503, 103, 17, 2048, 0, ⟨#[]⟩⟩) 28) := ⟨_, rfl⟩
      obtain ⟨W56, hW56⟩ : ∃ L, L = L2.alloc (.cells (sgC ⟨10, 9, 504, 104, 16, 2048, 0, ⟨#[]⟩⟩) 28) := ⟨_, rfl⟩
      have z1 : L1.heap.size = W55.heap.size + 1 := by rw [hL1]; simp
      have z2 : L2.heap.size = W55.heap.size + 1 + 1 := by rw [hL2]; simp [z1]
      have k1 : Below W55.heap.size W55 L1 := by rw [hL1]; exact (Below.refl _ _).alloc (Nat.le_refl _) _
      have k2 : Below L1.heap.size L1 L2 := by rw [hL2]; exact (Below.refl _ _).alloc (Nat.le_refl _) _
      have k3 : Below L2.heap.size L2 W56 := by rw [hW56]; exact (Below.refl _ _).alloc (Nat.le_refl _) _
      have FNa : Hid (SgAt W56 W55.heap.size ⟨10, 9, 501, 103, 24, 2048, 0, ⟨#[111, 107]⟩⟩) := Lib.hid (SgAt.grow (SgAt.grow (by rw [hL1]; exact sg_new _ _ _ rfl) k2) k3)
      have FNb : Hid (SgAt W56 (W55.heap.size + 1) ⟨10, 9, 503, 103, 17, 2048, 0, ⟨#[]⟩⟩) := Lib.hid (SgAt.grow (by rw [hL2, ← z1]; exact sg_new _ _ _ rfl) k3)
      have FNd : Hid (SgAt W56 (W55.heap.size + 1 + 1) ⟨10, 9, 504, 104, 16, 2048, 0, ⟨#[]⟩⟩) := Lib.hid (by rw [hW56, ← z2]; exact sg_new _ _ _ rfl)
      have H56 := Lib.hid (((H55.out.grow k1).grow k2).grow k3)
      rw [hL2, hL1] at hW56
      clear hL1 hL2 z1 z2 k1 k2 k3
      have HL := Lib.hid hW56
      clear hW56
      go_wp2_with fail
      have hl := HL.out
      dsimp only [sgC] at hl
      rw [← hl]
      clear hl HL
      generalize W55.heap.size = nz at FNa FNb FNd ⊢
      clear H55
      refine (awakeN W56).mono ?_
      rintro e W57 ⟨rfl, h⟩
      have H57 := Lib.hid (H56.out.grow h)
      replace FNa := Lib.hid (FNa.out.grow h)
      replace FNb := Lib.hid (FNb.out.grow h)
      replace FNd := Lib.hid (FNd.out.grow h)
      clear h H56
      obtain ⟨x0, x1, x2, x3, x4, x5, x6, x7⟩ := FNa.out.all
      have HX := Lib.hid (H57.out.alloc (.cells (sgC ⟨10, 9, 501, 103, 24, 2048, 0, ⟨#[111, 107]⟩⟩) 28))
      have A8 := Lib.hid (HX.out.one (c := ca) (by rw [HF.out]; exact List.mem_cons_of_mem _ (List.mem_cons_of_mem _ (List.mem_cons_self ..))) Ua.out)
      have N8 := Lib.hid (OneAt.new W57 ⟨10, 9, 501, 103, 24, 2048, 0, ⟨#[111, 107]⟩⟩ _ rfl)
      go_wp2_with fail
      refine (same_one A8.out N8.out (by refine ⟨?_, ?_, ?_, ?_, ?_, ?_, ?_, ?_⟩ <;> decide)).mono ?_
      rintro e W58 ⟨rfl, d8⟩
      have H58 := Lib.hid (HX.out.of_drew d8)
      replace FNb := Lib.hid (FNb.out.grow (((Below.refl _ _).alloc (Nat.le_refl _) _).trans (d8.below.mono (by simp))))
      replace FNd := Lib.hid (FNd.out.grow (((Below.refl _ _).alloc (Nat.le_refl _) _).trans (d8.below.mono (by simp))))
      clear d8 HX A8 N8 H57 x0 x1 x2 x3 x4 x5 x6 x7
      obtain ⟨x0, x1, x2, x3, x4, x5, x6, x7⟩ := FNb.out.all
      have HX := Lib.hid (H58.out.alloc (.cells (sgC ⟨10, 9, 503, 103, 17, 2048, 0, ⟨#[]⟩⟩) 28))
      have A8 := Lib.hid (HX.out.one (c := cb) (by rw [HF.out]; exact List.mem_cons_of_mem _ (List.mem_cons_self ..)) Ub.out)
      have N8 := Lib.hid (OneAt.new W58 ⟨10, 9, 503, 103, 17, 2048, 0, ⟨#[]⟩⟩ _ rfl)
      go_wp2_with fail
      refine (same_one A8.out N8.out (by refine ⟨?_, ?_, ?_, ?_, ?_, ?_, ?_, ?_⟩ <;> decide)).mono ?_
      rintro e W59 ⟨rfl, d8⟩
      have H59 := Lib.hid (HX.out.of_drew d8)
      replace FNd := Lib.hid (FNd.out.grow (((Below.refl _ _).alloc (Nat.le_refl _) _).trans (d8.below.mono (by simp))))
      clear d8 HX A8 N8 H58 x0 x1 x2 x3 x4 x5 x6 x7
      obtain ⟨x0, x1, x2, x3, x4, x5, x6, x7⟩ := FNd.out.all
      have HX := Lib.hid (H59.out.alloc (.cells (sgC ⟨10, 9, 504, 104, 16, 2048, 0, ⟨#[]⟩⟩) 28))
      have A8 := Lib.hid (HX.out.one (c := cd) (by rw [HF.out]; exact List.mem_cons_self ..) Ud.out)
      have N8 := Lib.hid (OneAt.new W59 ⟨10, 9, 504, 104, 16, 2048, 0, ⟨#[]⟩⟩ _ rfl)
      go_wp2_with fail
      refine (same_one A8.out N8.out (by refine ⟨?_, ?_, ?_, ?_, ?_, ?_, ?_, ?_⟩ <;> decide)).mono ?_
      rintro e W60 ⟨rfl, d8⟩
      have H60 := Lib.hid (HX.out.of_drew d8)
      clear d8 HX A8 N8 H59 x0 x1 x2 x3 x4 x5 x6 x7
      have KS : Hid (Calls Try.prog 12 #[.pointer (some ⟨q.c, 0, none⟩)] W60 fun e w' => e = .returned (.int .i64 9) ∧ w' = W60) := Lib.hid (by have h := state_ok H60.out; rw [kk8_eq] at h; exact h)
      go_wp2_with fail
      refine KS.out.mono ?_
      rintro e W60 ⟨rfl, rfl⟩
      clear KS
      have KS : Hid (Calls Try.prog 20 #[.pointer (some ⟨q.c, 0, none⟩)] W60 fun e w' => e = .returned (.bool false) ∧ w' = W60) := Lib.hid (by have h := reset_ok H60.out; rw [kk8_eq] at h; exact h)
      go_wp2_with fail
      refine KS.out.mono ?_
      rintro e W60 ⟨rfl, rfl⟩
      clear KS
      have KS : Hid (Calls Try.prog 21 #[.pointer (some ⟨q.c, 0, none⟩)] W60 fun e w' => e = .returned (.bool true) ∧ w' = W60) := Lib.hid (by have h := eof_ok H60.out; rw [kk8_eq] at h; exact h)
      go_wp2_with fail
      refine KS.out.mono ?_
      rintro e W60 ⟨rfl, rfl⟩
      clear KS
      go_wp2_with fail
      go_ret
      exact ⟨rfl, H60.out.bl⟩

set_option maxRecDepth 100000 in
theorem lifted (os : Os) (started : os.Started) (H : Type) (enc : TypeId × Value → H) :
    ReturnsInHanded {} Try.checked os 3 .any (Rows.connKnownSpec.pre6 enc Try.prog Try.f3 Rows.connKnownRow.domain false) (Rows.connKnownSpec.post enc Try.prog Try.f3 false true false false) := by
  refine returnsInHanded_of_change (C := Try.checked) own started (by kernel_rfl) Try.func3
    (ChangeSpec.witness6 (enc := enc) (C := Try.checked) false ⟨#[], #[], []⟩ 8 (by kernel_rfl) (by kernel_rfl) (by kernel_rfl) (by kernel_rfl)) ?_
  intro W base args ds gs before hval0 hW hcnd _
  have hval : ∀ (j : Nat) t v, Try.f3.params[j]? = some t → args[j]? = some v → Value.okWide Try.prog W .any base t v := hval0
  have hW' := hW
  obtain ⟨p, q, hA0, hV, rfl, hfz, hnd⟩ := hW
  have hA : DataW.TrodAll enc Try.prog W 0 (fun _ => true) true Try.f3.params.toList args.toList ds p := hA0
  rw [Try.params3] at hA hval
  obtain ⟨rfl, rfl, rfl⟩ := trodAll_none hA
  obtain ⟨rfl, rfl⟩ := trodVars_none hV
  clear hA0 hval0
  refine (walk W).mono fun e W' ⟨he, bel⟩ => ?_
  subst he
  exact ⟨_, rfl, _, _, _, [], _, [], hW', trodAll_mk1 (shut_bool Try.underlying4 _), trodAll_mk0, rfl, bel.frame _, fun h => by cases h⟩

/-- THE STATEMENT. -/
theorem proved : Rows.ConnKnownSaid :=
  OpenClaim.holds_of_wide 3 Try.f3 rfl rfl rfl rfl rfl rfl rfl ⟨rfl, rfl, rfl, rfl, rfl⟩ rfl rfl rfl rfl rfl (by kernel_rfl) Try.func3 (by kernel_rfl)
    (of_decide_eq_true (by kernel_rfl)) (by unfold Func.isWrapper; first | (rw [if_pos (by decide +kernel)]; kernel_rfl) | (rw [if_neg (by decide +kernel)]; exact ⟨rfl, rfl⟩))
    (fun os started H enc _ => lifted os started H enc)
#print axioms proved

end Go.Proofs.Ytlajalfalepbhaa.cok
