/-
  Layer 15: how a connection stands, and its other calls; what is none. Conditions: as said.
-/
import Derived.Test.YtlajalfalepbhaaCnU
namespace Go.Proofs.Ytlajalfalepbhaa
open Go.RowKit
set_option linter.unusedVariables false

section
variable {w0 w w' : World} {fx : List (Nat × Obj)} {q : Bq} {v v' : Cn}
set_option maxHeartbeats 1000000 in
theorem abort_ok (h : CB w0 fx q v w) (hs : v.sent.length ≤ 99990000) :
    Calls Try.prog 22 #[.pointer (some ⟨q.c, 0, none⟩)] w fun e w' => e = .returned (.tuple #[]) ∧ CB w0 fx q (abortV v) w' := by
  have HH := Lib.hid h
  have KS := Lib.hid (state_ok h)
  have KR := Lib.hid (rst_ok h (by omega))
  obtain ⟨R, hR⟩ : ∃ R, R = abortV v := ⟨_, rfl⟩
  rw [← hR]
  unfold abortV at hR
  have HR := Lib.hid hR
  clear h hs hR
  go_enter Try.func22, Try.ntmps22
  by_cases h9 : v.st = 9
  · rw [if_pos h9] at HR
    rw [h9] at KS
    clear h9
    go_wp2_with fail
    refine KS.out.mono ?_
    rintro e w ⟨rfl, rfl⟩
    go_wp2_with fail
    exact bodyPost_ret (v := .tuple #[]) (results_none rfl _ _ _) rfl (by rw [HR.out]; exact ⟨rfl, HH.out⟩)
  · have g9 : (v.st == 9) = false := beq_eq_false_iff_ne.2 h9
    rw [if_neg h9] at HR
    clear h9
    go_wp2_with fail
    refine KS.out.mono ?_
    rintro e w ⟨rfl, rfl⟩
    go_wp2_with fail
    refine KR.out.mono ?_
    rintro e W1 ⟨rfl, h1⟩
    have H1 := Lib.hid h1
    clear h1 KR KS
    have c2 := H1.out.c 2 (.int .i64 v.st) (fun _ => rfl)
    have f2 := H1.out.f 2
    go_wp2_with fail
    go_end0
    rw [HR.out]
    exact ⟨rfl, H1.out.set 2 (.int .i64 9) { rstV v with st := 9 } (by decide) (fun _ => rfl)⟩
set_option maxHeartbeats 1000000 in
theorem probes_ok (h : CB w0 fx q v w) (hs : v.sent.length ≤ 99990000) :
    Calls Try.prog 23 #[.pointer (some ⟨q.c, 0, none⟩)] w fun e w' => e = .returned (.tuple #[]) ∧ CB w0 fx q (probesV v) w' := by
  have HH := Lib.hid h
  have KS := Lib.hid (state_ok h)
  have KR := Lib.hid (probe_ok h (by omega))
  obtain ⟨R, hR⟩ : ∃ R, R = probesV v := ⟨_, rfl⟩
  rw [← hR]
  unfold probesV at hR
  generalize v.st = x at KS hR
  clear h hs
  go_enter Try.func23, Try.ntmps23
  by_cases h1 : x = 1
  · rw [if_pos (.inl h1)] at hR
    have HR := Lib.hid hR
    subst h1
    clear hR
    go_wp2_with fail
    refine KS.out.mono ?_
    rintro e w ⟨rfl, rfl⟩
    go_wp2_with fail
    exact bodyPost_ret (v := .tuple #[]) (results_none rfl _ _ _) rfl (by rw [HR.out]; exact ⟨rfl, HH.out⟩)
  have d1 : (x == 1) = false := beq_eq_false_iff_ne.2 h1
  by_cases h6 : x = 6
  · rw [if_pos (.inr (.inl h6))] at hR
    have HR := Lib.hid hR
    subst h6
    clear hR
    go_wp2_with fail
    refine KS.out.mono ?_
    rintro e w ⟨rfl, rfl⟩
    go_wp2_with fail
    exact bodyPost_ret (v := .tuple #[]) (results_none rfl _ _ _) rfl (by rw [HR.out]; exact ⟨rfl, HH.out⟩)
  have d6 : (x == 6) = false := beq_eq_false_iff_ne.2 h6
  by_cases h9 : x = 9
  · rw [if_pos (.inr (.inr h9))] at hR
    have HR := Lib.hid hR
    subst h9
    clear hR
    go_wp2_with fail
    refine KS.out.mono ?_
    rintro e w ⟨rfl, rfl⟩
    go_wp2_with fail
    exact bodyPost_ret (v := .tuple #[]) (results_none rfl _ _ _) rfl (by rw [HR.out]; exact ⟨rfl, HH.out⟩)
  have d9 : (x == 9) = false := beq_eq_false_iff_ne.2 h9
  rw [if_neg (by rintro (e | e | e); exact h1 e; exact h6 e; exact h9 e)] at hR
  have HR := Lib.hid hR
  clear hR h1 h6 h9
  go_wp2_with fail
  refine KS.out.mono ?_
  rintro e w ⟨rfl, rfl⟩
  go_wp2_with fail
  refine KR.out.mono ?_
  rintro e W1 ⟨rfl, h1⟩
  have H1 := Lib.hid h1
  clear h1
  go_wp2_with fail
  go_end0
  rw [HR.out]
  exact ⟨rfl, H1.out⟩
/-- What Out hands out: the slice of what was sent, in a block that nobody else has. -/
def OutAt (w : World) (v : Cn) (sl : Value) (q : Bq) (fx : List (Nat × Obj)) : Prop := RowA 8 sgE 28 w sl v.sent ∧ ∀ j, sl.ownBlock = some j → ¬ q.own j ∧ ∀ x ∈ fx, x.1 ≠ j
set_option maxHeartbeats 1000000 in
theorem out_ok (h : CB w0 fx q v w) :
    Calls Try.prog 11 #[.pointer (some ⟨q.c, 0, none⟩)] w fun e w' => ∃ p c, e = .returned (.slice p v.sent.length c) ∧ CB w0 fx q (outV v) w' ∧ OutAt w' v (.slice p v.sent.length c) q fx ∧ ∀ j, (Value.slice p v.sent.length c).ownBlock = some j → w0.heap.size ≤ j := by
  have HH := Lib.hid h
  have KN := Lib.hid (cnone_no h)
  obtain ⟨sl, m, hsl⟩ := h.ex
  obtain ⟨p, c, rfl⟩ := m.row.shape
  have M := Lib.hid m
  have SL := Lib.hid hsl
  have c26 : w.cell? ⟨q.c, 26, none⟩ = some (.slice p v.sent.length c) := by rw [cell_of_block m.at_]; rfl
  have f26 := h.f 26
  have A6 := Lib.hid m.ap.2.2.2.2.2
  have AP := Lib.hid m.ap
  clear h m hsl
  have HF : Hid (CB w0 fx q (outV v) (w.setCell ⟨q.c, 26, none⟩ (.slice none 0 0)) ∧ OutAt (w.setCell ⟨q.c, 26, none⟩ (.slice none 0 0)) v (.slice p v.sent.length c) q fx) := Lib.hid (by
    obtain ⟨⟨a1, a2, a3, a4, a5⟩, _⟩ := AP.out
    have m := M.out
    have k : ∀ j, j ≠ q.c → (w.setCell ⟨q.c, 26, none⟩ (.slice none 0 0)).heap[j]? = w.heap[j]? := fun j hj => Below.heap_setCell _ _ _ _ (by show j ≠ q.c; exact hj)
    refine ⟨HH.out.turn m SL.out (sl' := .slice none 0 0) ⟨?_, ?_, ?_, ?_, ?_⟩ (fun j hj => by cases hj) ⟨HH.out.ok.ck, HH.out.ok.m1, HH.out.ok.m2, HH.out.ok.w1, HH.out.ok.w2⟩ ((Turn.refl _ _).setCell (.inl (.inl rfl)) 26 _), ?_, fun j hj => ⟨A6.out j hj, (SL.out j hj).2⟩⟩
    · exact set_cellsB m.at_ _ (by show 26 < 28; decide)
    · exact m.out.kept (fun j hj => k j (by rcases hj with rfl | rfl; exact fun e => a1 e.symm; exact fun e => a2 e.symm))
    · exact m.inn.kept (fun j hj => k j (by rcases hj with rfl | rfl; exact fun e => a3 e.symm; exact fun e => a4 e.symm))
    · exact (k _ (fun e => a5 e.symm)).trans m.ck
    · exact ⟨rfl, .inl ⟨rfl, rfl⟩⟩
    · exact m.row.kept (by simp [World.setCell]) (fun b hb => k b (fun e => A6.out b hb (.inl e))))
  go_enter Try.func11, Try.ntmps11
  go_wp2_with fail
  refine KN.out.mono ?_
  rintro e w ⟨rfl, rfl⟩
  go_wp2_with fail
  go_ret
  exact ⟨p, c, rfl, HF.out.1, HF.out.2, fun j hj => (SL.out j hj).1⟩
set_option maxHeartbeats 1000000 in
theorem ready_ok (h : CB w0 fx q v w) :
    Calls Try.prog 24 #[.pointer (some ⟨q.c, 0, none⟩)] w fun e w' => e = .returned (.int .i64 v.R.length) ∧ w' = w := by
  have KN := Lib.hid (cnone_no h)
  have KR := Lib.hid h.rReady
  have c14 := h.c 14 (.pointer (some ⟨q.h, 0, none⟩)) (fun _ => rfl)
  clear h
  go_enter Try.func24, Try.ntmps24
  go_wp2_with fail
  refine KN.out.mono ?_
  rintro e w ⟨rfl, rfl⟩
  go_wp2_with fail
  refine KR.out.mono ?_
  rintro e w ⟨rfl, rfl⟩
  go_wp2_with fail
  go_ret
  exact ⟨rfl, rfl⟩
def eofV (v : Cn) : Bool := v.eof && decide (v.R.length = 0)
set_option maxHeartbeats 1000000 in
theorem eof_ok (h : CB w0 fx q v w) :
    Calls Try.prog 21 #[.pointer (some ⟨q.c, 0, none⟩)] w fun e w' => e = .returned (.bool (eofV v)) ∧ w' = w := by
  have KN := Lib.hid (cnone_no h)
  have KR := Lib.hid h.rReady
  have c14 := h.c 14 (.pointer (some ⟨q.h, 0, none⟩)) (fun _ => rfl)
  have c15 := h.c 15 (.bool v.eof) (fun _ => rfl)
  obtain ⟨B, hB⟩ : ∃ B, B = eofV v := ⟨_, rfl⟩
  rw [← hB]
  unfold eofV at hB
  generalize v.eof = b at c15 hB
  generalize v.R.length = n at KR hB
  clear h
  go_enter Try.func21, Try.ntmps21
  cases b with
  | false =>
    have HB : Hid (B = false) := Lib.hid hB
    clear hB
    go_wp2_with fail
    refine KN.out.mono ?_
    rintro e w ⟨rfl, rfl⟩
    go_wp2_with fail
    go_ret
    rw [HB.out]
    exact ⟨rfl, rfl⟩
  | true =>
    by_cases h0 : n = 0
    · subst h0
      have HB : Hid (B = true) := Lib.hid hB
      clear hB
      go_wp2_with fail
      refine KN.out.mono ?_
      rintro e w ⟨rfl, rfl⟩
      go_wp2_with fail
      refine KR.out.mono ?_
      rintro e w ⟨rfl, rfl⟩
      go_wp2_with fail
      go_ret
      rw [HB.out]
      exact ⟨rfl, rfl⟩
    · have g : ((n : Int) == 0) = false := beq_eq_false_iff_ne.2 (by omega)
      have HB : Hid (B = false) := Lib.hid (by rw [hB, decide_eq_false h0]; rfl)
      clear hB h0
      go_wp2_with fail
      refine KN.out.mono ?_
      rintro e w ⟨rfl, rfl⟩
      go_wp2_with fail
      refine KR.out.mono ?_
      rintro e w ⟨rfl, rfl⟩
      go_wp2_with fail
      go_ret
      rw [HB.out]
      exact ⟨rfl, rfl⟩
set_option maxHeartbeats 1000000 in
theorem reset_ok (h : CB w0 fx q v w) :
    Calls Try.prog 20 #[.pointer (some ⟨q.c, 0, none⟩)] w fun e w' => e = .returned (.bool v.rs) ∧ w' = w := by
  have KN := Lib.hid (cnone_no h)
  have c3 := h.c 3 (.bool v.rs) (fun _ => rfl)
  clear h
  go_enter Try.func20, Try.ntmps20
  go_wp2_with fail
  refine KN.out.mono ?_
  rintro e w ⟨rfl, rfl⟩
  go_wp2_with fail
  go_ret
  exact ⟨rfl, rfl⟩
end
/- What is none. -/
section
variable (w : World) (p : Option Addr)
set_option maxHeartbeats 1000000 in
theorem cin_no (hp : CnNone w p) (s : Sg) : Calls Try.prog 13 #[.pointer p, .agg (sgC s)] w fun e w' => e = .returned (.tuple #[]) ∧ Below w.heap.size w w' := by
  have BL := Lib.hid ((Below.refl w.heap.size w).alloc (Nat.le_refl _) (.cells (sgC s) 28))
  have HN : Hid (CnNone (w.alloc (.cells (sgC s) 28)) p) := Lib.hid (by
    rcases hp with rfl | ⟨g, rfl, hc⟩
    · exact .inl rfl
    · exact .inr ⟨g, rfl, (BL.out.cell (p := ⟨g, 27, none⟩) (World.block_lt_of_cell? w _ hc)).trans hc⟩)
  clear hp
  go_enter Try.func13, Try.ntmps13
  go_upto_region 1 with fail
  generalize w.alloc _ = W1 at BL HN ⊢
  go_wp2_with fail
  refine (state_no W1 p HN.out).mono ?_
  rintro e W1 ⟨rfl, rfl⟩
  go_wp2_with fail
  exact bodyPost_ret (v := .tuple #[]) (results_none rfl _ _ _) rfl ⟨rfl, BL.out⟩
set_option maxHeartbeats 1000000 in
theorem ctick_no (hp : CnNone w p) : Calls Try.prog 17 #[.pointer p] w fun e w' => e = .returned (.tuple #[]) ∧ w' = w := by
  have HN := Lib.hid hp
  clear hp
  go_enter Try.func17, Try.ntmps17
  go_wp2_with fail
  refine (state_no w p HN.out).mono ?_
  rintro e w ⟨rfl, rfl⟩
  go_wp2_with fail
  exact bodyPost_ret (v := .tuple #[]) (results_none rfl _ _ _) rfl ⟨rfl, rfl⟩
set_option maxHeartbeats 1000000 in
theorem ctakes_no (hp : CnNone w p) : Calls Try.prog 50 #[.pointer p] w fun e w' => e = .returned (.bool false) ∧ w' = w := by
  have HN := Lib.hid hp
  clear hp
  go_enter Try.func50, Try.ntmps50
  go_wp2_with fail
  refine (state_no w p HN.out).mono ?_
  rintro e w ⟨rfl, rfl⟩
  go_wp2_with fail
  go_ret
  exact ⟨rfl, rfl⟩
set_option maxHeartbeats 1000000 in
theorem cclose_no (hp : CnNone w p) : Calls Try.prog 16 #[.pointer p] w fun e w' => e = .returned (.tuple #[]) ∧ w' = w := by
  have HN := Lib.hid hp
  clear hp
  go_enter Try.func16, Try.ntmps16
  go_wp2_with fail
  refine (ctakes_no w p HN.out).mono ?_
  rintro e w ⟨rfl, rfl⟩
  go_wp2_with fail
  exact bodyPost_ret (v := .tuple #[]) (results_none rfl _ _ _) rfl ⟨rfl, rfl⟩
set_option maxHeartbeats 1000000 in
theorem cabort_no (hp : CnNone w p) : Calls Try.prog 22 #[.pointer p] w fun e w' => e = .returned (.tuple #[]) ∧ w' = w := by
  have HN := Lib.hid hp
  clear hp
  go_enter Try.func22, Try.ntmps22
  go_wp2_with fail
  refine (state_no w p HN.out).mono ?_
  rintro e w ⟨rfl, rfl⟩
  go_wp2_with fail
  exact bodyPost_ret (v := .tuple #[]) (results_none rfl _ _ _) rfl ⟨rfl, rfl⟩
set_option maxHeartbeats 1000000 in
theorem cprobe_no (hp : CnNone w p) : Calls Try.prog 23 #[.pointer p] w fun e w' => e = .returned (.tuple #[]) ∧ w' = w := by
  have HN := Lib.hid hp
  clear hp
  go_enter Try.func23, Try.ntmps23
  go_wp2_with fail
  refine (state_no w p HN.out).mono ?_
  rintro e w ⟨rfl, rfl⟩
  go_wp2_with fail
  exact bodyPost_ret (v := .tuple #[]) (results_none rfl _ _ _) rfl ⟨rfl, rfl⟩
set_option maxHeartbeats 1000000 in
theorem cwrite_no (hp : CnNone w p) (D : ByteArray) : Calls Try.prog 15 #[.pointer p, .string D] w fun e w' => e = .returned (.int .i64 0) ∧ w' = w := by
  have HN := Lib.hid hp
  clear hp
  go_enter Try.func15, Try.ntmps15
  go_wp2_with fail
  refine (ctakes_no w p HN.out).mono ?_
  rintro e w ⟨rfl, rfl⟩
  go_wp2_with fail
  go_ret
  exact ⟨rfl, rfl⟩
set_option maxHeartbeats 1000000 in
theorem cread_no (hp : CnNone w p) (n : Int) : Calls Try.prog 14 #[.pointer p, .int .i64 n] w fun e w' => e = .returned (.string ⟨#[]⟩) ∧ w' = w := by
  have HN := Lib.hid hp
  clear hp
  go_enter Try.func14, Try.ntmps14
  go_wp2_with fail
  refine (cnone_yes w p HN.out).mono ?_
  rintro e w ⟨rfl, rfl⟩
  go_wp2_with fail
  go_ret
  exact ⟨rfl, rfl⟩
set_option maxHeartbeats 1000000 in
theorem cout_no (hp : CnNone w p) : Calls Try.prog 11 #[.pointer p] w fun e w' => e = .returned (.slice none 0 0) ∧ w' = w := by
  have HN := Lib.hid hp
  clear hp
  go_enter Try.func11, Try.ntmps11
  go_wp2_with fail
  refine (cnone_yes w p HN.out).mono ?_
  rintro e w ⟨rfl, rfl⟩
  go_wp2_with fail
  go_ret
  exact ⟨rfl, rfl⟩
set_option maxHeartbeats 1000000 in
theorem cready_no (hp : CnNone w p) : Calls Try.prog 24 #[.pointer p] w fun e w' => e = .returned (.int .i64 0) ∧ w' = w := by
  have HN := Lib.hid hp
  clear hp
  go_enter Try.func24, Try.ntmps24
  go_wp2_with fail
  refine (cnone_yes w p HN.out).mono ?_
  rintro e w ⟨rfl, rfl⟩
  go_wp2_with fail
  go_ret
  exact ⟨rfl, rfl⟩
set_option maxHeartbeats 1000000 in
theorem ceof_no (hp : CnNone w p) : Calls Try.prog 21 #[.pointer p] w fun e w' => e = .returned (.bool true) ∧ w' = w := by
  have HN := Lib.hid hp
  clear hp
  go_enter Try.func21, Try.ntmps21
  go_wp2_with fail
  refine (cnone_yes w p HN.out).mono ?_
  rintro e w ⟨rfl, rfl⟩
  go_wp2_with fail
  go_ret
  exact ⟨rfl, rfl⟩
set_option maxHeartbeats 1000000 in
theorem croom_no (hp : CnNone w p) : Calls Try.prog 25 #[.pointer p] w fun e w' => e = .returned (.int .i64 0) ∧ w' = w := by
  have HN := Lib.hid hp
  clear hp
  go_enter Try.func25, Try.ntmps25
  go_wp2_with fail
  refine (ctakes_no w p HN.out).mono ?_
  rintro e w ⟨rfl, rfl⟩
  go_wp2_with fail
  go_ret
  exact ⟨rfl, rfl⟩
set_option maxHeartbeats 1000000 in
theorem creset_no (hp : CnNone w p) : Calls Try.prog 20 #[.pointer p] w fun e w' => e = .returned (.bool false) ∧ w' = w := by
  have HN := Lib.hid hp
  clear hp
  go_enter Try.func20, Try.ntmps20
  go_wp2_with fail
  refine (cnone_yes w p HN.out).mono ?_
  rintro e w ⟨rfl, rfl⟩
  go_wp2_with fail
  go_ret
  exact ⟨rfl, rfl⟩
end
end Go.Proofs.Ytlajalfalepbhaa
