/-
  ConnNobody: what is none is gone. Conditions: more than 2000 bytes are not asked about, as the statement says.
-/
import Derived.Test.YtlajalfalepbhaaCoB
import Derived.ProofKit
import Derived.OpenShut
import Derived.ShutString
import Derived.ChangeOld
import Derived.Below
namespace Go.Proofs.Ytlajalfalepbhaa.con
open Go.ChangeShapes Go.WideShapes Go.ChangeAt Go.RowKit
open Go.ChangeMaps (open_string shut_string)
set_option linter.unusedVariables false

theorem own : ownKnob Try.prog.godebug = none := by kernel_rfl
theorem laidOut : laidOutB Try.prog = true := by kernel_rfl
set_option maxRecDepth 100000 in
set_option maxHeartbeats 8000000 in
theorem walk_long (s : Sg) (d : ByteArray) (n : Int) (h : 2000 < d.size) (w : World) :
    Calls Try.prog 4 #[.agg (sgC s), .string d, .int .i64 n] w fun e w' => e = .returned (.bool true) ∧ Below w.heap.size w w' := by
  have g : decide (2000 < (d.size : Int)) = true := decide_eq_true (by omega)
  clear h
  go_enter Try.func4, Try.ntmps4
  go_upto_region 1 with fail
  have FA : Hid (SgAt (w.alloc (.cells (sgC s) 28)) w.heap.size s) := Lib.hid (sg_new w _ s rfl)
  have BL : Hid (Below w.heap.size w (w.alloc (.cells (sgC s) 28))) := Lib.hid ((Below.refl _ _).alloc (Nat.le_refl _) _)
  generalize w.alloc _ = W1 at FA BL ⊢
  obtain ⟨n5, hn5⟩ : ∃ n5, n5 = w.heap.size := ⟨_, rfl⟩
  rw [← hn5] at FA
  simp only [← hn5]
  clear hn5
  go_wp2_with fail
  refine (awakeN W1).mono ?_
  rintro e W2 ⟨rfl, d⟩
  have F2 := Lib.hid (FA.out.grow d)
  have B2 : Hid (Below w.heap.size w W2) := Lib.hid (BL.out.trans (d.mono BL.out.size))
  clear d FA BL
  go_wp2_with fail
  go_ret
  exact ⟨rfl, B2.out⟩
set_option maxRecDepth 100000 in
set_option maxHeartbeats 8000000 in
theorem walk_data (s : Sg) (d : ByteArray) (n : Int) (h : ¬ 2000 < d.size) (h2 : 2000 < s.da.size) (w : World) :
    Calls Try.prog 4 #[.agg (sgC s), .string d, .int .i64 n] w fun e w' => e = .returned (.bool true) ∧ Below w.heap.size w w' := by
  have g : decide (2000 < (d.size : Int)) = false := decide_eq_false (by omega)
  have g2 : decide (2000 < (s.da.size : Int)) = true := decide_eq_true (by omega)
  clear h h2
  go_enter Try.func4, Try.ntmps4
  go_upto_region 1 with fail
  have FA : Hid (SgAt (w.alloc (.cells (sgC s) 28)) w.heap.size s) := Lib.hid (sg_new w _ s rfl)
  have BL : Hid (Below w.heap.size w (w.alloc (.cells (sgC s) 28))) := Lib.hid ((Below.refl _ _).alloc (Nat.le_refl _) _)
  generalize w.alloc _ = W1 at FA BL ⊢
  obtain ⟨n5, hn5⟩ : ∃ n5, n5 = w.heap.size := ⟨_, rfl⟩
  rw [← hn5] at FA
  simp only [← hn5]
  clear hn5
  go_wp2_with fail
  refine (awakeN W1).mono ?_
  rintro e W2 ⟨rfl, d⟩
  have F2 := Lib.hid (FA.out.grow d)
  have B2 : Hid (Below w.heap.size w W2) := Lib.hid (BL.out.trans (d.mono BL.out.size))
  clear d FA BL
  have b7 := F2.out.da
  go_wp2_with fail
  go_ret
  exact ⟨rfl, B2.out⟩
set_option maxRecDepth 100000 in
set_option maxHeartbeats 8000000 in
theorem walk_none (s : Sg) (d : ByteArray) (n : Int) (h : ¬ 2000 < d.size) (h2 : ¬ 2000 < s.da.size) (w : World) :
    Calls Try.prog 4 #[.agg (sgC s), .string d, .int .i64 n] w fun e w' => e = .returned (.bool true) ∧ Below w.heap.size w w' := by
  have g : decide (2000 < (d.size : Int)) = false := decide_eq_false (by omega)
  have g2 : decide (2000 < (s.da.size : Int)) = false := decide_eq_false (by omega)
  clear h h2
  go_enter Try.func4, Try.ntmps4
  go_upto_region 1 with fail
  have FA : Hid (SgAt (w.alloc (.cells (sgC s) 28)) w.heap.size s) := Lib.hid (sg_new w _ s rfl)
  have BL : Hid (Below w.heap.size w (w.alloc (.cells (sgC s) 28))) := Lib.hid ((Below.refl _ _).alloc (Nat.le_refl _) _)
  generalize w.alloc _ = W1 at FA BL ⊢
  obtain ⟨n5, hn5⟩ : ∃ n5, n5 = w.heap.size := ⟨_, rfl⟩
  rw [← hn5] at FA
  simp only [← hn5]
  clear hn5
  go_wp2_with fail
  refine (awakeN W1).mono ?_
  rintro e W2 ⟨rfl, d⟩
  have F2 := Lib.hid (FA.out.grow d)
  have B2 : Hid (Below w.heap.size w W2) := Lib.hid (BL.out.trans (d.mono BL.out.size))
  clear d FA BL
  have b7 := F2.out.da
  have B3 := Lib.hid (B2.out.alloc B2.out.size (.cells #[.int .i64 0, .int .i64 0, .int .i64 0, .bool false, .int .u32 0, .int .u32 0, .int .u32 0, .int .u32 0, .pointer none, .bool false, .int .i64 0, .int .i64 0, .int .u32 0, .int .u32 0, .pointer none, .bool false, .int .i64 0, .pointer none, .int .i64 0, .int .i64 0, .int .i64 0, .bool false, .int .u32 0, .int .i64 0, .int .i64 0, .int .i64 0, .slice none 0 0, .pointer none] 49))
  have HN := Lib.hid (heap_alloc_new W2 (.cells #[.int .i64 0, .int .i64 0, .int .i64 0, .bool false, .int .u32 0, .int .u32 0, .int .u32 0, .int .u32 0, .pointer none, .bool false, .int .i64 0, .int .i64 0, .int .u32 0, .int .u32 0, .pointer none, .bool false, .int .i64 0, .pointer none, .int .i64 0, .int .i64 0, .int .i64 0, .bool false, .int .u32 0, .int .i64 0, .int .i64 0, .int .i64 0, .slice none 0 0, .pointer none] 49))
  have F3 := Lib.hid (F2.out.grow ((Below.refl _ _).alloc (Nat.le_refl _) (.cells #[.int .i64 0, .int .i64 0, .int .i64 0, .bool false, .int .u32 0, .int .u32 0, .int .u32 0, .int .u32 0, .pointer none, .bool false, .int .i64 0, .int .i64 0, .int .u32 0, .int .u32 0, .pointer none, .bool false, .int .i64 0, .pointer none, .int .i64 0, .int .i64 0, .int .i64 0, .bool false, .int .u32 0, .int .i64 0, .int .i64 0, .int .i64 0, .slice none 0 0, .pointer none] 49)))
  go_upto_region 7 with fail
  generalize W2.alloc _ = W3 at B3 HN F3 ⊢
  generalize W2.heap.size = g at HN ⊢
  clear b7 B2 F2
  obtain ⟨b0, b1, b2, b3, b4, b5, b6, b7⟩ := F3.out.all
  go_wp2_with fail
  refine (cin_no W3 none (.inl rfl) s).mono ?_
  rintro e W4 ⟨rfl, dd⟩
  have F4 := Lib.hid (F3.out.grow dd)
  have B4 := Lib.hid (B3.out.trans (dd.mono B3.out.size))
  have HM := Lib.hid ((dd.block g (Array.getElem?_eq_some_iff.1 HN.out).1).trans HN.out)
  clear dd F3 B3 HN b0 b1 b2 b3 b4 b5 b6 b7
  rename World => W3
  have F3 := F4
  have B3 := B4
  have HN := HM
  clear F4 B4 HM
  obtain ⟨b0, b1, b2, b3, b4, b5, b6, b7⟩ := F3.out.all
  go_wp2_with fail
  refine (cin_no W3 (some ⟨g, 0, none⟩) (.inr ⟨g, rfl, by rw [cell_of_block HN.out]; rfl⟩) s).mono ?_
  rintro e W4 ⟨rfl, dd⟩
  have F4 := Lib.hid (F3.out.grow dd)
  have B4 := Lib.hid (B3.out.trans (dd.mono B3.out.size))
  have HM := Lib.hid ((dd.block g (Array.getElem?_eq_some_iff.1 HN.out).1).trans HN.out)
  clear dd F3 B3 HN b0 b1 b2 b3 b4 b5 b6 b7
  rename World => W3
  have F3 := F4
  have B3 := B4
  have HN := HM
  clear F4 B4 HM
  have HN0 : Hid (CnNone W3 none) := Lib.hid (.inl rfl)
  have HN1 : Hid (CnNone W3 (some ⟨g, 0, none⟩)) := Lib.hid (.inr ⟨g, rfl, by rw [cell_of_block HN.out]; rfl⟩)
  clear F3 HN
  go_wp2_with fail
  refine (ctick_no _ _ HN0.out).mono ?_
  rintro e W3 ⟨rfl, rfl⟩
  go_wp2_with fail
  refine (cclose_no _ _ HN0.out).mono ?_
  rintro e W3 ⟨rfl, rfl⟩
  go_wp2_with fail
  refine (cclose_no _ _ HN1.out).mono ?_
  rintro e W3 ⟨rfl, rfl⟩
  go_wp2_with fail
  refine (cabort_no _ _ HN0.out).mono ?_
  rintro e W3 ⟨rfl, rfl⟩
  go_wp2_with fail
  refine (cprobe_no _ _ HN0.out).mono ?_
  rintro e W3 ⟨rfl, rfl⟩
  go_wp2_with fail
  refine (cprobe_no _ _ HN1.out).mono ?_
  rintro e W3 ⟨rfl, rfl⟩
  go_wp2_with fail
  refine (cwrite_no _ _ HN0.out d).mono ?_
  rintro e W3 ⟨rfl, rfl⟩
  go_wp2_with fail
  refine (cwrite_no _ _ HN1.out d).mono ?_
  rintro e W3 ⟨rfl, rfl⟩
  go_wp2_with fail
  refine (cread_no _ _ HN0.out n).mono ?_
  rintro e W3 ⟨rfl, rfl⟩
  go_wp2_with fail
  refine (cout_no _ _ HN0.out).mono ?_
  rintro e W3 ⟨rfl, rfl⟩
  go_wp2_with fail
  refine (cout_no _ _ HN1.out).mono ?_
  rintro e W3 ⟨rfl, rfl⟩
  go_wp2_with fail
  refine (state_no _ _ HN0.out).mono ?_
  rintro e W3 ⟨rfl, rfl⟩
  go_wp2_with fail
  refine (state_no _ _ HN1.out).mono ?_
  rintro e W3 ⟨rfl, rfl⟩
  go_wp2_with fail
  refine (cready_no _ _ HN0.out).mono ?_
  rintro e W3 ⟨rfl, rfl⟩
  go_wp2_with fail
  refine (ceof_no _ _ HN0.out).mono ?_
  rintro e W3 ⟨rfl, rfl⟩
  go_wp2_with fail
  refine (croom_no _ _ HN0.out).mono ?_
  rintro e W3 ⟨rfl, rfl⟩
  go_wp2_with fail
  refine (creset_no _ _ HN0.out).mono ?_
  rintro e W3 ⟨rfl, rfl⟩
  go_wp2_with fail
  go_ret
  exact ⟨rfl, B3.out⟩
theorem walk (a0 : Sg) (a1 : ByteArray) (a2 : Int) (w0 : a0.ok) (w1 : a1.size ≤ maxLen) (w2 : (Lit.int .i64 a2).wf = true) (w : World) :
    Calls Try.prog 4 #[.agg (sgC a0), .string a1, .int .i64 a2] w fun e w' => e = .returned (.bool true) ∧ Below w.heap.size w w' := by
  by_cases h : 2000 < a1.size
  · exact walk_long a0 a1 a2 h w
  · by_cases h2 : 2000 < a0.da.size
    · exact walk_data a0 a1 a2 h h2 w
    · exact walk_none a0 a1 a2 h h2 w

set_option maxRecDepth 100000 in
theorem lifted (os : Os) (started : os.Started) (H : Type) (enc : TypeId × Value → H) :
    ReturnsInHanded {} Try.checked os 4 .any (Rows.connNobodySpec.pre6 enc Try.prog Try.f4 Rows.connNobodyRow.domain false) (Rows.connNobodySpec.post enc Try.prog Try.f4 false true false false) := by
  refine returnsInHanded_of_change (C := Try.checked) own started (by kernel_rfl) Try.func4
    (ChangeSpec.witness6 (enc := enc) (C := Try.checked) false ⟨#[], #[.agg #[.int .i64 0, .int .i64 0, .int .u32 0, .int .u32 0, .int .i64 0, .int .i64 0, .int .i64 0, .string ByteArray.empty], .string ByteArray.empty, .int .i64 0], []⟩ 8 (by kernel_rfl) (by kernel_rfl) (by kernel_rfl) (by kernel_rfl)) ?_
  intro W base args ds gs before hval0 hW hcnd _
  have hval : ∀ (j : Nat) t v, Try.f4.params[j]? = some t → args[j]? = some v → Value.okWide Try.prog W .any base t v := hval0
  have hW' := hW
  obtain ⟨p, q, hA0, hV, rfl, hfz, hnd⟩ := hW
  have hA : DataW.TrodAll enc Try.prog W 0 (fun _ => true) true Try.f4.params.toList args.toList ds p := hA0
  rw [Try.params4] at hA hval
  obtain ⟨v0, vs0, d0, ds0, p0, q0, hargs, rfl, rfl, h0, r0⟩ := trodAll_cons hA
  obtain ⟨v1, vs1, d1, ds1, p1, q1, rfl, rfl, rfl, h1, r1⟩ := trodAll_cons r0
  obtain ⟨v2, vs2, d2, ds2, p2, q2, rfl, rfl, rfl, h2, r2⟩ := trodAll_cons r1
  obtain ⟨rfl, rfl, rfl⟩ := trodAll_nil r2
  obtain rfl : args = #[v0, v1, v2] := by cases args; simp_all
  obtain ⟨rfl, rfl⟩ := trodVars_none hV
  obtain ⟨a0, rfl, w0⟩ := open_seg (hval 0 28 v0 rfl rfl) h0
  have k0 := h0
  have lt0 : ∀ x ∈ p0, x.block < W.heap.size := by obtain ⟨m, hm⟩ := k0; exact DataW.trod_lt m _ _ _ hm
  obtain ⟨a1, rfl, rfl, rfl, w1⟩ := open_string Try.underlying9 (hval 1 9 v1 rfl rfl) h1
  obtain ⟨a2, rfl, rfl, rfl, w2⟩ := open_int Try.underlying3 (hval 2 3 v2 rfl rfl) h2
  clear hA0 hval0
  refine (walk a0 a1 a2 w0 w1 w2 W).mono fun e W' ⟨he, bel⟩ => ?_
  subst he
  exact ⟨_, rfl, _, _, _, [], _, [], hW', trodAll_mk1 (shut_bool Try.underlying4 _), (trodAll_cons_mk (Below.trod laidOut (by kernel_rfl) (of_decide_eq_true (by kernel_rfl)) k0 bel lt0) (trodAll_cons_mk (shut_string Try.underlying9 w1) (trodAll_cons_mk (shut_int Try.underlying3 w2) trodAll_mk0))), rfl, bel.frame _, fun h => by cases h⟩

/-- THE STATEMENT. -/
theorem proved : Rows.ConnNobodySaid :=
  OpenClaim.holds_of_wide 4 Try.f4 rfl rfl rfl rfl rfl rfl rfl ⟨rfl, rfl, rfl, rfl, rfl⟩ rfl rfl rfl rfl rfl (by kernel_rfl) Try.func4 (by kernel_rfl)
    (of_decide_eq_true (by kernel_rfl)) (by unfold Func.isWrapper; first | (rw [if_pos (by decide +kernel)]; kernel_rfl) | (rw [if_neg (by decide +kernel)]; exact ⟨rfl, rfl⟩))
    (fun os started H enc _ => lifted os started H enc)
#print axioms proved

end Go.Proofs.Ytlajalfalepbhaa.con
