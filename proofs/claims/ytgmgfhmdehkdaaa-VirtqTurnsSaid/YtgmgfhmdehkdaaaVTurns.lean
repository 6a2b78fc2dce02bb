/-
  VirtqTurns: indices that go round behind 65535 go on. (A closed statement: no conditions.)
-/
import Derived.Test.YtgmgfhmdehkdaaaVFacts
import Derived.ProofKit
import Derived.OpenShut
import Derived.ShutString
import Derived.ChangeOld
import Derived.Below
namespace Go.Proofs.Ytgmgfhmdehkdaaa.vturns
open Go.ChangeShapes Go.WideShapes Go.ChangeAt Go.RowKit Go.Sort
open Go.ChangeMaps (open_string shut_string)
set_option linter.unusedVariables false

theorem own : ownKnob Try.prog.godebug = none := by kernel_rfl

set_option maxRecDepth 100000 in
set_option maxHeartbeats 6400000 in
theorem walk (w : World) :
    Calls Try.prog 9 #[] w fun e w' => e = .returned (.bool true) ∧ Below w.heap.size w w' := by
  go_enter Try.func9, Try.ntmps9
  go_wp2_with fail
  refine (vawake_any w).mono ?_
  rintro e w1 ⟨rfl, b1⟩
  go_wp2_with fail
  refine (New_ok w1 1024 (by omega) (by omega)).mono ?_
  rintro e w2 ⟨rfl, m2, k2⟩
  have z2 : (List.replicate (1024 : Int).toNat (0 : UInt8)).length = 1024 := by rw [List.length_replicate]; rfl
  generalize List.replicate (1024 : Int).toNat (0 : UInt8) = L2 at m2 z2
  have b2 := b1.grown k2 b1.size (fun j e => by cases e)
  have B1 := b1.size
  clear k2 b1
  obtain ⟨g, hg⟩ : ∃ g, g = w1.heap.size + 1 := ⟨_, rfl⟩
  obtain ⟨h, hh⟩ : ∃ h, h = w1.heap.size := ⟨_, rfl⟩
  rw [← hg, ← hh] at m2
  rw [← hg]
  have hB : w.heap.size ≤ h := by omega
  clear hg hh B1
  go_wp2_with fail
  refine wp_loop_rounds 3 ?_
  rw [rounds_succ]
  go_wp2_with fail
  refine (vNew_ok w2 g h L2 m2 0 1 (by rw [z2]; omega) (by rw [z2]; omega) (by omega) (by omega) (by rw [z2]; decide +kernel)).mono ?_
  rintro e u1n1 ⟨qn1, mbn1, rfl, hqn1, hmbn1, qan1, tan1, man1, ttn1⟩
  go_wp2_with fail
  refine (Open_ok u1n1 g h _ man1 0 1 (by rw [wipeL_length, z2]; omega) (by rw [wipeL_length, z2]; omega) (by omega) (by omega) (by rw [wipeL_length, z2]; decide +kernel)).mono ?_
  rintro e u2n1 ⟨pn1, rfl, hpn1, pan1, kan1⟩
  have sn1 : TS u2n1 qn1 pn1 g h (wipeL L2 0 (1 : Nat)) 1 mbn1 [] 0 0 0 0 := ts_made (man1.same kan1) z2 (qan1.kept (kan1.block _ (lt_of_block qan1) (by simp))) (tan1.kept (kan1.block _ tan1.lt (by simp))) pan1 (by decide +kernel) (by decide +kernel)
  have hzn1 : w.heap.size ≤ w2.heap.size ∧ w2.heap.size ≤ u1n1.heap.size := ⟨b2.size, ttn1.size⟩
  have beln1 : Below w.heap.size w u2n1 := (b2.trans (ttn1.below b2.size (by rintro k rfl; exact hB))).trans ((Below.of_none kan1).mono (by omega))
  have sincen1 : Since w.heap.size qn1 pn1 h mbn1 := ⟨by omega, by omega, hB, by omega⟩
  clear m2 b2 qan1 tan1 man1 ttn1 pan1 kan1 hzn1 hqn1 hmbn1 hpn1 z2
  go_wp2_with fail
  go_loopw [8] (fun iv wr => ∃ (k : Nat) (L : List UInt8), k ≤ 70001 ∧ iv = .int .i64 k ∧ TS wr qn1 pn1 g h L 1 mbn1 [] ((k : Int) % 65536) ((k : Int) % 65536) ((k : Int) % 65536) ((k : Int) % 65536) ∧ Below w.heap.size w wr) (fun iv _ => 70002 - (intOf iv).toNat)
  case atStart => exact ⟨0, _, by omega, rfl, sn1, beln1⟩
  case round =>
    obtain ⟨k, L, hk, rfl, s0, bel0⟩ := hrel
    clear sn1 beln1
    by_cases hlt : k < 70000
    · obtain ⟨o, ho⟩ : ∃ o : Int, o = (k : Int) % 65536 := ⟨_, rfl⟩
      have o0 : 0 ≤ o := by omega
      have o1 : o < 65536 := by omega
      rw [← ho] at s0
      have HO := Lib.hid ho
      clear ho
      have hd : decide ((k : Int) < 70000) = true := decide_eq_true (by omega)
      go_wp2_with fail
      refine wp_loop_rounds 2 ?_
      rw [rounds_succ]
      go_wp2_with fail
      refine (s0.add 0 512 1 [] (show freeL ([] : List Ch) 1 = [0] from by decide +kernel) (by omega) (by omega) (by omega)).mono ?_
      rintro e wa0 ⟨x0, LA0, rfl, hx0, sa0', F0, ta0⟩
      obtain ⟨xc0, xb0, xk0⟩ := x0
      simp only at hx0
      subst hx0
      have ba0 := sincen1.qb (bel0.alloc bel0.size (.cells #[.int .i64 512, .int .i64 1, .bool true] 35)) ta0 (bel0.alloc bel0.size (.cells #[.int .i64 512, .int .i64 1, .bool true] 35)).size
      have sa0 : TS wa0 qn1 pn1 g h LA0 1 mbn1 [⟨⟨0, [0], 1⟩, xb0, xk0⟩] ((o + 1) % 65536) o o o := sa0'
      clear sa0' ta0 s0 bel0
      go_wp2_with fail
      rw [rounds_succ]
      go_wp2_with fail
      refine wp_loop_rounds 2 ?_
      rw [rounds_succ]
      go_wp2_with fail
      refine (sa0.next 0 512 1 (by omega) (by omega) F0.head (by omega) F0.dsc (by omega) (by omega) (by omega)).mono ?_
      rintro e wn0 ⟨nb0, no0, nc0, rfl, hc0, sn0, tn0⟩
      have bn0 := sincen1.pb ba0 tn0 ba0.size
      clear tn0 sa0 ba0
      go_wp2_with fail
      rw [rounds_succ]
      go_wp2_with fail
      refine wp_loop_rounds 2 ?_
      rw [rounds_succ]
      go_wp2_with fail
      refine (sn0.done 0 1 (by omega) (by omega) (by omega) (by omega)).mono ?_
      rintro e wd0 ⟨LD0, rfl, sd0, hn0, hl0, td0⟩
      have bd0 := sincen1.pb bn0 td0 bn0.size
      clear td0 sn0 bn0
      go_wp2_with fail
      refine (sd0.pop 0 1 (by omega) (by simp only [List.length_cons, List.length_nil]; omega) hn0 hl0 ⟨_, List.mem_singleton.2 rfl, rfl⟩ (by intro x hx _; rw [List.mem_singleton] at hx; subst hx; exact Int.le_refl _)).mono ?_
      rintro e wp0 ⟨rfl, sp0', tp0⟩
      have bp0 := sincen1.qb bd0 tp0 bd0.size
      have sp0 : TS wp0 qn1 pn1 g h LD0 1 mbn1 [] ((o + 1) % 65536) ((o + 1) % 65536) ((o + 1) % 65536) ((o + 1) % 65536) := sp0'
      clear sp0' tp0 sd0 bd0 hn0 hl0
      go_wp2_with fail
      rw [rounds_succ]
      go_wp2_with fail
      go_roundw
      case rel =>
        have e1 : ((k + 1 : Nat) : Int) % 65536 = ((o + 1) % 65536) := by have := HO.out; omega
        exact ⟨k + 1, LD0, by omega, by go_num, by rw [e1]; exact sp0, bp0⟩
      case measure => simp [intOf]; omega
    · have hd : decide ((k : Int) < 70000) = false := decide_eq_false (by omega)
      go_wp2_with fail
      refine (s0.pop_none rfl).mono ?_
      rintro e v1n1 ⟨rfl, s1n1, k1n1⟩
      have b1n1 := bel0.grown k1n1 bel0.size (fun j e => by cases e)
      clear k1n1 s0 bel0
      have FCn1 := Lib.hid (vFree_any v1n1 qn1 _ 0 1 mbn1 _ _ _ s1n1.both.qs.at_ _ s1n1.both.qs.tab s1n1.both.qs.nums (by omega))
      rw [show (freeL (([] : List Oc).map Oc.c) 1).length = 1 from by decide +kernel] at FCn1
      go_wp2_with fail
      refine FCn1.out.mono ?_
      rintro e v2n1 ⟨rfl, k2n1⟩
      have s2n1 := s1n1.grown k2n1
      have b2n1 := b1n1.grown k2n1 b1n1.size (fun j e => by cases e)
      clear FCn1 k2n1 s1n1 b1n1
      have m2n1 := s2n1.both.qs.mem
      have z2n1 := s2n1.len
      go_wp2_with fail
      rw [rounds_succ]
      go_wp2_with fail
      refine (vNew_ok v2n1 g h L m2n1 0 2 (by rw [z2n1]; omega) (by rw [z2n1]; omega) (by omega) (by omega) (by rw [z2n1]; decide +kernel)).mono ?_
      rintro e u1n2 ⟨qn2, mbn2, rfl, hqn2, hmbn2, qan2, tan2, man2, ttn2⟩
      go_wp2_with fail
      refine (Open_ok u1n2 g h _ man2 0 2 (by rw [wipeL_length, z2n1]; omega) (by rw [wipeL_length, z2n1]; omega) (by omega) (by omega) (by rw [wipeL_length, z2n1]; decide +kernel)).mono ?_
      rintro e u2n2 ⟨pn2, rfl, hpn2, pan2, kan2⟩
      have sn2 : TS u2n2 qn2 pn2 g h (wipeL L 0 (2 : Nat)) 2 mbn2 [] 0 0 0 0 := ts_made (man2.same kan2) z2n1 (qan2.kept (kan2.block _ (lt_of_block qan2) (by simp))) (tan2.kept (kan2.block _ tan2.lt (by simp))) pan2 (by decide +kernel) (by decide +kernel)
      have hzn2 : w.heap.size ≤ v2n1.heap.size ∧ v2n1.heap.size ≤ u1n2.heap.size := ⟨b2n1.size, ttn2.size⟩
      have beln2 : Below w.heap.size w u2n2 := (b2n1.trans (ttn2.below b2n1.size (by rintro k rfl; exact hB))).trans ((Below.of_none kan2).mono (by omega))
      have sincen2 : Since w.heap.size qn2 pn2 h mbn2 := ⟨by omega, by omega, hB, by omega⟩
      clear m2n1 b2n1 qan2 tan2 man2 ttn2 pan2 kan2 hzn2 hqn2 hmbn2 hpn2 z2n1
      go_wp2_with fail
      go_loopw [8] (fun iv wr => ∃ (k : Nat) (L : List UInt8), k ≤ 70001 ∧ iv = .int .i64 k ∧ TS wr qn2 pn2 g h L 2 mbn2 [] ((k : Int) % 65536) ((k : Int) % 65536) ((k : Int) % 65536) ((k : Int) % 65536) ∧ Below w.heap.size w wr) (fun iv _ => 70002 - (intOf iv).toNat)
      case atStart => exact ⟨0, _, by omega, rfl, sn2, beln2⟩
      case round =>
        obtain ⟨k, L, hk, rfl, s0, bel0⟩ := hrel
        clear sn2 beln2
        by_cases hlt : k < 70000
        · obtain ⟨o, ho⟩ : ∃ o : Int, o = (k : Int) % 65536 := ⟨_, rfl⟩
          have o0 : 0 ≤ o := by omega
          have o1 : o < 65536 := by omega
          rw [← ho] at s0
          have HO := Lib.hid ho
          clear ho
          have hd : decide ((k : Int) < 70000) = true := decide_eq_true (by omega)
          go_wp2_with fail
          refine wp_loop_rounds 3 ?_
          rw [rounds_succ]
          go_wp2_with fail
          refine (s0.add 0 512 1 [1] (show freeL ([] : List Ch) 2 = [0, 1] from by decide +kernel) (by omega) (by omega) (by omega)).mono ?_
          rintro e wa0 ⟨x0, LA0, rfl, hx0, sa0', F0, ta0⟩
          obtain ⟨xc0, xb0, xk0⟩ := x0
          simp only at hx0
          subst hx0
          have ba0 := sincen2.qb (bel0.alloc bel0.size (.cells #[.int .i64 512, .int .i64 1, .bool true] 35)) ta0 (bel0.alloc bel0.size (.cells #[.int .i64 512, .int .i64 1, .bool true] 35)).size
          have sa0 : TS wa0 qn2 pn2 g h LA0 2 mbn2 [⟨⟨0, [0], 1⟩, xb0, xk0⟩] ((o + 1) % 65536) o o o := sa0'
          clear sa0' ta0 s0 bel0
          go_wp2_with fail
          rw [rounds_succ]
          go_wp2_with fail
          refine (sa0.add 1 513 2 [] (show freeL ([⟨0, [0], 1⟩] : List Ch) 2 = [1] from by decide +kernel) (by omega) (by omega) (by omega)).mono ?_
          rintro e wa1 ⟨x1, LA1, rfl, hx1, sa1', F1, ta1⟩
          obtain ⟨xc1, xb1, xk1⟩ := x1
          simp only at hx1
          subst hx1
          have ba1 := sincen2.qb (ba0.alloc ba0.size (.cells #[.int .i64 513, .int .i64 2, .bool true] 35)) ta1 (ba0.alloc ba0.size (.cells #[.int .i64 513, .int .i64 2, .bool true] 35)).size
          have sa1 : TS wa1 qn2 pn2 g h LA1 2 mbn2 [⟨⟨0, [0], 1⟩, xb0, xk0⟩, ⟨⟨1, [1], 2⟩, xb1, xk1⟩] ((((o + 1) % 65536) + 1) % 65536) o o o := sa1'
          clear sa1' ta1 sa0 ba0
          go_wp2_with fail
          rw [rounds_succ]
          go_wp2_with fail
          refine wp_loop_rounds 3 ?_
          rw [rounds_succ]
          go_wp2_with fail
          refine (sa1.next 0 512 1 (by omega) (by omega) ((F1.heads o (by omega)).trans F0.head) (by omega) ((F1.dscs 0 (by omega) (by omega)).trans F0.dsc) (by omega) (by omega) (by omega)).mono ?_
          rintro e wn0 ⟨nb0, no0, nc0, rfl, hc0, sn0, tn0⟩
          have bn0 := sincen2.pb ba1 tn0 ba1.size
          clear tn0 sa1 ba1
          go_wp2_with fail
          rw [rounds_succ]
          go_wp2_with fail
          refine (sn0.next 1 513 2 (by omega) (by omega) F1.head (by omega) F1.dsc (by omega) (by omega) (by omega)).mono ?_
          rintro e wn1 ⟨nb1, no1, nc1, rfl, hc1, sn1, tn1⟩
          have bn1 := sincen2.pb bn0 tn1 bn0.size
          clear tn1 sn0 bn0
          go_wp2_with fail
          rw [rounds_succ]
          go_wp2_with fail
          refine wp_loop_rounds 3 ?_
          rw [rounds_succ]
          go_wp2_with fail
          refine (sn1.done 1 2 (by omega) (by omega) (by omega) (by omega)).mono ?_
          rintro e wd1 ⟨LD1, rfl, sd1, hn1, hl1, td1⟩
          have bd1 := sincen2.pb bn1 td1 bn1.size
          clear td1 sn1 bn1
          go_wp2_with fail
          refine (sd1.pop 1 2 (by omega) (by simp only [List.length_cons, List.length_nil]; omega) hn1 hl1 ⟨_, List.mem_cons_of_mem _ (List.mem_singleton.2 rfl), rfl⟩ (by intro x hx hy; rcases List.mem_cons.1 hx with rfl | hx; exact absurd hy (show ¬ ((0 : Int) = 1) by decide); rw [List.mem_singleton] at hx; subst hx; exact Int.le_refl _)).mono ?_
          rintro e wp1 ⟨rfl, sp1', tp1⟩
          have bp1 := sincen2.qb bd1 tp1 bd1.size
          have sp1 : TS wp1 qn2 pn2 g h LD1 2 mbn2 [⟨⟨0, [0], 1⟩, xb0, xk0⟩] ((((o + 1) % 65536) + 1) % 65536) ((o + 1) % 65536) ((((o + 1) % 65536) + 1) % 65536) ((o + 1) % 65536) := sp1'
          clear sp1' tp1 sd1 bd1 hn1 hl1
          go_wp2_with fail
          rw [rounds_succ]
          go_wp2_with fail
          refine (sp1.done 0 1 (by omega) (by omega) (by omega) (by omega)).mono ?_
          rintro e wd0 ⟨LD0, rfl, sd0, hn0, hl0, td0⟩
          have bd0 := sincen2.pb bp1 td0 bp1.size
          clear td0 sp1 bp1
          go_wp2_with fail
          refine (sd0.pop 0 1 (by omega) (by simp only [List.length_cons, List.length_nil]; omega) hn0 hl0 ⟨_, List.mem_singleton.2 rfl, rfl⟩ (by intro x hx _; rw [List.mem_singleton] at hx; subst hx; exact Int.le_refl _)).mono ?_
          rintro e wp0 ⟨rfl, sp0', tp0⟩
          have bp0 := sincen2.qb bd0 tp0 bd0.size
          have sp0 : TS wp0 qn2 pn2 g h LD0 2 mbn2 [] ((((o + 1) % 65536) + 1) % 65536) ((((o + 1) % 65536) + 1) % 65536) ((((o + 1) % 65536) + 1) % 65536) ((((o + 1) % 65536) + 1) % 65536) := sp0'
          clear sp0' tp0 sd0 bd0 hn0 hl0
          go_wp2_with fail
          rw [rounds_succ]
          go_wp2_with fail
          go_roundw
          case rel =>
            have e1 : ((k + 2 : Nat) : Int) % 65536 = ((((o + 1) % 65536) + 1) % 65536) := by have := HO.out; omega
            exact ⟨k + 2, LD0, by omega, by go_num, by rw [e1]; exact sp0, bp0⟩
          case measure => simp [intOf]; omega
        · have hd : decide ((k : Int) < 70000) = false := decide_eq_false (by omega)
          go_wp2_with fail
          refine (s0.pop_none rfl).mono ?_
          rintro e v1n2 ⟨rfl, s1n2, k1n2⟩
          have b1n2 := bel0.grown k1n2 bel0.size (fun j e => by cases e)
          clear k1n2 s0 bel0
          have FCn2 := Lib.hid (vFree_any v1n2 qn2 _ 0 2 mbn2 _ _ _ s1n2.both.qs.at_ _ s1n2.both.qs.tab s1n2.both.qs.nums (by omega))
          rw [show (freeL (([] : List Oc).map Oc.c) 2).length = 2 from by decide +kernel] at FCn2
          go_wp2_with fail
          refine FCn2.out.mono ?_
          rintro e v2n2 ⟨rfl, k2n2⟩
          have s2n2 := s1n2.grown k2n2
          have b2n2 := b1n2.grown k2n2 b1n2.size (fun j e => by cases e)
          clear FCn2 k2n2 s1n2 b1n2
          have m2n2 := s2n2.both.qs.mem
          have z2n2 := s2n2.len
          go_wp2_with fail
          rw [rounds_succ]
          go_wp2_with fail
          go_ret
          exact ⟨rfl, b2n2⟩

set_option maxRecDepth 100000 in
theorem lifted (os : Os) (started : os.Started) (H : Type) (enc : TypeId × Value → H) :
    ReturnsInHanded {} Try.checked os 9 .any (Rows.virtqTurnsSpec.pre6 enc Try.prog Try.f9 Rows.virtqTurnsRow.domain false) (Rows.virtqTurnsSpec.post enc Try.prog Try.f9 false true false false) := by
  refine returnsInHanded_of_change (C := Try.checked) own started (by kernel_rfl) Try.func9
    (ChangeSpec.witness6 (enc := enc) (C := Try.checked) false ⟨#[], #[], []⟩ 8 (by kernel_rfl) (by kernel_rfl) (by kernel_rfl) (by kernel_rfl)) ?_
  intro W base args ds gs before hval0 hW hcnd _
  have hval : ∀ (j : Nat) t v, Try.f9.params[j]? = some t → args[j]? = some v → Value.okWide Try.prog W .any base t v := hval0
  have hW' := hW
  obtain ⟨p, q, hA0, hV, rfl, hfz, hnd⟩ := hW
  have hA : DataW.TrodAll enc Try.prog W 0 (fun _ => true) true Try.f9.params.toList args.toList ds p := hA0
  rw [Try.params9] at hA hval
  obtain ⟨rfl, rfl, rfl⟩ := trodAll_none hA
  obtain ⟨rfl, rfl⟩ := trodVars_none hV
  clear hA0 hval0
  refine (walk W).mono fun e W' ⟨he, bel⟩ => ?_
  subst he
  exact ⟨_, rfl, _, _, _, [], _, [], hW', trodAll_mk1 (shut_bool Try.underlying4 _), trodAll_mk0, rfl, bel.frame _, fun h => by cases h⟩

/-- THE STATEMENT. -/
theorem proved : Rows.VirtqTurnsSaid :=
  OpenClaim.holds_of_wide 9 Try.f9 rfl rfl rfl rfl rfl rfl rfl ⟨rfl, rfl, rfl, rfl, rfl⟩ rfl rfl rfl rfl rfl (by kernel_rfl) Try.func9 (by kernel_rfl)
    (of_decide_eq_true (by kernel_rfl)) (by unfold Func.isWrapper; first | (rw [if_pos (by decide +kernel)]; kernel_rfl) | (rw [if_neg (by decide +kernel)]; exact ⟨rfl, rfl⟩))
    (fun os started H enc _ => lifted os started H enc)
#print axioms proved

end Go.Proofs.Ytgmgfhmdehkdaaa.vturns
