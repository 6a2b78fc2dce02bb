/-
  VirtqKnown: the chapter's examples. (A closed statement: no conditions.)
-/
import Derived.Test.YtgmgfhmdehkdaaaAwake
import Derived.ProofKit
import Derived.OpenShut
import Derived.ShutString
import Derived.ChangeOld
import Derived.Below
namespace Go.Proofs.Ytgmgfhmdehkdaaa.vknown
open Go.ChangeShapes Go.WideShapes Go.ChangeAt Go.RowKit Go.Sort
open Go.ChangeMaps (open_string shut_string)
set_option linter.unusedVariables false

theorem own : ownKnob Try.prog.godebug = none := by kernel_rfl

def aM3 : List UInt8 := vdoneL aM2 0 (4 : Nat) 1 3 0
def aM4 : List UInt8 := wipeL aM3 0 (4 : Nat)
theorem a3_usedI : usedI aM3 0 4 = 2 := by decide +kernel
theorem a4_usedI : usedI aM4 0 4 = 0 := by decide +kernel
theorem a4_arg : refuseE aM4 [] 4 = 1 := by decide +kernel
theorem a4_range : refuseE aM4 [⟨4090, 16, false⟩] 4 = 13 := by decide +kernel
theorem a4_full : refuseE aM4 [⟨0, 1, false⟩, ⟨0, 1, false⟩, ⟨0, 1, false⟩, ⟨0, 1, false⟩, ⟨0, 1, false⟩] 4 = 6 := by decide +kernel
theorem a4_order : refuseE aM4 [⟨0, 1, true⟩, ⟨0, 1, false⟩] 4 = 1 := by decide +kernel
theorem b4 : bytesOf 4 = 112 := by decide +kernel
theorem b3 : bytesOf 3 = 0 := by decide +kernel
theorem b64 : bytesOf 64 = 1672 := by decide +kernel

theorem qs_made {w : World} {q g h : Nat} {l : List UInt8} {base : Int} {n mb : Nat} (m : Mem w g h (wipeL l base n)) (hl : l.length ≤ 65536) (hq : QAt w q g base n (some mb) 0 0 false) (hb : IsTab w mb []) (b0 : 0 ≤ base) (b1 : base + bytesOf n ≤ l.length) (hs : isSize n) :
    QS w q g h (wipeL l base n) base n mb [] 0 0 false :=
  ⟨m, by rw [wipeL_length]; exact hl, hq, hb, (fun x hx => by cases hx), (fun x hx => by cases hx), (fun x hx => by cases hx), b0, by rw [wipeL_length]; exact b1, hs, by omega, by omega, by omega, by omega⟩
theorem a3_len : aM3.length = 4096 := by unfold aM3 aM2 aM1; rw [vdoneL_length, vdoneL_length, addL_length, a_len]

/-- A refused Add behind the Reset. -/
theorem add_no {w : World} {q g h mb : Nat} (s : QS w q g h aM4 0 4 mb [] 0 0 false) (v : Value) (l : List Bf) (hv : IsBufs w v l) (hb : ∀ x ∈ l, x.n ≤ 9223372036854775807) (E : Int) (hE : refuseE aM4 l 4 = E) (hz : (E == 0) = false) :
    Calls Try.prog 13 #[.pointer (some ⟨q, 0, none⟩), v] w fun e w' => e = .returned (.tuple #[.int .i64 0, .int .i64 E]) ∧ w.grownBy w' none :=
  Add_err w q g h aM4 0 4 mb [] 0 0 s v l hv hb E (by show refuseE aM4 l (freeL [] 4).length = E; rw [a_free]; exact hE) hz

set_option maxRecDepth 100000 in
set_option maxHeartbeats 3200000 in
theorem walk (w : World) :
    Calls Try.prog 3 #[] w fun e w' => e = .returned (.bool true) ∧ Below w.heap.size w w' := by
  go_enter Try.func3, Try.ntmps3
  go_wp2_with fail
  refine (New_ok w 4096 (by omega) (by omega)).mono ?_
  rintro e w1 ⟨rfl, m1, k1⟩
  have z0 : (List.replicate (4096 : Int).toNat (0 : UInt8)).length = 4096 := by rw [List.length_replicate]; rfl
  go_wp2_with fail
  refine (vNew_ok w1 _ _ _ m1 0 4 (by rw [z0]; omega) (by rw [z0]; omega) (by omega) (by omega) (a_bar _ z0)).mono ?_
  rintro e w2 ⟨q, mb, rfl, hq, hmb, q2, b2, m2, t2⟩
  change Mem w2 _ _ aM at m2
  go_wp2_with fail
  refine (Open_ok w2 _ _ _ m2 0 4 (by rw [a_len]; omega) (by rw [a_len]; omega) (by omega) (by omega) (a_bar _ a_len)).mono ?_
  rintro e w3 ⟨p, rfl, hp, p3, k3⟩
  have s3 : Both w3 q p (w.heap.size + 1) w.heap.size aM 0 4 mb [] 0 0 false 0 0 :=
    both_made (m2.same k3) (by rw [z0]; omega) (q2.kept (k3.block _ (lt_of_block q2) (by simp))) (b2.kept (k3.block _ b2.lt (by simp))) p3 (by omega) (by rw [z0]; decide +kernel) (by decide +kernel)
  have bel3 : Below w.heap.size w w3 := ((Below.of_none k1).trans (t2.below k1.size (by rintro k rfl; omega))).trans ((Below.of_none k3).mono (by have := k1.size; have := t2.size; omega))
  have hz : w.heap.size ≤ w1.heap.size ∧ w1.heap.size ≤ w2.heap.size := ⟨k1.size, t2.size⟩
  have since : Since w.heap.size q p w.heap.size mb := ⟨by omega, by omega, by omega, by omega⟩
  clear m1 k1 q2 b2 m2 t2 p3 k3 hz hq hmb hp
  go_wp2_with fail
  have k4 := World.grownBy_alloc w3 (.cells #[.int .i64 256, .int .i64 16, .bool false, .int .i64 512, .int .i64 64, .bool true] 35) none
  have hv4 : IsBufs (w3.alloc (.cells #[.int .i64 256, .int .i64 16, .bool false, .int .i64 512, .int .i64 64, .bool true] 35)) (.slice (some ⟨w3.heap.size, 0, none⟩) 2 2) aL := bufs_new w3 aL 35 2 (by decide)
  have s4 := s3.grown k4
  have bel4 := bel3.alloc bel3.size (.cells #[.int .i64 256, .int .i64 16, .bool false, .int .i64 512, .int .i64 64, .bool true] 35)
  have AC := Lib.hid (Add_ok _ q _ _ aM 0 4 mb [] 0 0 s4.qs _ aL hv4 (by intro x hx; simp [aL] at hx; rcases hx with rfl | rfl <;> decide) (by show refuseE aM aL (freeL [] 4).length = 0; rw [a_free]; exact a_refuse))
  clear hv4 k4
  refine AC.out.mono ?_
  rintro e w5 ⟨x, rfl, hx, q5, t5⟩
  have hch : newCh [] 4 aL = ⟨0, [0, 1], 64⟩ := by unfold newCh; rw [show List.map Oc.c [] = [] from rfl, a_free]; rfl
  rw [hch] at hx
  obtain ⟨xc, xb, xk⟩ := x
  simp only at hx
  subst hx
  have s5 : Both w5 q p (w.heap.size + 1) w.heap.size aM1 0 4 mb [⟨⟨0, [0, 1], 64⟩, xb, xk⟩] 1 0 false 0 0 := s4.driver q5 t5 (by unfold aM1; rw [addL_length])
  have bel5 := since.qb bel4 t5 bel4.size
  have FC := Lib.hid (vFree_any w5 q _ 0 4 mb _ _ _ s5.qs.at_ _ s5.qs.tab s5.qs.nums (by omega))
  rw [show (freeL (([⟨⟨0, [0, 1], 64⟩, xb, xk⟩] : List Oc).map Oc.c) 4).length = 2 from by show (freeL [⟨0, [0, 1], 64⟩] 4).length = 2; decide +kernel] at FC
  clear AC q5 t5 s4 s3 bel3 bel4 hch
  go_wp2_with fail
  refine FC.out.mono ?_
  rintro e v5 ⟨rfl, k5⟩
  have s5' := s5.grown k5
  have bel5' := bel5.grown k5 bel5.size (fun j e => by cases e)
  clear FC k5 s5 bel5
  go_wp2_with fail
  refine (vNext_any v5 p _ _ aM1 0 4 0 0 s5'.ps).mono ?_
  intro e w6 hN
  rcases hN with ⟨h1, _⟩ | ⟨_, h1, _⟩ | ⟨l, v, _, _, h1, rfl, hv, p6, k6⟩
  · rw [a_offI] at h1; exact absurd h1 (by decide)
  · rw [a_offI, a_offHead] at h1
    rcases h1 with h1 | h1
    · exact absurd h1 (by decide)
    · have := a_follow; rw [h1] at this; cases this
  obtain ⟨vp, vc, rfl, _⟩ := hv
  have s6 := s5'.device p6 (Turned.of k6 (fun j e => .inr (by injection e with e; exact e.symm))) rfl
  have bel6 := since.pb bel5' (Turned.of (S := fun k => k = w.heap.size ∨ k = p) k6 (fun j e => .inr (by injection e with e; exact e.symm))) bel5'.size
  clear h1 p6 k6 s5' bel5'
  go_wp2_with fail
  refine (vDone_any w6 p _ _ aM1 0 4 _ 0 s6.ps 0 64 (by omega) (by omega) (by omega) (by omega)).mono ?_
  rintro e w7 ⟨rfl, p7, t7⟩
  have s7 : Both w7 q p (w.heap.size + 1) w.heap.size aM2 0 4 mb [⟨⟨0, [0, 1], 64⟩, xb, xk⟩] 1 0 false 1 1 := s6.device p7 t7 (by unfold aM2; rw [vdoneL_length])
  have bel7 := since.pb bel6 t7 bel6.size
  clear p7 t7 s6 bel6
  go_wp2_with fail
  refine (Pop_any w7 q _ _ aM2 0 4 mb _ 1 0 s7.qs).mono ?_
  intro e w8 hP
  rcases hP with ⟨h1, _⟩ | ⟨_, h1, _⟩ | ⟨y, hy, _, _, _, _, rfl, q8, t8⟩
  · rw [a_usedI] at h1; exact absurd h1 (by decide)
  · rw [a_usedI, a_usedNum, a_usedLen] at h1
    rcases h1 with h1 | h1 | ⟨y, hy, _, h1⟩
    · exact absurd h1 (show ¬ ((1 : Int) < (1 - 0) % 65536) by decide)
    · exact absurd rfl (h1 _ (List.mem_singleton.2 rfl))
    · rw [List.mem_singleton] at hy; subst hy; exact absurd h1 (show ¬ ((64 : Int) < 64) by decide)
  rw [a_usedNum] at q8
  have q8' : QS w8 q (w.heap.size + 1) w.heap.size aM2 0 4 mb [] 1 1 false := q8
  have s8 : Both w8 q p (w.heap.size + 1) w.heap.size aM2 0 4 mb [] 1 1 false 1 1 := s7.driver q8' t8 rfl
  have bel8 := since.qb bel7 t8 bel7.size
  clear hy q8 q8' t8 s7 bel7
  go_wp2_with fail
  refine (Pop_any w8 q _ _ aM2 0 4 mb _ 1 1 s8.qs).mono ?_
  intro e w9 hP
  rcases hP with ⟨_, rfl, k9⟩ | ⟨h1, _⟩ | ⟨y, hy, _⟩
  rotate_left
  · rw [a_usedI] at h1; exact absurd rfl h1
  · cases hy
  have s9 := s8.grown k9
  have bel9 := bel8.grown k9 bel8.size (fun j e => by cases e)
  clear k9 s8 bel8
  go_wp2_with fail
  refine (vDone_any w9 p _ _ aM2 0 4 _ 1 s9.ps 3 0 (by omega) (by omega) (by omega) (by omega)).mono ?_
  rintro e w10 ⟨rfl, p10, t10⟩
  have s10 : Both w10 q p (w.heap.size + 1) w.heap.size aM3 0 4 mb [] 1 1 false 1 2 := s9.device p10 t10 (by unfold aM3; rw [vdoneL_length])
  have bel10 := since.pb bel9 t10 bel9.size
  clear p10 t10 s9 bel9
  go_wp2_with fail
  refine (Pop_any w10 q _ _ aM3 0 4 mb _ 1 1 s10.qs).mono ?_
  intro e w11 hP
  rcases hP with ⟨h1, _⟩ | ⟨_, _, rfl, q11, t11⟩ | ⟨y, hy, _⟩
  · rw [a3_usedI] at h1; exact absurd h1 (by decide)
  rotate_left
  · cases hy
  have bel11 := since.qb bel10 t11 bel10.size
  clear t11 s10 bel10
  go_wp2_with fail
  refine (Pop_broken w11 q _ 0 4 _ _ _ q11.at_).mono ?_
  rintro e w12 ⟨rfl, rfl⟩
  go_wp2_with fail
  refine (Broken_any w11 q _ 0 4 _ _ _ true q11.at_).mono ?_
  rintro e w12 ⟨rfl, rfl⟩
  go_wp2_with fail
  refine (Reset_any w11 q _ _ aM3 q11.mem 0 4 _ _ _ true q11.at_ q11.len (by omega)).mono ?_
  rintro e w13 ⟨rfl, mb2, hm2, q13, b13, m13, t13⟩
  have s13 : QS w13 q (w.heap.size + 1) w.heap.size aM4 0 4 mb2 [] 0 0 false := qs_made m13 q11.len q13 b13 (by omega) (by rw [a3_len]; decide +kernel) (by decide +kernel)
  have bel13 := bel11.trans (t13.below bel11.size (by rintro k (rfl | rfl); exact since.2.2.1; exact since.1))
  clear q11 hm2 q13 b13 m13 t13 bel11 since
  go_wp2_with fail
  refine (Pop_any w13 q _ _ aM4 0 4 mb2 _ 0 0 s13).mono ?_
  intro e w14 hP
  rcases hP with ⟨_, rfl, k14⟩ | ⟨h1, _⟩ | ⟨y, hy, _⟩
  rotate_left
  · rw [a4_usedI] at h1; exact absurd rfl h1
  · cases hy
  have s14 := s13.grown k14
  have bel14 := bel13.grown k14 bel13.size (fun j e => by cases e)
  clear k14 s13 bel13
  go_wp2_with fail
  refine (add_no s14 _ [] (bufs_nil w14) (fun x hx => by cases hx) 1 a4_arg rfl).mono ?_
  rintro e w15 ⟨rfl, k15⟩
  have s15 := s14.grown k15
  have bel15 := bel14.grown k15 bel14.size (fun j e => by cases e)
  clear k15 s14 bel14
  go_wp2_with fail
  have s16 := s15.grown (World.grownBy_alloc w15 (.cells #[.int .i64 4090, .int .i64 16, .bool false] 35) none)
  have bel16 := bel15.alloc bel15.size (.cells #[.int .i64 4090, .int .i64 16, .bool false] 35)
  refine (add_no s16 _ [⟨4090, 16, false⟩] (bufs_new w15 [⟨4090, 16, false⟩] 35 1 (by decide)) (by intro x hx; simp at hx; subst hx; decide) 13 a4_range rfl).mono ?_
  rintro e w17 ⟨rfl, k17⟩
  have s17 := s16.grown k17
  have bel17 := bel16.grown k17 bel16.size (fun j e => by cases e)
  clear k17 s15 s16 bel15 bel16
  go_wp2_with fail
  have s18 := s17.grown (World.grownBy_alloc w17 (.cells #[.int .i64 0, .int .i64 1, .bool false, .int .i64 0, .int .i64 1, .bool false, .int .i64 0, .int .i64 1, .bool false, .int .i64 0, .int .i64 1, .bool false, .int .i64 0, .int .i64 1, .bool false] 35) none)
  have bel18 := bel17.alloc bel17.size (.cells #[.int .i64 0, .int .i64 1, .bool false, .int .i64 0, .int .i64 1, .bool false, .int .i64 0, .int .i64 1, .bool false, .int .i64 0, .int .i64 1, .bool false, .int .i64 0, .int .i64 1, .bool false] 35)
  refine (add_no s18 _ [⟨0, 1, false⟩, ⟨0, 1, false⟩, ⟨0, 1, false⟩, ⟨0, 1, false⟩, ⟨0, 1, false⟩] (bufs_new w17 [⟨0, 1, false⟩, ⟨0, 1, false⟩, ⟨0, 1, false⟩, ⟨0, 1, false⟩, ⟨0, 1, false⟩] 35 5 (by decide)) (by intro x hx; simp at hx; subst hx; decide) 6 a4_full rfl).mono ?_
  rintro e w19 ⟨rfl, k19⟩
  have s19 := s18.grown k19
  have bel19 := bel18.grown k19 bel18.size (fun j e => by cases e)
  clear k19 s17 s18 bel17 bel18
  go_wp2_with fail
  have s20 := s19.grown (World.grownBy_alloc w19 (.cells #[.int .i64 0, .int .i64 1, .bool true, .int .i64 0, .int .i64 1, .bool false] 35) none)
  have bel20 := bel19.alloc bel19.size (.cells #[.int .i64 0, .int .i64 1, .bool true, .int .i64 0, .int .i64 1, .bool false] 35)
  refine (add_no s20 _ [⟨0, 1, true⟩, ⟨0, 1, false⟩] (bufs_new w19 [⟨0, 1, true⟩, ⟨0, 1, false⟩] 35 2 (by decide)) (by intro x hx; simp at hx; rcases hx with rfl | rfl <;> decide) 1 a4_order rfl).mono ?_
  rintro e w21 ⟨rfl, k21⟩
  have bel21 := bel20.grown k21 bel20.size (fun j e => by cases e)
  clear k21 s19 s20 bel19 bel20
  go_wp2_with fail
  refine (vawake_any _).mono ?_
  rintro e w22 ⟨rfl, bel22⟩
  have bel23 := bel21.trans (bel22.mono bel21.size)
  clear bel21 bel22
  go_wp2_with fail
  refine (vbytes_any 4 _ (by omega)).mono ?_
  rintro e w23 ⟨rfl, rfl⟩
  rw [b4]
  go_wp2_with fail
  refine (vbytes_any 3 _ (by omega)).mono ?_
  rintro e w23 ⟨rfl, rfl⟩
  rw [b3]
  go_wp2_with fail
  refine (vbytes_any 64 _ (by omega)).mono ?_
  rintro e w23 ⟨rfl, rfl⟩
  rw [b64]
  go_wp2_with fail
  go_ret
  exact ⟨rfl, bel23⟩

set_option maxRecDepth 100000 in
theorem lifted (os : Os) (started : os.Started) (H : Type) (enc : TypeId × Value → H) :
    ReturnsInHanded {} Try.checked os 3 .any (Rows.virtqKnownSpec.pre6 enc Try.prog Try.f3 Rows.virtqKnownRow.domain false) (Rows.virtqKnownSpec.post enc Try.prog Try.f3 false true false false) := by
  refine returnsInHanded_of_change (C := Try.checked) own started (by kernel_rfl) Try.func3
    (ChangeSpec.witness6 (enc := enc) (C := Try.checked) false ⟨#[], #[], []⟩ 8 (by kernel_rfl) (by kernel_rfl) (by kernel_rfl) (by kernel_rfl)) ?_
  intro W base args ds gs before hval0 hW hcnd _
  have hval : ∀ (j : Nat) t v, Try.f3.params[j]? = some t → args[j]? = some v → Value.okWide Try.prog W .any base t v := hval0
  have hW' := hW
  obtain ⟨p, q, hA0, hV, rfl, hfz, hnd⟩ := hW
  have hA : DataW.TrodAll enc Try.prog W 0 (fun _ => true) true Try.f3.params.toList args.toList ds p := hA0
  rw [Try.params3] at hA hval
  obtain ⟨rfl, rfl, rfl⟩ := trodAll_none hA
  obtain ⟨rfl, rfl⟩ := trodVars_none hV
  clear hA0 hval0
  refine (walk W).mono fun e W' ⟨he, bel⟩ => ?_
  subst he
  exact ⟨_, rfl, _, _, _, [], _, [], hW', trodAll_mk1 (shut_bool Try.underlying4 _), trodAll_mk0, rfl, bel.frame _, fun h => by cases h⟩

/-- THE STATEMENT. -/
theorem proved : Rows.VirtqKnownSaid :=
  OpenClaim.holds_of_wide 3 Try.f3 rfl rfl rfl rfl rfl rfl rfl ⟨rfl, rfl, rfl, rfl, rfl⟩ rfl rfl rfl rfl rfl (by kernel_rfl) Try.func3 (by kernel_rfl)
    (of_decide_eq_true (by kernel_rfl)) (by unfold Func.isWrapper; first | (rw [if_pos (by decide +kernel)]; kernel_rfl) | (rw [if_neg (by decide +kernel)]; exact ⟨rfl, rfl⟩))
    (fun os started H enc _ => lifted os started H enc)
#print axioms proved

end Go.Proofs.Ytgmgfhmdehkdaaa.vknown
