/-
  ArpCodes: a packet's bytes, and what any bytes are read as, are the document's. No conditions (beyond 1000 bytes the statement asks nothing).
-/
import Derived.Test.YtolegdjdppaeoaaArpG
import Derived.ProofKit
import Derived.OpenShut
import Derived.ShutString
import Derived.ChangeOld
import Derived.Below
namespace Go.Proofs.Ytolegdjdppaeoaa.aco
open Go.ChangeShapes Go.WideShapes Go.ChangeAt Go.RowKit
open Go.ChangeMaps (open_string shut_string)
set_option linter.unusedVariables false

theorem rk_ok (s : ByteArray) : (rkR s).ok := by
  unfold rkR
  split
  · have hk := num_two s 6
    show (Lit.int .i64 ((num (cutS s 6 2).reverse : Nat) : Int)).wf = true
    exact Go.WalkArith.wf_i64 ⟨by omega, by omega⟩
  · show (Lit.int .i64 0).wf = true
    decide

/-- One packet in memory. -/
structure One (w W : World) (n : Nat) (f : Pk) : Prop where
  a : PkAt W n f
  bl : Below w.heap.size w W
theorem One.grow {w W W' : World} {n : Nat} {f : Pk} (h : One w W n f) (k : Below W.heap.size W W') : One w W' n f := ⟨h.a.grow k, h.bl.trans (k.mono h.bl.size)⟩
theorem one_new (w : World) (f : Pk) : One w (w.alloc (.cells (pkC f) 27)) w.heap.size f := ⟨PkAt.of_alloc w _ f rfl, (Below.refl _ _).alloc (Nat.le_refl _) _⟩

set_option maxRecDepth 100000 in
set_option maxHeartbeats 4000000 in
theorem walk (f : Pk) (s : ByteArray) (w0 : f.ok) (w1 : s.size ≤ maxLen) (w : World) :
    Calls Try.prog 4 #[.agg (pkC f), .string s] w fun e w' => e = .returned (.bool true) ∧ Below w.heap.size w w' := by
  have hm : s.size ≤ 9223372036854775807 := by unfold maxLen at w1; omega
  obtain ⟨R, hR⟩ : ∃ R, R = rkR s := ⟨_, rfl⟩
  have hq := eql_dec R R (by rw [hR]; exact rk_ok s) (by rw [hR]; exact rk_ok s) true (decide_eq_true rfl)
  have H1 := Lib.hid (fun w => aBytes w f)
  have H2 := Lib.hid (fun w => rBytes_any w f)
  have H3 := Lib.hid (fun w => aRead w s hm)
  have H4 := Lib.hid (fun w => dRead_any w s)
  rw [← hR] at H3 H4
  generalize pkS f = S at H1 H2
  generalize pkE f = E at H1 H2
  generalize rkE s = G at H3 H4
  clear w0 w1 hR
  go_enter Try.func4, Try.ntmps4
  go_upto_region 1 with fail
  have FR := Lib.hid (one_new w f)
  obtain ⟨n, hn⟩ : ∃ n, n = w.heap.size := ⟨_, rfl⟩
  generalize w.alloc _ = W1 at FR ⊢
  rw [← hn] at FR ⊢
  clear hn
  go_wp2_with fail
  refine (awakeP _).mono ?_
  rintro e w1 ⟨rfl, b1⟩
  have F1 := Lib.hid (FR.out.grow b1)
  clear b1 FR
  by_cases hs : 1000 < s.size
  · go_wp2
    go_ret
    exact ⟨rfl, F1.out.bl⟩
  have hp := F1.out.a
  go_wp2_with (refine pk_ld (by rfl) _ rfl n rfl _ hp ?_)
  refine (H1.out _).mono ?_
  rintro e w2 ⟨rfl, b2⟩
  have F2 := Lib.hid (F1.out.grow b2)
  clear b2 F1 hp
  have hp := F2.out.a
  go_wp2_with (refine pk_ld (by rfl) _ rfl n rfl _ hp ?_)
  refine (H2.out _).mono ?_
  rintro e w3 ⟨rfl, b3⟩
  have F3 := Lib.hid (F2.out.grow b3)
  clear b3 F2 hp
  go_wp2_with fail
  refine (H3.out _).mono ?_
  rintro e w4 ⟨rfl, b4⟩
  have F4 := Lib.hid (F3.out.grow b4)
  clear b4 F3
  have hst := pk_store w4 R
  go_upto_region 8 with (refine wpList_storeW 27 _ _ rfl rfl _ w4.heap.size rfl rfl hst ?_)
  have F5 := Lib.hid (F4.out.grow ((Below.refl _ _).alloc (Nat.le_refl _) (.cells (pkC R) 27)))
  have hz : Hid (PkAt (w4.alloc (.cells (pkC R) 27)) w4.heap.size R) := Lib.hid (PkAt.of_alloc _ _ _ rfl)
  clear F4 hst
  obtain ⟨k, hk⟩ : ∃ k, k = w4.heap.size := ⟨_, rfl⟩
  generalize w4.alloc _ = W5 at F5 hz ⊢
  rw [← hk] at hz ⊢
  clear hk
  go_wp2_with fail
  refine (H4.out _).mono ?_
  rintro e w6 ⟨rfl, b6⟩
  have F6 := Lib.hid (F5.out.grow b6)
  have Z6 := Lib.hid (hz.out.grow b6)
  clear b6 F5 hz
  have hst := pk_store w6 R
  go_upto_region 9 with (refine wpList_storeW 27 _ _ rfl rfl _ w6.heap.size rfl rfl hst ?_)
  have F7 := Lib.hid (F6.out.grow ((Below.refl _ _).alloc (Nat.le_refl _) (.cells (pkC R) 27)))
  have Z7 := Lib.hid (Z6.out.grow ((Below.refl _ _).alloc (Nat.le_refl _) (.cells (pkC R) 27)))
  have hy : Hid (PkAt (w6.alloc (.cells (pkC R) 27)) w6.heap.size R) := Lib.hid (PkAt.of_alloc _ _ _ rfl)
  clear F6 Z6 hst
  obtain ⟨j, hj⟩ : ∃ j, j = w6.heap.size := ⟨_, rfl⟩
  generalize w6.alloc _ = W7 at F7 Z7 hy ⊢
  rw [← hj] at hy ⊢
  clear hj
  have ha := Z7.out
  have hb := hy.out
  go_wp2_with (first | (refine pk_ld (by rfl) _ rfl k rfl _ ha ?_) | (refine pk_ld (by rfl) _ rfl j rfl _ hb ?_) | (refine pk_eq (by rfl) _ _ _ rfl R R rfl rfl true hq ?_))
  go_ret
  exact ⟨rfl, F7.out.bl⟩

set_option maxRecDepth 100000 in
theorem lifted (os : Os) (started : os.Started) (H : Type) (enc : TypeId × Value → H) :
    ReturnsInHanded {} Try.checked os 4 .any (Rows.arpCodesSpec.pre6 enc Try.prog Try.f4 Rows.arpCodesRow.domain false) (Rows.arpCodesSpec.post enc Try.prog Try.f4 false true false false) := by
  refine returnsInHanded_of_change (C := Try.checked) own started (by kernel_rfl) Try.func4
    (ChangeSpec.witness6 (enc := enc) (C := Try.checked) false ⟨#[], #[.agg #[.int .i64 0, .int .u8 0, .int .u8 0, .int .u8 0, .int .u8 0, .int .u8 0, .int .u8 0, .int .u8 0, .int .u8 0, .int .u8 0, .int .u8 0, .int .u8 0, .int .u8 0, .int .u8 0, .int .u8 0, .int .u8 0, .int .u8 0, .int .u8 0, .int .u8 0, .int .u8 0, .int .u8 0], .string ByteArray.empty], []⟩ 8 (by kernel_rfl) (by kernel_rfl) (by kernel_rfl) (by kernel_rfl)) ?_
  intro W base args ds gs before hval0 hW hcnd _
  have hval : ∀ (j : Nat) t v, Try.f4.params[j]? = some t → args[j]? = some v → Value.okWide Try.prog W .any base t v := hval0
  have hW' := hW
  obtain ⟨p, q, hA0, hV, rfl, hfz, hnd⟩ := hW
  have hA : DataW.TrodAll enc Try.prog W 0 (fun _ => true) true Try.f4.params.toList args.toList ds p := hA0
  rw [Try.params4] at hA hval
  obtain ⟨v0, vs0, d0, ds0, p0, q0, hargs, rfl, rfl, h0, r0⟩ := trodAll_cons hA
  obtain ⟨v1, vs1, d1, ds1, p1, q1, rfl, rfl, rfl, h1, r1⟩ := trodAll_cons r0
  obtain ⟨rfl, rfl, rfl⟩ := trodAll_nil r1
  obtain rfl : args = #[v0, v1] := by cases args; simp_all
  obtain ⟨rfl, rfl⟩ := trodVars_none hV
  obtain ⟨a0, rfl, w0⟩ := open_arp (hval 0 27 v0 rfl rfl) h0
  have k0 := h0
  have lt0 : ∀ x ∈ p0, x.block < W.heap.size := by obtain ⟨m, hm⟩ := k0; exact DataW.trod_lt m _ _ _ hm
  obtain ⟨a1, rfl, rfl, rfl, w1⟩ := open_string Try.underlying9 (hval 1 9 v1 rfl rfl) h1
  clear hA0 hval0
  refine (walk a0 a1 w0 w1 W).mono fun e W' ⟨he, bel⟩ => ?_
  subst he
  exact ⟨_, rfl, _, _, _, [], _, [], hW', trodAll_mk1 (shut_bool Try.underlying4 _), (trodAll_cons_mk (Below.trod laidOut (by kernel_rfl) (of_decide_eq_true (by kernel_rfl)) k0 bel lt0) (trodAll_cons_mk (shut_string Try.underlying9 w1) trodAll_mk0)), rfl, bel.frame _, fun h => by cases h⟩

/-- THE STATEMENT. -/
theorem proved : Rows.ArpCodesSaid :=
  OpenClaim.holds_of_wide 4 Try.f4 rfl rfl rfl rfl rfl rfl rfl ⟨rfl, rfl, rfl, rfl, rfl⟩ rfl rfl rfl rfl rfl (by kernel_rfl) Try.func4 (by kernel_rfl)
    (of_decide_eq_true (by kernel_rfl)) (by unfold Func.isWrapper; first | (rw [if_pos (by decide +kernel)]; kernel_rfl) | (rw [if_neg (by decide +kernel)]; exact ⟨rfl, rfl⟩))
    (fun os started H enc _ => lifted os started H enc)
#print axioms proved

end Go.Proofs.Ytolegdjdppaeoaa.aco
