/-
  EtherReads: what the program reads any bytes as, and why it reads none, is what the document's own reading answers. No conditions (beyond 2000 bytes the statement asks nothing).
-/
import Derived.Test.YtbbmfgeagdblcaaEthI
import Derived.ProofKit
import Derived.OpenShut
import Derived.ShutString
import Derived.ChangeOld
import Derived.Below
namespace Go.Proofs.Ytbbmfgeagdblcaa.etr
open Go.ChangeShapes Go.WideShapes Go.ChangeAt Go.RowKit
open Go.ChangeMaps (open_string shut_string)
set_option linter.unusedVariables false

set_option maxRecDepth 100000 in
set_option maxHeartbeats 2000000 in
theorem walk (a0 : ByteArray) (w0 : a0.size ≤ maxLen) (w : World) :
    Calls Try.prog 6 #[.string a0] w fun e w' => e = .returned (.bool true) ∧ Below w.heap.size w w' := by
  have hm : a0.size ≤ 9223372036854775807 := by unfold maxLen at w0; omega
  obtain ⟨R, hR⟩ : ∃ R, R = rdR a0 := ⟨_, rfl⟩
  have hok : R.ok := by rw [hR]; exact rd_ok a0 w0
  have HR := Lib.hid hR
  have heq : ∀ w, (Op.equalIn 10000 51 (.agg #[.int .u8 (R.to.a.toNat : Int), .int .u8 (R.to.b.toNat : Int), .int .u8 (R.to.c.toNat : Int), .int .u8 (R.to.d.toNat : Int), .int .u8 (R.to.e.toNat : Int), .int .u8 (R.to.f.toNat : Int), .int .u8 (R.fr.a.toNat : Int), .int .u8 (R.fr.b.toNat : Int), .int .u8 (R.fr.c.toNat : Int), .int .u8 (R.fr.d.toNat : Int), .int .u8 (R.fr.e.toNat : Int), .int .u8 (R.fr.f.toNat : Int), .int .i64 R.ty, .string R.da]) (.agg #[.int .u8 (R.to.a.toNat : Int), .int .u8 (R.to.b.toNat : Int), .int .u8 (R.to.c.toNat : Int), .int .u8 (R.to.d.toNat : Int), .int .u8 (R.to.e.toNat : Int), .int .u8 (R.to.f.toNat : Int), .int .u8 (R.fr.a.toNat : Int), .int .u8 (R.fr.b.toNat : Int), .int .u8 (R.fr.c.toNat : Int), .int .u8 (R.fr.d.toNat : Int), .int .u8 (R.fr.e.toNat : Int), .int .u8 (R.fr.f.toNat : Int), .int .i64 R.ty, .string R.da])).run Try.prog w = .ok true w := fun w => by
    have h := run_eql_fr w R R hok hok
    rw [decide_eq_true rfl] at h
    exact h
  have HE := Lib.hid heq
  clear hR w0 heq hok
  by_cases hs : 2000 < a0.size
  · go_enter Try.func6, Try.ntmps6
    go_wp2_with fail
    refine (awakeE_any _).mono ?_
    rintro e w1 ⟨rfl, b1⟩
    have B1 := Lib.hid b1
    clear b1
    go_wp2
    go_ret
    exact ⟨rfl, B1.out⟩
  · go_enter Try.func6, Try.ntmps6
    go_wp2_with fail
    refine (awakeE_any _).mono ?_
    rintro e w1 ⟨rfl, b1⟩
    have B1 := Lib.hid b1
    clear b1
    go_wp2_with fail
    refine (Read_any _ a0 R HR.out).mono ?_
    rintro e w2 ⟨rfl, b2⟩
    have B2 := Lib.hid (B1.out.trans (b2.mono B1.out.size))
    clear b2 B1
    have FA : Hid (FrAt (w2.alloc (.cells #[.int .u8 (R.to.a.toNat : Int), .int .u8 (R.to.b.toNat : Int), .int .u8 (R.to.c.toNat : Int), .int .u8 (R.to.d.toNat : Int), .int .u8 (R.to.e.toNat : Int), .int .u8 (R.to.f.toNat : Int), .int .u8 (R.fr.a.toNat : Int), .int .u8 (R.fr.b.toNat : Int), .int .u8 (R.fr.c.toNat : Int), .int .u8 (R.fr.d.toNat : Int), .int .u8 (R.fr.e.toNat : Int), .int .u8 (R.fr.f.toNat : Int), .int .i64 R.ty, .string R.da] 51)) w2.heap.size R) := Lib.hid (heap_alloc_new w2 _)
    have B3 := Lib.hid (B2.out.alloc B2.out.size (.cells #[.int .u8 (R.to.a.toNat : Int), .int .u8 (R.to.b.toNat : Int), .int .u8 (R.to.c.toNat : Int), .int .u8 (R.to.d.toNat : Int), .int .u8 (R.to.e.toNat : Int), .int .u8 (R.to.f.toNat : Int), .int .u8 (R.fr.a.toNat : Int), .int .u8 (R.fr.b.toNat : Int), .int .u8 (R.fr.c.toNat : Int), .int .u8 (R.fr.d.toNat : Int), .int .u8 (R.fr.e.toNat : Int), .int .u8 (R.fr.f.toNat : Int), .int .i64 R.ty, .string R.da] 51))
    clear B2
    go_upto_region 6 with fail
    generalize hW : w2.alloc _ = w3 at FA B3 ⊢
    obtain ⟨n, hn⟩ : ∃ n, n = w2.heap.size := ⟨_, rfl⟩
    rw [← hn] at FA ⊢
    clear hW hn
    go_wp2_with fail
    refine (refRead_any _ a0 R HR.out).mono ?_
    rintro e w4 ⟨rfl, b4⟩
    have FA4 := Lib.hid ((FA.out.grow b4).grow ((Below.refl _ _).alloc (Nat.le_refl _) (.cells #[.int .u8 (R.to.a.toNat : Int), .int .u8 (R.to.b.toNat : Int), .int .u8 (R.to.c.toNat : Int), .int .u8 (R.to.d.toNat : Int), .int .u8 (R.to.e.toNat : Int), .int .u8 (R.to.f.toNat : Int), .int .u8 (R.fr.a.toNat : Int), .int .u8 (R.fr.b.toNat : Int), .int .u8 (R.fr.c.toNat : Int), .int .u8 (R.fr.d.toNat : Int), .int .u8 (R.fr.e.toNat : Int), .int .u8 (R.fr.f.toNat : Int), .int .i64 R.ty, .string R.da] 51)))
    have B4 := Lib.hid (B3.out.trans (b4.mono B3.out.size))
    have FB : Hid (FrAt (w4.alloc (.cells #[.int .u8 (R.to.a.toNat : Int), .int .u8 (R.to.b.toNat : Int), .int .u8 (R.to.c.toNat : Int), .int .u8 (R.to.d.toNat : Int), .int .u8 (R.to.e.toNat : Int), .int .u8 (R.to.f.toNat : Int), .int .u8 (R.fr.a.toNat : Int), .int .u8 (R.fr.b.toNat : Int), .int .u8 (R.fr.c.toNat : Int), .int .u8 (R.fr.d.toNat : Int), .int .u8 (R.fr.e.toNat : Int), .int .u8 (R.fr.f.toNat : Int), .int .i64 R.ty, .string R.da] 51)) w4.heap.size R) := Lib.hid (heap_alloc_new w4 _)
    have B5 := Lib.hid (B4.out.alloc B4.out.size (.cells #[.int .u8 (R.to.a.toNat : Int), .int .u8 (R.to.b.toNat : Int), .int .u8 (R.to.c.toNat : Int), .int .u8 (R.to.d.toNat : Int), .int .u8 (R.to.e.toNat : Int), .int .u8 (R.to.f.toNat : Int), .int .u8 (R.fr.a.toNat : Int), .int .u8 (R.fr.b.toNat : Int), .int .u8 (R.fr.c.toNat : Int), .int .u8 (R.fr.d.toNat : Int), .int .u8 (R.fr.e.toNat : Int), .int .u8 (R.fr.f.toNat : Int), .int .i64 R.ty, .string R.da] 51))
    clear b4 B4 FA B3
    go_upto_region 7 with fail
    generalize hW : w4.alloc _ = w5 at FA4 FB B5 ⊢
    obtain ⟨m, hm⟩ : ∃ m, m = w4.heap.size := ⟨_, rfl⟩
    rw [← hm] at FB ⊢
    clear hW hm
    obtain ⟨⟨c0, c1, c2, c3, c4, c5⟩, ⟨c6, c7, c8, c9, c10, c11⟩, c12, c13⟩ := FA4.out.all
    obtain ⟨⟨d0, d1, d2, d3, d4, d5⟩, ⟨d6, d7, d8, d9, d10, d11⟩, d12, d13⟩ := FB.out.all
    have he := HE.out
    go_wp2
    go_ret
    exact ⟨rfl, B5.out⟩

set_option maxRecDepth 100000 in
theorem lifted (os : Os) (started : os.Started) (H : Type) (enc : TypeId × Value → H) :
    ReturnsInHanded {} Try.checked os 6 .any (Rows.etherReadsSpec.pre6 enc Try.prog Try.f6 Rows.etherReadsRow.domain false) (Rows.etherReadsSpec.post enc Try.prog Try.f6 false true false false) := by
  refine returnsInHanded_of_change (C := Try.checked) own started (by kernel_rfl) Try.func6
    (ChangeSpec.witness6 (enc := enc) (C := Try.checked) false ⟨#[], #[.string ByteArray.empty], []⟩ 8 (by kernel_rfl) (by kernel_rfl) (by kernel_rfl) (by kernel_rfl)) ?_
  intro W base args ds gs before hval0 hW hcnd _
  have hval : ∀ (j : Nat) t v, Try.f6.params[j]? = some t → args[j]? = some v → Value.okWide Try.prog W .any base t v := hval0
  have hW' := hW
  obtain ⟨p, q, hA0, hV, rfl, hfz, hnd⟩ := hW
  have hA : DataW.TrodAll enc Try.prog W 0 (fun _ => true) true Try.f6.params.toList args.toList ds p := hA0
  rw [Try.params6] at hA hval
  obtain ⟨v0, vs0, d0, ds0, p0, q0, hargs, rfl, rfl, h0, r0⟩ := trodAll_cons hA
  obtain ⟨rfl, rfl, rfl⟩ := trodAll_nil r0
  obtain rfl : args = #[v0] := by cases args; simp_all
  obtain ⟨rfl, rfl⟩ := trodVars_none hV
  obtain ⟨a0, rfl, rfl, rfl, w0⟩ := open_string Try.underlying9 (hval 0 9 v0 rfl rfl) h0
  clear hA0 hval0
  refine (walk a0 w0 W).mono fun e W' ⟨he, bel⟩ => ?_
  subst he
  exact ⟨_, rfl, _, _, _, [], _, [], hW', trodAll_mk1 (shut_bool Try.underlying4 _), (trodAll_cons_mk (shut_string Try.underlying9 w0) trodAll_mk0), rfl, bel.frame _, fun h => by cases h⟩

/-- THE STATEMENT. -/
theorem proved : Rows.EtherReadsSaid :=
  OpenClaim.holds_of_wide 6 Try.f6 rfl rfl rfl rfl rfl rfl rfl ⟨rfl, rfl, rfl, rfl, rfl⟩ rfl rfl rfl rfl rfl (by kernel_rfl) Try.func6 (by kernel_rfl)
    (of_decide_eq_true (by kernel_rfl)) (by unfold Func.isWrapper; first | (rw [if_pos (by decide +kernel)]; kernel_rfl) | (rw [if_neg (by decide +kernel)]; exact ⟨rfl, rfl⟩))
    (fun os started H enc _ => lifted os started H enc)
#print axioms proved

end Go.Proofs.Ytbbmfgeagdblcaa.etr
