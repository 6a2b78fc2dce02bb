/-
  EtherBack: what has bytes is read from them; what is read has just these bytes; two frames have one text of bytes just if they are the same. No conditions (beyond 2000 bytes the statement asks nothing).
-/
import Derived.Test.YtbbmfgeagdblcaaEthI
import Derived.ProofKit
import Derived.OpenShut
import Derived.ShutString
import Derived.ChangeOld
import Derived.Below
namespace Go.Proofs.Ytbbmfgeagdblcaa.etb
open Go.ChangeShapes Go.WideShapes Go.ChangeAt Go.RowKit
open Go.ChangeMaps (open_string shut_string)
set_option linter.unusedVariables false

theorem eql_zero (w : World) : (Op.equalIn 10000 51 (.agg #[.int .u8 0, .int .u8 0, .int .u8 0, .int .u8 0, .int .u8 0, .int .u8 0, .int .u8 0, .int .u8 0, .int .u8 0, .int .u8 0, .int .u8 0, .int .u8 0, .int .i64 0, .string ⟨#[]⟩]) (.agg #[.int .u8 0, .int .u8 0, .int .u8 0, .int .u8 0, .int .u8 0, .int .u8 0, .int .u8 0, .int .u8 0, .int .u8 0, .int .u8 0, .int .u8 0, .int .u8 0, .int .i64 0, .string ⟨#[]⟩])).run Try.prog w = .ok true w := by
  have h := run_eql_fr w frZ frZ ⟨by decide, by decide⟩ ⟨by decide, by decide⟩
  rw [decide_eq_true rfl] at h
  exact h

set_option maxRecDepth 100000 in
set_option maxHeartbeats 8000000 in
theorem walk (f g : Fr) (s : ByteArray) (w0 : f.ok) (w1 : g.ok) (w2 : s.size ≤ maxLen) (w : World) :
    Calls Try.prog 7 #[.agg #[.int .u8 (f.to.a.toNat : Int), .int .u8 (f.to.b.toNat : Int), .int .u8 (f.to.c.toNat : Int), .int .u8 (f.to.d.toNat : Int), .int .u8 (f.to.e.toNat : Int), .int .u8 (f.to.f.toNat : Int), .int .u8 (f.fr.a.toNat : Int), .int .u8 (f.fr.b.toNat : Int), .int .u8 (f.fr.c.toNat : Int), .int .u8 (f.fr.d.toNat : Int), .int .u8 (f.fr.e.toNat : Int), .int .u8 (f.fr.f.toNat : Int), .int .i64 f.ty, .string f.da], .agg #[.int .u8 (g.to.a.toNat : Int), .int .u8 (g.to.b.toNat : Int), .int .u8 (g.to.c.toNat : Int), .int .u8 (g.to.d.toNat : Int), .int .u8 (g.to.e.toNat : Int), .int .u8 (g.to.f.toNat : Int), .int .u8 (g.fr.a.toNat : Int), .int .u8 (g.fr.b.toNat : Int), .int .u8 (g.fr.c.toNat : Int), .int .u8 (g.fr.d.toNat : Int), .int .u8 (g.fr.e.toNat : Int), .int .u8 (g.fr.f.toNat : Int), .int .i64 g.ty, .string g.da], .string s] w fun e w' => e = .returned (.bool true) ∧ Below w.heap.size w w' := by
  have hm1 : f.da.size ≤ 9223372036854775807 := by have := w0.2; unfold maxLen at this; omega
  have hm2 : g.da.size ≤ 9223372036854775807 := by have := w1.2; unfold maxLen at this; omega
  have hm3 : s.size ≤ 9223372036854775807 := by unfold maxLen at w2; omega
  have O1 := Lib.hid w0
  have O2 := Lib.hid w1
  have O3 := Lib.hid w2
  clear w0 w1 w2
  obtain ⟨S, hS⟩ : ∃ S, S = frS f := ⟨_, rfl⟩
  obtain ⟨E, hE⟩ : ∃ E, E = frE f := ⟨_, rfl⟩
  obtain ⟨T, hT⟩ : ∃ T, T = frS g := ⟨_, rfl⟩
  obtain ⟨G, hG⟩ : ∃ G, G = frE g := ⟨_, rfl⟩
  obtain ⟨R, hR⟩ : ∃ R, R = rdR s := ⟨_, rfl⟩
  obtain ⟨I, hI⟩ : ∃ I, I = rdE s := ⟨_, rfl⟩
  have HS := Lib.hid hS
  have HE := Lib.hid hE
  have HT := Lib.hid hT
  have HG := Lib.hid hG
  have HR := Lib.hid hR
  have HI := Lib.hid hI
  clear hS hE hT hG hR hI
  go_enter Try.func7, Try.ntmps7
  go_upto_region 1 with fail
  have FA : Hid (FrAt ((w.alloc (.cells #[.int .u8 (f.to.a.toNat : Int), .int .u8 (f.to.b.toNat : Int), .int .u8 (f.to.c.toNat : Int), .int .u8 (f.to.d.toNat : Int), .int .u8 (f.to.e.toNat : Int), .int .u8 (f.to.f.toNat : Int), .int .u8 (f.fr.a.toNat : Int), .int .u8 (f.fr.b.toNat : Int), .int .u8 (f.fr.c.toNat : Int), .int .u8 (f.fr.d.toNat : Int), .int .u8 (f.fr.e.toNat : Int), .int .u8 (f.fr.f.toNat : Int), .int .i64 f.ty, .string f.da] 51)).alloc (.cells #[.int .u8 (g.to.a.toNat : Int), .int .u8 (g.to.b.toNat : Int), .int .u8 (g.to.c.toNat : Int), .int .u8 (g.to.d.toNat : Int), .int .u8 (g.to.e.toNat : Int), .int .u8 (g.to.f.toNat : Int), .int .u8 (g.fr.a.toNat : Int), .int .u8 (g.fr.b.toNat : Int), .int .u8 (g.fr.c.toNat : Int), .int .u8 (g.fr.d.toNat : Int), .int .u8 (g.fr.e.toNat : Int), .int .u8 (g.fr.f.toNat : Int), .int .i64 g.ty, .string g.da] 51)) w.heap.size f) := Lib.hid ((FrAt.grow (heap_alloc_new w _) ((Below.refl _ _).alloc (Nat.le_refl _) _)))
  have FG : Hid (FrAt ((w.alloc (.cells #[.int .u8 (f.to.a.toNat : Int), .int .u8 (f.to.b.toNat : Int), .int .u8 (f.to.c.toNat : Int), .int .u8 (f.to.d.toNat : Int), .int .u8 (f.to.e.toNat : Int), .int .u8 (f.to.f.toNat : Int), .int .u8 (f.fr.a.toNat : Int), .int .u8 (f.fr.b.toNat : Int), .int .u8 (f.fr.c.toNat : Int), .int .u8 (f.fr.d.toNat : Int), .int .u8 (f.fr.e.toNat : Int), .int .u8 (f.fr.f.toNat : Int), .int .i64 f.ty, .string f.da] 51)).alloc (.cells #[.int .u8 (g.to.a.toNat : Int), .int .u8 (g.to.b.toNat : Int), .int .u8 (g.to.c.toNat : Int), .int .u8 (g.to.d.toNat : Int), .int .u8 (g.to.e.toNat : Int), .int .u8 (g.to.f.toNat : Int), .int .u8 (g.fr.a.toNat : Int), .int .u8 (g.fr.b.toNat : Int), .int .u8 (g.fr.c.toNat : Int), .int .u8 (g.fr.d.toNat : Int), .int .u8 (g.fr.e.toNat : Int), .int .u8 (g.fr.f.toNat : Int), .int .i64 g.ty, .string g.da] 51)) (w.heap.size + 1) g) := Lib.hid (fr_new _ _ _ (by simp))
  have BL : Hid (Below w.heap.size w ((w.alloc (.cells #[.int .u8 (f.to.a.toNat : Int), .int .u8 (f.to.b.toNat : Int), .int .u8 (f.to.c.toNat : Int), .int .u8 (f.to.d.toNat : Int), .int .u8 (f.to.e.toNat : Int), .int .u8 (f.to.f.toNat : Int), .int .u8 (f.fr.a.toNat : Int), .int .u8 (f.fr.b.toNat : Int), .int .u8 (f.fr.c.toNat : Int), .int .u8 (f.fr.d.toNat : Int), .int .u8 (f.fr.e.toNat : Int), .int .u8 (f.fr.f.toNat : Int), .int .i64 f.ty, .string f.da] 51)).alloc (.cells #[.int .u8 (g.to.a.toNat : Int), .int .u8 (g.to.b.toNat : Int), .int .u8 (g.to.c.toNat : Int), .int .u8 (g.to.d.toNat : Int), .int .u8 (g.to.e.toNat : Int), .int .u8 (g.to.f.toNat : Int), .int .u8 (g.fr.a.toNat : Int), .int .u8 (g.fr.b.toNat : Int), .int .u8 (g.fr.c.toNat : Int), .int .u8 (g.fr.d.toNat : Int), .int .u8 (g.fr.e.toNat : Int), .int .u8 (g.fr.f.toNat : Int), .int .i64 g.ty, .string g.da] 51))) := Lib.hid (((Below.refl _ _).alloc (Nat.le_refl _) _).alloc (by simp) _)
  generalize (w.alloc _).alloc _ = W1 at FA FG BL ⊢
  go_wp2_with fail
  refine (awakeE_any _).mono ?_
  rintro e w1 ⟨rfl, b1⟩
  have B1 := below_step BL b1
  have FA1 := Lib.hid (FA.out.grow b1)
  have FG1 := Lib.hid (FG.out.grow b1)
  clear b1 BL FA FG
  have c13 := FA1.out.da
  have d13 := FG1.out.da
  by_cases h1 : 2000 < f.da.size
  · go_wp2
    go_ret
    exact ⟨rfl, B1.out⟩
  by_cases h2 : 2000 < g.da.size
  · go_wp2
    go_ret
    exact ⟨rfl, B1.out⟩
  by_cases h3 : 2000 < s.size
  · go_wp2
    go_ret
    exact ⟨rfl, B1.out⟩
  clear c13 d13
  have c13 := FA1.out.da
  have d13 := FG1.out.da
  go_upto_region 5 with fail
  clear c13 d13
  obtain ⟨⟨c0, c1, c2, c3, c4, c5⟩, ⟨c6, c7, c8, c9, c10, c11⟩, c12, c13⟩ := FA1.out.all
  go_wp2_with fail
  refine (Bytes_any _ f O1.out).mono ?_
  rintro e w2 ⟨rfl, b2⟩
  rw [← HS.out, ← HE.out]
  have B2 := below_step B1 b2
  have FA2 := Lib.hid (FA1.out.grow b2)
  have FG2 := Lib.hid (FG1.out.grow b2)
  clear b2 B1 FA1 FG1 c0 c1 c2 c3 c4 c5 c6 c7 c8 c9 c10 c11 c12 c13
  obtain ⟨⟨c0, c1, c2, c3, c4, c5⟩, ⟨c6, c7, c8, c9, c10, c11⟩, c12, c13⟩ := FG2.out.all
  go_wp2_with fail
  refine (Bytes_any _ g O2.out).mono ?_
  rintro e w3 ⟨rfl, b3⟩
  rw [← HT.out, ← HG.out]
  have B3 := below_step B2 b3
  have FA3 := Lib.hid (FA2.out.grow b3)
  have FG3 := Lib.hid (FG2.out.grow b3)
  clear b3 B2 FA2 FG2 c0 c1 c2 c3 c4 c5 c6 c7 c8 c9 c10 c11 c12 c13
  by_cases he : E = 0
  · obtain ⟨r1, r2⟩ := back_read f O1.out.2 (HE.out ▸ he)
    rw [← HS.out] at r1 r2
    have R1 := Lib.hid r1.symm
    have R2 := Lib.hid r2
    clear r1 r2
    go_wp2_with fail
    refine (Read_any _ S f R1.out).mono ?_
    rintro e w4 ⟨rfl, b4⟩
    rw [R2.out]
    have B4 := below_step B3 b4
    have FA4 := Lib.hid ((FA3.out.grow b4).grow ((Below.refl _ _).alloc (Nat.le_refl _) (.cells #[.int .u8 (f.to.a.toNat : Int), .int .u8 (f.to.b.toNat : Int), .int .u8 (f.to.c.toNat : Int), .int .u8 (f.to.d.toNat : Int), .int .u8 (f.to.e.toNat : Int), .int .u8 (f.to.f.toNat : Int), .int .u8 (f.fr.a.toNat : Int), .int .u8 (f.fr.b.toNat : Int), .int .u8 (f.fr.c.toNat : Int), .int .u8 (f.fr.d.toNat : Int), .int .u8 (f.fr.e.toNat : Int), .int .u8 (f.fr.f.toNat : Int), .int .i64 f.ty, .string f.da] 51)))
    have FG4 := Lib.hid ((FG3.out.grow b4).grow ((Below.refl _ _).alloc (Nat.le_refl _) (.cells #[.int .u8 (f.to.a.toNat : Int), .int .u8 (f.to.b.toNat : Int), .int .u8 (f.to.c.toNat : Int), .int .u8 (f.to.d.toNat : Int), .int .u8 (f.to.e.toNat : Int), .int .u8 (f.to.f.toNat : Int), .int .u8 (f.fr.a.toNat : Int), .int .u8 (f.fr.b.toNat : Int), .int .u8 (f.fr.c.toNat : Int), .int .u8 (f.fr.d.toNat : Int), .int .u8 (f.fr.e.toNat : Int), .int .u8 (f.fr.f.toNat : Int), .int .i64 f.ty, .string f.da] 51)))
    have FX : Hid (FrAt (w4.alloc (.cells #[.int .u8 (f.to.a.toNat : Int), .int .u8 (f.to.b.toNat : Int), .int .u8 (f.to.c.toNat : Int), .int .u8 (f.to.d.toNat : Int), .int .u8 (f.to.e.toNat : Int), .int .u8 (f.to.f.toNat : Int), .int .u8 (f.fr.a.toNat : Int), .int .u8 (f.fr.b.toNat : Int), .int .u8 (f.fr.c.toNat : Int), .int .u8 (f.fr.d.toNat : Int), .int .u8 (f.fr.e.toNat : Int), .int .u8 (f.fr.f.toNat : Int), .int .i64 f.ty, .string f.da] 51)) w4.heap.size f) := Lib.hid (heap_alloc_new w4 _)
    have B5 := below_step B4 ((Below.refl _ _).alloc (Nat.le_refl _) (.cells #[.int .u8 (f.to.a.toNat : Int), .int .u8 (f.to.b.toNat : Int), .int .u8 (f.to.c.toNat : Int), .int .u8 (f.to.d.toNat : Int), .int .u8 (f.to.e.toNat : Int), .int .u8 (f.to.f.toNat : Int), .int .u8 (f.fr.a.toNat : Int), .int .u8 (f.fr.b.toNat : Int), .int .u8 (f.fr.c.toNat : Int), .int .u8 (f.fr.d.toNat : Int), .int .u8 (f.fr.e.toNat : Int), .int .u8 (f.fr.f.toNat : Int), .int .i64 f.ty, .string f.da] 51))
    clear b4 B4 B3 FA3 FG3
    go_upto_region 9 with fail
    generalize hW : w4.alloc _ = w5 at FA4 FG4 FX B5 ⊢
    obtain ⟨n, hn⟩ : ∃ n, n = w4.heap.size := ⟨_, rfl⟩
    rw [← hn] at FX ⊢
    clear hW hn
    obtain ⟨⟨c0, c1, c2, c3, c4, c5⟩, ⟨c6, c7, c8, c9, c10, c11⟩, c12, c13⟩ := FA4.out.all
    obtain ⟨⟨d0, d1, d2, d3, d4, d5⟩, ⟨d6, d7, d8, d9, d10, d11⟩, d12, d13⟩ := FG4.out.all
    obtain ⟨⟨x0, x1, x2, x3, x4, x5⟩, ⟨x6, x7, x8, x9, x10, x11⟩, x12, x13⟩ := FX.out.all
    have ef : ∀ w, (Op.equalIn 10000 51 (.agg #[.int .u8 (f.to.a.toNat : Int), .int .u8 (f.to.b.toNat : Int), .int .u8 (f.to.c.toNat : Int), .int .u8 (f.to.d.toNat : Int), .int .u8 (f.to.e.toNat : Int), .int .u8 (f.to.f.toNat : Int), .int .u8 (f.fr.a.toNat : Int), .int .u8 (f.fr.b.toNat : Int), .int .u8 (f.fr.c.toNat : Int), .int .u8 (f.fr.d.toNat : Int), .int .u8 (f.fr.e.toNat : Int), .int .u8 (f.fr.f.toNat : Int), .int .i64 f.ty, .string f.da]) (.agg #[.int .u8 (f.to.a.toNat : Int), .int .u8 (f.to.b.toNat : Int), .int .u8 (f.to.c.toNat : Int), .int .u8 (f.to.d.toNat : Int), .int .u8 (f.to.e.toNat : Int), .int .u8 (f.to.f.toNat : Int), .int .u8 (f.fr.a.toNat : Int), .int .u8 (f.fr.b.toNat : Int), .int .u8 (f.fr.c.toNat : Int), .int .u8 (f.fr.d.toNat : Int), .int .u8 (f.fr.e.toNat : Int), .int .u8 (f.fr.f.toNat : Int), .int .i64 f.ty, .string f.da])).run Try.prog w = .ok true w := fun w => by rw [run_eql_fr w f f O1.out O1.out, decide_eq_true rfl]
    have eg := fun w => run_eql_fr w f g O1.out O2.out
    by_cases hg : G = 0
    · have es : (S.toList == T.toList) = decide (f = g) := by rw [HS.out, HT.out]; exact back_same f g O1.out.2 O2.out.2 (HE.out ▸ he) (HG.out ▸ hg)
      go_upto_region 11 with fail
      clear c0 c1 c2 c3 c4 c5 c6 c7 c8 c9 c10 c11 c12 c13 d0 d1 d2 d3 d4 d5 d6 d7 d8 d9 d10 d11 d12 d13 x0 x1 x2 x3 x4 x5 x6 x7 x8 x9 x10 x11 x12 x13 ef eg es
      go_wp2_with fail
      refine (Read_any _ s R HR.out).mono ?_
      rintro e w6 ⟨rfl, b6⟩
      rw [← HI.out]
      have B6 := below_step B5 b6
      have FY : Hid (FrAt (w6.alloc (.cells #[.int .u8 (R.to.a.toNat : Int), .int .u8 (R.to.b.toNat : Int), .int .u8 (R.to.c.toNat : Int), .int .u8 (R.to.d.toNat : Int), .int .u8 (R.to.e.toNat : Int), .int .u8 (R.to.f.toNat : Int), .int .u8 (R.fr.a.toNat : Int), .int .u8 (R.fr.b.toNat : Int), .int .u8 (R.fr.c.toNat : Int), .int .u8 (R.fr.d.toNat : Int), .int .u8 (R.fr.e.toNat : Int), .int .u8 (R.fr.f.toNat : Int), .int .i64 R.ty, .string R.da] 51)) w6.heap.size R) := Lib.hid (heap_alloc_new w6 _)
      have B7 := below_step B6 ((Below.refl _ _).alloc (Nat.le_refl _) (.cells #[.int .u8 (R.to.a.toNat : Int), .int .u8 (R.to.b.toNat : Int), .int .u8 (R.to.c.toNat : Int), .int .u8 (R.to.d.toNat : Int), .int .u8 (R.to.e.toNat : Int), .int .u8 (R.to.f.toNat : Int), .int .u8 (R.fr.a.toNat : Int), .int .u8 (R.fr.b.toNat : Int), .int .u8 (R.fr.c.toNat : Int), .int .u8 (R.fr.d.toNat : Int), .int .u8 (R.fr.e.toNat : Int), .int .u8 (R.fr.f.toNat : Int), .int .i64 R.ty, .string R.da] 51))
      clear b6 B6
      go_upto_region 12 with fail
      generalize hW : w6.alloc _ = w7 at FY B7 ⊢
      obtain ⟨n9, hn⟩ : ∃ n, n = w6.heap.size := ⟨_, rfl⟩
      rw [← hn] at FY ⊢
      clear hW hn
      obtain ⟨⟨y0, y1, y2, y3, y4, y5⟩, ⟨y6, y7, y8, y9, y10, y11⟩, y12, y13⟩ := FY.out.all
      by_cases hi : I = 0
      · obtain ⟨t1, t2⟩ := read_back s (HI.out ▸ hi)
        have U1 : Hid (frE R = 0) := Lib.hid (by rw [HR.out]; exact t1)
        have U2 : Hid (frS R = s) := Lib.hid (by rw [HR.out]; exact t2)
        have OK : Hid R.ok := Lib.hid (by rw [HR.out]; exact rd_ok s O3.out)
        clear t1 t2
        go_wp2_with fail
        refine (Bytes_any _ R OK.out).mono ?_
        rintro e w8 ⟨rfl, b8⟩
        rw [U1.out, U2.out]
        have B8 := below_step B7 b8
        clear b8 B7 y0 y1 y2 y3 y4 y5 y6 y7 y8 y9 y10 y11 y12 y13
        go_wp2
        go_ret
        exact ⟨rfl, B8.out⟩
      · have RZ : R = frZ := by rw [HR.out]; exact read_none s (HI.out ▸ hi)
        have ez : ∀ w, (Op.equalIn 10000 51 (.agg #[.int .u8 (R.to.a.toNat : Int), .int .u8 (R.to.b.toNat : Int), .int .u8 (R.to.c.toNat : Int), .int .u8 (R.to.d.toNat : Int), .int .u8 (R.to.e.toNat : Int), .int .u8 (R.to.f.toNat : Int), .int .u8 (R.fr.a.toNat : Int), .int .u8 (R.fr.b.toNat : Int), .int .u8 (R.fr.c.toNat : Int), .int .u8 (R.fr.d.toNat : Int), .int .u8 (R.fr.e.toNat : Int), .int .u8 (R.fr.f.toNat : Int), .int .i64 R.ty, .string R.da]) (.agg #[.int .u8 0, .int .u8 0, .int .u8 0, .int .u8 0, .int .u8 0, .int .u8 0, .int .u8 0, .int .u8 0, .int .u8 0, .int .u8 0, .int .u8 0, .int .u8 0, .int .i64 0, .string ⟨#[]⟩])).run Try.prog w = .ok true w := fun w => by
          rw [RZ]
          exact eql_zero w
        have i0 : (I != 0) = true := by simp [hi]
        have i1 : (I == 0) = false := by simp [hi]
        clear RZ hi
        go_wp2
        go_ret
        exact ⟨rfl, B7.out⟩
    · have g0 : (G == 0) = false := by simp [hg]
      clear hg
      go_upto_region 11 with fail
      clear c0 c1 c2 c3 c4 c5 c6 c7 c8 c9 c10 c11 c12 c13 d0 d1 d2 d3 d4 d5 d6 d7 d8 d9 d10 d11 d12 d13 x0 x1 x2 x3 x4 x5 x6 x7 x8 x9 x10 x11 x12 x13 ef eg g0
      go_wp2_with fail
      refine (Read_any _ s R HR.out).mono ?_
      rintro e w6 ⟨rfl, b6⟩
      rw [← HI.out]
      have B6 := below_step B5 b6
      have FY : Hid (FrAt (w6.alloc (.cells #[.int .u8 (R.to.a.toNat : Int), .int .u8 (R.to.b.toNat : Int), .int .u8 (R.to.c.toNat : Int), .int .u8 (R.to.d.toNat : Int), .int .u8 (R.to.e.toNat : Int), .int .u8 (R.to.f.toNat : Int), .int .u8 (R.fr.a.toNat : Int), .int .u8 (R.fr.b.toNat : Int), .int .u8 (R.fr.c.toNat : Int), .int .u8 (R.fr.d.toNat : Int), .int .u8 (R.fr.e.toNat : Int), .int .u8 (R.fr.f.toNat : Int), .int .i64 R.ty, .string R.da] 51)) w6.heap.size R) := Lib.hid (heap_alloc_new w6 _)
      have B7 := below_step B6 ((Below.refl _ _).alloc (Nat.le_refl _) (.cells #[.int .u8 (R.to.a.toNat : Int), .int .u8 (R.to.b.toNat : Int), .int .u8 (R.to.c.toNat : Int), .int .u8 (R.to.d.toNat : Int), .int .u8 (R.to.e.toNat : Int), .int .u8 (R.to.f.toNat : Int), .int .u8 (R.fr.a.toNat : Int), .int .u8 (R.fr.b.toNat : Int), .int .u8 (R.fr.c.toNat : Int), .int .u8 (R.fr.d.toNat : Int), .int .u8 (R.fr.e.toNat : Int), .int .u8 (R.fr.f.toNat : Int), .int .i64 R.ty, .string R.da] 51))
      clear b6 B6
      go_upto_region 12 with fail
      generalize hW : w6.alloc _ = w7 at FY B7 ⊢
      obtain ⟨n9, hn⟩ : ∃ n, n = w6.heap.size := ⟨_, rfl⟩
      rw [← hn] at FY ⊢
      clear hW hn
      obtain ⟨⟨y0, y1, y2, y3, y4, y5⟩, ⟨y6, y7, y8, y9, y10, y11⟩, y12, y13⟩ := FY.out.all
      by_cases hi : I = 0
      · obtain ⟨t1, t2⟩ := read_back s (HI.out ▸ hi)
        have U1 : Hid (frE R = 0) := Lib.hid (by rw [HR.out]; exact t1)
        have U2 : Hid (frS R = s) := Lib.hid (by rw [HR.out]; exact t2)
        have OK : Hid R.ok := Lib.hid (by rw [HR.out]; exact rd_ok s O3.out)
        clear t1 t2
        go_wp2_with fail
        refine (Bytes_any _ R OK.out).mono ?_
        rintro e w8 ⟨rfl, b8⟩
        rw [U1.out, U2.out]
        have B8 := below_step B7 b8
        clear b8 B7 y0 y1 y2 y3 y4 y5 y6 y7 y8 y9 y10 y11 y12 y13
        go_wp2
        go_ret
        exact ⟨rfl, B8.out⟩
      · have RZ : R = frZ := by rw [HR.out]; exact read_none s (HI.out ▸ hi)
        have ez : ∀ w, (Op.equalIn 10000 51 (.agg #[.int .u8 (R.to.a.toNat : Int), .int .u8 (R.to.b.toNat : Int), .int .u8 (R.to.c.toNat : Int), .int .u8 (R.to.d.toNat : Int), .int .u8 (R.to.e.toNat : Int), .int .u8 (R.to.f.toNat : Int), .int .u8 (R.fr.a.toNat : Int), .int .u8 (R.fr.b.toNat : Int), .int .u8 (R.fr.c.toNat : Int), .int .u8 (R.fr.d.toNat : Int), .int .u8 (R.fr.e.toNat : Int), .int .u8 (R.fr.f.toNat : Int), .int .i64 R.ty, .string R.da]) (.agg #[.int .u8 0, .int .u8 0, .int .u8 0, .int .u8 0, .int .u8 0, .int .u8 0, .int .u8 0, .int .u8 0, .int .u8 0, .int .u8 0, .int .u8 0, .int .u8 0, .int .i64 0, .string ⟨#[]⟩])).run Try.prog w = .ok true w := fun w => by
          rw [RZ]
          exact eql_zero w
        have i0 : (I != 0) = true := by simp [hi]
        have i1 : (I == 0) = false := by simp [hi]
        clear RZ hi
        go_wp2
        go_ret
        exact ⟨rfl, B7.out⟩
  · have e0 : (E == 0) = false := by simp [he]
    clear he
    go_upto_region 11 with fail
    clear e0
    go_wp2_with fail
    refine (Read_any _ s R HR.out).mono ?_
    rintro e w6 ⟨rfl, b6⟩
    rw [← HI.out]
    have B6 := below_step B3 b6
    have FY : Hid (FrAt (w6.alloc (.cells #[.int .u8 (R.to.a.toNat : Int), .int .u8 (R.to.b.toNat : Int), .int .u8 (R.to.c.toNat : Int), .int .u8 (R.to.d.toNat : Int), .int .u8 (R.to.e.toNat : Int), .int .u8 (R.to.f.toNat : Int), .int .u8 (R.fr.a.toNat : Int), .int .u8 (R.fr.b.toNat : Int), .int .u8 (R.fr.c.toNat : Int), .int .u8 (R.fr.d.toNat : Int), .int .u8 (R.fr.e.toNat : Int), .int .u8 (R.fr.f.toNat : Int), .int .i64 R.ty, .string R.da] 51)) w6.heap.size R) := Lib.hid (heap_alloc_new w6 _)
    have B7 := below_step B6 ((Below.refl _ _).alloc (Nat.le_refl _) (.cells #[.int .u8 (R.to.a.toNat : Int), .int .u8 (R.to.b.toNat : Int), .int .u8 (R.to.c.toNat : Int), .int .u8 (R.to.d.toNat : Int), .int .u8 (R.to.e.toNat : Int), .int .u8 (R.to.f.toNat : Int), .int .u8 (R.fr.a.toNat : Int), .int .u8 (R.fr.b.toNat : Int), .int .u8 (R.fr.c.toNat : Int), .int .u8 (R.fr.d.toNat : Int), .int .u8 (R.fr.e.toNat : Int), .int .u8 (R.fr.f.toNat : Int), .int .i64 R.ty, .string R.da] 51))
    clear b6 B6
    go_upto_region 12 with fail
    generalize hW : w6.alloc _ = w7 at FY B7 ⊢
    obtain ⟨n9, hn⟩ : ∃ n, n = w6.heap.size := ⟨_, rfl⟩
    rw [← hn] at FY ⊢
    clear hW hn
    obtain ⟨⟨y0, y1, y2, y3, y4, y5⟩, ⟨y6, y7, y8, y9, y10, y11⟩, y12, y13⟩ := FY.out.all
    by_cases hi : I = 0
    · obtain ⟨t1, t2⟩ := read_back s (HI.out ▸ hi)
      have U1 : Hid (frE R = 0) := Lib.hid (by rw [HR.out]; exact t1)
      have U2 : Hid (frS R = s) := Lib.hid (by rw [HR.out]; exact t2)
      have OK : Hid R.ok := Lib.hid (by rw [HR.out]; exact rd_ok s O3.out)
      clear t1 t2
      go_wp2_with fail
      refine (Bytes_any _ R OK.out).mono ?_
      rintro e w8 ⟨rfl, b8⟩
      rw [U1.out, U2.out]
      have B8 := below_step B7 b8
      clear b8 B7 y0 y1 y2 y3 y4 y5 y6 y7 y8 y9 y10 y11 y12 y13
      go_wp2
      go_ret
      exact ⟨rfl, B8.out⟩
    · have RZ : R = frZ := by rw [HR.out]; exact read_none s (HI.out ▸ hi)
      have ez : ∀ w, (Op.equalIn 10000 51 (.agg #[.int .u8 (R.to.a.toNat : Int), .int .u8 (R.to.b.toNat : Int), .int .u8 (R.to.c.toNat : Int), .int .u8 (R.to.d.toNat : Int), .int .u8 (R.to.e.toNat : Int), .int .u8 (R.to.f.toNat : Int), .int .u8 (R.fr.a.toNat : Int), .int .u8 (R.fr.b.toNat : Int), .int .u8 (R.fr.c.toNat : Int), .int .u8 (R.fr.d.toNat : Int), .int .u8 (R.fr.e.toNat : Int), .int .u8 (R.fr.f.toNat : Int), .int .i64 R.ty, .string R.da]) (.agg #[.int .u8 0, .int .u8 0, .int .u8 0, .int .u8 0, .int .u8 0, .int .u8 0, .int .u8 0, .int .u8 0, .int .u8 0, .int .u8 0, .int .u8 0, .int .u8 0, .int .i64 0, .string ⟨#[]⟩])).run Try.prog w = .ok true w := fun w => by
        rw [RZ]
        exact eql_zero w
      have i0 : (I != 0) = true := by simp [hi]
      have i1 : (I == 0) = false := by simp [hi]
      clear RZ hi
      go_wp2
      go_ret
      exact ⟨rfl, B7.out⟩

set_option maxRecDepth 100000 in
theorem lifted (os : Os) (started : os.Started) (H : Type) (enc : TypeId × Value → H) :
    ReturnsInHanded {} Try.checked os 7 .any (Rows.etherBackSpec.pre6 enc Try.prog Try.f7 Rows.etherBackRow.domain false) (Rows.etherBackSpec.post enc Try.prog Try.f7 false true false false) := by
  refine returnsInHanded_of_change (C := Try.checked) own started (by kernel_rfl) Try.func7
    (ChangeSpec.witness6 (enc := enc) (C := Try.checked) false ⟨#[], #[.agg #[.int .u8 0, .int .u8 0, .int .u8 0, .int .u8 0, .int .u8 0, .int .u8 0, .int .u8 0, .int .u8 0, .int .u8 0, .int .u8 0, .int .u8 0, .int .u8 0, .int .i64 0, .string ByteArray.empty], .agg #[.int .u8 0, .int .u8 0, .int .u8 0, .int .u8 0, .int .u8 0, .int .u8 0, .int .u8 0, .int .u8 0, .int .u8 0, .int .u8 0, .int .u8 0, .int .u8 0, .int .i64 0, .string ByteArray.empty], .string ByteArray.empty], []⟩ 8 (by kernel_rfl) (by kernel_rfl) (by kernel_rfl) (by kernel_rfl)) ?_
  intro W base args ds gs before hval0 hW hcnd _
  have hval : ∀ (j : Nat) t v, Try.f7.params[j]? = some t → args[j]? = some v → Value.okWide Try.prog W .any base t v := hval0
  have hW' := hW
  obtain ⟨p, q, hA0, hV, rfl, hfz, hnd⟩ := hW
  have hA : DataW.TrodAll enc Try.prog W 0 (fun _ => true) true Try.f7.params.toList args.toList ds p := hA0
  rw [Try.params7] at hA hval
  obtain ⟨v0, vs0, d0, ds0, p0, q0, hargs, rfl, rfl, h0, r0⟩ := trodAll_cons hA
  obtain ⟨v1, vs1, d1, ds1, p1, q1, rfl, rfl, rfl, h1, r1⟩ := trodAll_cons r0
  obtain ⟨v2, vs2, d2, ds2, p2, q2, rfl, rfl, rfl, h2, r2⟩ := trodAll_cons r1
  obtain ⟨rfl, rfl, rfl⟩ := trodAll_nil r2
  obtain rfl : args = #[v0, v1, v2] := by cases args; simp_all
  obtain ⟨rfl, rfl⟩ := trodVars_none hV
  obtain ⟨a0, rfl, w0⟩ := open_frame (hval 0 51 v0 rfl rfl) h0
  have k0 := h0
  have lt0 : ∀ x ∈ p0, x.block < W.heap.size := by obtain ⟨m, hm⟩ := k0; exact DataW.trod_lt m _ _ _ hm
  obtain ⟨a1, rfl, w1⟩ := open_frame (hval 1 51 v1 rfl rfl) h1
  have k1 := h1
  have lt1 : ∀ x ∈ p1, x.block < W.heap.size := by obtain ⟨m, hm⟩ := k1; exact DataW.trod_lt m _ _ _ hm
  obtain ⟨a2, rfl, rfl, rfl, w2⟩ := open_string Try.underlying9 (hval 2 9 v2 rfl rfl) h2
  clear hA0 hval0
  refine (walk a0 a1 a2 w0 w1 w2 W).mono fun e W' ⟨he, bel⟩ => ?_
  subst he
  exact ⟨_, rfl, _, _, _, [], _, [], hW', trodAll_mk1 (shut_bool Try.underlying4 _), (trodAll_cons_mk (Below.trod laidOut (by kernel_rfl) (of_decide_eq_true (by kernel_rfl)) k0 bel lt0) (trodAll_cons_mk (Below.trod laidOut (by kernel_rfl) (of_decide_eq_true (by kernel_rfl)) k1 bel lt1) (trodAll_cons_mk (shut_string Try.underlying9 w2) trodAll_mk0))), rfl, bel.frame _, fun h => by cases h⟩

/-- THE STATEMENT. -/
theorem proved : Rows.EtherBackSaid :=
  OpenClaim.holds_of_wide 7 Try.f7 rfl rfl rfl rfl rfl rfl rfl ⟨rfl, rfl, rfl, rfl, rfl⟩ rfl rfl rfl rfl rfl (by kernel_rfl) Try.func7 (by kernel_rfl)
    (of_decide_eq_true (by kernel_rfl)) (by unfold Func.isWrapper; first | (rw [if_pos (by decide +kernel)]; kernel_rfl) | (rw [if_neg (by decide +kernel)]; exact ⟨rfl, rfl⟩))
    (fun os started H enc _ => lifted os started H enc)
#print axioms proved

end Go.Proofs.Ytbbmfgeagdblcaa.etb
