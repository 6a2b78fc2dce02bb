/-
  VblkDisk: the card. Conditions: the package's table of shapes lies as its initialiser lays it (the card ties it).
-/
import Derived.Test.YtdchlnffbiooaaaGreatDoorDqC
import Derived.Deep.CutRange
import Derived.Deep.CutBlock
import Derived.Test.YtdchlnffbiooaaaGreatDoorDqB
import Derived.Lib.SmallJoins
import Derived.ProofKit
import Derived.OpenShut
import Derived.ShutString
import Derived.ChangeOld
import Derived.Below
import Derived.LaidMore
import Derived.Stop.Joined
import Derived.SevenTiedAt
namespace Go.Proofs.YtdchlnffbiooaaaGreatDoor.dkw
open Go.RowKit Go.Sort
set_option linter.unusedVariables false

set_option maxRecDepth 100000 in
set_option maxHeartbeats 8000000 in
theorem walk (a0 : Option Addr) (len0 cap0 : Nat) (l0 : List Int) (w : World) (hS : Shapes w) (ha : PU16s w a0 len0 l0) :
    Calls Tryz.prog 3 #[.slice a0 len0 cap0] w fun e w' => e = .returned (.bool true) ∧ Below w.heap.size w w' := by
  have HS := Lib.hid hS
  have HA := Lib.hid ha
  clear hS ha
  go_enter Tryz.func3, Tryz.ntmps3
  go_wp2_with fail
  refine (bawake_any _ HS.out).mono ?_
  rintro e w1 ⟨rfl, b1⟩
  have B1 := Lib.hid b1
  have HA1 := Lib.hid (HA.out.below b1)
  have HS1 := Lib.hid (HS.out.kept (b1.block 0 HS.out.pos))
  clear b1 HA HS
  by_cases h60 : 60 < len0
  · have d1 : decide ((60 : Int) < (len0 : Int)) = true := decide_eq_true (by omega)
    clear h60
    go_wp2_with fail
    go_ret
    exact ⟨rfl, B1.out⟩
  have HLL : Hid (len0 ≤ 60) := Lib.hid (by omega)
  have d1 : decide ((60 : Int) < (len0 : Int)) = false := decide_eq_false (by omega)
  clear h60
  go_wp2_with fail
  refine (New_ok w1 4096 (by omega) (by omega)).mono ?_
  rintro e w2 ⟨rfl, m2, k2⟩
  clear d1
  have z0 : (List.replicate (4096 : Int).toNat (0 : UInt8)).length = 4096 := by rw [List.length_replicate]; rfl
  have bel2 := Below.of_none k2
  have z2 := k2.size
  have HZ0 := Lib.hid z0
  clear z0
  have BC := Lib.hid (bNew_ok w2 _ _ _ m2 (by have := HZ0.out; omega) (by have := HZ0.out; omega) 16 8 1000 (by rw [show ((List.replicate (4096 : Int).toNat (0 : UInt8)).length : Int) = ((4096 : Nat) : Int) from by rw [HZ0.out]]; exact d_bar _ rfl) (by omega) (by omega) (by omega) (by omega))
  go_wp2_with fail
  refine BC.out.mono ?_
  clear BC
  rintro e w3 ⟨b, q, mb, u, rfl, hb, hq, hmb, hu, s3, t3⟩
  change KS w3 b _ _ q u mb dM0 16 8 1000 [] [] 0 0 false 0 0 false at s3
  have bel3 := bel2.trans (t3.below z2 (by rintro k rfl; omega))
  have z3 := t3.size
  have S3 := Lib.hid s3
  have T3 := Lib.hid bel3
  clear m2 k2 s3 t3 bel2 bel3
  have OC := Lib.hid (bOpen_ok w3 _ _ _ S3.out.qs.mem (by rw [dM0_len]; omega) (by rw [dM0_len]; omega) 16 (d_bar _ dM0_len))
  go_wp2_with fail
  refine OC.out.mono ?_
  clear OC
  rintro e w4 ⟨r, p, v, rfl, hr, hp, hv, r4, k4⟩
  have HB := Lib.hid (And.intro hb (And.intro hq (And.intro hmb (And.intro hu (And.intro hr (And.intro hp hv))))))
  have HZ := Lib.hid (And.intro z2 z3)
  have R4 := Lib.hid r4
  have K4 := Lib.hid k4
  clear r4 k4 hb hq hmb hu hr hp hv z2 z3 HZ0
  have hmm := @run_makeMap Tryz.prog
  go_upto_region 14 with fail
  clear hmm
  obtain ⟨K, hK⟩ : ∃ K : OBl, K = ⟨b, w1.heap.size + 1, w1.heap.size, q, u, mb, r, p, v, w3.heap.size, w4.heap.size + 1⟩ := ⟨_, rfl⟩
  obtain ⟨D, hD⟩ : ∃ D : Obj, D = .cells ((List.replicate 8 (0 : UInt8)).map eb).toArray 34 (0, 0) := ⟨_, rfl⟩
  have X5 : Hid (HC w1 ((w4.alloc D).alloc (.map #[] 0)) K dM0 0 0 0 [] [] [] 0 [] (.slice none 0 0) [] w4.heap.size (List.replicate 8 0)) := by
    obtain ⟨l1, l2, l3, l4, l5, l6⟩ := S3.out.lts
    obtain ⟨e1, e2, e3, e4, e5⟩ := R4.out.lts
    obtain ⟨h1, h2, h3, h4, h5, h6, h7⟩ := HB.out
    obtain ⟨y1, y2⟩ := HZ.out
    have ka := World.grownBy_alloc w4 D none
    have kb := World.grownBy_alloc (w4.alloc D) (.map #[] 0) none
    have k5 := K4.out.trans (ka.trans kb)
    have hsz : (w4.alloc D).heap.size = w4.heap.size + 1 := by simp
    have y4 := K4.out.size
    have hd : ((w4.alloc D).alloc (.map #[] 0)).heap[w4.heap.size]? = some D := (Below.heap_alloc (w4.alloc D) _ _ (by rw [hsz]; omega)).trans (heap_alloc_new w4 D)
    have tm := tab_made (w4.alloc D)
    rw [hsz] at tm
    have hd2 := hd.trans (congrArg some hD)
    rw [hK]
    exact Lib.hid ⟨⟨S3.out.grown k5, R4.out.grown (ka.trans kb), dl_nothing, dM0_len, ⟨by show w1.heap.size ≤ b; omega, by show w1.heap.size ≤ w1.heap.size + 1; omega, Nat.le_refl _, by show w1.heap.size ≤ q; omega, by show w1.heap.size ≤ u; omega, by show w1.heap.size ≤ mb; omega⟩,
      ⟨by show b < w3.heap.size; omega, by show w1.heap.size + 1 < w3.heap.size; omega, by show w1.heap.size < w3.heap.size; omega, by show q < w3.heap.size; omega, by show u < w3.heap.size; omega, by show mb < w3.heap.size; omega⟩, ⟨h5, h6, h7⟩, T3.out.grown k5 T3.out.size (fun j e => by cases e), HS1.out⟩,
      tm, hd2, World.ownsRow_nil _ _ _ _, (by intro j hj; simp only [DB, KB, RB] at hj; omega), (by show w4.heap.size < w4.heap.size + 1; omega), (fun k hk => by cases hk), by omega, by simp, (fun k hk => by cases hk), (fun _ k hk => by cases hk)⟩
  have hDz : D = .cells #[.int .u8 0, .int .u8 0, .int .u8 0, .int .u8 0, .int .u8 0, .int .u8 0, .int .u8 0, .int .u8 0] 34 (0, 0) := by rw [hD]; rfl
  have KB : Hid (K.b = b ∧ K.g = w1.heap.size + 1 ∧ K.r = r ∧ K.o = w4.heap.size + 1) := Lib.hid (by rw [hK]; exact ⟨rfl, rfl, rfl, rfl⟩)
  rw [hDz] at X5
  have hsz : (w4.alloc (.cells #[.int .u8 0, .int .u8 0, .int .u8 0, .int .u8 0, .int .u8 0, .int .u8 0, .int .u8 0, .int .u8 0] 34 (0, 0))).heap.size = w4.heap.size + 1 := by simp
  try rw [hsz]
  obtain ⟨kb, kg, kr, ko⟩ := KB.out
  rw [← kb, ← kr, ← ko]
  clear kb kg kr ko KB hK S3 T3 R4 K4 HB HZ hDz hD hsz
  generalize (w4.alloc _).alloc _ = w5 at X5 ⊢
  generalize w4.heap.size = kd at X5 ⊢
  generalize (List.replicate 8 (0 : UInt8)) = dk0 at X5
  generalize dM0 = M0 at X5
  go_loopw [10, 12] (fun va i wr => ∃ (k : Nat) (M : List UInt8) (off back taken : Int) (ts : List (Int × Tkn)) (es : List En) (hs : List Int) (last : Int) (ms : List (Int × Value)) (hl : List Hd) (dk : List UInt8), k ≤ len0 + 70 ∧ i = .int .i64 k ∧ Hid (HC w1 wr K M off back taken ts es hs last ms va hl kd dk) ∧ Hid (HR ts es ms hl) ∧ Hid (last ≤ k) ∧ Hid (len0 ≤ k → es.length + k ≤ 70 + len0)) (fun _ i _ => len0 + 70 - (intOf i).toNat)
  case atStart => exact ⟨0, M0, 0, 0, 0, [], [], [], 0, [], [], dk0, Nat.zero_le _, rfl, X5, Lib.hid HR.nothing, Lib.hid (by omega), Lib.hid (fun _ => by simp)⟩
  case round =>
    clear X5
    obtain ⟨k, M, off, back, taken, ts, es, hs, last, ms, hl, dk, hk, rfl, XC, XR, HLK, HEK⟩ := hrel
    rename Value => va
    have hll := HLL.out
    have q5 : IntKind.i64.wrap ((len0 : Int) + 70) = (len0 : Int) + 70 := IntWalk.i64_in _ (by omega)
    have q6 : IntKind.i64.wrap ((k : Int) + 1) = (k : Int) + 1 := IntWalk.i64_in _ (by omega)
    obtain ⟨pv, cv, hva⟩ := RowA.shape XC.out.row
    subst hva
    by_cases hlt : k < len0 + 70
    · have q3 : decide ((k : Int) < (len0 : Int) + 70) = true := decide_eq_true (by omega)
      have HKL := Lib.hid hlt
      go_upto_if 60 with fail
      go_cut [13] from 61 to 64 (fun v13 wx => ∃ nn : Int, v13 = .int .u16 nn ∧ (0 ≤ nn ∧ nn ≤ 65535) ∧ wx = wr)
      case first =>
        by_cases hin : k < len0
        · have d1 : decide ((k : Int) < (len0 : Int)) = true := decide_eq_true (by omega)
          have d1n : decide (k < len0) = true := decide_eq_true hin
          obtain ⟨hlen, cp, hrow⟩ := HA1.out.below XC.out.dx.bel
          obtain ⟨ab, ao, x, hp, hx, hx1, hx2⟩ := RowAt.at_ hrow k (by rw [← hlen]; exact hin)
          subst hp
          rw [Nat.mul_one] at hx2
          have r1 : (0 : Int) ≤ (k : Int) := by omega
          have r2 : (k : Int) < (len0 : Int) := by omega
          have HX1 := Lib.hid hx1
          clear hx hx1 hrow hlen
          go_wp2_with fail
          go_meet
          case rel => exact ⟨x, rfl, HX1.out, rfl⟩
        · have d1 : decide ((k : Int) < (len0 : Int)) = false := decide_eq_false (by omega)
          have d1n : decide (k < len0) = false := decide_eq_false hin
          go_wp2_with fail
          go_meet
          case rel => exact ⟨0, rfl, by omega, rfl⟩
      case rest =>
        obtain ⟨nn, rfl, hnn, rfl⟩ := hcut
        rename World => W0
        by_cases hsub : k < len0 ∧ nn % 2 = 0
        · have d1 : decide ((k : Int) < (len0 : Int)) = true := decide_eq_true (by omega)
          have d1n : decide (k < len0) = true := decide_eq_true hsub.1
          have t1 : Int.tmod nn 2 = 0 := by rw [Int.tmod_eq_emod_of_nonneg hnn.1]; exact hsub.2
          have t2 : Int.tdiv nn 2 = nn / 2 := Int.tdiv_eq_ediv_of_nonneg hnn.1
          have t3 : Int.tdiv nn 8 = nn / 8 := Int.tdiv_eq_ediv_of_nonneg hnn.1
          obtain ⟨y2, hy2⟩ : ∃ y, y = nn / 2 := ⟨_, rfl⟩
          obtain ⟨z8, hz8⟩ : ∃ y, y = nn / 8 := ⟨_, rfl⟩
          rw [← hy2] at t2
          rw [← hz8] at t3
          have t4 : IntKind.u16.wrap y2 = y2 := by rw [IntKind.wrap_u16]; omega
          have t5 : IntKind.u16.wrap z8 = z8 := by rw [IntKind.wrap_u16]; omega
          have t6 : IntKind.i64.wrap y2 = y2 := IntWalk.i64_in _ (by omega)
          have t7 : IntKind.i64.wrap z8 = z8 := IntWalk.i64_in _ (by omega)
          obtain ⟨kk, hkk⟩ : ∃ kk, kk = 1 + y2 % 3 := ⟨_, rfl⟩
          obtain ⟨s8, hs8⟩ : ∃ s8, s8 = z8 % 8 := ⟨_, rfl⟩
          obtain ⟨y3, hy3⟩ : ∃ y3, y3 = y2 % 3 := ⟨_, rfl⟩
          have t8 : Int.tmod y2 3 = y3 := by rw [hy3]; exact Int.tmod_eq_emod_of_nonneg (by omega)
          have t9 : Int.tmod z8 8 = s8 := by rw [hs8]; exact Int.tmod_eq_emod_of_nonneg (by omega)
          have u1 : IntKind.i64.wrap y3 = y3 := IntWalk.i64_in _ (by omega)
          have u2 : IntKind.i64.wrap s8 = s8 := IntWalk.i64_in _ (by omega)
          have u3 : IntKind.i64.wrap (1 + y3) = kk := by rw [IntWalk.i64_in _ (by omega)]; omega
          have HKK : Hid ((kk = 1 ∨ kk = 2 ∨ kk = 3) ∧ 0 ≤ s8 ∧ s8 < 8) := Lib.hid (by omega)
          have HSB := Lib.hid hsub.1
          have A1 := Lib.hid (heap_alloc_new W0 (.cells #[.int .i64 kk, .int .i64 s8, .string ⟨#[]⟩] 39))
          have BL := Lib.hid ((Below.refl W0.heap.size W0).alloc (Nat.le_refl _) (.cells #[.int .i64 kk, .int .i64 s8, .string ⟨#[]⟩] 39))
          clear hy2 hz8 hkk hs8 hy3 hsub hnn hlt hk hll
          go_upto_region 21 with fail
          obtain ⟨na, hna⟩ : ∃ na, na = W0.heap.size := ⟨_, rfl⟩
          rw [← hna] at A1
          rw [← hna]
          have HNA := Lib.hid hna
          clear hna t1 t2 t3 t4 t5 t6 t7 t8 t9 u1 u2 u3 d1 d1n q3
          generalize W0.alloc _ = W5 at A1 BL ⊢
          obtain ⟨c0, c1, c2, f0⟩ := cells3D A1.out
          have f1 := f0 1
          go_upto_if 86 with fail
          go_cut [] from 87 to 87 (fun wx => ∃ sz : Int, Hid ((0 ≤ sz ∧ sz < 8) ∧ (kk = 3 → sz = 0)) ∧ Hid (Below W0.heap.size W0 wx) ∧ Hid (wx.heap[na]? = some (.cells #[.int .i64 kk, .int .i64 sz, .string ⟨#[]⟩] 39 (0, 0))))
          case first =>
            by_cases h3 : kk = 3
            · subst h3
              have A7 := Lib.hid (set_cellsD A1.out (i := 1) (.int .i64 0))
              have BL7 : Hid (Below W0.heap.size W0 (W5.setCell ⟨na, 1, none⟩ (.int .i64 0))) := Lib.hid (BL.out.setCell (by show W0.heap.size ≤ na; rw [HNA.out]; exact Nat.le_refl _) _)
              go_wp2_with fail
              go_meet
              case rel => exact ⟨0, Lib.hid ⟨by omega, fun _ => rfl⟩, BL7, A7⟩
            · have e3 : (kk == 3) = false := beq_eq_false_iff_ne.2 h3
              have HK3 := Lib.hid h3
              clear h3
              go_wp2_with fail
              go_meet
              case rel => exact ⟨s8, Lib.hid ⟨HKK.out.2, fun h => absurd h HK3.out⟩, BL, A1⟩
          case rest =>
          clear A1 BL c0 c1 c2 f0 f1
          obtain ⟨sz, HSZ, BL, A1⟩ := hcut
          rename World => W5
          obtain ⟨c0, c1, c2, f0⟩ := cells3D A1.out
          have f2 := f0 2
          go_upto_if 90 with fail
          go_cut [] from 91 to 95 (fun wx => ∃ o : Ord, Hid (OrdOK o) ∧ Hid (Below W0.heap.size W0 wx) ∧ Hid (wx.heap[na]? = some (.cells #[.int .i64 o.kind, .int .i64 o.sec, .string o.data] 39 (0, 0))))
          case first =>
            by_cases h2 : kk = 2
            · subst h2
              have v1 : IntKind.i64.wrap (1 + (k : Int)) = 1 + (k : Int) := IntWalk.i64_in _ (by have := HKL.out; have := HLL.out; omega)
              have v2 : IntKind.u8.wrap (1 + (k : Int)) = 1 + (k : Int) := by rw [IntKind.wrap_u8]; have := HKL.out; have := HLL.out; omega
              obtain ⟨by1, hby⟩ : ∃ b : UInt8, 1 + (k : Int) = (b.toNat : Int) := ⟨UInt8.ofNat (1 + k), by have := HKL.out; have := HLL.out; rw [UInt8.toNat_ofNat']; omega⟩
              have FC := Lib.hid (fun W => full_any W by1 (1 + (k : Int)) hby)
              clear hby
              go_wp2_with fail
              refine (FC.out _).mono ?_
              rintro e w6 ⟨rfl, b6⟩
              have BL6 := Lib.hid (BL.out.trans (b6.mono BL.out.size))
              have A6 := Lib.hid ((b6.block na (lt_of_block A1.out)).trans A1.out)
              clear b6 c0 c1 c2 f2 f0
              obtain ⟨c0, c1, c2, f0⟩ := cells3D A6.out
              have f2 := f0 2
              have A7 := Lib.hid (set_cellsD A6.out (i := 2) (.string (fullS by1)))
              have BL7 : Hid (Below W0.heap.size W0 (w6.setCell ⟨na, 2, none⟩ (.string (fullS by1)))) := Lib.hid (BL6.out.setCell (by show W0.heap.size ≤ na; rw [HNA.out]; exact Nat.le_refl _) _)
              clear f0
              go_wp2_with fail
              go_meet
              case rel => exact ⟨⟨2, sz, fullS by1⟩, Lib.hid (OrdOK.write sz HSZ.out.1 by1), BL7, A7⟩
            · have e2 : (kk == 2) = false := beq_eq_false_iff_ne.2 h2
              have HO : Hid (OrdOK ⟨kk, sz, ⟨#[]⟩⟩) := Lib.hid (by
                rcases HKK.out.1 with h | h | h
                · rw [h]; exact OrdOK.read sz HSZ.out.1
                · exact absurd h h2
                · rw [h, HSZ.out.2 h]; exact OrdOK.flush)
              clear h2
              go_wp2_with fail
              go_meet
              case rel => exact ⟨⟨kk, sz, ⟨#[]⟩⟩, HO, BL, A1⟩
          case rest =>
            clear A1 BL HKK HSZ c0 c1 c2 f0 f2
            obtain ⟨o, HOK, BL, A1⟩ := hcut
            rename World => W7
            have X7 := Lib.hid (XC.out.below BL.out)
            have rg := Lib.hid (range3D A1.out)
            obtain ⟨kx, hkx, hke⟩ := HOK.out.shape
            have HKE := Lib.hid (And.intro hkx hke)
            clear hkx hke
            have NO : Hid (K.o < na) := Lib.hid (by rw [HNA.out]; exact XC.out.map.lt)
            have NDB : Hid (¬ DB K na) := Lib.hid (fun e => by have := X7.out.hb _ (.inl e); have := X7.out.ne; have := NO.out; omega)
            have HML := Lib.hid XR.out.len
            have hLK := HLK.out
            have hKL := HKL.out
            have hLL := HLL.out
            clear XC
            by_cases hf : es.length ≤ 7
            · have SC := Lib.hid (dk_submit X7.out.dx o kx HKE.out.1 HKE.out.2 HOK.out.1 hf (by omega))
              have e8 : decide (((es.length : Nat) : Int) < 8) = true := decide_eq_true (by omega)
              have e8n : decide (es.length < 8) = true := decide_eq_true (by omega)
              clear hLK hKL hLL
              go_wp2_with (refine wpList_load_mid rfl 39 _ rfl na 0 rfl [.int .i64 o.kind, .int .i64 o.sec, .string o.data] _ rg.out Tryz.underlying39 rfl (by kernel_rfl) ?_)
              refine SC.out.mono ?_
              clear SC
              rintro e w8 ⟨M', en, rfl, eo, ei, dx8, t8⟩
              have X8 := Lib.hid (X7.out.submit XR.out dx8 t8)
              have A8 := Lib.hid ((t8.block na (lt_of_block A1.out) NDB.out).trans A1.out)
              have R8 := Lib.hid (XR.out.submit en o eo HOK.out (last + 1) ei)
              have FR : Hid (∀ c ∈ ms, c.1 ≠ last + 1) := Lib.hid (XR.out.fresh (last + 1) (fun z hz e => by
                have := X7.out.dx.ks.bds z.y (List.mem_map.2 ⟨z, hz, rfl⟩)
                omega))
              have HWK : Hid ((Lit.int .i64 (last + 1)).wf = true) := Lib.hid (WalkArith.wf_i64 (by have := HLK.out; have := HKL.out; have := HLL.out; have := X7.out.dx.ks.last0; omega))
              clear dx8 t8 eo ei rg
              have rg := Lib.hid (range3D A8.out)
              have LC := fun ty => X8.out.map.len (P := Tryz.prog) Tryz.underlying36 ty
              rw [HML.out] at LC
              go_wp2_with (first | (refine wpList_load_mid rfl 39 _ rfl na 0 rfl [.int .i64 o.kind, .int .i64 o.sec, .string o.data] _ rg.out Tryz.underlying39 rfl (by kernel_rfl) ?_) | (at_mapUpdate; refine wpList_mapUpdate_tab _ rfl _ _ _ 36 rfl 3 39 Tryz.underlying36 Tryz.underlying3 K.o (last + 1) o.val ms X8.out.map HWK.out FR.out rfl rfl rfl ?_; intro w10 t10 k10; have X10 := Lib.hid (X8.out.setmap k10 t10); clear t10 k10))
              go_roundw
              case rel => exact ⟨k + 1, M', _, _, _, _, _, _, last + 1, _, hl, dk, by have := HKL.out; omega, by go_num, X10, R8, Lib.hid (by have := HLK.out; omega), Lib.hid (fun h => by have := HSB.out; rw [List.length_append, List.length_singleton]; omega)⟩
              case measure => have := HKL.out; simp [intOf]; omega
            · have SC := Lib.hid (dk_full X7.out.dx o kx HKE.out.1 HKE.out.2 HOK.out.1 (by omega))
              have h8 := X7.out.dx.dl.few
              have e8 : decide (((es.length : Nat) : Int) < 8) = false := decide_eq_false (by omega)
              have e8n : decide (es.length < 8) = false := decide_eq_false (by omega)
              clear hLK hKL hLL
              go_wp2_with (refine wpList_load_mid rfl 39 _ rfl na 0 rfl [.int .i64 o.kind, .int .i64 o.sec, .string o.data] _ rg.out Tryz.underlying39 rfl (by kernel_rfl) ?_)
              refine SC.out.mono ?_
              clear SC
              rintro e w8 ⟨rfl, dx8, t8⟩
              have X8 := Lib.hid (X7.out.below (Below.of_none t8))
              clear dx8 t8 rg
              have LC := fun ty => X8.out.map.len (P := Tryz.prog) Tryz.underlying36 ty
              rw [HML.out] at LC
              have H8 := Lib.hid h8
              clear h8 hf
              go_wp2_with fail
              go_roundw
              case rel => exact ⟨k + 1, M, _, _, _, _, _, _, last, _, hl, dk, by have := HKL.out; omega, by go_num, X8, XR, Lib.hid (by have := HLK.out; omega), Lib.hid (fun h => by have := HSB.out; have := H8.out; omega)⟩
              case measure => have := HKL.out; simp [intOf]; omega
        · -- the device's turn
          have hrem : Int.tmod nn 2 = nn % 2 := Int.tmod_eq_emod_of_nonneg hnn.1
          obtain ⟨r2, hr2⟩ : ∃ r2, r2 = nn % 2 := ⟨_, rfl⟩
          rw [← hr2] at hrem
          have w16 : IntKind.u16.wrap r2 = r2 := by rw [IntKind.wrap_u16]; omega
          have HNN := Lib.hid hnn
          have HSB : Hid (¬ (k < len0 ∧ r2 = 0)) := Lib.hid (by rw [hr2]; exact hsub)
          clear hsub hnn hr2 hlt hk hll
          go_upto_region 19 with fail
          go_cut [73] from 65 to 73 (fun v73 wx => v73 = .bool false ∧ wx = W0)
          case first =>
            by_cases hin : k < len0
            · have d1 : decide ((k : Int) < (len0 : Int)) = true := decide_eq_true (by omega)
              have d1n : decide (k < len0) = true := decide_eq_true hin
              have d2 : (r2 == 0) = false := beq_eq_false_iff_ne.2 (fun e => HSB.out ⟨hin, e⟩)
              go_wp2_with fail
              go_meet
              case rel => exact ⟨rfl, rfl⟩
            · have d1 : decide ((k : Int) < (len0 : Int)) = false := decide_eq_false (by omega)
              have d1n : decide (k < len0) = false := decide_eq_false hin
              go_wp2_with fail
              go_meet
              case rel => exact ⟨rfl, rfl⟩
          case rest =>
            obtain ⟨rfl, rfl⟩ := hcut
            rename World => W0
            clear hrem w16
            go_upto_block 2 with fail
            go_cut [10] from 121 to 137 (fun va wx => ∃ (taken : Int) (ts : List (Int × Tkn)) (hl : List Hd), Hid (HC w1 wx K M off back taken ts es [] last ms va hl kd dk) ∧ Hid (HR ts es ms hl))
            case first =>
              go_wp2_with fail
              go_loopw [10] (fun va wr => ∃ (taken : Int) (ts : List (Int × Tkn)) (hs : List Int) (hl : List Hd), Hid (HC w1 wr K M off back taken ts es hs last ms va hl kd dk) ∧ Hid (HR ts es ms hl)) (fun va _ => 9 - sliceLen va)
              case atStart => exact ⟨taken, ts, hs, hl, XC, XR⟩
              case round =>
                clear XC XR
                obtain ⟨taken, ts, hs, hl, XC, XR⟩ := hrel
                rename Value => va
                rename World => W1
                obtain ⟨pv, cv, hva⟩ := RowA.shape XC.out.row
                subst hva
                have h8 : hl.length ≤ 8 := by
                  have a1 := congrArg List.length XR.out.hds
                  have a2 := XC.out.dx.dl.split.length_eq
                  have a3 := XC.out.dx.dl.few
                  rw [List.length_map, List.length_map] at a1
                  rw [List.length_append, List.length_map, List.length_map] at a2
                  omega
                have H8 := Lib.hid h8
                have d1 : decide ((hl.length : Int) ≤ 300) = true := decide_eq_true (by omega)
                cases hs with
                | nil =>
                  have NC := Lib.hid (dk_nothing XC.out.dx)
                  clear h8
                  go_wp2_with fail
                  refine NC.out.mono ?_
                  clear NC
                  rintro e w8 ⟨rfl, dx8, t8⟩
                  have X8 := Lib.hid (XC.out.calls dx8 t8 (fun e h => h))
                  have X9 := Lib.hid (X8.out.below ((Below.refl _ _).alloc (Nat.le_refl _) (.cells #[.int .i64 0, .int .i64 0, .string ⟨#[]⟩] 39)))
                  clear dx8 t8
                  go_wp2_with fail
                  go_meet
                  case rel => exact ⟨taken, ts, hl, X9, XR⟩
                | cons h hs =>
                  have nc := dk_next XC.out.dx
                  simp only [Ord.val] at nc
                  have NC := Lib.hid nc
                  clear nc
                  obtain ⟨i0, z0, y1, y2, y3, y4, y5⟩ := info_hd
                  have I1 := Lib.hid y1
                  have I2 := Lib.hid y2
                  have I3 := Lib.hid y3
                  have I4 := Lib.hid y4
                  have I5 := Lib.hid y5
                  clear y1 y2 y3 y4 y5
                  go_wp2_with fail
                  refine NC.out.mono ?_
                  clear NC
                  rintro e w8 ⟨en, hen, eh, rfl, dx8, t8⟩
                  have X8 := Lib.hid (XC.out.calls dx8 t8 (fun e h => h))
                  have R8 := Lib.hid (XR.out.next en hen h eh (en.tkn 16))
                  have X9 := Lib.hid (X8.out.below ((Below.refl _ _).alloc (Nat.le_refl _) (.cells #[.int .i64 en.o.kind, .int .i64 en.o.sec, .string en.o.data] 39)))
                  have A9 := Lib.hid (heap_alloc_new w8 (.cells #[.int .i64 en.o.kind, .int .i64 en.o.sec, .string en.o.data] 39))
                  clear dx8 t8 hen eh XC XR h8
                  go_upto_region 32 with fail
                  generalize w8.alloc _ = w9 at X9 A9 ⊢
                  generalize w8.heap.size = nb at A9 ⊢
                  have rg := Lib.hid (range3D A9.out)
                  have X10 := Lib.hid (X9.out.below ((Below.refl _ _).alloc (Nat.le_refl _) (.cells #[.int .i64 h, .int .i64 en.o.kind, .int .i64 en.o.sec, .string en.o.data] 46)))
                  have CN : Hid (∀ (j : Nat) (u : Value), (encA encH [(⟨h, en.o⟩ : Hd)])[j]? = some u → (w9.alloc (.cells #[.int .i64 h, .int .i64 en.o.kind, .int .i64 en.o.sec, .string en.o.data] 46)).cell? ((⟨w9.heap.size, 0, none⟩ : Addr).add j) = some u) := Lib.hid (fun j u hu => by
                    have e : encA encH [(⟨h, en.o⟩ : Hd)] = encH ⟨h, en.o⟩ := by simp [encA]
                    rw [e] at hu
                    rw [add_off, Nat.zero_add, cell_of_block (heap_alloc_new w9 _)]
                    exact (List.getElem?_toArray (xs := encH ⟨h, en.o⟩)).trans hu)
                  clear X8
                  go_wp2_with (first | (refine wpList_load_mid rfl 39 _ rfl nb 0 rfl [.int .i64 en.o.kind, .int .i64 en.o.sec, .string en.o.data] _ rg.out Tryz.underlying39 rfl (by kernel_rfl) ?_) | (refine wpList_append_many encH_len encH_one (by decide) rfl (.tmp 132) (.tmp 136) 35 rfl i0 z0 40 Tryz.underlying35 I1.out I2.out I3.out I4.out (by decide) I5.out (.slice pv hl.length cv) hl (by first | rfl | kernel_rfl) X10.out.row [(⟨h, en.o⟩ : Hd)] (by have := H8.out; simp; omega) ⟨w9.heap.size, 0, none⟩ 1 1 rfl (by first | rfl | kernel_rfl) CN.out ?_; intro v11 w11 r11 g11 b11; have X11 := Lib.hid (X10.out.app g11 r11 b11 (by simp)); clear r11 g11 b11))
                  obtain ⟨p11, c11, hv11⟩ := RowA.shape X11.out.row
                  rw [List.length_append, List.length_singleton] at hv11
                  have hl9 : hl.length + 1 ≤ 8 := by
                    have a1 := congrArg List.length R8.out.hds
                    have a2 := X11.out.dx.dl.split.length_eq
                    have a3 := X11.out.dx.dl.few
                    rw [List.length_map, List.length_map] at a1
                    rw [List.length_append, List.length_map, List.length_map] at a2
                    simp at a1
                    simp at a2
                    omega
                  have HL9 := Lib.hid hl9
                  subst hv11
                  clear hl9
                  go_roundw
                  case rel => exact ⟨_, _, hs, _, X11, R8⟩
                  case measure => have := HL9.out; show 9 - (hl.length + 1) < 9 - hl.length; omega
            case rest =>
              clear XC XR
              obtain ⟨taken, ts, hl, XC, XR⟩ := hcut
              rename World => W1
              rename Value => va
              obtain ⟨pv, cv, hva⟩ := RowA.shape XC.out.row
              subst hva
              obtain ⟨hall, hnt⟩ := XR.out.all XC.out.dx.dl
              have HNT := Lib.hid hnt
              have HALL := Lib.hid hall
              have H8 := Lib.hid XC.out.dx.dl.few
              clear hnt
              by_cases hz : hl.length = 0
              · have d1 : ((hl.length : Int) == 0) = true := by rw [hz]; rfl
                have H0 : Hid (es.length = 0) := Lib.hid (by omega)
                clear hall
                go_wp2_with fail
                go_roundw
                case rel => exact ⟨k + 1, M, off, back, taken, ts, es, [], last, ms, hl, dk, by have := HKL.out; omega, by go_num, XC, XR, Lib.hid (by have := HLK.out; omega), Lib.hid (fun h => by have := H0.out; have := HKL.out; omega)⟩
                case measure => have := HKL.out; simp [intOf]; omega
              · have d1 : ((hl.length : Int) == 0) = false := beq_eq_false_iff_ne.2 (by omega)
                obtain ⟨m, hm⟩ : ∃ m, m = hl.length := ⟨_, rfl⟩
                rw [← hm] at d1 ⊢
                have t2 : Int.tdiv nn 2 = nn / 2 := Int.tdiv_eq_ediv_of_nonneg HNN.out.1
                obtain ⟨y2, hy2⟩ : ∃ y : Int, y = nn / 2 := ⟨_, rfl⟩
                rw [← hy2] at t2
                have hy0 : 0 ≤ y2 ∧ y2 ≤ 65535 := by have := HNN.out; omega
                have t4 : IntKind.u16.wrap y2 = y2 := by rw [IntKind.wrap_u16]; omega
                have t6 : IntKind.i64.wrap y2 = y2 := IntWalk.i64_in _ (by omega)
                have hmp : (0 : Int) < (m : Int) := by omega
                have hmd := Int.emod_lt_of_pos y2 hmp
                have hmd0 := Int.emod_nonneg y2 (show (m : Int) ≠ 0 by omega)
                obtain ⟨kx, hkx⟩ : ∃ kx : Nat, (kx : Int) = y2 % (m : Int) := ⟨(y2 % (m : Int)).toNat, by omega⟩
                have hkm : kx < m := by omega
                have ez : ¬ (m : Int) = 0 := by omega
                have t8 : Int.tmod y2 (m : Int) = (kx : Int) := by rw [hkx, Int.tmod_eq_emod_of_nonneg hy0.1]
                have t9 : IntKind.i64.wrap (kx : Int) = (kx : Int) := IntWalk.i64_in _ (by have := H8.out; omega)
                obtain ⟨⟨zh, ⟨zk, zs, zd⟩⟩, hzk⟩ : ∃ z, hl[kx]? = some z := ⟨_, List.getElem?_eq_getElem (by omega)⟩
                obtain ⟨en, hen, eh, eo, hts⟩ := XR.out.entry XC.out.dx.dl hzk
                dsimp only at eh eo
                obtain ⟨b, cap, hv, hcap, hmx, hbl, hfz, hE⟩ := RowA.elem encH_len XC.out.row (by omega)
                injection hv with hv1 hv2 hv3
                subst hv1 hv3
                have rge := hE kx (by omega)
                rw [(List.getElem?_eq_some_iff.1 hzk).2] at rge
                have RGE : Hid (W1.rangeAt b (kx * 4) [.int .i64 zh, .int .i64 zk, .int .i64 zs, .string zd]) := Lib.hid rge
                have HOZ : Hid (OrdOK ⟨zk, zs, zd⟩) := Lib.hid (by rw [← eo]; exact XR.out.ord en hen)
                have HEN := Lib.hid (And.intro hen (And.intro eh (And.intro eo hts)))
                have HZK := Lib.hid hzk
                have HM := Lib.hid hm
                have r1 : (0 : Int) ≤ (kx : Int) := by omega
                have r2x : (kx : Int) < (m : Int) := by omega
                have HCAP : Hid (m ≤ cv) := Lib.hid (by omega)
                have HKM := Lib.hid hkm
                have X2 := Lib.hid (XC.out.below ((Below.refl _ _).alloc (Nat.le_refl _) (.cells #[.int .i64 zh, .int .i64 zk, .int .i64 zs, .string zd] 46)))
                have A2 := Lib.hid (heap_alloc_new W1 (.cells #[.int .i64 zh, .int .i64 zk, .int .i64 zs, .string zd] 46))
                have hnx := XC.out.map.lt
                clear hy2 hy0 hmp hmd hmd0 hzk hen eh eo hts hE hcap hmx hbl hfz rge hall hz hkx hm
                go_upto_region 37 with (refine wpList_load_mid rfl 46 _ rfl b (kx * 4) rfl [.int .i64 zh, .int .i64 zk, .int .i64 zs, .string zd] _ RGE.out Tryz.underlying46 rfl (by kernel_rfl) ?_)
                generalize W1.alloc _ = W2 at X2 A2 ⊢
                obtain ⟨nx, hnxe⟩ : ∃ nx, nx = W1.heap.size := ⟨_, rfl⟩
                rw [← hnxe] at A2 hnx
                try rw [← hnxe]
                have NX : Hid (K.o < nx) := Lib.hid hnx
                clear hnxe hnx XC RGE t2 t4 t6 t8 ez d1
                have q1 : (kx : Int) ≤ (cv : Int) := by have := HKM.out; have := HCAP.out; omega
                have q2 : (0 : Int) ≤ (kx : Int) + 1 := by omega
                have q3x : (kx : Int) + 1 ≤ (m : Int) := by have := HKM.out; omega
                have q4 : IntKind.i64.wrap ((kx : Int) + 1) = (kx : Int) + 1 := IntWalk.i64_in _ (by have := HKM.out; have := HM.out; have := H8.out; have := HALL.out; omega)
                obtain ⟨AA, hAA⟩ : ∃ AA, (if cv = kx + 1 then (some ⟨b, 0, none⟩ : Option Addr) else some ⟨b, (kx + 1) * 4, none⟩) = AA := ⟨_, rfl⟩
                obtain ⟨v1, w1x, v2, w2x, run1, run2, row2, own2, bel2, emp2⟩ := cut_row (k := kx) (m := m) (by rw [HM.out]; exact X2.out.row) HM.out HKM.out (by have := HALL.out; have := H8.out; omega) AA hAA
                have RUN1 := Lib.hid run1
                have RUN2 := Lib.hid run2
                have X3 := Lib.hid (X2.out.swap bel2 row2 own2 emp2)
                have A3 := Lib.hid ((bel2.block nx (lt_of_block A2.out)).trans A2.out)
                clear run1 run2 row2 own2 bel2 emp2
                refine wp_region_noPanic ?_
                refine region_heldD (S := fun _ => True) (by kernel_rfl) (fun V d => trivial) (fun V d hS => ?_)
                have hV : V = W2.drew := d
                subst hV
                clear d
                refine wpAnyH_take (i := 1) (oi := ⟨some 152, Op.move (Operand.tmp 10), _, _, _, none⟩) (v := (.slice (some ⟨b, 0, none⟩) m cv)) rfl (by kernel_rfl) (by kernel_rfl) (by kernel_rfl) (fun _ _ _ h => h) (Or.inl ⟨by rfl, fun w' h' => ?_⟩) hS ?_
                · clear h'
                  go_simp
                simp only [Act.put]
                refine wpAnyH_take (i := 2) (oi := ⟨some 153, Op.move (Operand.tmp 20), _, _, _, none⟩) (v := (.int .i64 (kx : Int))) rfl (by kernel_rfl) (by kernel_rfl) (by kernel_rfl) (fun _ _ _ h => h) (Or.inl ⟨by rfl, fun w' h' => ?_⟩) hS ?_
                · clear h'
                  go_simp
                simp only [Act.put]
                refine wpAnyH_take (i := 3) (oi := ⟨some 154, Op.slice 35 (Operand.tmp 152) none (some (Operand.tmp 153)) none, _, _, _, none⟩) (v := (.slice (some ⟨b, 0, none⟩) kx cv)) rfl (by kernel_rfl) (by kernel_rfl) (by kernel_rfl) (fun _ _ _ h => h) (Or.inl ⟨by rfl, fun w' h' => ?_⟩) hS ?_
                · clear h'
                  go_simp
                simp only [Act.put]
                refine wpAnyH_take (i := 5) (oi := ⟨some 156, Op.move (Operand.tmp 10), _, _, _, none⟩) (v := (.slice (some ⟨b, 0, none⟩) m cv)) rfl (by kernel_rfl) (by kernel_rfl) (by kernel_rfl) (fun _ _ _ h => h) (Or.inl ⟨by rfl, fun w' h' => ?_⟩) hS ?_
                · clear h'
                  go_simp
                simp only [Act.put]
                refine wpAnyH_take (i := 6) (oi := ⟨some 157, Op.move (Operand.tmp 20), _, _, _, none⟩) (v := (.int .i64 (kx : Int))) rfl (by kernel_rfl) (by kernel_rfl) (by kernel_rfl) (fun _ _ _ h => h) (Or.inl ⟨by rfl, fun w' h' => ?_⟩) hS ?_
                · clear h'
                  go_simp
                simp only [Act.put]
                refine wpAnyH_take (i := 7) (oi := ⟨some 158, Op.binOp BinOp.add 3 (Operand.tmp 157) (Operand.const (Value.int IntKind.i64 1)) 3, _, _, _, none⟩) (v := (.int .i64 ((kx : Int) + 1))) rfl (by kernel_rfl) (by kernel_rfl) (by kernel_rfl) (fun _ _ _ h => h) (Or.inl ⟨by rfl, fun w' h' => ?_⟩) hS ?_
                · clear h'
                  go_simp
                simp only [Act.put]
                refine wpAnyH_take (i := 8) (oi := ⟨some 159, Op.slice 35 (Operand.tmp 156) (some (Operand.tmp 158)) none none, _, _, _, none⟩) (v := (.slice AA (m - (kx + 1)) (cv - (kx + 1)))) rfl (by kernel_rfl) (by kernel_rfl) (by kernel_rfl) (fun _ _ _ h => h) (Or.inl ⟨by rfl, fun w' h' => ?_⟩) hS ?_
                · clear h'
                  go_simp
                simp only [Act.put]
                refine wpAnyH_ready (rs := [0]) (by kernel_rfl) (by simp) ?_
                refine AllReadyH.cons rfl (fun K hK => ?_) AllReadyH.nil
                go_simp
                refine hK.out _ _ trivial (fun _ => ?_)
                clear hK K
                refine wpAnyH_ready (rs := [4]) (by kernel_rfl) (by simp) ?_
                refine rdy_app (n := 4) rfl rfl (Operand.tmp 151) (Operand.tmp 154) 35 35 rfl (.slice (some ⟨W2.heap.size, 0, none⟩) 0 0) (.slice (some ⟨b, 0, none⟩) kx cv) v1 (by kernel_rfl) (by kernel_rfl) RUN1.out trivial ?_
                simp only [Act.put]
                refine wpAnyH_ready (rs := [9]) (by kernel_rfl) (by simp) ?_
                refine rdy_app (n := 9) rfl rfl (Operand.tmp 155) (Operand.tmp 159) 35 35 rfl v1 (.slice AA (m - (kx + 1)) (cv - (kx + 1))) v2 (by kernel_rfl) (by kernel_rfl) RUN2.out trivial ?_
                simp only [Act.put]
                refine wpAnyH_take (i := 10) (oi := ⟨some 10, Op.assign (Operand.tmp 160), _, _, _, none⟩) (v := v2) rfl (by kernel_rfl) (by kernel_rfl) (by kernel_rfl) (fun _ _ _ h => h) (Or.inl ⟨by rfl, fun w' h' => ?_⟩) hS ?_
                · clear h'
                  go_simp
                simp only [Act.put]
                refine wpAnyH_done (by kernel_rfl) (NoPanic.normal ?_) _
                simp only [List.setIfInBounds_toArray]
                clear X2 A2 RUN1 RUN2 hAA q1 q2 q3x q4 r1 r2x
                go_upto_region 39 with fail
                obtain ⟨a0x, a1x, a2x, a3x⟩ := cells4D A3.out
                go_upto_block 4 with fail
                clear a0x a1x a2x a3x
                go_cut [22] from 164 to 181 (fun v22 wx => ∃ (dd : ByteArray) (dk : List UInt8), v22 = .string dd ∧ Hid (zk = 1 → dd.size = 64) ∧ Hid (zk ≠ 1 → dd = ⟨#[]⟩) ∧ Hid (HC w1 wx K M off back taken ts es [] last ms v2 (hl.eraseIdx kx) kd dk) ∧ Hid (wx.heap[nx]? = some (.cells #[.int .i64 zh, .int .i64 zk, .int .i64 zs, .string zd] 46 (0, 0))))
                case first =>
                  obtain ⟨⟨ks0, ks1⟩, -, kz2, -⟩ := HOZ.out.all
                  dsimp only at ks0 ks1 kz2
                  obtain ⟨s, rfl⟩ := Int.eq_ofNat_of_zero_le ks0
                  have hs8 : s < 8 := by omega
                  have hk13 := HOZ.out.2
                  dsimp only at hk13
                  obtain ⟨a0x, a1x, a2x, a3x⟩ := cells4D A3.out
                  rcases (show zk = 1 ∨ zk = 2 ∨ zk = 3 by omega) with rfl | rfl | rfl
                  · have hsd : s < dk.length := by rw [X3.out.dkl]; exact hs8
                    have dcell : w2x.cell? ⟨kd, s, none⟩ = some (.int .u8 ((dk[s]'hsd).toNat : Int)) := by
                      rw [cell_of_block X3.out.dsk, List.getElem?_toArray, List.getElem?_map, List.getElem?_eq_getElem hsd]
                      rfl
                    generalize dk[s]'hsd = y at dcell
                    have FC := Lib.hid (fun W => full_any W y (y.toNat : Int) rfl)
                    have s1 : (0 : Int) ≤ (s : Int) := by omega
                    have s2 : (s : Int) < 8 := by omega
                    clear ks0 ks1 kz2 hk13
                    go_wp2_with fail
                    refine (FC.out _).mono ?_
                    rintro e w6 ⟨rfl, b6⟩
                    have X6 := Lib.hid (X3.out.below b6)
                    have A6 := Lib.hid ((b6.block nx (lt_of_block A3.out)).trans A3.out)
                    clear b6
                    go_wp2_with fail
                    go_meet
                    case rel => exact ⟨fullS y, dk, rfl, Lib.hid (fun _ => fullS_size y), Lib.hid (fun h => absurd rfl h), X6, A6⟩
                  · have hzd := kz2 rfl
                    have s1 : (0 : Int) ≤ (s : Int) := by omega
                    have s2 : (s : Int) < 8 := by omega
                    have s3 : (0 : Int) < (zd.size : Int) := by rw [hzd]; decide
                    have hsd : s < dk.length := by rw [X3.out.dkl]; exact hs8
                    clear a0x a1x a2x a3x ks0 ks1 kz2 hk13
                    go_upto_region 43 with fail
                    refine region_tailD 8 (by kernel_rfl) (by kernel_rfl) (fun V dV => ?_)
                    have X6 := Lib.hid (X3.out.below dV)
                    have A6 := Lib.hid ((dV.block nx (lt_of_block A3.out)).trans A3.out)
                    obtain ⟨a0x, a1x, a2x, a3x⟩ := cells4D A6.out
                    clear dV
                    simp only [List.take_succ_cons, List.take_zero, List.drop_succ_cons, List.drop_zero]
                    repeat still_step
                    refine wpStill_nil ?_
                    have hsd2 : s < dk.length := hsd
                    have dcell : V.cell? ⟨kd, s, none⟩ = some (.int .u8 ((dk[s]'hsd2).toNat : Int)) := by
                      rw [cell_of_block X6.out.dsk, List.getElem?_toArray, List.getElem?_map, List.getElem?_eq_getElem hsd2]
                      rfl
                    have dfree : V.frozen? ⟨kd, s, none⟩ = false := by simp [World.frozen?, X6.out.dsk]
                    have XS := Lib.hid (X6.out.setdisk s hs8)
                    have NKD : Hid (nx ≠ kd) := Lib.hid (by have := NX.out; have := X6.out.ne; omega)
                    go_wp2_with fail
                    go_meet
                    case rel => exact ⟨⟨#[]⟩, _, rfl, Lib.hid (fun h => absurd h (by decide)), Lib.hid (fun _ => rfl), Lib.hid (XS.out _), Lib.hid ((Below.heap_setCell _ _ _ _ (by show nx ≠ kd; exact NKD.out)).trans A6.out)⟩
                  · clear ks0 ks1 kz2 hk13
                    go_wp2_with fail
                    go_meet
                    case rel => exact ⟨⟨#[]⟩, dk, rfl, Lib.hid (fun h => absurd h (by decide)), Lib.hid (fun _ => rfl), X3, A3⟩
                case rest =>
                  clear X3 A3
                  obtain ⟨dd, dk, rfl, HD1, HD2, X3, A3⟩ := hcut
                  rename World => W4
                  obtain ⟨hen, eh, eo, hts⟩ := HEN.out
                  have NDB : Hid (¬ DB K nx) := Lib.hid (fun e => by have := X3.out.hb _ (.inl e); have := X3.out.ne; have := NX.out; omega)
                  have MY : mayAns (en.tkn 16) true dd = true := may_yes (X3.out.dx.dl.rd en hen) dd (by rw [eo]; exact HD1.out) (by rw [eo]; exact HD2.out)
                  have DC := Lib.hid (dk_done X3.out.dx hen hts dd MY)
                  obtain ⟨a0x, a1x, a2x, a3x⟩ := cells4D A3.out
                  rw [← eh] at a0x
                  have EO := Lib.hid (And.intro hen (And.intro eh eo))
                  clear MY hen eh eo hts
                  go_wp2_with fail
                  refine DC.out.mono ?_
                  clear DC
                  rintro e w5 ⟨rfl, dy5, t5⟩
                  have A5 := Lib.hid ((t5.block nx (lt_of_block A3.out) NDB.out).trans A3.out)
                  have T5 := Lib.hid t5
                  have PC := Lib.hid (dk_poll dy5)
                  clear dy5 t5 a0x a1x a2x a3x
                  go_wp2_with fail
                  refine PC.out.mono ?_
                  clear PC
                  rintro e w6 ⟨v9, rfl, own6, dx6, t6⟩
                  have X6 := Lib.hid (X3.out.calls dx6 (T5.out.trans t6) (fun e h => (List.mem_filter.1 h).1))
                  have A6 := Lib.hid ((t6.block nx (lt_of_block A5.out) NDB.out).trans A5.out)
                  obtain ⟨g9, c9, hv9, hc9, _, hg9, hf9, hE9⟩ := RowA.elem dn_len own6.rowA Nat.zero_lt_one
                  subst hv9
                  have dn := hE9 0 Nat.zero_lt_one
                  have d0 : w6.cell? ⟨g9, 0, none⟩ = some (.int .i64 en.y.id) := dn 0 _ rfl
                  have d1 : w6.cell? ⟨g9, 1, none⟩ = some (.bool true) := dn 1 _ rfl
                  have d2 : w6.cell? ⟨g9, 2, none⟩ = some (.string dd) := dn 2 _ rfl
                  have ni := ids_nodupD X3.out.dx.ks
                  have R6 := Lib.hid (XR.out.done HNT.out X3.out.dx.dl.nd ni HZK.out EO.out.1 EO.out.2.1)
                  have hmem : (en.y.id, (⟨zk, zs, zd⟩ : Ord).val) ∈ ms := XR.out.ids.mem_iff.2 (List.mem_map.2 ⟨en, EO.out.1, by rw [EO.out.2.2]⟩)
                  have lk : ∀ V, Below w6.heap.size w6 V → (Instr.lookup 36 (.map (some K.o)) (.int .i64 en.y.id) false).run Tryz.prog V = .ok (.agg #[.int .i64 zk, .int .i64 zs, .string zd]) V := fun V hV => (X6.out.below hV).map.get_yes (P := Tryz.prog) Tryz.underlying36 Tryz.underlying3 hmem
                  have HWF : Hid ((Lit.int .i64 en.y.id).wf = true) := Lib.hid (tab_wf X3.out.map _ hmem)
                  have heq := fun w => run_eql_ordD w ⟨zk, zs, zd⟩ HOZ.out.fits
                  dsimp only at heq
                  have lk0 := fun n => lk (w6.drewN n) (below_drewN (Below.refl _ _) _)
                  have EQ : (dd.toList == dd.toList) = true := by simp
                  have EQ2 : (dd.toList != dd.toList) = false := by rw [bne, EQ]; rfl
                  obtain ⟨c0x, c1x, c2x, c3x⟩ := cells4D A6.out
                  have rg6 := Lib.hid (range4o A6.out)
                  have HG9 : Hid (∀ V, Below w6.heap.size w6 V → V.cell? ⟨g9, 0, none⟩ = some (.int .i64 en.y.id)) := Lib.hid (fun V hV => (hV.cell (p := ⟨g9, 0, none⟩) hg9).trans d0)
                  clear own6 dx6 t6 hE9 hf9 dn ni hmem lk hg9
                  go_upto_region 47 with fail
                  go_quiet (fail)
                  have BD := Lib.hid (below_drewN (Below.refl w6.heap.size w6) nq)
                  have X7 := Lib.hid (X6.out.below BD.out)
                  have dz := HG9.out _ BD.out
                  clear c0x c1x c2x c3x d0 d1 d2 lk0 heq EQ EQ2 X6 A6
                  generalize w6.drewN nq = w7 at X7 dz ⊢
                  go_wp2_with (at_delete; refine wpList_delete_tab _ rfl _ _ 36 3 rfl 39 Tryz.underlying36 Tryz.underlying3 K.o en.y.id ms X7.out.map HWF.out rfl rfl ?_; intro w11 t11 k11; have X11 := Lib.hid (X7.out.setmap k11 t11); clear t11 k11)
                  go_roundw
                  case rel => exact ⟨k + 1, _, off, _, taken, _, _, [], last, _, hl.eraseIdx kx, dk, by have := HKL.out; omega, by go_num, X11, R6, Lib.hid (by have := HLK.out; omega), Lib.hid (fun h => by
                    have a1 := (R6.out.all X11.out.dx.dl).1
                    rw [List.length_eraseIdx_of_lt (by have := HM.out; have := HKM.out; omega)] at a1
                    have := HALL.out
                    have := H8.out
                    have := HEK.out
                    have := HM.out
                    have := HKM.out
                    by_cases h9 : len0 ≤ k
                    · have := HEK.out h9; omega
                    · omega)⟩
                  case measure => have := HKL.out; simp [intOf]; omega
    · have hkl : k = len0 + 70 := by omega
      have q3 : decide ((k : Int) < (len0 : Int) + 70) = false := decide_eq_false (by omega)
      have he0 : es.length = 0 := by have := HEK.out (by omega); omega
      have FC := dk_flight XC.out.dx
      rw [he0] at FC
      have FC := Lib.hid FC
      have DC := Lib.hid (dk_dead XC.out.dx)
      have LC := fun ty => XC.out.map.len (P := Tryz.prog) Tryz.underlying36 ty
      rw [XR.out.len, he0] at LC
      clear he0 hkl
      go_wp2_with fail
      refine FC.out.mono ?_
      rintro e w11 ⟨rfl, rfl⟩
      go_wp2_with fail
      refine DC.out.mono ?_
      rintro e w11 ⟨rfl, rfl⟩
      go_wp2_with fail
      go_ret
      exact ⟨rfl, B1.out.trans (XC.out.dx.bel.mono B1.out.size)⟩

end Go.Proofs.YtdchlnffbiooaaaGreatDoor.dkw

namespace Go.Proofs.YtdchlnffbiooaaaGreatDoor.dkp
open Go.ChangeShapes Go.WideShapes Go.ChangeAt Go.RowKit Go.Sort
open Go.ChangeMaps (open_string shut_string)
set_option linter.unusedVariables false

set_option maxRecDepth 100000 in
theorem lifted (os : Os) (started : os.Started) (H : Type) (enc : TypeId × Value → H) :
    ReturnsInHanded {} Tryz.checked os 3 .any (fun w args => (Rows.vblkDiskSpec.pre enc Tryz.prog Tryz.f3 Rows.vblkDiskRow.domain false w args ∧ laidMetH Tryz.prog shapesLaid w) ∧ sizedMet enc Tryz.prog Tryz.f3 (OpenSpec.ofChange Rows.vblkDiskSpec) false w args)
      (Rows.vblkDiskSpec.post enc Tryz.prog Tryz.f3 false true false false) := by
  refine returnsInHanded_of_change_and (C := Tryz.checked) (X := fun w _ => laidMetH Tryz.prog shapesLaid w) (fun _ _ _ hh h => h.of_heap hh) own_b started (by kernel_rfl) Tryz.func3
    (ChangeSpec.witness_shaped (enc := enc) (C := Tryz.checked) (os := os) (X := fun w _ => laidMetH Tryz.prog shapesLaid w) false (World.doorLaid Tryz.prog 400 os) #[.slice none 0 0] 8 rfl (World.shaped_of_RefB (by kernel_rfl) (by kernel_rfl)) (by kernel_rfl) (by kernel_rfl) (by kernel_rfl) (door_met os _)) ?_
  intro W base args ds gs before hval0 hW _ _ hL _
  have hval : ∀ (j : Nat) t v, Tryz.f3.params[j]? = some t → args[j]? = some v → Value.okWide Tryz.prog W .any base t v := hval0
  have hW' := hW
  obtain ⟨p, q, hA0, hV, rfl, hfz, hnd⟩ := hW
  have hA : DataW.TrodAll enc Tryz.prog W 0 (fun _ => true) true Tryz.f3.params.toList args.toList ds p := hA0
  rw [Tryz.params3] at hA hval
  obtain ⟨v0, vs0, d0, ds0, p0, q0, hargs, rfl, rfl, h0, r0⟩ := trodAll_cons hA
  obtain ⟨rfl, rfl, rfl⟩ := trodAll_nil r0
  obtain rfl : args = #[v0] := by cases args; simp_all
  obtain ⟨rfl, rfl⟩ := trodVars_none hV
  obtain ⟨a0, len0, cap0, rfl⟩ := okWide_slice Tryz.underlying22 (hval 0 22 v0 rfl rfl)
  have k0 := h0
  have lt0 : ∀ x ∈ p0, x.block < W.heap.size := by obtain ⟨m, hm⟩ := k0; exact DataW.trod_lt m _ _ _ hm
  obtain ⟨l0, w0⟩ : ∃ l, PU16s W a0 len0 l := by obtain ⟨fuel, hf⟩ := h0; exact open_u16s hf
  clear hA0 hval0
  refine (dkw.walk a0 len0 cap0 l0 W (shapes_of hL) w0).mono fun e W' ⟨he, bel⟩ => ?_
  subst he
  exact ⟨_, rfl, _, _, _, [], _, [], hW', trodAll_mk1 (shut_bool Tryz.underlying4 _), (trodAll_cons_mk (Below.trod laidOut_b (by kernel_rfl) (of_decide_eq_true (by kernel_rfl)) k0 bel lt0) trodAll_mk0), rfl, bel.frame _, fun h => by cases h⟩

theorem row_holds : Rows.VblkDiskSaid :=
  OpenClaim.holds_of_wide 3 Tryz.f3 rfl rfl rfl rfl rfl rfl rfl ⟨rfl, rfl, rfl, rfl, rfl⟩ rfl rfl rfl rfl rfl (by kernel_rfl) Tryz.func3 (by kernel_rfl)
    (of_decide_eq_true (by kernel_rfl)) (by unfold Func.isWrapper; first | (rw [if_pos (by decide +kernel)]; kernel_rfl) | (rw [if_neg (by decide +kernel)]; exact ⟨rfl, rfl⟩))
    (fun os started H enc _ => lifted os started H enc)

/-- THE STATEMENT. -/
theorem proved : Rows.VblkDiskCardSaid :=
  Claim7.holds_tied_plain_at .later [] [.data] true (true, "bb7098dfe407d5fb1dfa5aefcd3112ba0e619c44d8a9e824f13f3378a4854695") false
    row_holds (fun _ h => by cases h) (by kernel_rfl) (fun _ h => by cases h) vblkDisk_row_tie rfl ⟨rfl, rfl⟩ (by kernel_rfl) rfl
    (fun f fn hf hfn => by
      obtain rfl : f = 3 := Option.some.inj ((show Tryz.prog.funcNamed "blockyard/blockyardlaw03.VblkDisk" = some 3 by kernel_rfl).symm.trans hf) |>.symm
      obtain rfl : fn = Tryz.f3 := (Option.some.inj (Tryz.func3.symm.trans hfn)).symm
      exact ⟨by kernel_rfl, fun j t ht => by
        rw [Tryz.params3] at ht
        have hm : t ∈ [22] := by simpa using Array.mem_of_getElem? ht
        have hall : ([22].all fun u => !Tryz.prog.wantsStandIn u) = true := by kernel_rfl
        exact (show Tryz.prog.wantsStandIn t = false by simpa using List.all_eq_true.1 hall t hm)⟩)
    (by kernel_rfl)
#print axioms proved

end Go.Proofs.YtdchlnffbiooaaaGreatDoor.dkp
