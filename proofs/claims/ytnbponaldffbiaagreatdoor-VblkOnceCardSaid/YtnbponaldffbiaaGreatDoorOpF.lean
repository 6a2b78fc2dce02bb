/-
  VblkOnce: the card. Conditions: the package's table of shapes lies as its initialiser lays it (the card ties it).
-/
import Derived.Test.YtnbponaldffbiaaGreatDoorOpD
import Derived.Deep.CutRange
import Derived.Deep.CutBlock
import Derived.Test.YtnbponaldffbiaaGreatDoorOpB
import Derived.Lib.SmallJoins
import Derived.ProofKit
import Derived.OpenShut
import Derived.ShutString
import Derived.ChangeOld
import Derived.Below
import Derived.LaidMore
import Derived.Stop.Joined
import Derived.SevenTiedAt
namespace Go.Proofs.YtnbponaldffbiaaGreatDoor.onc
open Go.RowKit Go.Sort
set_option linter.unusedVariables false

def oM0 : List UInt8 := madeL (List.replicate (4096 : Int).toNat 0) 0
theorem oM0_len : oM0.length = 4096 := by unfold oM0; rw [madeL_length, List.length_replicate]; rfl
theorem o_bar (n : Nat) (h : n = 4096) : blkBar n 0 true = 0 := by rw [h]; decide +kernel
set_option maxRecDepth 100000 in
set_option maxHeartbeats 8000000 in
theorem walk (a0 : Int) (a1 : Option Addr) (len1 cap1 : Nat) (l1 : List Act3) (w : World) (hS : Shapes w) (w0 : (Lit.int .u8 a0).wf = true) (ha : IsActs3 w a1 len1 l1) :
    Calls Tryz.prog 4 #[.int .u8 a0, .slice a1 len1 cap1] w fun e w' => e = .returned (.bool true) ∧ Below w.heap.size w w' := by
  have hlen : len1 ≤ 9223372036854775807 := by have := ha.2.1; unfold maxLen at this; omega
  obtain ⟨ay, rfl⟩ := u8_of w0
  have hay : (ay.toNat : Int) ≤ 255 := by have := ay.toNat_lt; omega
  have HS := Lib.hid hS
  have HA := Lib.hid ha
  clear hS ha w0
  go_enter Tryz.func4, Tryz.ntmps4
  go_wp2_with fail
  refine (bawake_any _ HS.out).mono ?_
  rintro e w1 ⟨rfl, b1⟩
  have B1 := Lib.hid b1
  have HA1 := Lib.hid (HA.out.below b1)
  have HS1 := Lib.hid (HS.out.kept (b1.block 0 HS.out.pos))
  clear b1 HA HS
  go_wp2_with fail
  refine (Great_any w1 a1 len1 cap1 l1 HA1.out).mono ?_
  rintro e w' ⟨rfl, rfl⟩
  cases hg : greatB l1 with
  | true =>
    clear hg
    go_wp2_with fail
    go_ret
    exact ⟨rfl, B1.out⟩
  | false =>
  obtain ⟨g80, g300⟩ := greatB_no hg
  have HLL : Hid (len1 ≤ 80) := Lib.hid (by have := HA1.out.1; omega)
  have HG3 := Lib.hid g300
  clear hg g80 g300
  go_wp2_with fail
  refine (New_ok w1 4096 (by omega) (by omega)).mono ?_
  rintro e w2 ⟨rfl, m2, k2⟩
  have z0 : (List.replicate (4096 : Int).toNat (0 : UInt8)).length = 4096 := by rw [List.length_replicate]; rfl
  have bel2 := Below.of_none k2
  have z2 := k2.size
  have HZ0 := Lib.hid z0
  clear z0
  go_upto_region 7 with fail
  obtain ⟨many, hmany⟩ : ∃ many : Int, many = 1 + (ay.toNat : Int) % 20 := ⟨_, rfl⟩
  rw [← hmany]
  have HM : Hid (1 ≤ many ∧ many ≤ 20) := Lib.hid (by omega)
  clear hmany
  have BC := Lib.hid (bNew_ok w2 _ _ _ m2 (by have := HZ0.out; omega) (by have := HZ0.out; omega) 0 8 many (by rw [show ((List.replicate (4096 : Int).toNat (0 : UInt8)).length : Int) = ((4096 : Nat) : Int) from by rw [HZ0.out]]; exact o_bar _ rfl) (by omega) (by omega) (by have := HM.out; omega) (by have := HM.out; omega))
  go_wp2_with fail
  refine BC.out.mono ?_
  clear BC
  rintro e w3 ⟨b, q, mb, u, rfl, hb, hq, hmb, hu, s3, t3⟩
  change KS w3 b _ _ q u mb oM0 0 8 many [] [] 0 0 false 0 0 false at s3
  have bel3 := bel2.trans (t3.below z2 (by rintro k rfl; omega))
  have z3 := t3.size
  have S3 := Lib.hid s3
  have T3 := Lib.hid bel3
  clear m2 k2 s3 t3 bel2 bel3
  have OC := Lib.hid (bOpen_ok w3 _ _ _ S3.out.qs.mem (by rw [oM0_len]; omega) (by rw [oM0_len]; omega) 0 (o_bar _ oM0_len))
  go_wp2_with fail
  refine OC.out.mono ?_
  clear OC
  rintro e w4 ⟨r, p, v, rfl, hr, hp, hv, r4, k4⟩
  have HB := Lib.hid (And.intro hb (And.intro hq (And.intro hmb (And.intro hu (And.intro hr (And.intro hp hv))))))
  have HZ := Lib.hid (And.intro z2 z3)
  have R4 := Lib.hid r4
  have K4 := Lib.hid k4
  clear r4 k4 hb hq hmb hu hr hp hv z2 z3 HZ0
  have hmm := @run_makeMap Tryz.prog
  go_upto_region 12 with fail
  clear hmm
  obtain ⟨K, hK⟩ : ∃ K : OBl, K = ⟨b, w1.heap.size + 1, w1.heap.size, q, u, mb, r, p, v, w3.heap.size, w4.heap.size⟩ := ⟨_, rfl⟩
  have X5 : Hid (OX w1 (w4.alloc (.map #[] 0)) K many [] 0 0 false []) := by
    obtain ⟨l1, l2, l3, l4, l5, l6⟩ := S3.out.lts
    obtain ⟨e1, e2, e3, e4, e5⟩ := R4.out.lts
    obtain ⟨h1, h2, h3, h4, h5, h6, h7⟩ := HB.out
    obtain ⟨y1, y2⟩ := HZ.out
    obtain ⟨d1, d2, d3, d4⟩ := S3.out.ub
    have ka := World.grownBy_alloc w4 (.map #[] 0) none
    have k5 := K4.out.trans ka
    rw [hK]
    exact Lib.hid ⟨⟨oM0, 0, 0, [], oM0_len, R4.out.grown ka, (fun t ht => by cases ht), .inl ⟨rfl, [], 0, 0, S3.out.grown k5⟩⟩, ⟨by show w1.heap.size ≤ b; omega, by show w1.heap.size ≤ w1.heap.size + 1; omega, Nat.le_refl _, by show w1.heap.size ≤ q; omega, by show w1.heap.size ≤ u; omega, by show w1.heap.size ≤ mb; omega⟩,
      ⟨by show b < w3.heap.size; omega, by show w1.heap.size + 1 < w3.heap.size; omega, by show w1.heap.size < w3.heap.size; omega, by show q < w3.heap.size; omega, by show u < w3.heap.size; omega, by show mb < w3.heap.size; omega⟩, ⟨h5, h6, h7⟩, ⟨e1, e4, e5⟩, ⟨S3.out.bh, d3, d1, d2, S3.out.bg⟩, tab_made w4, T3.out.grown k5 T3.out.size (fun j e => by cases e), HS1.out, by omega⟩
  have KB : Hid (K.b = b ∧ K.g = w1.heap.size + 1 ∧ K.r = r ∧ K.o = w4.heap.size) := Lib.hid (by rw [hK]; exact ⟨rfl, rfl, rfl, rfl⟩)
  obtain ⟨kb, kg, kr, ko⟩ := KB.out
  rw [← kb, ← kg, ← kr, ← ko]
  clear kb kg kr ko KB hK S3 T3 R4 K4 HB HZ
  generalize w4.alloc _ = w5 at X5 ⊢
  go_wp2_with fail
  go_loopw [13, 14] (fun lv i wr => ∃ (k : Nat) (os : List Snt) (last now : Int) (D : Bool) (ms : List (Int × Value)), (k : Int) ≤ len1 + many + 1 ∧ i = .int .i64 k ∧ lv = .int .i64 last ∧ Hid (OX w1 wr K many os last now D ms) ∧ Hid (Inv k len1 many os last now D ms)) (fun _ i _ => (len1 + many + 1).toNat - (intOf i).toNat)
  case atStart => exact ⟨0, [], 0, 0, false, [], by have := HM.out; omega, rfl, rfl, X5, Lib.hid ⟨by omega, by omega, by omega, (fun e => by cases e), (fun _ y hy => by cases hy), List.Perm.refl _, fun c hc => by cases hc⟩⟩
  case round =>
    obtain ⟨k, os, last, now, D, ms, hk, rfl, rfl, X, I⟩ := hrel
    clear X5
    have HK := Lib.hid hk
    have hml := HM.out
    have hll := HLL.out
    have q4 : IntKind.i64.wrap ((len1 : Int) + many) = (len1 : Int) + many := IntWalk.i64_in _ (by omega)
    have q5 : IntKind.i64.wrap ((len1 : Int) + many + 1) = (len1 : Int) + many + 1 := IntWalk.i64_in _ (by omega)
    have q6 : IntKind.i64.wrap ((k : Int) + 1) = (k : Int) + 1 := IntWalk.i64_in _ (by omega)
    clear hk hml hll
    by_cases hlt : (k : Int) < (len1 : Int) + many + 1
    · have q3 : decide ((k : Int) < (len1 : Int) + many + 1) = true := decide_eq_true hlt
      have X1 := Lib.hid (X.out.grown (World.grownBy_alloc wr (.cells #[.int .i64 2, .int .i64 0, .int .i64 0, .string ⟨#[]⟩, .int .u8 0, .int .i64 0, .int .i64 0, .bool false, .int .i64 0, .int .i64 0, .int .u64 0] 59) none))
      have A1 := Lib.hid (heap_alloc_new wr (.cells #[.int .i64 2, .int .i64 0, .int .i64 0, .string ⟨#[]⟩, .int .u8 0, .int .i64 0, .int .i64 0, .bool false, .int .i64 0, .int .i64 0, .int .u64 0] 59))
      go_upto_if 63 with fail
      obtain ⟨nb, hnb⟩ : ∃ nb, nb = wr.heap.size := ⟨_, rfl⟩
      have HNO : Hid (K.o < nb) := Lib.hid (by rw [hnb]; exact X.out.map.lt)
      have HNB := Lib.hid hnb
      rw [← hnb] at A1
      clear hnb
      go_cut [] from 63 to 67 (fun wx => ∃ c : Act3, Hid c.fits ∧ Hid (c.o.data.size ≤ 300) ∧ Hid ((len1 : Int) ≤ k → c.d = 2) ∧ Hid (OX w1 wx K many os last now D ms) ∧ Hid (wx.heap[nb]? = some (.cells #[.int .i64 c.d, .int .i64 c.o.kind, .int .i64 c.o.sec, .string c.o.data, .int .u8 (c.y.toNat : Int), .int .i64 c.hd, .int .i64 c.ow, .bool c.k, .int .i64 c.a, .int .i64 c.n, .int .u64 c.x] 59 (0, 0))))
      case first =>
        by_cases hin : (k : Int) < (len1 : Int)
        · have q7 : decide ((k : Int) < (len1 : Int)) = true := decide_eq_true hin
          obtain ⟨ab, ao, c, hp, hck, hlt2, hfit, tw⟩ := (HA1.out.below X1.out.bel).at_ k (by omega)
          subst hp
          have TW := Lib.hid tw
          have HFIT := Lib.hid hfit
          have HSZ : Hid (c.o.data.size ≤ 300) := Lib.hid (HG3.out c (List.mem_of_getElem? hck))
          have p1 : (0 : Int) ≤ (k : Int) := by omega
          have X2 := Lib.hid (X.out.grown (World.grownBy_alloc wr (.cells #[.int .i64 c.d, .int .i64 c.o.kind, .int .i64 c.o.sec, .string c.o.data, .int .u8 (c.y.toNat : Int), .int .i64 c.hd, .int .i64 c.ow, .bool c.k, .int .i64 c.a, .int .i64 c.n, .int .u64 c.x] 59) none))
          have A2 : Hid ((wr.alloc (.cells #[.int .i64 c.d, .int .i64 c.o.kind, .int .i64 c.o.sec, .string c.o.data, .int .u8 (c.y.toNat : Int), .int .i64 c.hd, .int .i64 c.ow, .bool c.k, .int .i64 c.a, .int .i64 c.n, .int .u64 c.x] 59)).heap[nb]? = some (.cells #[.int .i64 c.d, .int .i64 c.o.kind, .int .i64 c.o.sec, .string c.o.data, .int .u8 (c.y.toNat : Int), .int .i64 c.hd, .int .i64 c.ow, .bool c.k, .int .i64 c.a, .int .i64 c.n, .int .u64 c.x] 59 (0, 0))) := Lib.hid (by rw [HNB.out]; exact heap_alloc_new wr _)
          clear tw hfit hck hlt2 X1 A1
          unfold Act3.cells at TW
          go_wp2_with (refine wpList_load_mid rfl 59 _ rfl ab (ao + k * 11) rfl [.int .i64 c.d, .int .i64 c.o.kind, .int .i64 c.o.sec, .string c.o.data, .int .u8 (c.y.toNat : Int), .int .i64 c.hd, .int .i64 c.ow, .bool c.k, .int .i64 c.a, .int .i64 c.n, .int .u64 c.x] _ TW.out Tryz.underlying59 rfl (by kernel_rfl) ?_)
          go_meet
          case rel => exact ⟨c, HFIT, HSZ, Lib.hid (fun h => by omega), X2, A2⟩
        · have q7 : decide ((k : Int) < (len1 : Int)) = false := decide_eq_false hin
          go_wp2_with fail
          go_meet
          case rel => exact ⟨⟨2, ⟨0, 0, ⟨#[]⟩⟩, 0, 0, 0, false, 0, 0, 0⟩, Lib.hid ⟨by decide, by decide, by decide, by decide, by decide, by decide⟩, Lib.hid (by decide), Lib.hid (fun _ => rfl), X1, A1⟩
      case rest =>
        rw [← HNB.out]
        clear X X1 A1 HNB
        obtain ⟨⟨cd, ⟨okk, os_, od⟩, cy, ch, cow, ck, ca, cn, cx⟩, HFIT, HSZ, HD2, X2, A2⟩ := hcut
        dsimp only at HFIT HSZ HD2 A2
        obtain ⟨a0, a1, a2, a3, a4, a5, a6, a7, a8, a9, a10⟩ := cells11 A2.out
        have HKK : Hid (cd ≠ 2 → k < len1) := Lib.hid (fun h => by have := HD2.out; by_cases h2 : (len1 : Int) ≤ k; exact absurd (this h2) h; omega)
        have HL := Lib.hid (show last ≤ 1000000 ∧ now ≤ 1000000 ∧ 0 ≤ last from by have := I.out.lk; have := I.out.nk; have := I.out.l0; have := HLL.out; have := HM.out; omega)
        go_upto_block 2 with fail
        clear a0 a1 a2 a3 a4 a5 a6 a7 a8 a9 a10
        go_cut [13, 16, 17] from 70 to 116 (fun v13 _ _ wx => ∃ (os : List Snt) (last now : Int) (D : Bool) (ms : List (Int × Value)), v13 = .int .i64 last ∧ Hid (OX w1 wx K many os last now D ms) ∧ Hid (Mid k len1 many os last now D ms))
        case first =>
          obtain ⟨a0, a1, a2, a3, a4, a5, a6, a7, a8, a9, a10⟩ := cells11 A2.out
          by_cases h0 : cd = 0
          · subst h0
            go_wp2_with fail
            refine (order3_any _ ⟨0, ⟨okk, os_, od⟩, cy, ch, cow, ck, ca, cn, cx⟩).mono ?_
            rintro e w8 ⟨rfl, k8⟩
            have X3 := Lib.hid (X2.out.grown k8)
            clear k8 a0 a1 a2 a3 a4 a5 a6 a7 a8 a9 a10 X2 A2 HFIT HSZ
            generalize ordOf _ = oo
            have SC := Lib.hid (ox_submit X3.out oo HL.out.1)
            go_wp2_with fail
            refine SC.out.mono ?_
            clear SC
            rintro e w9 (⟨code, hc, rfl, X9⟩ | ⟨hD, rfl, y, y1, y2, X9⟩)
            · have ec : (code == 0) = false := by simpa using hc
              have X9 := Lib.hid X9
              clear hc X3
              go_wp2_with fail
              go_meet
              case rel => exact ⟨os, last, now, D, ms, rfl, X9, Lib.hid (I.out.same (HKK.out (by decide)))⟩
            · have HX9 := Lib.hid X9
              have HY := Lib.hid (And.intro hD (And.intro y1 y2))
              have HN : Hid (∀ c ∈ ms, c.1 ≠ last + 1) := Lib.hid (by
                intro c hc e
                have h1 : last + 1 ∈ os.map Snt.id := I.out.ids.mem_iff.1 (List.mem_map.2 ⟨c, hc, e⟩)
                obtain ⟨z, hz, h2⟩ := List.mem_map.1 h1
                have h3 := (hD ▸ X9).ids_lt z hz
                omega)
              have qw : IntKind.i64.wrap (last + 1) = last + 1 := IntWalk.i64_in _ (by have := HL.out; omega)
              have hwk : (Lit.int .i64 (last + 1)).wf = true := WalkArith.wf_i64 (by have := HL.out; omega)
              have HWK := Lib.hid hwk
              clear X3 X9 hD y1 y2 hwk
              go_wp2_with (at_mapUpdate; refine wpList_mapUpdate_tab _ rfl _ _ _ 56 rfl 3 3 Tryz.underlying56 Tryz.underlying3 K.o (last + 1) (.int .i64 1) ms HX9.out.map HWK.out HN.out rfl rfl rfl ?_; intro w10 t10 k10; have X10 := Lib.hid (HX9.out.setmap k10 t10); clear t10 k10)
              go_meet
              case rel => exact ⟨os ++ [y], last + 1, now, D, ms ++ [(last + 1, .int .i64 1)], rfl, X10, Lib.hid (I.out.sub (HKK.out (by decide)) HM.out.1 HY.out.2.1 HY.out.2.2 HY.out.1)⟩
          have e0 : (cd == 0) = false := by simpa using h0
          by_cases h2 : cd = 2
          · subst h2
            have TC := Lib.hid (ox_tick X2.out I.out.dd HL.out.2.1)
            clear a0 a1 a2 a3 a4 a5 a6 a7 a8 a9 a10 A2 HFIT HSZ h0
            go_wp2_with fail
            refine TC.out.mono ?_
            clear TC
            rintro e w9 ⟨rfl, X9⟩
            have X9 := Lib.hid X9
            go_wp2_with fail
            go_meet
            case rel => exact ⟨os, last, now + 1, _, ms, rfl, X9, Lib.hid I.out.tick⟩
          have HSA : Hid (Mid k len1 many os last now D ms) := Lib.hid (I.out.same (HKK.out h2))
          have e2 : (cd == 2) = false := by simpa using h2
          by_cases h3 : cd = 3
          · subst h3
            have TC := Lib.hid (ox_next X2.out)
            clear a0 a1 a2 a3 a4 a5 a6 a7 a8 a9 a10 A2 HFIT HSZ h0 h2
            go_wp2_with fail
            refine TC.out.mono ?_
            clear TC
            rintro e w9 ⟨⟨v9, rfl⟩, _, X9⟩
            have X9 := Lib.hid X9
            go_wp2_with fail
            go_meet
            case rel => exact ⟨os, last, now, D, ms, rfl, X9, HSA⟩
          have e3 : (cd == 3) = false := by simpa using h3
          by_cases h4 : cd = 4
          · subst h4
            clear a0 a1 a2 a3 a4 a5 a6 a7 a8 a9 a10 h0 h2 h3
            obtain ⟨⟨o1, o2, o3⟩, hoo⟩ : ∃ z, z = ordOf ⟨4, ⟨okk, os_, od⟩, cy, ch, cow, ck, ca, cn, cx⟩ := ⟨_, rfl⟩
            have OC := fun V => order3_any V ⟨4, ⟨okk, os_, od⟩, cy, ch, cow, ck, ca, cn, cx⟩
            rw [← hoo] at OC
            unfold Act3.val Ord.val at OC
            dsimp only at OC
            have OC := Lib.hid OC
            clear hoo
            go_upto_region 32 with fail
            refine wp_region_noPanic ?_
            refine region_held (S := fun V => OX w1 V K many os last now D ms ∧ V.heap[nb]? = some (.cells #[.int .i64 4, .int .i64 okk, .int .i64 os_, .string od, .int .u8 (cy.toNat : Int), .int .i64 ch, .int .i64 cow, .bool ck, .int .i64 ca, .int .i64 cn, .int .u64 cx] 59 (0, 0))) (by kernel_rfl) (fun V d => ⟨X2.out.grown d.grown, (d.block _).trans A2.out⟩) (fun V d hS => ?_)
            refine wpAnyH_take (i := 0) (oi := ⟨some 98, Op.move (Operand.tmp 10), _, _, _, none⟩) (v := (.pointer (some ⟨K.r, 0, none⟩))) rfl (by kernel_rfl) (by kernel_rfl) (by kernel_rfl) (fun _ _ _ h => h) (Or.inl ⟨by rfl, fun w' h' => ?_⟩) hS ?_
            · clear h'
              go_simp
            simp only [Act.put]
            refine wpAnyH_take (i := 1) (oi := ⟨some 99, Op.fieldAddr 59 (Operand.tmp 15) 3, _, _, _, none⟩) (v := (.pointer (some ⟨nb, 5, none⟩))) rfl (by kernel_rfl) (by kernel_rfl) (by kernel_rfl) (fun _ _ _ h => h) (Or.inl ⟨by rfl, fun w' h' => ?_⟩) hS ?_
            · clear h'
              go_simp
            simp only [Act.put]
            refine wpAnyH_take (i := 2) (oi := ⟨some 100, Op.load 3 (Operand.tmp 99), _, _, _, none⟩) (v := (.int .i64 ch)) rfl (by kernel_rfl) (by kernel_rfl) (by kernel_rfl) (fun _ _ _ h => h) (Or.inl ⟨by rfl, fun w' h' => ?_⟩) hS ?_
            · have c0 := (cells11 h'.2).2.2.2.2.2.1
              clear h'
              go_simp
            simp only [Act.put]
            refine wpAnyH_take (i := 3) (oi := ⟨some 101, Op.fieldAddr 59 (Operand.tmp 15) 5, _, _, _, none⟩) (v := (.pointer (some ⟨nb, 7, none⟩))) rfl (by kernel_rfl) (by kernel_rfl) (by kernel_rfl) (fun _ _ _ h => h) (Or.inl ⟨by rfl, fun w' h' => ?_⟩) hS ?_
            · clear h'
              go_simp
            simp only [Act.put]
            refine wpAnyH_take (i := 4) (oi := ⟨some 102, Op.load 4 (Operand.tmp 101), _, _, _, none⟩) (v := (.bool ck)) rfl (by kernel_rfl) (by kernel_rfl) (by kernel_rfl) (fun _ _ _ h => h) (Or.inl ⟨by rfl, fun w' h' => ?_⟩) hS ?_
            · have c0 := (cells11 h'.2).2.2.2.2.2.2.2.1
              clear h'
              go_simp
            simp only [Act.put]
            refine wpAnyH_take (i := 5) (oi := ⟨some 103, Op.load 59 (Operand.tmp 15), _, _, _, none⟩) (v := (.agg #[.int .i64 4, .int .i64 okk, .int .i64 os_, .string od, .int .u8 (cy.toNat : Int), .int .i64 ch, .int .i64 cow, .bool ck, .int .i64 ca, .int .i64 cn, .int .u64 cx])) rfl (by kernel_rfl) (by kernel_rfl) (by kernel_rfl) (fun _ _ _ h => h) (Or.inl ⟨by rfl, fun w' h' => ?_⟩) hS ?_
            · have c0 := (cells11 h'.2).1
              have c1 := (cells11 h'.2).2.1
              have c2 := (cells11 h'.2).2.2.1
              have c3 := (cells11 h'.2).2.2.2.1
              have c4 := (cells11 h'.2).2.2.2.2.1
              have c5 := (cells11 h'.2).2.2.2.2.2.1
              have c6 := (cells11 h'.2).2.2.2.2.2.2.1
              have c7 := (cells11 h'.2).2.2.2.2.2.2.2.1
              have c8 := (cells11 h'.2).2.2.2.2.2.2.2.2.1
              have c9 := (cells11 h'.2).2.2.2.2.2.2.2.2.2.1
              have c10 := (cells11 h'.2).2.2.2.2.2.2.2.2.2.2
              clear h'
              go_simp
            simp only [Act.put]
            refine wpAnyH_ready (rs := [6]) (by kernel_rfl) (by simp) ?_
            refine AllReadyH.cons rfl (fun K hK => ?_) AllReadyH.nil
            go_simp
            refine (OC.out V).mono ?_
            rintro e w8 ⟨rfl, q8⟩
            have s8 := And.intro (hS.1.grown q8) ((q8.block _ (lt_of_block hS.2) (by simp)).trans hS.2)
            clear q8
            go_simp
            refine hK.out _ _ s8 (fun _ => ?_)
            clear hK K
            refine wpAnyH_take (i := 7) (oi := ⟨some 105, Op.field 39 (Operand.tmp 104) 2, _, _, _, none⟩) (v := (.string o3)) rfl (by kernel_rfl) (by kernel_rfl) (by kernel_rfl) (fun _ _ _ h => h) (Or.inl ⟨by rfl, fun w' h' => ?_⟩) s8 ?_
            · clear h'
              go_simp
              kernel_rfl
            simp only [Act.put]
            refine wpAnyH_ready (rs := [8]) (by kernel_rfl) (by simp) ?_
            refine AllReadyH.cons rfl (fun K hK => ?_) AllReadyH.nil
            go_simp
            refine (ox_done s8.1 ch HFIT.out.2.2.1 ck o3).mono ?_
            rintro e w9 ⟨⟨v9, rfl⟩, q9, x9⟩
            have s9 := And.intro x9 ((q9 nb (lt_of_block s8.2) HNO.out).trans s8.2)
            clear q9 x9
            go_simp
            refine hK.out _ _ s9 (fun _ => ?_)
            clear hK K
            refine wpAnyH_done (by kernel_rfl) (NoPanic.normal ?_) _
            have X9 := Lib.hid s9.1
            clear s9 s8 hS X2 A2 OC HFIT HSZ
            go_wp2_with fail
            go_meet
            case rel => exact ⟨os, last, now, D, ms, rfl, X9, HSA⟩
          have e4 : (cd == 4) = false := by simpa using h4
          by_cases h5 : cd = 5
          · subst h5
            have hx : 0 ≤ cx := by
              have h := HFIT.out.2.2.2.2.2
              have h2 : 0 ≤ cx ∧ cx ≤ 18446744073709551615 := by simpa [Lit.wf, IntKind.min, IntKind.max, IntKind.signed, IntKind.bits] using h
              exact h2.1
            have TC := Lib.hid (ox_put X2.out ca cn cx hx)
            clear A2 HFIT HSZ h0 h2 h3 h4 hx
            go_wp2_with fail
            refine TC.out.mono ?_
            clear TC
            rintro e w9 ⟨⟨v9, rfl⟩, X9⟩
            have X9 := Lib.hid X9
            clear a0 a1 a2 a3 a4 a5 a6 a7 a8 a9 a10
            go_wp2_with fail
            go_meet
            case rel => exact ⟨os, last, now, D, ms, rfl, X9, HSA⟩
          have e5 : (cd == 5) = false := by simpa using h5
          clear a0 a1 a2 a3 a4 a5 a6 a7 a8 a9 a10 h0 h2 h3 h4 h5
          go_wp2_with fail
          go_meet
          case rel => exact ⟨os, last, now, D, ms, rfl, X2, HSA⟩
        case rest =>
          clear X2 A2 HFIT HSZ HD2 HKK HL I
          obtain ⟨os, last, now, D, ms, rfl, X, M⟩ := hcut
          have PC := Lib.hid (ox_poll X.out)
          go_wp2_with fail
          refine PC.out.mono ?_
          clear PC
          rintro e w10 ⟨v, l, os2, D2, rfl, ho, X4, pe, pn, pd, pa⟩
          obtain ⟨p9, c9, rfl⟩ := RowA.shape ho.rowA
          have hl8 := ho.2
          have HO := Lib.hid ho
          have HX4 := Lib.hid X4
          have HPN := Lib.hid pn
          have HPD := Lib.hid pd
          have HPA := Lib.hid pa
          have HB9 := Lib.hid X.out.map.lt
          have HP0 : Hid ((ms.map (·.1)).Perm (l.map Dn.id ++ os2.map Snt.id)) := Lib.hid (M.out.ids.trans pe.symm)
          clear ho X4 pe pn pd pa X
          go_wp2_with fail
          go_loopw [19] (fun i wr => ∃ (j : Nat) (ms : List (Int × Value)), j ≤ l.length ∧ i = .int .i64 j ∧ Hid (OX w1 wr K many os2 last now D2 ms) ∧ Hid (OwnDns wc.heap.size wr (.slice p9 l.length c9) l) ∧ Hid ((ms.map (·.1)).Perm ((l.drop j).map Dn.id ++ os2.map Snt.id)) ∧ Hid (∀ c ∈ ms, c.2 = .int .i64 1)) (fun i _ => l.length - (intOf i).toNat)
          case atStart => exact ⟨0, ms, Nat.zero_le _, rfl, HX4, HO, HP0, Lib.hid M.out.one⟩
          case round =>
            obtain ⟨j, ms', hj, rfl, X, O, PM, ON⟩ := hrel
            clear HX4 HO HP0
            by_cases hjl : j < l.length
            · obtain ⟨gb, cap, hp9, hcap, hmx, hgb, hfz, hcell⟩ := RowA.elem dn_len O.out.rowA (by omega)
              injection hp9 with e1 e2 e3
              subst e1 e3
              obtain ⟨⟨yi, yk, yd⟩, hy⟩ : ∃ y, y = l[j] := ⟨_, rfl⟩
              have hrg := hcell j hjl
              rw [← hy] at hrg
              have d0 : wr.cell? ⟨gb, j * 3, none⟩ = some (.int .i64 yi) := hrg 0 _ rfl
              have d1 : wr.cell? ⟨gb, j * 3 + 1, none⟩ = some (.bool yk) := hrg 1 _ rfl
              have d2 : wr.cell? ⟨gb, j * 3 + 2, none⟩ = some (.string yd) := hrg 2 _ rfl
              have HDR : Hid ((ms'.map (·.1)).Perm (yi :: ((l.drop (j + 1)).map Dn.id ++ os2.map Snt.id))) := Lib.hid (by
                have h := PM.out
                rw [List.drop_eq_getElem_cons hjl, ← hy] at h
                exact h)
              have HPK : Hid (yk = false → yd = ⟨#[]⟩) := Lib.hid (fun e => by
                have h := HPN.out l[j] (List.getElem_mem _)
                rw [← hy] at h
                exact h e)
              obtain ⟨⟨c1, c2⟩, hc, hc1⟩ := List.mem_map.1 (HDR.out.mem_iff.2 (List.mem_cons_self))
              have hc2 := ON.out _ hc
              simp only at hc1 hc2
              subst hc1 hc2
              have lk := X.out.map.get_yes (P := Tryz.prog) Tryz.underlying56 Tryz.underlying3 hc
              have HWF := Lib.hid (tab_wf X.out.map _ hc)
              have j1 : (0 : Int) ≤ (j : Int) := by omega
              have j2 : (j : Int) < (l.length : Int) := by omega
              have j3 : IntKind.i64.wrap ((j : Int) + 1) = (j : Int) + 1 := IntWalk.i64_in _ (by omega)
              have j4 : decide ((j : Int) < (l.length : Int)) = true := decide_eq_true j2
              clear hrg hcell hfz hcap hmx hgb hc hy PM
              cases yk with
              | true =>
                go_wp2_with (at_delete; refine wpList_delete_tab _ rfl _ _ 56 3 rfl 3 Tryz.underlying56 Tryz.underlying3 K.o c1 ms' X.out.map HWF.out rfl rfl ?_; intro w11 t11 k11; have X11 := Lib.hid (X.out.setmap k11 t11); have O11 := Lib.hid (O.out.other k11 HB9.out); clear t11 k11)
                go_roundw
                case rel => exact ⟨j + 1, _, by omega, by go_num, X11, O11, Lib.hid (strike_ids (tab_nodup X.out.map) HDR.out), Lib.hid (fun c hc => ON.out c (List.mem_filter.1 hc).1)⟩
                case measure => simp [intOf]; omega
              | false =>
                obtain rfl := HPK.out rfl
                go_wp2_with (at_delete; refine wpList_delete_tab _ rfl _ _ 56 3 rfl 3 Tryz.underlying56 Tryz.underlying3 K.o c1 ms' X.out.map HWF.out rfl rfl ?_; intro w11 t11 k11; have X11 := Lib.hid (X.out.setmap k11 t11); have O11 := Lib.hid (O.out.other k11 HB9.out); clear t11 k11)
                go_roundw
                case rel => exact ⟨j + 1, _, by omega, by go_num, X11, O11, Lib.hid (strike_ids (tab_nodup X.out.map) HDR.out), Lib.hid (fun c hc => ON.out c (List.mem_filter.1 hc).1)⟩
                case measure => simp [intOf]; omega
            · obtain rfl : j = l.length := by omega
              have j4 : decide ((l.length : Int) < (l.length : Int)) = false := by simp
              have PE : Hid ((ms'.map (·.1)).Perm (os2.map Snt.id)) := Lib.hid (by have h := PM.out; rw [List.drop_length, List.map_nil, List.nil_append] at h; exact h)
              have hln := PE.out.length_eq
              rw [List.length_map, List.length_map] at hln
              have HI : Hid (Inv (k + 1) len1 many os2 last now D2 ms') := Lib.hid (M.out.after HPD.out HPA.out PE.out ON.out)
              have FC := ox_flight X.out
              rw [← hln] at FC
              have FC := Lib.hid FC
              have DC := Lib.hid (ox_dead X.out)
              have LC := fun ty => X.out.map.len (P := Tryz.prog) Tryz.underlying56 ty
              cases D2 with
              | false =>
                clear hln
                go_wp2_with fail
                refine FC.out.mono ?_
                rintro e w11 ⟨rfl, rfl⟩
                go_wp2_with fail
                refine DC.out.mono ?_
                rintro e w11 ⟨rfl, rfl⟩
                go_wp2_with fail
                go_roundw
                case rel => exact ⟨k + 1, os2, last, now, false, ms', by omega, by go_num, rfl, X, HI⟩
                case measure => simp [intOf]; omega
              | true =>
                have ho := HPD.out rfl
                have hm0 : ms'.length = 0 := by rw [hln, ho]; rfl
                rw [hm0] at FC LC
                clear hln ho hm0
                go_wp2_with fail
                refine FC.out.mono ?_
                rintro e w11 ⟨rfl, rfl⟩
                go_wp2_with fail
                refine DC.out.mono ?_
                rintro e w11 ⟨rfl, rfl⟩
                go_wp2_with fail
                go_roundw
                case rel => exact ⟨k + 1, os2, last, now, true, ms', by omega, by go_num, rfl, X, HI⟩
                case measure => simp [intOf]; omega
    · have q3 : decide ((k : Int) < (len1 : Int) + many + 1) = false := decide_eq_false hlt
      have ho : os = [] := by
        cases D with
        | true => exact I.out.dd rfl
        | false =>
          rcases os with _ | ⟨y, os⟩
          · rfl
          · exfalso
            have := I.out.al rfl y (by simp)
            have := HK.out
            omega
      have hm0 : ms.length = 0 := by
        have h := I.out.ids.length_eq
        rw [List.length_map, List.length_map, ho] at h
        exact h
      have LC := fun ty => X.out.map.len (P := Tryz.prog) Tryz.underlying56 ty
      rw [hm0] at LC
      clear ho hm0
      go_wp2_with fail
      go_ret
      exact ⟨rfl, B1.out.trans (X.out.bel.mono B1.out.size)⟩

end Go.Proofs.YtnbponaldffbiaaGreatDoor.onc

namespace Go.Proofs.YtnbponaldffbiaaGreatDoor.ocp
open Go.ChangeShapes Go.WideShapes Go.ChangeAt Go.RowKit Go.Sort
open Go.ChangeMaps (open_string shut_string)
set_option linter.unusedVariables false

set_option maxRecDepth 100000 in
theorem lifted (os : Os) (started : os.Started) (H : Type) (enc : TypeId × Value → H) :
    ReturnsInHanded {} Tryz.checked os 4 .any (fun w args => (Rows.vblkOnceSpec.pre enc Tryz.prog Tryz.f4 Rows.vblkOnceRow.domain false w args ∧ laidMetH Tryz.prog shapesLaid w) ∧ sizedMet enc Tryz.prog Tryz.f4 (OpenSpec.ofChange Rows.vblkOnceSpec) false w args)
      (Rows.vblkOnceSpec.post enc Tryz.prog Tryz.f4 false true false false) := by
  refine returnsInHanded_of_change_and (C := Tryz.checked) (X := fun w _ => laidMetH Tryz.prog shapesLaid w) (fun _ _ _ hh h => h.of_heap hh) own_b started (by kernel_rfl) Tryz.func4
    (ChangeSpec.witness_shaped (enc := enc) (C := Tryz.checked) (os := os) (X := fun w _ => laidMetH Tryz.prog shapesLaid w) false (World.doorLaid Tryz.prog 400 os) #[.int .u8 0, .slice none 0 0] 8 rfl (World.shaped_of_RefB (by kernel_rfl) (by kernel_rfl)) (by kernel_rfl) (by kernel_rfl) (by kernel_rfl) (door_met os _)) ?_
  intro W base args ds gs before hval0 hW _ _ hL _
  have hval : ∀ (j : Nat) t v, Tryz.f4.params[j]? = some t → args[j]? = some v → Value.okWide Tryz.prog W .any base t v := hval0
  have hW' := hW
  obtain ⟨p, q, hA0, hV, rfl, hfz, hnd⟩ := hW
  have hA : DataW.TrodAll enc Tryz.prog W 0 (fun _ => true) true Tryz.f4.params.toList args.toList ds p := hA0
  rw [Tryz.params4] at hA hval
  obtain ⟨v0, vs0, d0, ds0, p0, q0, hargs, rfl, rfl, h0, r0⟩ := trodAll_cons hA
  obtain ⟨v1, vs1, d1, ds1, p1, q1, rfl, rfl, rfl, h1, r1⟩ := trodAll_cons r0
  obtain ⟨rfl, rfl, rfl⟩ := trodAll_nil r1
  obtain rfl : args = #[v0, v1] := by cases args; simp_all
  obtain ⟨rfl, rfl⟩ := trodVars_none hV
  obtain ⟨a0, rfl, rfl, rfl, w0⟩ := open_int Tryz.underlying5 (hval 0 5 v0 rfl rfl) h0
  obtain ⟨a1, len1, cap1, rfl⟩ := okWide_slice Tryz.underlying54 (hval 1 54 v1 rfl rfl)
  have k1 := h1
  have lt1 : ∀ x ∈ p1, x.block < W.heap.size := by obtain ⟨m, hm⟩ := k1; exact DataW.trod_lt m _ _ _ hm
  obtain ⟨l1, w1⟩ : ∃ l, IsActs3 W a1 len1 l := by obtain ⟨fuel, hf⟩ := h1; exact open_acts3 hf
  clear hA0 hval0
  refine (onc.walk a0 a1 len1 cap1 l1 W (shapes_of hL) w0 w1).mono fun e W' ⟨he, bel⟩ => ?_
  subst he
  exact ⟨_, rfl, _, _, _, [], _, [], hW', trodAll_mk1 (shut_bool Tryz.underlying4 _), (trodAll_cons_mk (shut_int Tryz.underlying5 w0) (trodAll_cons_mk (Below.trod laidOut_b (by kernel_rfl) (of_decide_eq_true (by kernel_rfl)) k1 bel lt1) trodAll_mk0)), rfl, bel.frame _, fun h => by cases h⟩

theorem row_holds : Rows.VblkOnceSaid :=
  OpenClaim.holds_of_wide 4 Tryz.f4 rfl rfl rfl rfl rfl rfl rfl ⟨rfl, rfl, rfl, rfl, rfl⟩ rfl rfl rfl rfl rfl (by kernel_rfl) Tryz.func4 (by kernel_rfl)
    (of_decide_eq_true (by kernel_rfl)) (by unfold Func.isWrapper; first | (rw [if_pos (by decide +kernel)]; kernel_rfl) | (rw [if_neg (by decide +kernel)]; exact ⟨rfl, rfl⟩))
    (fun os started H enc _ => lifted os started H enc)

/-- THE STATEMENT. -/
theorem proved : Rows.VblkOnceCardSaid :=
  Claim7.holds_tied_plain_at .later [] [.data] true (true, "494d00dbe65687a4ce2b9fd66cf360012fe1d1841c312985a99a2183055d1870") false
    row_holds (fun _ h => by cases h) (by kernel_rfl) (fun _ h => by cases h) vblkOnce_row_tie rfl ⟨rfl, rfl⟩ (by kernel_rfl) rfl
    (fun f fn hf hfn => by
      obtain rfl : f = 4 := Option.some.inj ((show Tryz.prog.funcNamed "blockyard/blockyardlaw03.VblkOnce" = some 4 by kernel_rfl).symm.trans hf) |>.symm
      obtain rfl : fn = Tryz.f4 := (Option.some.inj (Tryz.func4.symm.trans hfn)).symm
      exact ⟨by kernel_rfl, fun j t ht => by
        rw [Tryz.params4] at ht
        have hm : t ∈ [5, 54] := by simpa using Array.mem_of_getElem? ht
        have hall : ([5, 54].all fun u => !Tryz.prog.wantsStandIn u) = true := by kernel_rfl
        exact (show Tryz.prog.wantsStandIn t = false by simpa using List.all_eq_true.1 hall t hm)⟩)
    (by kernel_rfl)
#print axioms proved

end Go.Proofs.YtnbponaldffbiaaGreatDoor.ocp
