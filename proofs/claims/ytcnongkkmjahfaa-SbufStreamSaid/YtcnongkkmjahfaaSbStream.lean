/-
  SbufStream: each byte that was written has its number for good. Conditions: none beyond the kinds of the arguments.
-/
import Derived.Test.YtcnongkkmjahfaaSbJ
import Derived.ProofKit
import Derived.OpenShut
import Derived.ShutString
import Derived.ChangeOld
import Derived.Below
namespace Go.Proofs.Ytcnongkkmjahfaa.sbs
open Go.ChangeShapes Go.WideShapes Go.ChangeAt Go.RowKit
open Go.ChangeMaps (open_string shut_string)
set_option linter.unusedVariables false

theorem own : ownKnob Try.prog.godebug = none := by kernel_rfl
theorem laidOut : laidOutB Try.prog = true := by kernel_rfl
set_option maxRecDepth 100000 in
set_option maxHeartbeats 8000000 in
theorem walk_out (u rm : Int) (p : Option Addr) (len cap : Nat) (l : List Act12) {w : World} (hl : IsActs12 w p len l) (h : great12 l = true) :
    Calls Try.prog 6 #[.int .u32 u, .int .u16 rm, .slice p len cap] w fun e w' => e = .returned (.bool true) ∧ Below w.heap.size w w' := by
  have HG := Lib.hid h
  clear h
  go_enter Try.func6, Try.ntmps6
  go_wp2_with fail
  refine (awakeB _).mono ?_
  rintro e w2 ⟨rfl, bl⟩
  go_wp2_with fail
  refine (Great13_any w2 p len cap l (hl.below bl)).mono ?_
  rintro e w3 ⟨rfl, rfl⟩
  rw [HG.out]
  go_wp2_with fail
  go_ret
  exact ⟨rfl, bl⟩
set_option maxRecDepth 100000 in
set_option maxHeartbeats 8000000 in
theorem walk_main (u rm : Int) (n : Nat) (hu : 0 ≤ u ∧ u < 4294967296) (hq : Int.tmod rm 300 = rm % 300) (hr : 0 ≤ rm ∧ rm < 65536) (hn : (n : Int) = 1 + rm % 300) (p : Option Addr) (len cap : Nat) (l : List Act12) {w : World} (hl : IsActs12 w p len l) (h : great12 l = false) :
    Calls Try.prog 6 #[.int .u32 u, .int .u16 rm, .slice p len cap] w fun e w' => e = .returned (.bool true) ∧ Below w.heap.size w w' := by
  have HG := Lib.hid h
  have HSM := Lib.hid (great12_no h).2
  have hlen : len ≤ 100 := by have := (great12_no h).1; rw [hl.1] at this; exact this
  have HT := Lib.hid hl
  have HU := Lib.hid hu
  have e1 : IntKind.u16.wrap (rm % 300) = rm % 300 := by rw [IntKind.wrap_u16]; omega
  have e2 : IntKind.i64.wrap (rm % 300) = rm % 300 := IntWalk.i64_in _ (by omega)
  have e3 : IntKind.i64.wrap (1 + rm % 300) = (n : Int) := by rw [← hn]; exact IntWalk.i64_in _ (by omega)
  have HNN : Hid (1 ≤ n ∧ n ≤ 300) := Lib.hid (by omega)
  clear h hl hu hr hn
  go_enter Try.func6, Try.ntmps6
  go_wp2_with fail
  refine (awakeB _).mono ?_
  rintro e w2 ⟨rfl, bl⟩
  have BL0 := Lib.hid bl
  go_wp2_with fail
  refine (Great13_any w2 p len cap l (HT.out.below bl)).mono ?_
  rintro e w3 ⟨rfl, rfl⟩
  rw [HG.out]
  clear bl
  go_wp2_with fail
  refine (tNew w2 u n HNN.out.1 (by have := HNN.out; omega) HU.out.1 HU.out.2).mono ?_
  rintro e w3 ⟨g, gb, rfl, h⟩
  have H0 := Lib.hid h
  clear h
  go_upto_region 12 with fail
  clear e1 e2 e3 hq
  go_loopw [10, 11, 12] (fun al gn i wr => ∃ (k t v : Nat) (u' : Int) (G : ByteArray) (L : List UInt8), k ≤ len ∧ i = .int .i64 k ∧ gn = .int .i64 v ∧ al = .string G ∧ Hid (t ≤ k * 20000) ∧ Hid (SbS w2 wr g gb n u' L) ∧ Hid (StI u n t v G u' L)) (fun _ _ i _ => len - (intOf i).toNat)
  case atStart => exact ⟨0, 0, 0, u, ⟨#[]⟩, [], Nat.zero_le _, rfl, rfl, rfl, Lib.hid (Nat.zero_le _), H0, Lib.hid ⟨rfl, Nat.le_refl _, rfl, by omega, by have := HU.out; omega⟩⟩
  case round =>
    clear H0
    obtain ⟨k, t, v, u1, G, L, hk, rfl, rfl, rfl, HTK, HB, HI⟩ := hrel
    have HT20 := Lib.hid (show t ≤ 2000000 by have := HTK.out; omega)
    by_cases hlt : k < len
    · have BW : Hid (Below w.heap.size w wr) := Lib.hid (BL0.out.trans (HB.out.bl.mono BL0.out.size))
      obtain ⟨b, oo, ⟨cd, ca, cr, cn, cs⟩, hp, hck, hfit, tw⟩ := HT.out.at_ k hlt
      have TW := Lib.hid (act_rangeB (ActAt.kept tw (BW.out.block b (ActAt.block tw))))
      have HCS := Lib.hid (show cs.size ≤ 20000 from HSM.out _ (List.mem_of_getElem? hck))
      obtain ⟨-, f2, f3, -⟩ := hfit
      have hca := sq_u32 f2
      have hcn := sq_i64 f3
      dsimp only at hca hcn
      have HCA := Lib.hid hca
      have HCN := Lib.hid hcn
      subst hp
      clear tw f2 f3 hck BW hca hcn
      have q1 : (0 : Int) ≤ (k : Int) := by omega
      have q2 : (k : Int) < (len : Int) := by omega
      have q3 : decide ((k : Int) < (len : Int)) = true := decide_eq_true q2
      have q4 : IntKind.i64.wrap ((k : Int) + 1) = (k : Int) + 1 := IntWalk.i64_in _ (by omega)
      have B1 := Lib.hid (HB.out.grow ((Below.refl _ _).alloc (Nat.le_refl _) (.cells #[.int .i64 cd, .int .u32 ca, .bool cr, .int .i64 cn, .string cs] 38)))
      have A1 := Lib.hid (heap_alloc_new wr (.cells #[.int .i64 cd, .int .u32 ca, .bool cr, .int .i64 cn, .string cs] 38))
      go_upto_region 15 with (refine wpList_load_mid rfl 38 _ rfl b (oo + k * 5) rfl [.int .i64 cd, .int .u32 ca, .bool cr, .int .i64 cn, .string cs] _ TW.out Try.underlying38 rfl (by kernel_rfl) ?_)
      have hg1 := HB.out.sb.lt
      have hg2 := HB.out.sb.ltb
      generalize wr.alloc _ = w5 at B1 A1 ⊢
      obtain ⟨na, hna⟩ : ∃ na, na = wr.heap.size := ⟨_, rfl⟩
      rw [← hna] at A1 hg1 hg2 ⊢
      have NG : Hid (na ≠ g ∧ na ≠ gb) := Lib.hid ⟨by omega, by omega⟩
      clear hna hg1 hg2 HB TW
      have KEEP : Hid (∀ {W W' : World}, W.heap[na]? = some (.cells #[.int .i64 cd, .int .u32 ca, .bool cr, .int .i64 cn, .string cs] 38 (0, 0)) → Turn W W' (fun j => j = g ∨ j = gb) → W'.heap[na]? = some (.cells #[.int .i64 cd, .int .u32 ca, .bool cr, .int .i64 cn, .string cs] 38 (0, 0))) :=
        Lib.hid (fun h t => (t.block na (Array.getElem?_eq_some_iff.1 h).1 (fun e => e.elim NG.out.1 NG.out.2)).trans h)
      obtain ⟨a0, a1, a2, a3, a4⟩ := cells5B A1.out
      go_upto_block 2 with fail
      clear a0 a1 a2 a3 a4
      go_cut [10, 11] from 47 to 136 (fun al gn wx => ∃ (t v : Nat) (u' : Int) (G : ByteArray) (L : List UInt8), gn = .int .i64 v ∧ al = .string G ∧ Hid (t ≤ (k + 1) * 20000) ∧ Hid (SbS w2 wx g gb n u' L) ∧ Hid (StI u n t v G u' L))
      case first =>
        have hLl := HI.out.length
        have hle := HI.out.le
        have hnn := HI.out.len
        have hGs := HI.out.size
        have hN := HNN.out
        have hT2 := HT20.out
        obtain ⟨m, hm⟩ : ∃ m, m = t - v := ⟨_, rfl⟩
        rw [← hm] at hLl hnn
        have e1 : IntKind.i64.wrap ((t : Int) - v) = (m : Int) := by rw [IntWalk.i64_in _ (by omega)]; omega
        have e2 : IntKind.i64.wrap ((n : Int) - m) = ((n - m : Nat) : Int) := by rw [IntWalk.i64_in _ (by omega)]; omega
        obtain ⟨a0, a1, a2, a3, a4⟩ := cells5B A1.out
        by_cases hd0 : cd = 0
        · subst hd0
          obtain ⟨r, hr⟩ : ∃ r, r = n - m := ⟨_, rfl⟩
          rw [← hr] at e2
          obtain ⟨K, hK⟩ : ∃ K, K = min cs.size r := ⟨_, rfl⟩
          have e3 : min (cs.size : Int) (r : Int) = (K : Int) := by omega
          have KW : Hid (K = min cs.size (n - L.length)) := Lib.hid (by rw [hLl, ← hr]; exact hK)
          have I2 := Lib.hid (HI.out.write cs K KW.out)
          have T2 : Hid (t + K ≤ (k + 1) * 20000) := Lib.hid (by have := HTK.out; have := HCS.out; omega)
          have e4 : (0 : Int) ≤ (K : Int) := by omega
          have e5 : (K : Int) ≤ (cs.size : Int) := by omega
          have e6 : t + (cs.extract 0 K).size ≤ 9223372036854775807 := by rw [ByteArray.size_extract]; have := HCS.out; omega
          clear hK hr hm hLl hle hnn hN hT2
          go_wp2_with fail
          refine (vWrite B1.out cs K KW.out _ rfl).mono ?_
          rintro e w6 ⟨rfl, h, ht⟩
          have B2 := Lib.hid h
          have A2 := Lib.hid (KEEP.out A1.out ht)
          clear h ht a0 a1 a2 a3 a4
          obtain ⟨a0, a1, a2, a3, a4⟩ := cells5B A2.out
          go_wp2_with fail
          go_meet
          case rel => exact ⟨t + K, v, u1, G ++ cs.extract 0 K, _, rfl, rfl, T2, B2, I2⟩
        by_cases hd1 : cd = 1
        · subst hd1
          have hca := HCA.out
          have e3 : IntKind.u32.wrap (v : Int) = (v : Int) := by rw [IntKind.wrap_u32]; omega
          have e4 : IntKind.u32.wrap (u + v) = u1 := by rw [IntKind.wrap_u32, HI.out.num]
          obtain ⟨x, hx⟩ : ∃ x, x = (u1 + ca) % 4294967296 := ⟨_, rfl⟩
          have e5 : IntKind.u32.wrap (u1 + ca) = x := by rw [IntKind.wrap_u32, hx]
          have e6 : IntKind.i64.wrap ca = ca := IntWalk.i64_in _ (by omega)
          obtain ⟨c, hc⟩ := Int.eq_ofNat_of_zero_le hca.1
          have hah : ahN u1 x = ca := by rw [hx]; unfold ahN; omega
          have HXB : Hid (0 ≤ x ∧ x < 4294967296) := Lib.hid (by rw [hx]; exact mod32 _)
          by_cases hcm : ca ≤ (m : Int)
          · have d1 : decide (ca ≤ (m : Int)) = true := decide_eq_true hcm
            have KA : Hid ((c : Int) = if ahN u1 x ≤ L.length then ahN u1 x else 0) := Lib.hid (by rw [hah, if_pos (by omega), hc])
            have d1n : decide (c ≤ m) = true := decide_eq_true (by omega)
            obtain ⟨u2, hu2⟩ : ∃ u2, u2 = (u1 + (c : Int)) % 4294967296 := ⟨_, rfl⟩
            have I2 := Lib.hid (HI.out.ack c (by omega) u2 hu2)
            have e7 : IntKind.i64.wrap ((v : Int) + c) = (v : Int) + c := IntWalk.i64_in _ (by omega)
            have HU2 := Lib.hid hu2
            have T2 : Hid (t ≤ (k + 1) * 20000) := Lib.hid (by have := HTK.out; omega)
            have hc2 : ca = (c : Int) := hc
            subst hc2
            clear hu2 hx hah hc hcm hm hLl hle hnn hN hT2 hca
            go_wp2_with fail
            refine (vAck B1.out x HXB.out c KA.out u2 HU2.out _ rfl).mono ?_
            rintro e w6 ⟨rfl, h, ht⟩
            have B2 := Lib.hid h
            have A2 := Lib.hid (KEEP.out A1.out ht)
            clear h ht a0 a1 a2 a3 a4
            obtain ⟨a0, a1, a2, a3, a4⟩ := cells5B A2.out
            go_wp2_with fail
            go_meet
            case rel => exact ⟨t, v + c, u2, G, _, by go_num, rfl, T2, B2, I2⟩
          · have d1 : decide (ca ≤ (m : Int)) = false := decide_eq_false hcm
            have KA : Hid (((0 : Nat) : Int) = if ahN u1 x ≤ L.length then ahN u1 x else 0) := Lib.hid (by rw [hah, if_neg (by omega)]; rfl)
            obtain ⟨u2, hu2⟩ : ∃ u2, u2 = (u1 + ((0 : Nat) : Int)) % 4294967296 := ⟨_, rfl⟩
            have I2 := Lib.hid (HI.out.ack 0 (by omega) u2 hu2)
            have e7 : IntKind.i64.wrap (v : Int) = (v : Int) := IntWalk.i64_in _ (by omega)
            have HU2 := Lib.hid hu2
            have T2 : Hid (t ≤ (k + 1) * 20000) := Lib.hid (by have := HTK.out; omega)
            clear hu2 hx hah hc hcm hm hLl hle hnn hN hT2 hca
            go_wp2_with fail
            refine (vAck B1.out x HXB.out 0 KA.out u2 HU2.out _ rfl).mono ?_
            rintro e w6 ⟨rfl, h, ht⟩
            have B2 := Lib.hid h
            have A2 := Lib.hid (KEEP.out A1.out ht)
            clear h ht a0 a1 a2 a3 a4
            obtain ⟨a0, a1, a2, a3, a4⟩ := cells5B A2.out
            go_wp2_with fail
            go_meet
            case rel => exact ⟨t, v + 0, u2, G, _, by go_num, rfl, T2, B2, I2⟩
        by_cases hd2 : cd = 2
        · subst hd2
          have hca := HCA.out
          have hcn := HCN.out
          obtain ⟨r, hr⟩ : ∃ r : Nat, (r : Int) = ca % 400 := ⟨(ca % 400).toNat, by omega⟩
          have er : Int.tmod ca 400 = (r : Int) := by rw [Int.tmod_eq_emod_of_nonneg hca.1, hr]
          have hr4 : r < 400 := by omega
          have e3 : IntKind.u32.wrap (r : Int) = (r : Int) := by rw [IntKind.wrap_u32]; omega
          have e4 : IntKind.i64.wrap (r : Int) = (r : Int) := IntWalk.i64_in _ (by omega)
          obtain ⟨f, hf⟩ : ∃ f, f = v + r := ⟨_, rfl⟩
          have e5 : IntKind.i64.wrap ((v : Int) + r) = (f : Int) := by rw [IntWalk.i64_in _ (by omega)]; omega
          have e6 : IntKind.u32.wrap (f : Int) = (f : Int) := by rw [IntKind.wrap_u32]; omega
          obtain ⟨s, hs⟩ : ∃ s, s = (u + (f : Int)) % 4294967296 := ⟨_, rfl⟩
          have e7 : IntKind.u32.wrap (u + f) = s := by rw [IntKind.wrap_u32, hs]
          have T2 : Hid (t ≤ (k + 1) * 20000) := Lib.hid (by have := HTK.out; omega)
          obtain ⟨X, hX⟩ : ∃ X : ByteArray, X = ⟨(getS u1 s cn L).toArray⟩ := ⟨_, rfl⟩
          by_cases hw : f < t ∧ 0 < cn
          · obtain ⟨y, hy⟩ : ∃ y : Nat, (y : Int) = min cn 100000 := ⟨(min cn 100000).toNat, by omega⟩
            obtain ⟨B, hB⟩ : ∃ B : Nat, (B : Int) = min (t : Int) ((f : Int) + min cn 100000) := ⟨(min (t : Int) ((f : Int) + min cn 100000)).toNat, by omega⟩
            have GX : X = G.extract f B := by rw [hX]; exact HI.out.get r (by omega) cn HNN.out.2 s (by rw [hs, hf]) f B hf hB hw.1 hw.2
            have d1 : decide ((f : Int) < (t : Int)) = true := decide_eq_true (by omega)
            have d1n : decide (f < t) = true := decide_eq_true hw.1
            have d2 : decide ((0 : Int) < cn) = true := decide_eq_true hw.2
            rw [← hy] at hB
            have g1 : min cn 100000 = (y : Int) := hy.symm
            have g2 : IntKind.i64.wrap ((f : Int) + y) = (f : Int) + y := IntWalk.i64_in _ (by omega)
            have g3 : min (t : Int) ((f : Int) + y) = (B : Int) := hB.symm
            have g4 : (0 : Int) ≤ (f : Int) := by omega
            have g5 : (f : Int) ≤ (B : Int) := by omega
            have g6 : (B : Int) ≤ (t : Int) := by omega
            have g7 : G.extract f B = X := GX.symm
            have EQ : (X.toList == X.toList) = true := eq_of_listsB rfl
            have EQ2 : (X.toList != X.toList) = false := by rw [bne, EQ]; rfl
            have HX := Lib.hid hX
            have HCN2 := Lib.hid (show cn ≤ 9223372036854775807 by omega)
            clear hX GX hB hy hs hf hr hw hm hLl hle hnn hN hT2 hca hcn hr4
            go_wp2_with fail
            refine (vGet B1.out s cn HCN2.out X HX.out).mono ?_
            rintro e w6 ⟨rfl, h, ht⟩
            have B2 := Lib.hid h
            clear h
            go_wp2_with fail
            go_meet
            case rel => exact ⟨t, v, u1, G, L, rfl, rfl, T2, B2, HI⟩
          · have GX : X = ⟨#[]⟩ := by rw [hX]; exact HI.out.get_none r (by omega) cn s (by rw [hs, hf]) (by rw [← hf]; exact hw)
            have HX : Hid ((⟨#[]⟩ : ByteArray) = ⟨(getS u1 s cn L).toArray⟩) := Lib.hid (by rw [← hX, GX])
            have HCN2 := Lib.hid (show cn ≤ 9223372036854775807 by omega)
            by_cases h1 : f < t
            · have d1 : decide ((f : Int) < (t : Int)) = true := decide_eq_true (by omega)
              have d1n : decide (f < t) = true := decide_eq_true h1
              have d2 : decide ((0 : Int) < cn) = false := decide_eq_false (fun h => hw ⟨h1, h⟩)
              clear hX GX hs hf hr hw h1 hm hLl hle hnn hN hT2 hca hcn hr4
              go_wp2_with fail
              refine (vGet B1.out s cn HCN2.out _ HX.out).mono ?_
              rintro e w6 ⟨rfl, h, ht⟩
              have B2 := Lib.hid h
              clear h
              go_wp2_with fail
              go_meet
              case rel => exact ⟨t, v, u1, G, L, rfl, rfl, T2, B2, HI⟩
            · have d1 : decide ((f : Int) < (t : Int)) = false := decide_eq_false (by omega)
              have d1n : decide (f < t) = false := decide_eq_false h1
              clear hX GX hs hf hr hw h1 hm hLl hle hnn hN hT2 hca hcn hr4
              go_wp2_with fail
              refine (vGet B1.out s cn HCN2.out _ HX.out).mono ?_
              rintro e w6 ⟨rfl, h, ht⟩
              have B2 := Lib.hid h
              clear h
              go_wp2_with fail
              go_meet
              case rel => exact ⟨t, v, u1, G, L, rfl, rfl, T2, B2, HI⟩
        · have e0 : (cd == 0) = false := beq_eq_false_iff_ne.2 hd0
          have e1 : (cd == 1) = false := beq_eq_false_iff_ne.2 hd1
          have e2 : (cd == 2) = false := beq_eq_false_iff_ne.2 hd2
          have T2 : Hid (t ≤ (k + 1) * 20000) := Lib.hid (by have := HTK.out; omega)
          clear hd0 hd1 hd2 hm hLl hle hnn hN hT2
          go_wp2_with fail
          go_meet
          case rel => exact ⟨t, v, u1, G, L, rfl, rfl, T2, B1, HI⟩
      case rest =>
        clear B1 A1 HI HTK HT20 HCA HCN HCS NG KEEP
        obtain ⟨t1, v1, u2, G1, L1, rfl, rfl, T9, B9, I9⟩ := hcut
        rename World => w9
        have hLl := I9.out.length
        have hle := I9.out.le
        have hnn := I9.out.len
        have hGs := I9.out.size
        have hN := HNN.out
        have hT2 : t1 ≤ 2000000 := by have := T9.out; omega
        obtain ⟨m, hm⟩ : ∃ m, m = t1 - v1 := ⟨_, rfl⟩
        rw [← hm] at hLl hnn
        have e1 : IntKind.i64.wrap ((t1 : Int) - v1) = (m : Int) := by rw [IntWalk.i64_in _ (by omega)]; omega
        have e3 : IntKind.u32.wrap (v1 : Int) = (v1 : Int) := by rw [IntKind.wrap_u32]; omega
        have e4 : IntKind.u32.wrap (u + v1) = u2 := by rw [IntKind.wrap_u32, I9.out.num]
        have e5 : IntKind.u32.wrap (t1 : Int) = (t1 : Int) := by rw [IntKind.wrap_u32]; omega
        obtain ⟨x, hx⟩ : ∃ x, x = (u + (t1 : Int)) % 4294967296 := ⟨_, rfl⟩
        have e6 : IntKind.u32.wrap (u + t1) = x := by rw [IntKind.wrap_u32, hx]
        have XE : Hid (x = (u2 + L1.length) % 4294967296) := Lib.hid (by rw [hx, I9.out.num, hLl]; omega)
        have ML : Hid (m = L1.length) := Lib.hid hLl.symm
        obtain ⟨r, hr⟩ : ∃ r, m + r = n := ⟨n - m, by omega⟩
        have RR : Hid (L1.length + r = n) := Lib.hid (by rw [hLl]; exact hr)
        have e7 : IntKind.i64.wrap ((m : Int) + r) = (n : Int) := by rw [IntWalk.i64_in _ (by omega)]; omega
        clear hm hx hr hLl hle hnn hN hT2
        go_wp2_with fail
        refine (tUna B9.out).mono ?_
        rintro e w10 ⟨rfl, rfl⟩
        go_wp2_with fail
        refine (tEnd B9.out x XE.out).mono ?_
        rintro e w10 ⟨rfl, rfl⟩
        go_wp2_with fail
        refine (tLen B9.out m ML.out).mono ?_
        rintro e w10 ⟨rfl, rfl⟩
        go_wp2_with fail
        refine (tLen B9.out m ML.out).mono ?_
        rintro e w10 ⟨rfl, rfl⟩
        go_wp2_with fail
        refine (tRoom B9.out r RR.out).mono ?_
        rintro e w10 ⟨rfl, h⟩
        have B10 := Lib.hid h
        clear h
        go_wp2_with fail
        go_roundw
        case rel => exact ⟨k + 1, t1, v1, u2, G1, L1, by omega, by go_num, rfl, rfl, T9, B10, I9⟩
        case measure => simp [intOf]; omega
    · obtain rfl : k = len := by omega
      have q3 : decide ((k : Int) < (k : Int)) = false := by simp
      have hGs := HI.out.size
      have HUU : Hid (0 ≤ u1 ∧ u1 < 4294967296) := Lib.hid ⟨HB.out.sb.x0, HB.out.sb.x1⟩
      obtain ⟨X, hX⟩ : ∃ X : ByteArray, X = ⟨(getS u1 u1 3000 L).toArray⟩ := ⟨_, rfl⟩
      have HX := Lib.hid hX
      have g7 : G.extract v t = X := by rw [hX]; exact (HI.out.all HNN.out.2 HUU.out).symm
      have EQ : (X.toList == X.toList) = true := eq_of_listsB rfl
      have g4 : (0 : Int) ≤ (v : Int) := by omega
      have g5 : (v : Int) ≤ (t : Int) := by have := HI.out.le; omega
      clear hX
      go_upto_region 38 with fail
      refine wp_region_noPanic ?_
      refine region_heldR (S := fun V => Below wr.heap.size wr V) (by kernel_rfl) (fun V d => d.below) (fun V d hS => ?_)
      refine wpAnyH_take (i := 0) (oi := ⟨some 172, Op.move (Operand.tmp 8), _, _, _, none⟩) (v := (.pointer (some ⟨g, 0, none⟩))) rfl (by kernel_rfl) (by kernel_rfl) (by kernel_rfl) (fun _ _ _ h => h) (Or.inl ⟨by rfl, fun w' h' => ?_⟩) hS ?_
      · clear h'
        go_simp
      simp only [Act.put]
      refine wpAnyH_take (i := 1) (oi := ⟨some 173, Op.move (Operand.tmp 8), _, _, _, none⟩) (v := (.pointer (some ⟨g, 0, none⟩))) rfl (by kernel_rfl) (by kernel_rfl) (by kernel_rfl) (fun _ _ _ h => h) (Or.inl ⟨by rfl, fun w' h' => ?_⟩) hS ?_
      · clear h'
        go_simp
      simp only [Act.put]
      refine wpAnyH_take (i := 4) (oi := ⟨some 176, Op.move (Operand.tmp 10), _, _, _, none⟩) (v := (.string G)) rfl (by kernel_rfl) (by kernel_rfl) (by kernel_rfl) (fun _ _ _ h => h) (Or.inl ⟨by rfl, fun w' h' => ?_⟩) hS ?_
      · clear h'
        go_simp
      simp only [Act.put]
      refine wpAnyH_take (i := 5) (oi := ⟨some 177, Op.move (Operand.tmp 11), _, _, _, none⟩) (v := (.int .i64 (v : Int))) rfl (by kernel_rfl) (by kernel_rfl) (by kernel_rfl) (fun _ _ _ h => h) (Or.inl ⟨by rfl, fun w' h' => ?_⟩) hS ?_
      · clear h'
        go_simp
      simp only [Act.put]
      refine wpAnyH_take (i := 6) (oi := ⟨some 178, Op.slice 9 (Operand.tmp 176) (some (Operand.tmp 177)) none none, _, _, _, none⟩) (v := (.string X)) rfl (by kernel_rfl) (by kernel_rfl) (by kernel_rfl) (fun _ _ _ h => h) (Or.inl ⟨by rfl, fun w' h' => ?_⟩) hS ?_
      · clear h'
        go_simp
      simp only [Act.put]
      refine wpAnyH_ready (rs := [2]) (by kernel_rfl) (by simp) ?_
      refine AllReadyH.cons rfl (fun K hK => ?_) AllReadyH.nil
      go_simp
      refine (tUna (HB.out.grow hS)).mono ?_
      rintro e w8 ⟨rfl, rfl⟩
      go_simp
      refine hK.out _ _ hS (fun _ => ?_)
      clear hK K
      refine wpAnyH_ready (rs := [3]) (by kernel_rfl) (by simp) ?_
      refine AllReadyH.cons rfl (fun K hK => ?_) AllReadyH.nil
      go_simp
      refine (vGet (HB.out.grow hS) u1 3000 (by omega) X HX.out).mono ?_
      rintro e w7 ⟨rfl, -, q7⟩
      have s5 := hS.trans (q7.mono hS.size)
      clear q7
      go_simp
      refine hK.out _ _ s5 (fun _ => ?_)
      clear hK K
      refine wpAnyH_take (i := 7) (oi := ⟨some 179, Op.binOp BinOp.eql 9 (Operand.tmp 175) (Operand.tmp 178) 9, _, _, _, none⟩) (v := (.bool true)) rfl (by kernel_rfl) (by kernel_rfl) (by kernel_rfl) (fun _ _ _ h => h) (Or.inl ⟨by rfl, fun w' h' => ?_⟩) s5 ?_
      · clear h'
        go_simp
      simp only [Act.put]
      refine wpAnyH_take (i := 8) (oi := ⟨some 6, Op.assign (Operand.tmp 179), _, _, _, none⟩) (v := (.bool true)) rfl (by kernel_rfl) (by kernel_rfl) (by kernel_rfl) (fun _ _ _ h => h) (Or.inl ⟨by rfl, fun w' h' => ?_⟩) s5 ?_
      · clear h'
        go_simp
      simp only [Act.put]
      refine wpAnyH_done (by kernel_rfl) (NoPanic.normal ?_) _
      try simp only [List.setIfInBounds_toArray, List.set_cons_zero, List.set_cons_succ]
      go_wp2_with fail
      go_ret
      exact ⟨rfl, BL0.out.trans (HB.out.bl.trans (s5.mono HB.out.bl.size) |>.mono BL0.out.size)⟩
theorem walk (a0 a1 : Int) (p : Option Addr) (len cap : Nat) (l : List Act12) (w : World) (w0 : (Lit.int .u32 a0).wf = true) (w1 : (Lit.int .u16 a1).wf = true) (w2 : IsActs12 w p len l) :
    Calls Try.prog 6 #[.int .u32 a0, .int .u16 a1, .slice p len cap] w fun e w' => e = .returned (.bool true) ∧ Below w.heap.size w w' := by
  have b0 := sq_u32 w0
  have b1 := wf_u16 w1
  cases hg : great12 l with
  | true => exact walk_out a0 a1 p len cap l w2 hg
  | false =>
    have hq : Int.tmod a1 300 = a1 % 300 := Int.tmod_eq_emod_of_nonneg b1.1
    obtain ⟨n, hn⟩ : ∃ n : Nat, (n : Int) = 1 + a1 % 300 := ⟨(1 + a1 % 300).toNat, by omega⟩
    exact walk_main a0 a1 n b0 hq b1 hn p len cap l w2 hg
set_option maxRecDepth 100000 in
theorem lifted (os : Os) (started : os.Started) (H : Type) (enc : TypeId × Value → H) :
    ReturnsInHanded {} Try.checked os 6 .any (Rows.sbufStreamSpec.pre6 enc Try.prog Try.f6 Rows.sbufStreamRow.domain false) (Rows.sbufStreamSpec.post enc Try.prog Try.f6 false true false false) := by
  refine returnsInHanded_of_change (C := Try.checked) own started (by kernel_rfl) Try.func6
    (ChangeSpec.witness6 (enc := enc) (C := Try.checked) false ⟨#[], #[.int .u32 0, .int .u16 0, .slice none 0 0], []⟩ 8 (by kernel_rfl) (by kernel_rfl) (by kernel_rfl) (by kernel_rfl)) ?_
  intro W base args ds gs before hval0 hW hcnd _
  have hval : ∀ (j : Nat) t v, Try.f6.params[j]? = some t → args[j]? = some v → Value.okWide Try.prog W .any base t v := hval0
  have hW' := hW
  obtain ⟨p, q, hA0, hV, rfl, hfz, hnd⟩ := hW
  have hA : DataW.TrodAll enc Try.prog W 0 (fun _ => true) true Try.f6.params.toList args.toList ds p := hA0
  rw [Try.params6] at hA hval
  obtain ⟨v0, vs0, d0, ds0, p0, q0, hargs, rfl, rfl, h0, r0⟩ := trodAll_cons hA
  obtain ⟨v1, vs1, d1, ds1, p1, q1, rfl, rfl, rfl, h1, r1⟩ := trodAll_cons r0
  obtain ⟨v2, vs2, d2, ds2, p2, q2, rfl, rfl, rfl, h2, r2⟩ := trodAll_cons r1
  obtain ⟨rfl, rfl, rfl⟩ := trodAll_nil r2
  obtain rfl : args = #[v0, v1, v2] := by cases args; simp_all
  obtain ⟨rfl, rfl⟩ := trodVars_none hV
  obtain ⟨a0, rfl, rfl, rfl, w0⟩ := open_int Try.underlying26 (hval 0 26 v0 rfl rfl) h0
  obtain ⟨a1, rfl, rfl, rfl, w1⟩ := open_int Try.underlying48 (hval 1 48 v1 rfl rfl) h1
  obtain ⟨a2, len2, cap2, rfl⟩ := okWide_slice Try.underlying32 (hval 2 32 v2 rfl rfl)
  have k2 := h2
  have lt2 : ∀ x ∈ p2, x.block < W.heap.size := by obtain ⟨m, hm⟩ := k2; exact DataW.trod_lt m _ _ _ hm
  obtain ⟨l2, w2⟩ : ∃ l, IsActs12 W a2 len2 l := by obtain ⟨fuel, hf⟩ := h2; exact open_acts13 hf
  clear hA0 hval0
  refine (walk a0 a1 a2 len2 cap2 l2 W w0 w1 w2).mono fun e W' ⟨he, bel⟩ => ?_
  subst he
  exact ⟨_, rfl, _, _, _, [], _, [], hW', trodAll_mk1 (shut_bool Try.underlying4 _), (trodAll_cons_mk (shut_int Try.underlying26 w0) (trodAll_cons_mk (shut_int Try.underlying48 w1) (trodAll_cons_mk (Below.trod laidOut (by kernel_rfl) (of_decide_eq_true (by kernel_rfl)) k2 bel lt2) trodAll_mk0))), rfl, bel.frame _, fun h => by cases h⟩

/-- THE STATEMENT. -/
theorem proved : Rows.SbufStreamSaid :=
  OpenClaim.holds_of_wide 6 Try.f6 rfl rfl rfl rfl rfl rfl rfl ⟨rfl, rfl, rfl, rfl, rfl⟩ rfl rfl rfl rfl rfl (by kernel_rfl) Try.func6 (by kernel_rfl)
    (of_decide_eq_true (by kernel_rfl)) (by unfold Func.isWrapper; first | (rw [if_pos (by decide +kernel)]; kernel_rfl) | (rw [if_neg (by decide +kernel)]; exact ⟨rfl, rfl⟩))
    (fun os started H enc _ => lifted os started H enc)
#print axioms proved

end Go.Proofs.Ytcnongkkmjahfaa.sbs
