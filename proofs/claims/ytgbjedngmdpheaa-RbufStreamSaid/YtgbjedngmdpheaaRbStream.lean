/-
  RbufStream: whatever pieces of one stream come: what is read is a beginning of it; with all of it put, it is the whole. Conditions: none beyond the kinds of the arguments.
-/
import Derived.Test.YtgbjedngmdpheaaRbI
import Derived.Test.YtgbjedngmdpheaaRbH
import Derived.ProofKit
import Derived.OpenShut
import Derived.ShutString
import Derived.ChangeOld
import Derived.Below
namespace Go.Proofs.Ytgbjedngmdpheaa.rbs
open Go.ChangeShapes Go.WideShapes Go.ChangeAt Go.RowKit
open Go.ChangeMaps (open_string shut_string)
set_option linter.unusedVariables false

theorem own : ownKnob Try.prog.godebug = none := by kernel_rfl
theorem laidOut : laidOutB Try.prog = true := by kernel_rfl
set_option maxRecDepth 100000 in
set_option maxHeartbeats 8000000 in
theorem walk_a (nx rm : Int) (D : ByteArray) (p : Option Addr) (len cap : Nat) (h : 3000 < D.size) (w : World) :
    Calls Try.prog 6 #[.int .u32 nx, .int .u16 rm, .string D, .slice p len cap] w fun e w' => e = .returned (.bool true) ∧ Below w.heap.size w w' := by
  have q : decide (3000 < (D.size : Int)) = true := decide_eq_true (by omega)
  clear h
  go_enter Try.func6, Try.ntmps6
  go_wp2_with fail
  refine (awakeR _).mono ?_
  rintro e w2 ⟨rfl, bl⟩
  go_wp2_with fail
  go_ret
  exact ⟨rfl, bl⟩
set_option maxRecDepth 100000 in
set_option maxHeartbeats 8000000 in
theorem walk_b (nx rm : Int) (D : ByteArray) (p : Option Addr) (len cap : Nat) (h : D.size ≤ 3000 ∧ 100 < len) (w : World) :
    Calls Try.prog 6 #[.int .u32 nx, .int .u16 rm, .string D, .slice p len cap] w fun e w' => e = .returned (.bool true) ∧ Below w.heap.size w w' := by
  have q : decide (3000 < (D.size : Int)) = false := decide_eq_false (by omega)
  have q2 : decide (100 < (len : Int)) = true := decide_eq_true (by omega)
  clear h
  go_enter Try.func6, Try.ntmps6
  go_wp2_with fail
  refine (awakeR _).mono ?_
  rintro e w2 ⟨rfl, bl⟩
  go_wp2_with fail
  go_ret
  exact ⟨rfl, bl⟩
theorem extract_list (S : ByteArray) (l : List UInt8) (h : S.data.toList = l) (a b : Nat) : (S.extract a b).data.toList = (l.take b).drop a := by
  rw [ByteArray.data_extract, Array.toList_extract, h, List.extract_eq_take_drop, List.drop_take]
theorem eq_of_lists {X Y : ByteArray} (h : X.data.toList = Y.data.toList) : (X.toList == Y.toList) = true := by
  obtain ⟨x⟩ := X
  obtain ⟨y⟩ := Y
  have : x = y := Array.ext' h
  subst this
  simp
theorem size_of {X : ByteArray} {l : List UInt8} (h : X.data.toList = l) : X.size = l.length := by rw [← h, Array.length_toList]; rfl
theorem list_add {X Y : ByteArray} {l m : List UInt8} (h : X.data.toList = l) (k : Y.data.toList = m) : (X ++ Y).data.toList = l ++ m := by
  rw [ByteArray.data_append, Array.toList_append, h, k]
/-- The numbers of a round. -/
theorem piece_nums (ca cb : Int) (L : Nat) (h1 : 0 ≤ ca ∧ ca < 65536) (h2 : 0 ≤ cb ∧ cb < 65536) (hL : L ≤ 3000) : ∃ a t : Nat, min ca (L : Int) = (a : Int) ∧ min ((a : Int) + cb) (L : Int) = (t : Int) ∧ a ≤ t ∧ t ≤ L :=
  ⟨(min ca (L : Int)).toNat, (min (((min ca (L : Int)).toNat : Int) + cb) (L : Int)).toNat, by omega, by omega, by omega, by omega⟩
theorem read_num (c : Int) (r : Nat) (h : 0 ≤ c) : ∃ K : Nat, (K : Int) = max 0 (min c r) ∧ K ≤ r := ⟨(max 0 (min c (r : Int))).toNat, by omega, by omega⟩
theorem mod_lt (a : Int) : 0 ≤ a % 4294967296 ∧ a % 4294967296 < 4294967296 := ⟨Int.emod_nonneg _ (by decide), Int.emod_lt_of_pos _ (by decide)⟩
set_option maxRecDepth 100000 in
set_option maxHeartbeats 8000000 in
theorem walk_main (nxt rm : Int) (D : ByteArray) (p : Option Addr) (len cap : Nat) (l : List Tri) (n : Nat) (q : Int) (hn : 0 ≤ nxt ∧ nxt < 4294967296) (hq : Int.tmod rm 300 = q) (hq2 : 0 ≤ q ∧ q < 300) (hnq : (n : Int) = 1 + q) (S : List UInt8) (L : Nat) (hS : D.data.toList = S) (hL : D.size = L) (hL3 : L ≤ 3000) (hlen : len ≤ 100) (w : World) (hl : IsTris w p len l) :
    Calls Try.prog 6 #[.int .u32 nxt, .int .u16 rm, .string D, .slice p len cap] w fun e w' => e = .returned (.bool true) ∧ Below w.heap.size w w' := by
  have hSL : S.length = L := by rw [← size_of hS, hL]
  have x1 : IntKind.u16.wrap q = q := by rw [IntKind.wrap_u16]; omega
  have x2 : IntKind.i64.wrap q = q := IntWalk.i64_in _ (by omega)
  have x3 : IntKind.i64.wrap (1 + q) = (n : Int) := by rw [IntWalk.i64_in _ (by omega)]; omega
  have HN3 : Hid (1 ≤ n ∧ n ≤ 300) := Lib.hid (by omega)
  have HN := Lib.hid hn
  have HSL := Lib.hid hSL
  have HS := Lib.hid hS
  have q1 : decide (3000 < (L : Int)) = false := decide_eq_false (by omega)
  have q2 : decide (100 < (len : Int)) = false := decide_eq_false (by omega)
  have HT := Lib.hid hl
  clear hnq hq2 hn hSL hS hl
  go_enter Try.func6, Try.ntmps6
  go_wp2_with fail
  refine (awakeR _).mono ?_
  rintro e w2 ⟨rfl, bl⟩
  have BL0 := Lib.hid bl
  clear bl
  go_wp2_with fail
  refine (sNew _ nxt n HN3.out.1 (by have := HN3.out; omega) HN.out.1 HN.out.2).mono ?_
  rintro e w3 ⟨g, gb, rfl, h⟩
  have H0 := Lib.hid h
  clear h
  go_upto_region 10 with fail
  clear q1 q2
  go_loopw [11, 12] (fun got i wr => ∃ (k u : Nat) (nx : Int) (R : List UInt8) (V : List (Option UInt8)) (G : ByteArray), k ≤ len ∧ i = .int .i64 k ∧ got = .string G ∧ Hid (G.data.toList = S.take u) ∧ Hid (RbS w2 wr g gb n nx R V) ∧ Hid (Stm S nxt n u nx R V)) (fun _ i _ => len - (intOf i).toNat)
  case atStart => exact ⟨0, 0, nxt, [], _, ⟨#[]⟩, Nat.zero_le _, rfl, rfl, Lib.hid rfl, H0, Lib.hid (Stm.start S nxt n HN.out)⟩
  case round =>
    clear H0
    obtain ⟨k, u, nx, R, V, G, hk, rfl, rfl, HG, HB, HM⟩ := hrel
    have BW : Hid (Below w.heap.size w wr) := Lib.hid (BL0.out.trans (HB.out.bl.mono BL0.out.size))
    by_cases hlt : k < len
    · obtain ⟨b, oo, ⟨ca, cb, cc⟩, hp, -, hfit, tw⟩ := HT.out.at_ k hlt
      have TW := Lib.hid tw
      clear tw
      subst hp
      obtain ⟨⟨f1, f2⟩, ⟨f3, f4⟩, ⟨f5, f6⟩⟩ := hfit
      obtain ⟨c0, c1, c2⟩ := TriAt.kept TW.out (BW.out.block b (TriAt.block TW.out))
      dsimp only at c0 c1 c2 f1 f2 f3 f4 f5 f6
      clear c2
      obtain ⟨a, t, m1, m2, hat, htL⟩ := piece_nums ca cb L ⟨f1, f2⟩ ⟨f3, f4⟩ hL3
      have d1 : decide ((k : Int) < (len : Int)) = true := decide_eq_true (by omega)
      have d2 : (0 : Int) ≤ (k : Int) := by omega
      have d3 : (k : Int) < (len : Int) := by omega
      have e1 : IntKind.i64.wrap ca = ca := IntWalk.i64_in _ (by omega)
      have e2 : IntKind.i64.wrap cb = cb := IntWalk.i64_in _ (by omega)
      have e3 : IntKind.i64.wrap cc = cc := IntWalk.i64_in _ (by omega)
      have e4 : IntKind.i64.wrap ((a : Int) + cb) = (a : Int) + cb := IntWalk.i64_in _ (by omega)
      have e5 : IntKind.u32.wrap (a : Int) = (a : Int) := by rw [IntKind.wrap_u32]; omega
      obtain ⟨s, hs⟩ : ∃ s, (nxt + (a : Int)) % 4294967296 = s := ⟨_, rfl⟩
      have e6 : IntKind.u32.wrap (nxt + a) = s := by rw [IntKind.wrap_u32, hs]
      have hs2 : 0 ≤ s ∧ s < 4294967296 := by rw [← hs]; exact mod_lt _
      have e7 : (a : Int) ≤ (t : Int) := by omega
      have e8 : (t : Int) ≤ (L : Int) := by omega
      have e9 : (0 : Int) ≤ (a : Int) := by omega
      have e0 : IntKind.i64.wrap ((k : Int) + 1) = (k : Int) + 1 := IntWalk.i64_in _ (by omega)
      -- the window behind the piece
      obtain ⟨d, hd⟩ : ∃ d, d = (S.drop a).take (t - a) := ⟨_, rfl⟩
      have TD : Hid ((D.extract a t).data.toList.take 65536 = d) := Lib.hid (by
        rw [extract_list D S HS.out, hd, ← List.drop_take, List.take_of_length_le]
        rw [List.length_drop, List.length_take]; omega)
      obtain ⟨V1, hV1⟩ : ∃ V1, V1 = holdW nx s d V := ⟨_, rfl⟩
      have hst := HM.out.put HN.out (by rw [HSL.out]; exact hL3) HN3.out.2 (a := a) (k := t - a) (by rw [HSL.out]; omega) V1 (by rw [hV1, hd, hs])
      have M1 := Lib.hid (HM.out.settled hst.1 hst.2)
      have HV1 := Lib.hid hV1
      have HS2 := Lib.hid hs2
      clear hst hV1 hd hs hs2
      obtain ⟨r1, hr1⟩ : ∃ r, r = runW V1 := ⟨_, rfl⟩
      obtain ⟨nx1, hx1⟩ : ∃ x, x = (nx + (r1 : Int)) % 4294967296 := ⟨_, rfl⟩
      obtain ⟨R1, hR1⟩ : ∃ X, X = R ++ gotW V1 := ⟨_, rfl⟩
      obtain ⟨V2, hV2⟩ : ∃ X, X = V1.drop r1 := ⟨_, rfl⟩
      rw [← hr1, ← hx1, ← hR1, ← hV2] at M1
      have HQ := Lib.hid (And.intro hr1 (And.intro hx1 (And.intro hR1 hV2)))
      clear hr1 hx1 hR1 hV2
      obtain ⟨K, hK, hKr⟩ := read_num cc R1.length f5
      have M2 := Lib.hid (M1.out.read hKr)
      have GG := Lib.hid (M1.out.got hKr)
      obtain ⟨R2, hR2⟩ : ∃ X, X = R1.drop K := ⟨_, rfl⟩
      obtain ⟨V3, hV3⟩ : ∃ X, X = V2 ++ List.replicate K none := ⟨_, rfl⟩
      rw [← hR2, ← hV3] at M2
      obtain ⟨X, hX⟩ : ∃ X : ByteArray, X = ⟨(R1.take K).toArray⟩ := ⟨_, rfl⟩
      have HXL : Hid (X.data.toList = R1.take K) := Lib.hid (by rw [hX])
      have HK := Lib.hid (And.intro hK (And.intro hR2 (And.intro hV3 hX)))
      have le2 := M2.out.le
      have ln2 := M2.out.ln
      have nx2 := M2.out.nx
      have hh2 := heldW_le V3
      have hu : u ≤ S.length := by have := HM.out.le; omega
      have hGs : G.size = u := by rw [size_of HG.out, List.length_take]; omega
      have hXs : X.size = K := by rw [size_of HXL.out, List.length_take]; omega
      have e10 : G.size + X.size ≤ 9223372036854775807 := by rw [HSL.out] at hu; rw [hGs, hXs]; have := HN3.out; omega
      have HGX : Hid ((G ++ X).data.toList = S.take (u + K)) := Lib.hid (by rw [list_add HG.out HXL.out, GG.out])
      clear hK hR2 hV3 hX hGs hXs
      have hg' : u + K ≤ L := by rw [HSL.out] at le2; omega
      obtain ⟨v, hv⟩ : ∃ v, v = u + K := ⟨_, rfl⟩
      rw [← hv] at hg' le2 M2 HGX nx2
      obtain ⟨r, hr⟩ : ∃ r, r = R2.length := ⟨_, rfl⟩
      rw [← hr] at le2 ln2 nx2
      rw [HSL.out] at le2
      obtain ⟨hh, hhh⟩ : ∃ y, y = heldW V3 := ⟨_, rfl⟩
      rw [← hhh] at hh2
      have e11 : IntKind.i64.wrap ((v : Int) + r) = (v : Int) + r := IntWalk.i64_in _ (by omega)
      have e12 : decide ((L : Int) < (v : Int) + r) = false := decide_eq_false (by omega)
      have e13 : IntKind.i64.wrap ((r : Int) + hh) = (r : Int) + hh := IntWalk.i64_in _ (by have := HN3.out; omega)
      have e14 : decide ((n : Int) < (r : Int) + hh) = false := decide_eq_false (by omega)
      have e15 : IntKind.u32.wrap ((v : Int) + r) = (v : Int) + r := by rw [IntKind.wrap_u32]; omega
      have e16 : IntKind.u32.wrap (nxt + ((v : Int) + r)) = nx1 := by rw [IntKind.wrap_u32, nx2, Int.natCast_add]
      have HRH := Lib.hid (And.intro hr hhh)
      clear hv hr hhh le2 ln2 nx2 hh2 hu f1 f2 f3 f4 f5 f6
      go_wp2_with fail
      refine (sPut HB.out s HS2.out (D.extract a t) d TD.out V1 HV1.out r1 HQ.out.1.symm nx1 HQ.out.2.1 R1 HQ.out.2.2.1 V2 HQ.out.2.2.2).mono ?_
      rintro e w5 ⟨rfl, h⟩
      have H5 := Lib.hid h
      clear h
      obtain ⟨-, -, c2⟩ := TriAt.kept TW.out ((BL0.out.trans (H5.out.bl.mono BL0.out.size)).block b (TriAt.block TW.out))
      dsimp only at c2
      clear c0 c1
      go_wp2_with fail
      refine (sRead H5.out cc K HK.out.1 X HK.out.2.2.2 R2 HK.out.2.1 V3 HK.out.2.2.1).mono ?_
      rintro e w6 ⟨rfl, h⟩
      have H6 := Lib.hid h
      clear h H5 c2
      go_upto_region 16 with fail
      generalize G ++ X = G1 at HGX ⊢
      have hG1 : G1.size = v := by rw [size_of HGX.out, List.length_take, HSL.out]; omega
      have EQ := eq_of_lists (X := G1) (Y := D.extract 0 v) (by rw [HGX.out, extract_list D S HS.out, List.drop_zero])
      have EQ2 : (G1.toList != (D.extract 0 v).toList) = false := by rw [bne, EQ]; rfl
      have v1 : (v : Int) ≤ (L : Int) := by omega
      have v2 : (0 : Int) ≤ (v : Int) := by omega
      clear e10
      go_wp2_with fail
      refine (sReady H6.out r (by rw [HRH.out.1])).mono ?_
      rintro e w7 ⟨rfl, rfl⟩
      go_wp2_with fail
      refine (sReady H6.out r (by rw [HRH.out.1])).mono ?_
      rintro e w8 ⟨rfl, rfl⟩
      go_wp2_with fail
      refine (sHeld H6.out hh (by rw [HRH.out.2])).mono ?_
      rintro e w9 ⟨rfl, h⟩
      have H7 := Lib.hid h
      clear h H6
      go_wp2_with fail
      refine (sNext H7.out nx1 rfl).mono ?_
      rintro e w10 ⟨rfl, rfl⟩
      go_wp2_with fail
      refine (sReady H7.out r (by rw [HRH.out.1])).mono ?_
      rintro e w11 ⟨rfl, rfl⟩
      go_wp2_with fail
      go_roundw
      case rel => exact ⟨k + 1, v, nx1, R2, V3, G1, by omega, by go_num, rfl, HGX, H7, M2⟩
      case measure => simp [intOf]; omega
    · have hke : k = len := by omega
      have d1 : decide ((k : Int) < (len : Int)) = false := decide_eq_false (by omega)
      clear hlt BW
      go_upto_region 19 with fail
      have M0 := HM
      clear d1 hke
      have HN3' := HN3.out
      go_loopw [11, 15] (fun got i wr => ∃ (k u : Nat) (nx : Int) (R : List UInt8) (V : List (Option UInt8)) (G : ByteArray), k ≤ L + 1 ∧ i = .int .i64 k ∧ got = .string G ∧ Hid (G.data.toList = S.take u) ∧ Hid (RbS w2 wr g gb n nx R V) ∧ Hid (Stm S nxt n u nx R V) ∧ Hid ((1 ≤ k → R = []) ∧ (k ≤ u ∨ L ≤ u))) (fun _ i _ => L + 1 - (intOf i).toNat)
      case atStart => exact ⟨0, u, nx, R, V, G, by omega, rfl, rfl, HG, HB, HM, Lib.hid ⟨fun h => by omega, .inl (Nat.zero_le _)⟩⟩
      case round =>
        clear HG HB HM M0
        obtain ⟨j, u, nx, R, V, G, hj, rfl, rfl, HG, HB, HM, HP⟩ := hrel
        by_cases hlt : j ≤ L
        · have d1 : decide ((j : Int) ≤ (L : Int)) = true := decide_eq_true (by omega)
          have e0 : IntKind.i64.wrap ((j : Int) + 1) = (j : Int) + 1 := IntWalk.i64_in _ (by omega)
          have le1 := HM.out.le
          have ln1 := HM.out.ln
          rw [HSL.out] at le1
          have hGs : G.size = u := by rw [size_of HG.out, List.length_take, HSL.out]; omega
          obtain ⟨r, hr⟩ : ∃ r, r = R.length := ⟨_, rfl⟩
          rw [← hr] at le1 ln1
          have e1 : IntKind.i64.wrap ((u : Int) + r) = (u : Int) + r := IntWalk.i64_in _ (by omega)
          have e2 : IntKind.u32.wrap ((u : Int) + r) = (u : Int) + r := by rw [IntKind.wrap_u32]; omega
          obtain ⟨s, hs⟩ : ∃ s, (nxt + ((u + r : Nat) : Int)) % 4294967296 = s := ⟨_, rfl⟩
          have e3 : IntKind.u32.wrap (nxt + ((u : Int) + r)) = s := by rw [IntKind.wrap_u32, ← hs, Int.natCast_add]
          have hs2 := mod_lt (nxt + ((u + r : Nat) : Int))
          rw [hs] at hs2
          have e4 : (0 : Int) ≤ (u : Int) + r := by omega
          have e5 : (u : Int) + r ≤ (L : Int) := by omega
          have TD : Hid ((D.extract (u + r) L).data.toList.take 65536 = S.drop (u + r)) := Lib.hid (by
            rw [extract_list D S HS.out, List.take_of_length_le (l := S) (by rw [HSL.out]; exact Nat.le_refl _), List.take_of_length_le]
            rw [List.length_drop, HSL.out]; omega)
          obtain ⟨V1, hV1⟩ : ∃ V1, V1 = holdW nx s (S.drop (u + r)) V := ⟨_, rfl⟩
          have hst := HM.out.put HN.out (by rw [HSL.out]; exact hL3) HN3.out.2 (a := u + r) (k := S.length) (by rw [HSL.out]; omega) V1 (by rw [hV1, hs, List.take_of_length_le (by rw [List.length_drop]; omega)])
          have M1 := Lib.hid (HM.out.settled hst.1 hst.2)
          have hmo : 0 < V.length → u + r < L → 1 ≤ runW V1 := fun h1 h2 => HM.out.more HN.out h1 (by rw [HSL.out, ← hr]; exact h2) V1 (by rw [hV1, ← hr, hs])
          have HV1 := Lib.hid hV1
          have HS2 := Lib.hid hs2
          clear hst hV1 hs hs2
          obtain ⟨r1, hr1⟩ : ∃ r, r = runW V1 := ⟨_, rfl⟩
          obtain ⟨nx1, hx1⟩ : ∃ x, x = (nx + (r1 : Int)) % 4294967296 := ⟨_, rfl⟩
          obtain ⟨R1, hR1⟩ : ∃ X, X = R ++ gotW V1 := ⟨_, rfl⟩
          obtain ⟨V2, hV2⟩ : ∃ X, X = V1.drop r1 := ⟨_, rfl⟩
          have hR1l : R1.length = r + r1 := by rw [hR1, List.length_append, gotW_len, ← hr, ← hr1]
          rw [← hr1] at hmo
          rw [← hr1, ← hx1, ← hR1, ← hV2] at M1
          have HQ := Lib.hid (And.intro hr1 (And.intro hx1 (And.intro hR1 hV2)))
          clear hr1 hx1 hR1 hV2
          have M2 := Lib.hid (M1.out.read (Nat.le_refl R1.length))
          have GG := Lib.hid (M1.out.got (Nat.le_refl R1.length))
          obtain ⟨K, hK⟩ : ∃ K, K = R1.length := ⟨_, rfl⟩
          obtain ⟨R2, hR2⟩ : ∃ X, X = R1.drop R1.length := ⟨_, rfl⟩
          obtain ⟨V3, hV3⟩ : ∃ X, X = V2 ++ List.replicate R1.length none := ⟨_, rfl⟩
          rw [← hR2, ← hV3] at M2
          have hR20 : R2 = [] := by rw [hR2, List.drop_length]
          have le2 := M2.out.le
          rw [HSL.out] at le2
          have hvn : V.length = n - r := by omega
          have HP2 : Hid ((1 ≤ j + 1 → R2 = []) ∧ (j + 1 ≤ u + K ∨ L ≤ u + K)) := Lib.hid ⟨fun _ => hR20, by
            have := HP.out.2
            have := HN3.out
            by_cases h2 : u + r < L
            · by_cases h3 : 0 < V.length
              · have := hmo h3 h2
                omega
              · omega
            · omega⟩
          obtain ⟨X, hX⟩ : ∃ X : ByteArray, X = ⟨(R1.take R1.length).toArray⟩ := ⟨_, rfl⟩
          have HXL : Hid (X.data.toList = R1.take R1.length) := Lib.hid (by rw [hX])
          have hXs : X.size = K := by rw [size_of HXL.out, List.length_take]; omega
          have HGX : Hid ((G ++ X).data.toList = S.take (u + K)) := Lib.hid (by rw [list_add HG.out HXL.out, GG.out, hK])
          have e10 : G.size + X.size ≤ 9223372036854775807 := by rw [hGs, hXs]; omega
          rw [← hK] at M2 hR2 hV3
          have hK3 : (K : Int) = max 0 (min 3000 (R1.length : Int)) := by have := HN3.out; have := M1.out.ln; rw [Int.min_eq_right (by omega), Int.max_eq_right (by omega)]; omega
          have HK := Lib.hid (And.intro hK3 (And.intro hR2 (And.intro hV3 (show X = ⟨(R1.take K).toArray⟩ by rw [hX, hK]))))
          have HR := Lib.hid hr
          have HGS := Lib.hid hGs
          clear hK3 hR2 hV3 hX hXs hK hR20 hvn hR1l hmo le2 le1 ln1 hr
          go_wp2_with fail
          refine (sReady HB.out r (by rw [HR.out])).mono ?_
          rintro e w5 ⟨rfl, rfl⟩
          go_wp2_with fail
          refine (sPut HB.out s HS2.out (D.extract (u + r) L) (S.drop (u + r)) TD.out V1 HV1.out r1 HQ.out.1.symm nx1 HQ.out.2.1 R1 HQ.out.2.2.1 V2 HQ.out.2.2.2).mono ?_
          rintro e w6 ⟨rfl, h⟩
          have H5 := Lib.hid h
          clear h
          go_wp2_with fail
          refine (sRead H5.out 3000 K HK.out.1 X HK.out.2.2.2 R2 HK.out.2.1 V3 HK.out.2.2.1).mono ?_
          rintro e w7 ⟨rfl, h⟩
          have H6 := Lib.hid h
          clear h H5
          go_wp2_with fail
          go_roundw
          case rel => exact ⟨j + 1, u + K, nx1, R2, V3, G ++ X, by omega, by go_num, rfl, HGX, H6, M2, HP2⟩
          case measure => simp [intOf]; omega
        · have d1 : decide ((j : Int) ≤ (L : Int)) = false := decide_eq_false (by omega)
          have hR : R = [] := HP.out.1 (by omega)
          subst hR
          have hu : u = L := by
            have := HM.out.le
            rw [HSL.out] at this
            rcases HP.out.2 with e | e
            · simp at this; omega
            · simp at this; omega
          have hh : heldW V = 0 := by
            refine Stm.all (S := S) (nx0 := nxt) (n := n) (nx := nx) ?_
            rw [HSL.out, ← hu]
            exact HM.out
          have EQ : (G.toList == D.toList) = true := eq_of_lists (by rw [HG.out, HS.out, List.take_of_length_le]; rw [HSL.out, hu]; exact Nat.le_refl _)
          have HHH := Lib.hid hh
          clear hu hh
          go_wp2_with fail
          refine (sReady HB.out 0 rfl).mono ?_
          rintro e w5 ⟨rfl, rfl⟩
          go_wp2_with fail
          refine (sHeld HB.out 0 (by rw [HHH.out]; rfl)).mono ?_
          rintro e w6 ⟨rfl, h⟩
          have H6 := Lib.hid h
          clear h
          go_wp2_with fail
          go_ret
          exact ⟨rfl, BL0.out.trans (H6.out.bl.mono BL0.out.size)⟩
theorem walk (a0 a1 : Int) (a2 : ByteArray) (p : Option Addr) (len cap : Nat) (l : List Tri) (w : World) (w0 : (Lit.int .u32 a0).wf = true) (w1 : (Lit.int .u16 a1).wf = true) (w2 : a2.size ≤ maxLen) (w3 : IsTris w p len l) :
    Calls Try.prog 6 #[.int .u32 a0, .int .u16 a1, .string a2, .slice p len cap] w fun e w' => e = .returned (.bool true) ∧ Below w.heap.size w w' := by
  have b0 := sq_u32 w0
  have b1 := wf_u16 w1
  by_cases h2 : 3000 < a2.size
  · exact walk_a a0 a1 a2 p len cap h2 w
  by_cases h3 : 100 < len
  · exact walk_b a0 a1 a2 p len cap ⟨by omega, h3⟩ w
  have hq : Int.tmod a1 300 = a1 % 300 := Int.tmod_eq_emod_of_nonneg b1.1
  obtain ⟨n, hn⟩ : ∃ n : Nat, (n : Int) = 1 + a1 % 300 := ⟨(1 + a1 % 300).toNat, by omega⟩
  exact walk_main a0 a1 a2 p len cap l n _ b0 hq (by omega) hn _ _ rfl rfl (by omega) (by omega) w w3
set_option maxRecDepth 100000 in
theorem lifted (os : Os) (started : os.Started) (H : Type) (enc : TypeId × Value → H) :
    ReturnsInHanded {} Try.checked os 6 .any (Rows.rbufStreamSpec.pre6 enc Try.prog Try.f6 Rows.rbufStreamRow.domain false) (Rows.rbufStreamSpec.post enc Try.prog Try.f6 false true false false) := by
  refine returnsInHanded_of_change (C := Try.checked) own started (by kernel_rfl) Try.func6
    (ChangeSpec.witness6 (enc := enc) (C := Try.checked) false ⟨#[], #[.int .u32 0, .int .u16 0, .string ByteArray.empty, .slice none 0 0], []⟩ 8 (by kernel_rfl) (by kernel_rfl) (by kernel_rfl) (by kernel_rfl)) ?_
  intro W base args ds gs before hval0 hW hcnd _
  have hval : ∀ (j : Nat) t v, Try.f6.params[j]? = some t → args[j]? = some v → Value.okWide Try.prog W .any base t v := hval0
  have hW' := hW
  obtain ⟨p, q, hA0, hV, rfl, hfz, hnd⟩ := hW
  have hA : DataW.TrodAll enc Try.prog W 0 (fun _ => true) true Try.f6.params.toList args.toList ds p := hA0
  rw [Try.params6] at hA hval
  obtain ⟨v0, vs0, d0, ds0, p0, q0, hargs, rfl, rfl, h0, r0⟩ := trodAll_cons hA
  obtain ⟨v1, vs1, d1, ds1, p1, q1, rfl, rfl, rfl, h1, r1⟩ := trodAll_cons r0
  obtain ⟨v2, vs2, d2, ds2, p2, q2, rfl, rfl, rfl, h2, r2⟩ := trodAll_cons r1
  obtain ⟨v3, vs3, d3, ds3, p3, q3, rfl, rfl, rfl, h3, r3⟩ := trodAll_cons r2
  obtain ⟨rfl, rfl, rfl⟩ := trodAll_nil r3
  obtain rfl : args = #[v0, v1, v2, v3] := by cases args; simp_all
  obtain ⟨rfl, rfl⟩ := trodVars_none hV
  obtain ⟨a0, rfl, rfl, rfl, w0⟩ := open_int Try.underlying26 (hval 0 26 v0 rfl rfl) h0
  obtain ⟨a1, rfl, rfl, rfl, w1⟩ := open_int Try.underlying48 (hval 1 48 v1 rfl rfl) h1
  obtain ⟨a2, rfl, rfl, rfl, w2⟩ := open_string Try.underlying9 (hval 2 9 v2 rfl rfl) h2
  obtain ⟨a3, len3, cap3, rfl⟩ := okWide_slice Try.underlying49 (hval 3 49 v3 rfl rfl)
  have k3 := h3
  have lt3 : ∀ x ∈ p3, x.block < W.heap.size := by obtain ⟨m, hm⟩ := k3; exact DataW.trod_lt m _ _ _ hm
  obtain ⟨l3, w3⟩ : ∃ l, IsTris W a3 len3 l := by obtain ⟨fuel, hf⟩ := h3; exact open_tris hf
  clear hA0 hval0
  refine (walk a0 a1 a2 a3 len3 cap3 l3 W w0 w1 w2 w3).mono fun e W' ⟨he, bel⟩ => ?_
  subst he
  exact ⟨_, rfl, _, _, _, [], _, [], hW', trodAll_mk1 (shut_bool Try.underlying4 _), (trodAll_cons_mk (shut_int Try.underlying26 w0) (trodAll_cons_mk (shut_int Try.underlying48 w1) (trodAll_cons_mk (shut_string Try.underlying9 w2) (trodAll_cons_mk (Below.trod laidOut (by kernel_rfl) (of_decide_eq_true (by kernel_rfl)) k3 bel lt3) trodAll_mk0)))), rfl, bel.frame _, fun h => by cases h⟩

/-- THE STATEMENT. -/
theorem proved : Rows.RbufStreamSaid :=
  OpenClaim.holds_of_wide 6 Try.f6 rfl rfl rfl rfl rfl rfl rfl ⟨rfl, rfl, rfl, rfl, rfl⟩ rfl rfl rfl rfl rfl (by kernel_rfl) Try.func6 (by kernel_rfl)
    (of_decide_eq_true (by kernel_rfl)) (by unfold Func.isWrapper; first | (rw [if_pos (by decide +kernel)]; kernel_rfl) | (rw [if_neg (by decide +kernel)]; exact ⟨rfl, rfl⟩))
    (fun os started H enc _ => lifted os started H enc)
#print axioms proved

end Go.Proofs.Ytgbjedngmdpheaa.rbs
