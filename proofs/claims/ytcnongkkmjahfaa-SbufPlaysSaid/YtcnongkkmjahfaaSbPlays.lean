/-
  SbufPlays: whatever is written, acknowledged and asked for: what is told, and how it stands, is the document's. Conditions: none beyond the kinds of the arguments.
-/
import Derived.Test.YtcnongkkmjahfaaSbK
import Derived.ProofKit
import Derived.OpenShut
import Derived.ShutString
import Derived.ChangeOld
import Derived.Below
namespace Go.Proofs.Ytcnongkkmjahfaa.sbq
open Go.ChangeShapes Go.WideShapes Go.ChangeAt Go.RowKit
open Go.ChangeMaps (open_string shut_string)
set_option linter.unusedVariables false

theorem own : ownKnob Try.prog.godebug = none := by kernel_rfl
theorem laidOut : laidOutB Try.prog = true := by kernel_rfl
theorem of_slice {w : World} {O : Nat → Prop} {p : Option Addr} {c : Nat} {u : Int} {L : List UInt8} (h : ByRow w (.slice p L.length c) (hbs u L)) (ho : ∀ k, (Value.slice p L.length c).ownBlock = some k → ¬ O k) : BySl w O p c (hbs u L) := by
  obtain ⟨p', c', e, k⟩ := BySl.of_row h ho
  injection e with e1 _ e2
  subst e1 e2
  exact k
set_option maxRecDepth 100000 in
set_option maxHeartbeats 8000000 in
theorem walk_out (nx rm : Int) (p : Option Addr) (len cap : Nat) (l : List Act12) {w : World} (hl : IsActs12 w p len l) (h : great12 l = true ∨ (great12 l = false ∧ 300 < rm ∧ rm ≤ 2048)) :
    Calls Try.prog 4 #[.int .u32 nx, .int .i64 rm, .slice p len cap] w fun e w' => e = .returned (.bool true) ∧ Below w.heap.size w w' := by
  rcases h with h | ⟨h, h1, h2⟩
  · have HG := Lib.hid h
    clear h
    go_enter Try.func4, Try.ntmps4
    go_wp2_with fail
    refine (awakeB _).mono ?_
    rintro e w2 ⟨rfl, bl⟩
    go_wp2_with fail
    refine (Great13_any w2 p len cap l (hl.below bl)).mono ?_
    rintro e w3 ⟨rfl, rfl⟩
    rw [HG.out]
    go_wp2_with fail
    go_ret
    exact ⟨rfl, bl⟩
  · have HG := Lib.hid h
    have d1 : decide ((300 : Int) < rm) = true := decide_eq_true h1
    have d2 : decide (rm ≤ (2048 : Int)) = true := decide_eq_true h2
    clear h h1 h2
    go_enter Try.func4, Try.ntmps4
    go_wp2_with fail
    refine (awakeB _).mono ?_
    rintro e w2 ⟨rfl, bl⟩
    go_wp2_with fail
    refine (Great13_any w2 p len cap l (hl.below bl)).mono ?_
    rintro e w3 ⟨rfl, rfl⟩
    rw [HG.out]
    go_wp2_with fail
    go_ret
    exact ⟨rfl, bl⟩
set_option maxRecDepth 100000 in
set_option maxHeartbeats 8000000 in
theorem walk_bad (nx rm : Int) (p : Option Addr) (len cap : Nat) (l : List Act12) {w : World} (hl : IsActs12 w p len l) (h : great12 l = false) (hr : rm < 1 ∨ 2048 < rm) :
    Calls Try.prog 4 #[.int .u32 nx, .int .i64 rm, .slice p len cap] w fun e w' => e = .returned (.bool true) ∧ Below w.heap.size w w' := by
  have HG := Lib.hid h
  clear h
  rcases hr with hr | hr
  · have d1 : decide ((300 : Int) < rm) = false := decide_eq_false (by omega)
    have d2 : decide (rm < (1 : Int)) = true := decide_eq_true hr
    go_enter Try.func4, Try.ntmps4
    go_wp2_with fail
    refine (awakeB _).mono ?_
    rintro e w2 ⟨rfl, bl⟩
    go_wp2_with fail
    refine (Great13_any w2 p len cap l (hl.below bl)).mono ?_
    rintro e w3 ⟨rfl, rfl⟩
    rw [HG.out]
    go_wp2_with fail
    refine (snew_bad _ nx rm (by omega)).mono ?_
    rintro e w3 ⟨rfl, rfl⟩
    go_wp2_with fail
    go_ret
    exact ⟨rfl, bl⟩
  · have d1 : decide ((300 : Int) < rm) = true := decide_eq_true (by omega)
    have d2 : decide (rm ≤ (2048 : Int)) = false := decide_eq_false (by omega)
    have d3 : decide (rm < (1 : Int)) = false := decide_eq_false (by omega)
    have d4 : decide ((2048 : Int) < rm) = true := decide_eq_true hr
    go_enter Try.func4, Try.ntmps4
    go_wp2_with fail
    refine (awakeB _).mono ?_
    rintro e w2 ⟨rfl, bl⟩
    go_wp2_with fail
    refine (Great13_any w2 p len cap l (hl.below bl)).mono ?_
    rintro e w3 ⟨rfl, rfl⟩
    rw [HG.out]
    go_wp2_with fail
    refine (snew_bad _ nx rm (by omega)).mono ?_
    rintro e w3 ⟨rfl, rfl⟩
    go_wp2_with fail
    go_ret
    exact ⟨rfl, bl⟩
set_option maxRecDepth 100000 in
set_option maxHeartbeats 8000000 in
theorem walk_main (u0 : Int) (n : Nat) (hx : 0 ≤ u0 ∧ u0 < 4294967296) (h1 : 1 ≤ n) (h2 : n ≤ 300) (p : Option Addr) (len cap : Nat) (l : List Act12) {w : World} (hl : IsActs12 w p len l) (h : great12 l = false) :
    Calls Try.prog 4 #[.int .u32 u0, .int .i64 (n : Int), .slice p len cap] w fun e w' => e = .returned (.bool true) ∧ Below w.heap.size w w' := by
  have HG := Lib.hid h
  have HSM := Lib.hid (great12_no h).2
  have hlen : len ≤ 100 := by have := (great12_no h).1; rw [hl.1] at this; exact this
  have HT := Lib.hid hl
  have HX := Lib.hid hx
  have HN1 := Lib.hid h1
  have HN2 := Lib.hid h2
  have d1 : decide ((300 : Int) < (n : Int)) = false := decide_eq_false (by omega)
  have d3 : decide ((n : Int) < (1 : Int)) = false := decide_eq_false (by omega)
  have d4 : decide ((2048 : Int) < (n : Int)) = false := decide_eq_false (by omega)
  clear h hl hx h1 h2
  go_enter Try.func4, Try.ntmps4
  go_wp2_with fail
  refine (awakeB _).mono ?_
  rintro e w2 ⟨rfl, bl⟩
  have BL0 := Lib.hid bl
  go_wp2_with fail
  refine (Great13_any w2 p len cap l (HT.out.below bl)).mono ?_
  rintro e w3 ⟨rfl, rfl⟩
  rw [HG.out]
  clear bl
  go_wp2_with fail
  refine (tNew w2 u0 n HN1.out (by have := HN2.out; omega) HX.out.1 HX.out.2).mono ?_
  rintro e w3 ⟨g, gb, rfl, h⟩
  have H0 := Lib.hid h
  clear h
  have hP : PQ w2 (w3.alloc (.cells #[.int .i64 (n : Int), .int .u32 u0, .slice none 0 0] 36)) g gb n w3.heap.size u0 u0 [] none 0 :=
    ⟨H0.out.grow ((Below.refl _ _).alloc (Nat.le_refl _) _), heap_alloc_new w3 _, BySl.nil _ _, H0.out.bl.size, ⟨by have := H0.out.sb.lt; omega, by have := H0.out.sb.ltb; omega⟩, by have := HX.out; simp; omega⟩
  have HP := Lib.hid hP
  clear hP
  go_upto_region 12 with fail
  generalize w3.alloc _ = w4 at HP ⊢
  generalize w3.heap.size = x at HP ⊢
  clear d1 d3 d4
  go_loopw [10] (fun i wr => ∃ (k : Nat) (u e : Int) (L : List UInt8) (pp : Option Addr) (c : Nat), k ≤ len ∧ i = .int .i64 k ∧ Hid (PQ w2 wr g gb n x u e L pp c)) (fun i _ => len - (intOf i).toNat)
  case atStart => exact ⟨0, u0, u0, [], none, 0, Nat.zero_le _, rfl, HP⟩
  case round =>
    clear HP H0
    obtain ⟨k, u, e, L, pp, c, hk, rfl, HP⟩ := hrel
    by_cases hlt : k < len
    · have BW : Hid (Below w.heap.size w wr) := Lib.hid (BL0.out.trans (HP.out.sb.bl.mono BL0.out.size))
      obtain ⟨b, oo, ⟨cd, ca, cr, cn, cs⟩, hp, hck, hfit, tw⟩ := HT.out.at_ k hlt
      have TW := Lib.hid (act_rangeB (ActAt.kept tw (BW.out.block b (ActAt.block tw))))
      obtain ⟨-, f2, f3, -⟩ := hfit
      have hca := sq_u32 f2
      have hcn := sq_i64 f3
      dsimp only at hca hcn
      have HCN := Lib.hid hcn.2
      subst hp
      clear tw f2 f3 hck BW hcn
      have q1 : (0 : Int) ≤ (k : Int) := by omega
      have q2 : (k : Int) < (len : Int) := by omega
      have q3 : decide ((k : Int) < (len : Int)) = true := decide_eq_true q2
      have q4 : IntKind.i64.wrap ((k : Int) + 1) = (k : Int) + 1 := IntWalk.i64_in _ (by omega)
      have P1 := Lib.hid (HP.out.grow ((Below.refl _ _).alloc (Nat.le_refl _) (.cells #[.int .i64 cd, .int .u32 ca, .bool cr, .int .i64 cn, .string cs] 38)))
      have A1 := Lib.hid (heap_alloc_new wr (.cells #[.int .i64 cd, .int .u32 ca, .bool cr, .int .i64 cn, .string cs] 38))
      go_upto_region 15 with (refine wpList_load_mid rfl 38 _ rfl b (oo + k * 5) rfl [.int .i64 cd, .int .u32 ca, .bool cr, .int .i64 cn, .string cs] _ TW.out Try.underlying38 rfl (by kernel_rfl) ?_)
      have HLX := HP.out.lts
      generalize wr.alloc _ = w5 at P1 A1 ⊢
      obtain ⟨na, hna⟩ : ∃ na, na = wr.heap.size := ⟨_, rfl⟩
      rw [← hna] at A1 ⊢
      have NX : Hid (na ≠ x) := Lib.hid (by have := HLX.2.2; omega)
      clear hna HLX HP TW
      have HUB : Hid (0 ≤ u ∧ u < 4294967296) := Lib.hid ⟨P1.out.sb.sb.x0, P1.out.sb.sb.x1⟩
      obtain ⟨AT, hAT⟩ : ∃ AT, AT = if cr then (u + ca) % 4294967296 else ca := ⟨_, rfl⟩
      have HAT := Lib.hid hAT
      have HA2 : Hid (0 ≤ AT ∧ AT < 4294967296) := Lib.hid (by rw [hAT]; split <;> omega)
      clear hAT hca
      obtain ⟨a0, a1, a2, a3, a4⟩ := cells5B A1.out
      go_upto_if 65 with fail
      go_cut [12] from 66 to 70 (fun v12 wx => v12 = .int .u32 AT ∧ Hid (Below w5.heap.size w5 wx))
      case first =>
        have e1 : IntKind.u32.wrap (u + ca) = (u + ca) % 4294967296 := by rw [IntKind.wrap_u32]
        cases cr with
        | true =>
          clear a0 a1 a2 a3 a4
          go_upto_region 17 with fail
          refine wp_region_noPanic ?_
          refine region_heldR (S := fun V => Below w5.heap.size w5 V) (by kernel_rfl) (fun V d => d.below) (fun V d hS => ?_)
          refine wpAnyH_take (i := 0) (oi := ⟨some 66, Op.load 36 (Operand.tmp 9), _, _, _, none⟩) (v := (.agg #[.int .i64 (n : Int), .int .u32 e, .slice pp L.length c])) rfl (by kernel_rfl) (by kernel_rfl) (by kernel_rfl) (fun _ _ _ h => h) (Or.inl ⟨by rfl, fun w' h' => ?_⟩) hS ?_
          · have c0 := (cells3 (P1.out.grow h').bx).1
            have c1 := (cells3 (P1.out.grow h').bx).2.1
            have c2 := (cells3 (P1.out.grow h').bx).2.2.1
            clear h'
            go_simp
          simp only [Act.put]
          refine wpAnyH_take (i := 2) (oi := ⟨some 68, Op.fieldAddr 38 (Operand.tmp 11) 1, _, _, _, none⟩) (v := (.pointer (some ⟨na, 1, none⟩))) rfl (by kernel_rfl) (by kernel_rfl) (by kernel_rfl) (fun _ _ _ h => h) (Or.inl ⟨by rfl, fun w' h' => ?_⟩) hS ?_
          · clear h'
            go_simp
          simp only [Act.put]
          refine wpAnyH_take (i := 3) (oi := ⟨some 69, Op.load 26 (Operand.tmp 68), _, _, _, none⟩) (v := (.int .u32 ca)) rfl (by kernel_rfl) (by kernel_rfl) (by kernel_rfl) (fun _ _ _ h => h) (Or.inl ⟨by rfl, fun w' h' => ?_⟩) hS ?_
          · have c0 := (cells5B ((h'.block na (Array.getElem?_eq_some_iff.1 A1.out).1).trans A1.out)).2.1
            clear h'
            go_simp
          simp only [Act.put]
          refine wpAnyH_ready (rs := [1]) (by kernel_rfl) (by simp) ?_
          refine AllReadyH.cons rfl (fun K hK => ?_) AllReadyH.nil
          go_simp
          refine (rUnaB (P1.out.grow hS).row HUB.out n e P1.out.en).mono ?_
          rintro e w8 ⟨rfl, q8⟩
          have s2 := hS.trans (q8.mono hS.size)
          clear q8
          go_simp
          refine hK.out _ _ s2 (fun _ => ?_)
          clear hK K
          refine wpAnyH_take (i := 4) (oi := ⟨some 70, Op.binOp BinOp.add 26 (Operand.tmp 67) (Operand.tmp 69) 26, _, _, _, none⟩) (v := (.int .u32 ((u + ca) % 4294967296))) rfl (by kernel_rfl) (by kernel_rfl) (by kernel_rfl) (fun _ _ _ h => h) (Or.inl ⟨by rfl, fun w' h' => ?_⟩) s2 ?_
          · clear h'
            go_simp
          simp only [Act.put]
          refine wpAnyH_take (i := 5) (oi := ⟨some 12, Op.assign (Operand.tmp 70), _, _, _, none⟩) (v := (.int .u32 ((u + ca) % 4294967296))) rfl (by kernel_rfl) (by kernel_rfl) (by kernel_rfl) (fun _ _ _ h => h) (Or.inl ⟨by rfl, fun w' h' => ?_⟩) s2 ?_
          · clear h'
            go_simp
          simp only [Act.put]
          refine wpAnyH_done (by kernel_rfl) (NoPanic.normal ?_) _
          try simp only [List.setIfInBounds_toArray, List.set_cons_zero, List.set_cons_succ]
          go_wp2_with fail
          go_meet
          case rel => exact ⟨by rw [HAT.out]; rfl, Lib.hid s2⟩
        | false =>
          go_wp2_with fail
          go_meet
          case rel => exact ⟨by rw [HAT.out]; rfl, Lib.hid (Below.refl _ _)⟩
      case rest =>
        obtain ⟨rfl, BC⟩ := hcut
        rename World => w6
        have P2 := Lib.hid (P1.out.grow BC.out)
        have A2 := Lib.hid ((BC.out.block na (Array.getElem?_eq_some_iff.1 A1.out).1).trans A1.out)
        clear P1 A1 BC
        obtain ⟨a0, a1, a2, a3, a4⟩ := cells5B A2.out
        go_upto_block 2 with fail
        clear a0 a1 a2 a3 a4
        go_cut [] from 73 to 115 (fun wx => ∃ (u e : Int) (L : List UInt8) (pp : Option Addr) (c : Nat), Hid (PQ w2 wx g gb n x u e L pp c))
        case first =>
          have hLn := P2.out.sb.sb.le
          have hN2 := HN2.out
          by_cases hd0 : cd = 0
          · subst hd0
            obtain ⟨a0, a1, a2, a3, a4⟩ := cells5B A2.out
            have rg := Lib.hid (range3 P2.out.bx)
            obtain ⟨K, hK⟩ : ∃ K, K = min cs.size (n - L.length) := ⟨_, rfl⟩
            obtain ⟨L2, hL2⟩ : ∃ L2, L2 = L ++ cs.data.toList.take K := ⟨_, rfl⟩
            obtain ⟨e2, he2⟩ : ∃ e2, e2 = (u + L2.length) % 4294967296 := ⟨_, rfl⟩
            have KR := Lib.hid (rWriteB P2.out.row hLn (by omega) e P2.out.en cs K hK L2 hL2 e2 he2)
            have HLT := Lib.hid P2.out.lts
            have HK := Lib.hid hK
            have HL2 := Lib.hid hL2
            have HE2 := Lib.hid he2
            clear hK hL2 he2 hLn hN2
            go_upto_region 21 with (first | (refine wpList_load_mid rfl 36 _ rfl x 0 rfl [.int .i64 (n : Int), .int .u32 e, .slice pp L.length c] _ rg.out Try.underlying36 rfl (by kernel_rfl) ?_) | (go_at_call 17; refine KR.out.mono ?_; rintro e w7 ⟨p', c', rfl, r1, r2, r3⟩; have K1 := Lib.hid r1; have K2 := Lib.hid r2; have K3 := Lib.hid r3; clear r1 r2 r3))
            clear a0 a1 a2 a3 a4 rg KR
            have P3 := Lib.hid (P2.out.grow K3.out)
            have A3 := Lib.hid ((K3.out.block na (Array.getElem?_eq_some_iff.1 A2.out).1).trans A2.out)
            have R3 : Hid (BySl w7 (fun k => k = g ∨ k = gb ∨ k = x) p' c' (hbs u L2)) := Lib.hid (of_slice K1.out (fun k hk => by have := K2.out k hk; have := HLT.out; omega))
            clear P2 A2 K1 K2 K3
            have P5 := Lib.hid (P3.out.grow ((Below.refl _ _).alloc (Nat.le_refl _) (.cells #[.int .i64 (n : Int), .int .u32 e2, .slice p' L2.length c'] 36)))
            have A5 := Lib.hid ((Below.heap_alloc w7 (.cells #[.int .i64 (n : Int), .int .u32 e2, .slice p' L2.length c'] 36) na (Array.getElem?_eq_some_iff.1 A3.out).1).trans A3.out)
            have X5 := Lib.hid (range3 (heap_alloc_new w7 (.cells #[.int .i64 (n : Int), .int .u32 e2, .slice p' L2.length c'] 36)))
            have R5 := Lib.hid (R3.out.grow ((Below.refl w7.heap.size w7).alloc (Nat.le_refl _) (.cells #[.int .i64 (n : Int), .int .u32 e2, .slice p' L2.length c'] 36)))
            generalize w7.alloc _ = w8 at P5 A5 X5 R5 ⊢
            generalize w7.heap.size = x13 at X5 ⊢
            have ST := Lib.hid (st_buf3 (i := (n : Int)) (j := e2) (p := p') (m := L2.length) (k := c') P5.out.bx)
            have P4 := Lib.hid (P5.out.doc R5.out HE2.out)
            have A4 := Lib.hid ((setRow_other w8 x na #[.int .i64 (n : Int), .int .u32 e2, .slice p' L2.length c'] NX.out).trans A5.out)
            clear P3 A3 P5 A5 R3 R5
            go_upto_region 22 with (first | (refine wpList_load_mid rfl 36 _ rfl x13 0 rfl [.int .i64 (n : Int), .int .u32 e2, .slice p' L2.length c'] _ X5.out Try.underlying36 rfl (by kernel_rfl) ?_) | (refine wpList_storeW 36 _ _ rfl rfl (.agg #[.int .i64 (n : Int), .int .u32 e2, .slice p' L2.length c']) x rfl rfl ST.out ?_))
            generalize w8.setRow x _ = w9 at P4 A4 ⊢
            clear X5 ST
            obtain ⟨a0, a1, a2, a3, a4⟩ := cells5B A4.out
            go_wp2_with (go_at_call 9; refine (vWrite P4.out.sb cs K HK.out L2 HL2.out).mono ?_; rintro e w10 ⟨rfl, r1, r2⟩; have K6 := Lib.hid r1; have K7 := Lib.hid r2; clear r1 r2)
            go_meet
            case rel => exact ⟨u, e2, L2, p', c', Lib.hid (P4.out.prog K6.out K7.out)⟩
          by_cases hd1 : cd = 1
          · subst hd1
            obtain ⟨a0, a1, a2, a3, a4⟩ := cells5B A2.out
            have rg := Lib.hid (range3 P2.out.bx)
            obtain ⟨K, hK⟩ : ∃ K : Nat, (K : Int) = if ahN u AT ≤ L.length then ahN u AT else 0 := by
              have := ahN_lo u AT
              exact ⟨(if ahN u AT ≤ L.length then ahN u AT else 0).toNat, by split <;> omega⟩
            obtain ⟨L2, hL2⟩ : ∃ L2, L2 = L.drop K := ⟨_, rfl⟩
            obtain ⟨u2, hu2⟩ : ∃ u2, u2 = (u + (K : Int)) % 4294967296 := ⟨_, rfl⟩
            have KR := Lib.hid (rAckB P2.out.row HUB.out (by omega) (n : Int) e AT HA2.out K hK u2 hu2 L2 hL2)
            have hE2 : e = (u2 + L2.length) % 4294967296 := by
              have hkl : K ≤ L.length := by have := ahN_lo u AT; split at hK <;> omega
              rw [P2.out.en, hu2, hL2, List.length_drop]; omega
            obtain ⟨e2, he2⟩ : ∃ e2, e2 = e := ⟨_, rfl⟩
            have HE2 : Hid (e2 = (u2 + L2.length) % 4294967296) := Lib.hid (by rw [he2]; exact hE2)
            rw [← he2] at KR
            have HEE := Lib.hid he2
            have HK := Lib.hid hK
            have HL2 := Lib.hid hL2
            have HU2 := Lib.hid hu2
            clear hK hL2 hu2 hE2 hLn hN2 hd0 he2
            go_upto_region 26 with (first | (refine wpList_load_mid rfl 36 _ rfl x 0 rfl [.int .i64 (n : Int), .int .u32 e, .slice pp L.length c] _ rg.out Try.underlying36 rfl (by kernel_rfl) ?_; rw [← HEE.out]) | (go_at_call 18; refine KR.out.mono ?_; rintro e w7 ⟨p', c', rfl, r1, r3⟩; have K1 := Lib.hid r1; have K3 := Lib.hid r3; clear r1 r3))
            clear a0 a1 a2 a3 a4 rg KR
            have P3 := Lib.hid (P2.out.grow K3.out)
            have A3 := Lib.hid ((K3.out.block na (Array.getElem?_eq_some_iff.1 A2.out).1).trans A2.out)
            have R3 := K1
            clear P2 A2 K1 K3
            have P5 := Lib.hid (P3.out.grow ((Below.refl _ _).alloc (Nat.le_refl _) (.cells #[.int .i64 (n : Int), .int .u32 e2, .slice p' L2.length c'] 36)))
            have A5 := Lib.hid ((Below.heap_alloc w7 (.cells #[.int .i64 (n : Int), .int .u32 e2, .slice p' L2.length c'] 36) na (Array.getElem?_eq_some_iff.1 A3.out).1).trans A3.out)
            have X5 := Lib.hid (range3 (heap_alloc_new w7 (.cells #[.int .i64 (n : Int), .int .u32 e2, .slice p' L2.length c'] 36)))
            have R5 := Lib.hid (R3.out.grow ((Below.refl w7.heap.size w7).alloc (Nat.le_refl _) (.cells #[.int .i64 (n : Int), .int .u32 e2, .slice p' L2.length c'] 36)))
            generalize w7.alloc _ = w8 at P5 A5 X5 R5 ⊢
            generalize w7.heap.size = x13 at X5 ⊢
            have ST := Lib.hid (st_buf3 (i := (n : Int)) (j := e2) (p := p') (m := L2.length) (k := c') P5.out.bx)
            have P4 := Lib.hid (P5.out.doc R5.out HE2.out)
            have A4 := Lib.hid ((setRow_other w8 x na #[.int .i64 (n : Int), .int .u32 e2, .slice p' L2.length c'] NX.out).trans A5.out)
            clear P3 A3 P5 A5 R3 R5
            go_upto_region 27 with (first | (refine wpList_load_mid rfl 36 _ rfl x13 0 rfl [.int .i64 (n : Int), .int .u32 e2, .slice p' L2.length c'] _ X5.out Try.underlying36 rfl (by kernel_rfl) ?_) | (refine wpList_storeW 36 _ _ rfl rfl (.agg #[.int .i64 (n : Int), .int .u32 e2, .slice p' L2.length c']) x rfl rfl ST.out ?_))
            generalize w8.setRow x _ = w9 at P4 A4 ⊢
            clear X5 ST
            obtain ⟨a0, a1, a2, a3, a4⟩ := cells5B A4.out
            go_wp2_with (go_at_call 11; refine (vAck P4.out.sb AT HA2.out K HK.out u2 HU2.out L2 HL2.out).mono ?_; rintro e w10 ⟨rfl, r1, r2⟩; have K6 := Lib.hid r1; have K7 := Lib.hid r2; clear r1 r2)
            go_meet
            case rel => exact ⟨u2, e2, L2, p', c', Lib.hid (P4.out.prog K6.out K7.out)⟩
          by_cases hd2 : cd = 2
          · subst hd2
            obtain ⟨a0, a1, a2, a3, a4⟩ := cells5B A2.out
            have hL2048 : Hid (L.length ≤ 2048) := Lib.hid (by omega)
            obtain ⟨X, hX⟩ : ∃ X : ByteArray, X = ⟨(getS u AT cn L).toArray⟩ := ⟨_, rfl⟩
            have EQ : (X.toList == X.toList) = true := eq_of_listsB rfl
            have EQ2 : (X.toList != X.toList) = false := by rw [bne, EQ]; rfl
            have HXX := Lib.hid hX
            clear hX hLn hN2 hd0 hd1
            go_upto_region 30 with fail
            clear a0 a1 a2 a3 a4
            refine wp_region_noPanic ?_
            refine region_heldR (S := fun V => Below w6.heap.size w6 V) (by kernel_rfl) (fun V d => d.below) (fun V d hS => ?_)
            refine wpAnyH_take (i := 0) (oi := ⟨some 105, Op.move (Operand.tmp 7), _, _, _, none⟩) (v := (.pointer (some ⟨g, 0, none⟩))) rfl (by kernel_rfl) (by kernel_rfl) (by kernel_rfl) (fun _ _ _ h => h) (Or.inl ⟨by rfl, fun w' h' => ?_⟩) hS ?_
            · clear h'
              go_simp
            simp only [Act.put]
            refine wpAnyH_take (i := 1) (oi := ⟨some 106, Op.move (Operand.tmp 12), _, _, _, none⟩) (v := (.int .u32 AT)) rfl (by kernel_rfl) (by kernel_rfl) (by kernel_rfl) (fun _ _ _ h => h) (Or.inl ⟨by rfl, fun w' h' => ?_⟩) hS ?_
            · clear h'
              go_simp
            simp only [Act.put]
            refine wpAnyH_take (i := 2) (oi := ⟨some 107, Op.fieldAddr 38 (Operand.tmp 11) 3, _, _, _, none⟩) (v := (.pointer (some ⟨na, 3, none⟩))) rfl (by kernel_rfl) (by kernel_rfl) (by kernel_rfl) (fun _ _ _ h => h) (Or.inl ⟨by rfl, fun w' h' => ?_⟩) hS ?_
            · clear h'
              go_simp
            simp only [Act.put]
            refine wpAnyH_take (i := 3) (oi := ⟨some 108, Op.load 3 (Operand.tmp 107), _, _, _, none⟩) (v := (.int .i64 cn)) rfl (by kernel_rfl) (by kernel_rfl) (by kernel_rfl) (fun _ _ _ h => h) (Or.inl ⟨by rfl, fun w' h' => ?_⟩) hS ?_
            · have c0 := (cells5B ((h'.block na (Array.getElem?_eq_some_iff.1 A2.out).1).trans A2.out)).2.2.2.1
              clear h'
              go_simp
            simp only [Act.put]
            refine wpAnyH_take (i := 5) (oi := ⟨some 110, Op.load 36 (Operand.tmp 9), _, _, _, none⟩) (v := (.agg #[.int .i64 (n : Int), .int .u32 e, .slice pp L.length c])) rfl (by kernel_rfl) (by kernel_rfl) (by kernel_rfl) (fun _ _ _ h => h) (Or.inl ⟨by rfl, fun w' h' => ?_⟩) hS ?_
            · have c0 := (cells3 (P2.out.grow h').bx).1
              have c1 := (cells3 (P2.out.grow h').bx).2.1
              have c2 := (cells3 (P2.out.grow h').bx).2.2.1
              clear h'
              go_simp
            simp only [Act.put]
            refine wpAnyH_take (i := 6) (oi := ⟨some 111, Op.move (Operand.tmp 12), _, _, _, none⟩) (v := (.int .u32 AT)) rfl (by kernel_rfl) (by kernel_rfl) (by kernel_rfl) (fun _ _ _ h => h) (Or.inl ⟨by rfl, fun w' h' => ?_⟩) hS ?_
            · clear h'
              go_simp
            simp only [Act.put]
            refine wpAnyH_take (i := 7) (oi := ⟨some 112, Op.fieldAddr 38 (Operand.tmp 11) 3, _, _, _, none⟩) (v := (.pointer (some ⟨na, 3, none⟩))) rfl (by kernel_rfl) (by kernel_rfl) (by kernel_rfl) (fun _ _ _ h => h) (Or.inl ⟨by rfl, fun w' h' => ?_⟩) hS ?_
            · clear h'
              go_simp
            simp only [Act.put]
            refine wpAnyH_take (i := 8) (oi := ⟨some 113, Op.load 3 (Operand.tmp 112), _, _, _, none⟩) (v := (.int .i64 cn)) rfl (by kernel_rfl) (by kernel_rfl) (by kernel_rfl) (fun _ _ _ h => h) (Or.inl ⟨by rfl, fun w' h' => ?_⟩) hS ?_
            · have c0 := (cells5B ((h'.block na (Array.getElem?_eq_some_iff.1 A2.out).1).trans A2.out)).2.2.2.1
              clear h'
              go_simp
            simp only [Act.put]
            refine wpAnyH_ready (rs := [4]) (by kernel_rfl) (by simp) ?_
            refine AllReadyH.cons rfl (fun K hK => ?_) AllReadyH.nil
            go_simp
            refine (vGet (P2.out.grow hS).sb AT cn HCN.out X HXX.out).mono ?_
            rintro e w8 ⟨rfl, -, q8⟩
            have s2 := hS.trans (q8.mono hS.size)
            clear q8
            go_simp
            refine hK.out _ _ s2 (fun _ => ?_)
            clear hK K
            refine wpAnyH_ready (rs := [9]) (by kernel_rfl) (by simp) ?_
            refine AllReadyH.cons rfl (fun K hK => ?_) AllReadyH.nil
            go_simp
            refine (rGetB (P2.out.grow s2).row HUB.out hL2048.out n e AT cn HA2.out).mono ?_
            rintro e w9 ⟨rfl, q8⟩
            have s3 := s2.trans (q8.mono s2.size)
            clear q8
            rw [← HXX.out]
            go_simp
            refine hK.out _ _ s3 (fun _ => ?_)
            clear hK K
            refine wpAnyH_take (i := 10) (oi := ⟨some 115, Op.binOp BinOp.neq 9 (Operand.tmp 109) (Operand.tmp 114) 9, _, _, _, none⟩) (v := (.bool false)) rfl (by kernel_rfl) (by kernel_rfl) (by kernel_rfl) (fun _ _ _ h => h) (Or.inl ⟨by rfl, fun w' h' => ?_⟩) s3 ?_
            · clear h'
              go_simp
            simp only [Act.put]
            refine wpAnyH_done (by kernel_rfl) (NoPanic.normal ?_) _
            try simp only [List.setIfInBounds_toArray, List.set_cons_zero, List.set_cons_succ]
            go_wp2_with fail
            go_meet
            case rel => exact ⟨u, e, L, pp, c, Lib.hid (P2.out.grow s3)⟩
          · have e0 : (cd == 0) = false := beq_eq_false_iff_ne.2 hd0
            have e1 : (cd == 1) = false := beq_eq_false_iff_ne.2 hd1
            have e2 : (cd == 2) = false := beq_eq_false_iff_ne.2 hd2
            obtain ⟨a0, a1, a2, a3, a4⟩ := cells5B A2.out
            clear hd0 hd1 hd2 hLn hN2
            go_wp2_with fail
            go_meet
            case rel => exact ⟨u, e, L, pp, c, P2⟩
        case rest =>
          clear P2 A2 HA2 HAT NX HUB HCN
          obtain ⟨u1, en1, L1, p1, c1, P9⟩ := hcut
          rename World => w9
          have HUB : Hid (0 ≤ u1 ∧ u1 < 4294967296) := Lib.hid ⟨P9.out.sb.sb.x0, P9.out.sb.sb.x1⟩
          have hle := P9.out.sb.sb.le
          have hN2 := HN2.out
          obtain ⟨r, hr⟩ : ∃ r, L1.length + r = n := ⟨n - L1.length, by omega⟩
          have HRR := Lib.hid hr
          have e1 : IntKind.i64.wrap ((n : Int) - L1.length) = (r : Int) := by rw [IntWalk.i64_in _ (by omega)]; omega
          clear hr hle hN2
          go_upto_region 32 with fail
          refine wp_region_noPanic ?_
          refine region_heldR (S := fun V => Below w9.heap.size w9 V) (by kernel_rfl) (fun V d => d.below) (fun V d hS => ?_)
          refine wpAnyH_take (i := 0) (oi := ⟨some 116, Op.move (Operand.tmp 7), _, _, _, none⟩) (v := (.pointer (some ⟨g, 0, none⟩))) rfl (by kernel_rfl) (by kernel_rfl) (by kernel_rfl) (fun _ _ _ h => h) (Or.inl ⟨by rfl, fun w' h' => ?_⟩) hS ?_
          · clear h'
            go_simp
          simp only [Act.put]
          refine wpAnyH_take (i := 2) (oi := ⟨some 118, Op.load 36 (Operand.tmp 9), _, _, _, none⟩) (v := (.agg #[.int .i64 (n : Int), .int .u32 en1, .slice p1 L1.length c1])) rfl (by kernel_rfl) (by kernel_rfl) (by kernel_rfl) (fun _ _ _ h => h) (Or.inl ⟨by rfl, fun w' h' => ?_⟩) hS ?_
          · have c0 := (cells3 (P9.out.grow h').bx).1
            have c1 := (cells3 (P9.out.grow h').bx).2.1
            have c2 := (cells3 (P9.out.grow h').bx).2.2.1
            clear h'
            go_simp
          simp only [Act.put]
          refine wpAnyH_ready (rs := [1]) (by kernel_rfl) (by simp) ?_
          refine AllReadyH.cons rfl (fun K hK => ?_) AllReadyH.nil
          go_simp
          refine (tUna (P9.out.grow hS).sb).mono ?_
          rintro e w8 ⟨rfl, rfl⟩
          go_simp
          refine hK.out _ _ hS (fun _ => ?_)
          clear hK K
          refine wpAnyH_ready (rs := [3]) (by kernel_rfl) (by simp) ?_
          refine AllReadyH.cons rfl (fun K hK => ?_) AllReadyH.nil
          go_simp
          refine (rUnaB (P9.out.grow hS).row HUB.out n en1 P9.out.en).mono ?_
          rintro e w7 ⟨rfl, q7⟩
          have s3 := hS.trans (q7.mono hS.size)
          clear q7
          go_simp
          refine hK.out _ _ s3 (fun _ => ?_)
          clear hK K
          refine wpAnyH_take (i := 4) (oi := ⟨some 120, Op.binOp BinOp.neq 26 (Operand.tmp 117) (Operand.tmp 119) 26, _, _, _, none⟩) (v := (.bool false)) rfl (by kernel_rfl) (by kernel_rfl) (by kernel_rfl) (fun _ _ _ h => h) (Or.inl ⟨by rfl, fun w' h' => ?_⟩) s3 ?_
          · clear h'
            go_simp
          simp only [Act.put]
          refine wpAnyH_take (i := 5) (oi := ⟨some 121, Op.move (Operand.tmp 120), _, _, _, none⟩) (v := (.bool false)) rfl (by kernel_rfl) (by kernel_rfl) (by kernel_rfl) (fun _ _ _ h => h) (Or.inl ⟨by rfl, fun w' h' => ?_⟩) s3 ?_
          · clear h'
            go_simp
          simp only [Act.put]
          refine wpAnyH_take (i := 6) (oi := ⟨some 122, Op.move (Operand.tmp 7), _, _, _, some (5, false)⟩) (v := (.pointer (some ⟨g, 0, none⟩))) rfl (by kernel_rfl) (by kernel_rfl) (by kernel_rfl) (fun _ _ _ h => h) (Or.inl ⟨by kernel_rfl, fun w' h' => ?_⟩) s3 ?_
          · clear h'
            go_simp
          simp only [Act.put]
          refine wpAnyH_take (i := 8) (oi := ⟨some 124, Op.fieldAddr 36 (Operand.tmp 9) 1, _, _, _, some (5, false)⟩) (v := (.pointer (some ⟨x, 1, none⟩))) rfl (by kernel_rfl) (by kernel_rfl) (by kernel_rfl) (fun _ _ _ h => h) (Or.inl ⟨by kernel_rfl, fun w' h' => ?_⟩) s3 ?_
          · clear h'
            go_simp
          simp only [Act.put]
          refine wpAnyH_take (i := 9) (oi := ⟨some 125, Op.load 26 (Operand.tmp 124), _, _, _, some (5, false)⟩) (v := (.int .u32 en1)) rfl (by kernel_rfl) (by kernel_rfl) (by kernel_rfl) (fun _ _ _ h => h) (Or.inl ⟨by kernel_rfl, fun w' h' => ?_⟩) s3 ?_
          · have c0 := (cells3 (P9.out.grow h').bx).2.1
            clear h'
            go_simp
          simp only [Act.put]
          refine wpAnyH_ready (rs := [7]) (by kernel_rfl) (by simp) ?_
          refine AllReadyH.cons rfl (fun K hK => ?_) AllReadyH.nil
          go_simp
          refine (tEnd (P9.out.grow s3).sb en1 P9.out.en).mono ?_
          rintro e w6 ⟨rfl, rfl⟩
          go_simp
          refine hK.out _ _ s3 (fun _ => ?_)
          clear hK K
          refine wpAnyH_take (i := 10) (oi := ⟨some 126, Op.binOp BinOp.neq 26 (Operand.tmp 123) (Operand.tmp 125) 26, _, _, _, some (5, false)⟩) (v := (.bool false)) rfl (by kernel_rfl) (by kernel_rfl) (by kernel_rfl) (fun _ _ _ h => h) (Or.inl ⟨by kernel_rfl, fun w' h' => ?_⟩) s3 ?_
          · clear h'
            go_simp
          simp only [Act.put]
          refine wpAnyH_take (i := 11) (oi := ⟨some 127, Op.pick (Operand.tmp 121) (Operand.const (Value.bool true)) (Operand.tmp 126), _, _, _, none⟩) (v := (.bool false)) rfl (by kernel_rfl) (by kernel_rfl) (by kernel_rfl) (fun _ _ _ h => h) (Or.inl ⟨by rfl, fun w' h' => ?_⟩) s3 ?_
          · clear h'
            go_simp
          simp only [Act.put]
          refine wpAnyH_take (i := 12) (oi := ⟨some 128, Op.move (Operand.tmp 127), _, _, _, none⟩) (v := (.bool false)) rfl (by kernel_rfl) (by kernel_rfl) (by kernel_rfl) (fun _ _ _ h => h) (Or.inl ⟨by rfl, fun w' h' => ?_⟩) s3 ?_
          · clear h'
            go_simp
          simp only [Act.put]
          refine wpAnyH_take (i := 13) (oi := ⟨some 129, Op.move (Operand.tmp 7), _, _, _, some (12, false)⟩) (v := (.pointer (some ⟨g, 0, none⟩))) rfl (by kernel_rfl) (by kernel_rfl) (by kernel_rfl) (fun _ _ _ h => h) (Or.inl ⟨by kernel_rfl, fun w' h' => ?_⟩) s3 ?_
          · clear h'
            go_simp
          simp only [Act.put]
          refine wpAnyH_take (i := 15) (oi := ⟨some 131, Op.fieldAddr 36 (Operand.tmp 9) 2, _, _, _, some (12, false)⟩) (v := (.pointer (some ⟨x, 2, none⟩))) rfl (by kernel_rfl) (by kernel_rfl) (by kernel_rfl) (fun _ _ _ h => h) (Or.inl ⟨by kernel_rfl, fun w' h' => ?_⟩) s3 ?_
          · clear h'
            go_simp
          simp only [Act.put]
          refine wpAnyH_take (i := 16) (oi := ⟨some 132, Op.load 34 (Operand.tmp 131), _, _, _, some (12, false)⟩) (v := (.slice p1 L1.length c1)) rfl (by kernel_rfl) (by kernel_rfl) (by kernel_rfl) (fun _ _ _ h => h) (Or.inl ⟨by kernel_rfl, fun w' h' => ?_⟩) s3 ?_
          · have c0 := (cells3 (P9.out.grow h').bx).2.2.1
            clear h'
            go_simp
          simp only [Act.put]
          refine wpAnyH_take (i := 17) (oi := ⟨some 133, Op.call { callee := Callee.builtin Builtin.len, args := #[(Operand.tmp 132)], argTypes := #[34] }, _, _, _, some (12, false)⟩) (v := (.int .i64 (L1.length : Int))) rfl (by kernel_rfl) (by kernel_rfl) (by kernel_rfl) (fun _ _ _ h => h) (Or.inl ⟨by kernel_rfl, fun w' h' => ?_⟩) s3 ?_
          · clear h'
            go_simp
          simp only [Act.put]
          refine wpAnyH_ready (rs := [14]) (by kernel_rfl) (by simp) ?_
          refine AllReadyH.cons rfl (fun K hK => ?_) AllReadyH.nil
          go_simp
          refine (tLen (P9.out.grow s3).sb L1.length rfl).mono ?_
          rintro e w6 ⟨rfl, rfl⟩
          go_simp
          refine hK.out _ _ s3 (fun _ => ?_)
          clear hK K
          refine wpAnyH_take (i := 18) (oi := ⟨some 134, Op.binOp BinOp.neq 3 (Operand.tmp 130) (Operand.tmp 133) 3, _, _, _, some (12, false)⟩) (v := (.bool false)) rfl (by kernel_rfl) (by kernel_rfl) (by kernel_rfl) (fun _ _ _ h => h) (Or.inl ⟨by kernel_rfl, fun w' h' => ?_⟩) s3 ?_
          · clear h'
            go_simp
          simp only [Act.put]
          refine wpAnyH_take (i := 19) (oi := ⟨some 135, Op.pick (Operand.tmp 128) (Operand.const (Value.bool true)) (Operand.tmp 134), _, _, _, none⟩) (v := (.bool false)) rfl (by kernel_rfl) (by kernel_rfl) (by kernel_rfl) (fun _ _ _ h => h) (Or.inl ⟨by rfl, fun w' h' => ?_⟩) s3 ?_
          · clear h'
            go_simp
          simp only [Act.put]
          refine wpAnyH_take (i := 20) (oi := ⟨some 136, Op.move (Operand.tmp 135), _, _, _, none⟩) (v := (.bool false)) rfl (by kernel_rfl) (by kernel_rfl) (by kernel_rfl) (fun _ _ _ h => h) (Or.inl ⟨by rfl, fun w' h' => ?_⟩) s3 ?_
          · clear h'
            go_simp
          simp only [Act.put]
          refine wpAnyH_take (i := 21) (oi := ⟨some 137, Op.move (Operand.tmp 7), _, _, _, some (20, false)⟩) (v := (.pointer (some ⟨g, 0, none⟩))) rfl (by kernel_rfl) (by kernel_rfl) (by kernel_rfl) (fun _ _ _ h => h) (Or.inl ⟨by kernel_rfl, fun w' h' => ?_⟩) s3 ?_
          · clear h'
            go_simp
          simp only [Act.put]
          refine wpAnyH_take (i := 23) (oi := ⟨some 139, Op.move (Operand.tmp 1), _, _, _, some (20, false)⟩) (v := (.int .i64 (n : Int))) rfl (by kernel_rfl) (by kernel_rfl) (by kernel_rfl) (fun _ _ _ h => h) (Or.inl ⟨by kernel_rfl, fun w' h' => ?_⟩) s3 ?_
          · clear h'
            go_simp
          simp only [Act.put]
          refine wpAnyH_take (i := 24) (oi := ⟨some 140, Op.fieldAddr 36 (Operand.tmp 9) 2, _, _, _, some (20, false)⟩) (v := (.pointer (some ⟨x, 2, none⟩))) rfl (by kernel_rfl) (by kernel_rfl) (by kernel_rfl) (fun _ _ _ h => h) (Or.inl ⟨by kernel_rfl, fun w' h' => ?_⟩) s3 ?_
          · clear h'
            go_simp
          simp only [Act.put]
          refine wpAnyH_take (i := 25) (oi := ⟨some 141, Op.load 34 (Operand.tmp 140), _, _, _, some (20, false)⟩) (v := (.slice p1 L1.length c1)) rfl (by kernel_rfl) (by kernel_rfl) (by kernel_rfl) (fun _ _ _ h => h) (Or.inl ⟨by kernel_rfl, fun w' h' => ?_⟩) s3 ?_
          · have c0 := (cells3 (P9.out.grow h').bx).2.2.1
            clear h'
            go_simp
          simp only [Act.put]
          refine wpAnyH_take (i := 26) (oi := ⟨some 142, Op.call { callee := Callee.builtin Builtin.len, args := #[(Operand.tmp 141)], argTypes := #[34] }, _, _, _, some (20, false)⟩) (v := (.int .i64 (L1.length : Int))) rfl (by kernel_rfl) (by kernel_rfl) (by kernel_rfl) (fun _ _ _ h => h) (Or.inl ⟨by kernel_rfl, fun w' h' => ?_⟩) s3 ?_
          · clear h'
            go_simp
          simp only [Act.put]
          refine wpAnyH_take (i := 27) (oi := ⟨some 143, Op.binOp BinOp.sub 3 (Operand.tmp 139) (Operand.tmp 142) 3, _, _, _, some (20, false)⟩) (v := (.int .i64 (r : Int))) rfl (by kernel_rfl) (by kernel_rfl) (by kernel_rfl) (fun _ _ _ h => h) (Or.inl ⟨by kernel_rfl, fun w' h' => ?_⟩) s3 ?_
          · clear h'
            go_simp
          simp only [Act.put]
          refine wpAnyH_ready (rs := [22]) (by kernel_rfl) (by simp) ?_
          refine AllReadyH.cons rfl (fun K hK => ?_) AllReadyH.nil
          go_simp
          refine (vRoom (P9.out.grow s3).sb r HRR.out).mono ?_
          rintro e w6 ⟨rfl, -, q6⟩
          have s5 := s3.trans (q6.mono s3.size)
          clear q6
          go_simp
          refine hK.out _ _ s5 (fun _ => ?_)
          clear hK K
          refine wpAnyH_take (i := 28) (oi := ⟨some 144, Op.binOp BinOp.neq 3 (Operand.tmp 138) (Operand.tmp 143) 3, _, _, _, some (20, false)⟩) (v := (.bool false)) rfl (by kernel_rfl) (by kernel_rfl) (by kernel_rfl) (fun _ _ _ h => h) (Or.inl ⟨by kernel_rfl, fun w' h' => ?_⟩) s5 ?_
          · clear h'
            go_simp
          simp only [Act.put]
          refine wpAnyH_take (i := 29) (oi := ⟨some 145, Op.pick (Operand.tmp 136) (Operand.const (Value.bool true)) (Operand.tmp 144), _, _, _, none⟩) (v := (.bool false)) rfl (by kernel_rfl) (by kernel_rfl) (by kernel_rfl) (fun _ _ _ h => h) (Or.inl ⟨by rfl, fun w' h' => ?_⟩) s5 ?_
          · clear h'
            go_simp
          simp only [Act.put]
          refine wpAnyH_done (by kernel_rfl) (NoPanic.normal ?_) _
          try simp only [List.setIfInBounds_toArray, List.set_cons_zero, List.set_cons_succ]
          go_wp2_with fail
          go_roundw
          case rel => exact ⟨k + 1, u1, en1, L1, p1, c1, by omega, by go_num, Lib.hid (P9.out.grow s5)⟩
          case measure => simp [intOf]; omega
    · obtain rfl : k = len := by omega
      have q3 : decide ((k : Int) < (k : Int)) = false := by simp
      go_wp2_with fail
      go_ret
      exact ⟨rfl, BL0.out.trans (HP.out.sb.bl.mono BL0.out.size)⟩
theorem walk (a0 a1 : Int) (p : Option Addr) (len cap : Nat) (l : List Act12) (w : World) (w0 : (Lit.int .u32 a0).wf = true) (w1 : (Lit.int .i64 a1).wf = true) (w2 : IsActs12 w p len l) :
    Calls Try.prog 4 #[.int .u32 a0, .int .i64 a1, .slice p len cap] w fun e w' => e = .returned (.bool true) ∧ Below w.heap.size w w' := by
  have b0 := sq_u32 w0
  cases hg : great12 l with
  | true => exact walk_out a0 a1 p len cap l w2 (.inl hg)
  | false =>
    by_cases h1 : a1 < 1
    · exact walk_bad a0 a1 p len cap l w2 hg (.inl h1)
    by_cases h2 : 2048 < a1
    · exact walk_bad a0 a1 p len cap l w2 hg (.inr h2)
    by_cases h3 : 300 < a1
    · exact walk_out a0 a1 p len cap l w2 (.inr ⟨hg, h3, by omega⟩)
    obtain ⟨n, rfl⟩ := Int.eq_ofNat_of_zero_le (show 0 ≤ a1 by omega)
    exact walk_main a0 n b0 (by omega) (by omega) p len cap l w2 hg
set_option maxRecDepth 100000 in
theorem lifted (os : Os) (started : os.Started) (H : Type) (enc : TypeId × Value → H) :
    ReturnsInHanded {} Try.checked os 4 .any (Rows.sbufPlaysSpec.pre6 enc Try.prog Try.f4 Rows.sbufPlaysRow.domain false) (Rows.sbufPlaysSpec.post enc Try.prog Try.f4 false true false false) := by
  refine returnsInHanded_of_change (C := Try.checked) own started (by kernel_rfl) Try.func4
    (ChangeSpec.witness6 (enc := enc) (C := Try.checked) false ⟨#[], #[.int .u32 0, .int .i64 0, .slice none 0 0], []⟩ 8 (by kernel_rfl) (by kernel_rfl) (by kernel_rfl) (by kernel_rfl)) ?_
  intro W base args ds gs before hval0 hW hcnd _
  have hval : ∀ (j : Nat) t v, Try.f4.params[j]? = some t → args[j]? = some v → Value.okWide Try.prog W .any base t v := hval0
  have hW' := hW
  obtain ⟨p, q, hA0, hV, rfl, hfz, hnd⟩ := hW
  have hA : DataW.TrodAll enc Try.prog W 0 (fun _ => true) true Try.f4.params.toList args.toList ds p := hA0
  rw [Try.params4] at hA hval
  obtain ⟨v0, vs0, d0, ds0, p0, q0, hargs, rfl, rfl, h0, r0⟩ := trodAll_cons hA
  obtain ⟨v1, vs1, d1, ds1, p1, q1, rfl, rfl, rfl, h1, r1⟩ := trodAll_cons r0
  obtain ⟨v2, vs2, d2, ds2, p2, q2, rfl, rfl, rfl, h2, r2⟩ := trodAll_cons r1
  obtain ⟨rfl, rfl, rfl⟩ := trodAll_nil r2
  obtain rfl : args = #[v0, v1, v2] := by cases args; simp_all
  obtain ⟨rfl, rfl⟩ := trodVars_none hV
  obtain ⟨a0, rfl, rfl, rfl, w0⟩ := open_int Try.underlying26 (hval 0 26 v0 rfl rfl) h0
  obtain ⟨a1, rfl, rfl, rfl, w1⟩ := open_int Try.underlying3 (hval 1 3 v1 rfl rfl) h1
  obtain ⟨a2, len2, cap2, rfl⟩ := okWide_slice Try.underlying32 (hval 2 32 v2 rfl rfl)
  have k2 := h2
  have lt2 : ∀ x ∈ p2, x.block < W.heap.size := by obtain ⟨m, hm⟩ := k2; exact DataW.trod_lt m _ _ _ hm
  obtain ⟨l2, w2⟩ : ∃ l, IsActs12 W a2 len2 l := by obtain ⟨fuel, hf⟩ := h2; exact open_acts13 hf
  clear hA0 hval0
  refine (walk a0 a1 a2 len2 cap2 l2 W w0 w1 w2).mono fun e W' ⟨he, bel⟩ => ?_
  subst he
  exact ⟨_, rfl, _, _, _, [], _, [], hW', trodAll_mk1 (shut_bool Try.underlying4 _), (trodAll_cons_mk (shut_int Try.underlying26 w0) (trodAll_cons_mk (shut_int Try.underlying3 w1) (trodAll_cons_mk (Below.trod laidOut (by kernel_rfl) (of_decide_eq_true (by kernel_rfl)) k2 bel lt2) trodAll_mk0))), rfl, bel.frame _, fun h => by cases h⟩

/-- THE STATEMENT. -/
theorem proved : Rows.SbufPlaysSaid :=
  OpenClaim.holds_of_wide 4 Try.f4 rfl rfl rfl rfl rfl rfl rfl ⟨rfl, rfl, rfl, rfl, rfl⟩ rfl rfl rfl rfl rfl (by kernel_rfl) Try.func4 (by kernel_rfl)
    (of_decide_eq_true (by kernel_rfl)) (by unfold Func.isWrapper; first | (rw [if_pos (by decide +kernel)]; kernel_rfl) | (rw [if_neg (by decide +kernel)]; exact ⟨rfl, rfl⟩))
    (fun os started H enc _ => lifted os started H enc)
#print axioms proved

end Go.Proofs.Ytcnongkkmjahfaa.sbq
