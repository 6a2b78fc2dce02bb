/-
  RbufPlays: whatever comes and is read: what is told, and how it stands, is the document's. Conditions: none beyond the kinds of the arguments.
-/
import Derived.Test.YtgbjedngmdpheaaRbM
import Derived.ProofKit
import Derived.OpenShut
import Derived.ShutString
import Derived.ChangeOld
import Derived.Below
namespace Go.Proofs.Ytgbjedngmdpheaa.rbp
open Go.ChangeShapes Go.WideShapes Go.ChangeAt Go.RowKit
open Go.ChangeMaps (open_string shut_string)
set_option linter.unusedVariables false

theorem own : ownKnob Try.prog.godebug = none := by kernel_rfl
theorem laidOut : laidOutB Try.prog = true := by kernel_rfl
theorem extract_list (S : ByteArray) (l : List UInt8) (h : S.data.toList = l) (a b : Nat) : (S.extract a b).data.toList = (l.take b).drop a := by
  rw [ByteArray.data_extract, Array.toList_extract, h, List.extract_eq_take_drop, List.drop_take]
theorem eq_of_lists {X Y : ByteArray} (h : X.data.toList = Y.data.toList) : (X.toList == Y.toList) = true := by
  obtain ⟨x⟩ := X
  obtain ⟨y⟩ := Y
  have : x = y := Array.ext' h
  subst this
  simp
theorem size_of {X : ByteArray} {l : List UInt8} (h : X.data.toList = l) : X.size = l.length := by rw [← h, Array.length_toList]; rfl
theorem read_num (c : Int) (r : Nat) : ∃ K : Nat, (K : Int) = max 0 (min c r) ∧ K ≤ r := ⟨(max 0 (min c (r : Int))).toNat, by omega, by omega⟩
theorem hHeld {w : World} {g b n : Nat} {nx : Int} {R : List UInt8} {W : List (Option UInt8)} (h : Rb w g b n nx R W) (k : Nat) (hk : k = heldW W) :
    Calls Try.prog 11 #[.pointer (some ⟨g, 0, none⟩)] w fun e w' => e = .returned (.int .i64 k) ∧ Below w.heap.size w w' := by
  rw [hk]; exact bheld_ok h
theorem hWin {w : World} {g b n : Nat} {nx : Int} {R : List UInt8} {W : List (Option UInt8)} (h : Rb w g b n nx R W) (k : Nat) (hk : k = W.length) :
    Calls Try.prog 14 #[.pointer (some ⟨g, 0, none⟩)] w fun e w' => e = .returned (.int .i64 k) ∧ Below w.heap.size w w' := by
  rw [hk]; exact bwindow_ok h
def ActL (c : Act12) : List Value := [.int .i64 c.d, .int .u32 c.a, .bool c.r, .int .i64 c.n, .string c.s]
theorem act_range {w : World} {b o : Nat} {d a n : Int} {r : Bool} {s : ByteArray} (h : ActAt w b o ⟨d, a, r, n, s⟩) : w.rangeAt b o [.int .i64 d, .int .u32 a, .bool r, .int .i64 n, .string s] := by
  obtain ⟨h0, h1, h2, h3, h4⟩ := h
  intro j u hu
  match j, hu with
  | 0, hu => simp at hu; subst hu; exact h0
  | 1, hu => simp at hu; subst hu; exact h1
  | 2, hu => simp at hu; subst hu; exact h2
  | 3, hu => simp at hu; subst hu; exact h3
  | 4, hu => simp at hu; subst hu; exact h4
theorem cells5 {w : World} {n : Nat} {x y z v u : Value} {t : TypeId} (h : w.heap[n]? = some (.cells #[x, y, z, v, u] t (0, 0))) : w.cell? ⟨n, 0, none⟩ = some x ∧ w.cell? ⟨n, 1, none⟩ = some y ∧ w.cell? ⟨n, 2, none⟩ = some z ∧ w.cell? ⟨n, 3, none⟩ = some v ∧ w.cell? ⟨n, 4, none⟩ = some u :=
  ⟨by rw [cell_of_block h]; rfl, by rw [cell_of_block h]; rfl, by rw [cell_of_block h]; rfl, by rw [cell_of_block h]; rfl, by rw [cell_of_block h]; rfl⟩
set_option maxRecDepth 100000 in
set_option maxHeartbeats 8000000 in
theorem walk_out (nx rm : Int) (p : Option Addr) (len cap : Nat) (l : List Act12) {w : World} (hl : IsActs12 w p len l) (h : great12 l = true ∨ (great12 l = false ∧ 300 < rm ∧ rm ≤ 2048)) :
    Calls Try.prog 4 #[.int .u32 nx, .int .i64 rm, .slice p len cap] w fun e w' => e = .returned (.bool true) ∧ Below w.heap.size w w' := by
  rcases h with h | ⟨h, h1, h2⟩
  · have HG := Lib.hid h
    clear h
    go_enter Try.func4, Try.ntmps4
    go_wp2_with fail
    refine (awakeR _).mono ?_
    rintro e w2 ⟨rfl, bl⟩
    go_wp2_with fail
    refine (Great12_any w2 p len cap l (hl.below bl)).mono ?_
    rintro e w3 ⟨rfl, rfl⟩
    rw [HG.out]
    go_wp2_with fail
    go_ret
    exact ⟨rfl, bl⟩
  · have HG := Lib.hid h
    have d1 : decide ((300 : Int) < rm) = true := decide_eq_true h1
    have d2 : decide (rm ≤ (2048 : Int)) = true := decide_eq_true h2
    clear h h1 h2
    go_enter Try.func4, Try.ntmps4
    go_wp2_with fail
    refine (awakeR _).mono ?_
    rintro e w2 ⟨rfl, bl⟩
    go_wp2_with fail
    refine (Great12_any w2 p len cap l (hl.below bl)).mono ?_
    rintro e w3 ⟨rfl, rfl⟩
    rw [HG.out]
    go_wp2_with fail
    go_ret
    exact ⟨rfl, bl⟩
set_option maxRecDepth 100000 in
set_option maxHeartbeats 8000000 in
theorem walk_bad (nx rm : Int) (p : Option Addr) (len cap : Nat) (l : List Act12) {w : World} (hl : IsActs12 w p len l) (h : great12 l = false) (hr : rm < 1 ∨ 2048 < rm) :
    Calls Try.prog 4 #[.int .u32 nx, .int .i64 rm, .slice p len cap] w fun e w' => e = .returned (.bool true) ∧ Below w.heap.size w w' := by
  have HG := Lib.hid h
  clear h
  rcases hr with hr | hr
  · have d1 : decide ((300 : Int) < rm) = false := decide_eq_false (by omega)
    have d2 : decide (rm < (1 : Int)) = true := decide_eq_true hr
    go_enter Try.func4, Try.ntmps4
    go_wp2_with fail
    refine (awakeR _).mono ?_
    rintro e w2 ⟨rfl, bl⟩
    go_wp2_with fail
    refine (Great12_any w2 p len cap l (hl.below bl)).mono ?_
    rintro e w3 ⟨rfl, rfl⟩
    rw [HG.out]
    go_wp2_with fail
    refine (bnew_bad _ nx rm (by omega)).mono ?_
    rintro e w3 ⟨rfl, rfl⟩
    go_wp2_with fail
    go_ret
    exact ⟨rfl, bl⟩
  · have d1 : decide ((300 : Int) < rm) = true := decide_eq_true (by omega)
    have d2 : decide (rm ≤ (2048 : Int)) = false := decide_eq_false (by omega)
    have d3 : decide (rm < (1 : Int)) = false := decide_eq_false (by omega)
    have d4 : decide ((2048 : Int) < rm) = true := decide_eq_true hr
    go_enter Try.func4, Try.ntmps4
    go_wp2_with fail
    refine (awakeR _).mono ?_
    rintro e w2 ⟨rfl, bl⟩
    go_wp2_with fail
    refine (Great12_any w2 p len cap l (hl.below bl)).mono ?_
    rintro e w3 ⟨rfl, rfl⟩
    rw [HG.out]
    go_wp2_with fail
    refine (bnew_bad _ nx rm (by omega)).mono ?_
    rintro e w3 ⟨rfl, rfl⟩
    go_wp2_with fail
    go_ret
    exact ⟨rfl, bl⟩
set_option maxRecDepth 100000 in
set_option maxHeartbeats 8000000 in
theorem walk_main (nxt : Int) (n : Nat) (hx : 0 ≤ nxt ∧ nxt < 4294967296) (h1 : 1 ≤ n) (h2 : n ≤ 300) (p : Option Addr) (len cap : Nat) (l : List Act12) {w : World} (hl : IsActs12 w p len l) (h : great12 l = false) :
    Calls Try.prog 4 #[.int .u32 nxt, .int .i64 (n : Int), .slice p len cap] w fun e w' => e = .returned (.bool true) ∧ Below w.heap.size w w' := by
  have HG := Lib.hid h
  have HSM := Lib.hid (great12_no h).2
  have hlen : len ≤ 100 := by have := (great12_no h).1; rw [hl.1] at this; exact this
  have HT := Lib.hid hl
  have HX := Lib.hid hx
  have HN1 := Lib.hid h1
  have HN2 := Lib.hid h2
  have d1 : decide ((300 : Int) < (n : Int)) = false := decide_eq_false (by omega)
  have d3 : decide ((n : Int) < (1 : Int)) = false := decide_eq_false (by omega)
  have d4 : decide ((2048 : Int) < (n : Int)) = false := decide_eq_false (by omega)
  clear h hl hx h1 h2
  go_enter Try.func4, Try.ntmps4
  go_wp2_with fail
  refine (awakeR _).mono ?_
  rintro e w2 ⟨rfl, bl⟩
  have BL0 := Lib.hid bl
  go_wp2_with fail
  refine (Great12_any w2 p len cap l (HT.out.below bl)).mono ?_
  rintro e w3 ⟨rfl, rfl⟩
  rw [HG.out]
  clear bl
  go_wp2_with fail
  refine (sNew w2 nxt n HN1.out (by have := HN2.out; omega) HX.out.1 HX.out.2).mono ?_
  rintro e w3 ⟨g, gb, rfl, h⟩
  have H0 := Lib.hid h
  clear h
  have hP : PL w2 (w3.alloc (.cells #[.int .i64 (n : Int), .int .u32 nxt, .string ⟨#[]⟩, .slice none 0 0] 36)) g gb n w3.heap.size nxt [] (List.replicate n none) nxt ⟨#[]⟩ none 0 [] :=
    ⟨H0.out.grow ((Below.refl _ _).alloc (Nat.le_refl _) _), heap_alloc_new w3 _, World.ownsRow_nil _ _ _ _, fun k hk => (by cases hk), H0.out.bl.size, by have := H0.out.rb.lt; omega, by have := H0.out.rb.ltb; omega⟩
  have HP := Lib.hid hP
  clear hP
  go_upto_region 12 with fail
  generalize w3.alloc _ = w4 at HP ⊢
  generalize w3.heap.size = x at HP ⊢
  clear d1 d3 d4
  go_loopw [10] (fun i wr => ∃ (k : Nat) (nx : Int) (R : List UInt8) (V : List (Option UInt8)) (S : ByteArray) (pp : Option Addr) (c : Nat) (D : List Hb), k ≤ len ∧ i = .int .i64 k ∧ Hid (PL w2 wr g gb n x nx R V nx S pp c D) ∧ Hid (Dp nx V D) ∧ Hid (S.data.toList = R)) (fun i _ => len - (intOf i).toNat)
  case atStart => exact ⟨0, nxt, [], _, ⟨#[]⟩, none, 0, [], Nat.zero_le _, rfl, HP, Lib.hid (by have := numsW_nones nxt [] n; rw [List.nil_append] at this; unfold Dp; rw [this]; exact List.Perm.refl _), Lib.hid rfl⟩
  case round =>
    clear HP H0
    obtain ⟨k, nx, R, V, S, pp, c, D, hk, rfl, HP, HD, HSR⟩ := hrel
    by_cases hlt : k < len
    · have BW : Hid (Below w.heap.size w wr) := Lib.hid (BL0.out.trans (HP.out.rb.bl.mono BL0.out.size))
      obtain ⟨b, oo, ⟨cd, ca, cr, cn, cs⟩, hp, hck, hfit, tw⟩ := HT.out.at_ k hlt
      have TW := Lib.hid (act_range (ActAt.kept tw (BW.out.block b (ActAt.block tw))))
      have hsz : cs.size ≤ 20000 := HSM.out _ (List.mem_of_getElem? hck)
      obtain ⟨-, f2, -, -⟩ := hfit
      have hca := sq_u32 f2
      dsimp only at hca
      subst hp
      clear tw f2 hck BW
      have q1 : (0 : Int) ≤ (k : Int) := by omega
      have q2 : (k : Int) < (len : Int) := by omega
      have q3 : decide ((k : Int) < (len : Int)) = true := decide_eq_true q2
      have q4 : IntKind.i64.wrap ((k : Int) + 1) = (k : Int) + 1 := IntWalk.i64_in _ (by omega)
      have P1 := Lib.hid (HP.out.grow ((Below.refl _ _).alloc (Nat.le_refl _) (.cells #[.int .i64 cd, .int .u32 ca, .bool cr, .int .i64 cn, .string cs] 38)))
      have A1 := Lib.hid (heap_alloc_new wr (.cells #[.int .i64 cd, .int .u32 ca, .bool cr, .int .i64 cn, .string cs] 38))
      go_upto_region 15 with (refine wpList_load_mid rfl 38 _ rfl b (oo + k * 5) rfl [.int .i64 cd, .int .u32 ca, .bool cr, .int .i64 cn, .string cs] _ TW.out Try.underlying38 rfl (by kernel_rfl) ?_)
      have HLX := HP.out.lts
      generalize wr.alloc _ = w5 at P1 A1 ⊢
      obtain ⟨na, hna⟩ : ∃ na, na = wr.heap.size := ⟨_, rfl⟩
      rw [← hna] at A1 ⊢
      have NX : Hid (na ≠ x) := Lib.hid (by have := HLX.2.2; omega)
      clear hna HLX HP TW
      obtain ⟨AT, hAT⟩ : ∃ AT, AT = if cr then (nx + ca) % 4294967296 else ca := ⟨_, rfl⟩
      have HAT := Lib.hid hAT
      have HA2 : Hid (0 ≤ AT ∧ AT < 4294967296) := Lib.hid (by rw [hAT]; split <;> omega)
      clear hAT
      obtain ⟨a0, a1, a2, a3, a4⟩ := cells5 A1.out
      go_upto_if 65 with fail
      go_cut [12] from 66 to 70 (fun v12 wx => v12 = .int .u32 AT ∧ wx = w5)
      case first =>
        obtain ⟨x0, x1, x2, x3, -⟩ := cells4 P1.out.bx
        have e1 : IntKind.u32.wrap (nx + ca) = (nx + ca) % 4294967296 := by rw [IntKind.wrap_u32]
        cases cr with
        | true =>
          go_wp2_with fail
          go_meet
          case rel => exact ⟨by rw [HAT.out]; rfl, rfl⟩
        | false =>
          go_wp2_with fail
          go_meet
          case rel => exact ⟨by rw [HAT.out]; rfl, rfl⟩
      case rest =>
        obtain ⟨rfl, rfl⟩ := hcut
        obtain ⟨a0, a1, a2, a3, a4⟩ := cells5 A1.out
        go_upto_block 2 with fail
        clear a0 a1 a2 a3 a4
        go_cut [] from 73 to 106 (fun wx => ∃ (nx : Int) (R : List UInt8) (V : List (Option UInt8)) (S : ByteArray) (pp : Option Addr) (c : Nat) (D : List Hb), Hid (PL w2 wx g gb n x nx R V nx S pp c D) ∧ Hid (Dp nx V D) ∧ Hid (S.data.toList = R))
        case first =>
          have hSs := size_of HSR.out
          have hRV := P1.out.rb.rb.len
          by_cases hd0 : cd = 0
          · subst hd0
            obtain ⟨a0, a1, a2, a3, a4⟩ := cells5 A1.out
            have rg := Lib.hid (range4 P1.out.bx)
            obtain ⟨V1, hV1⟩ : ∃ V1, V1 = holdW nx AT cs.data.toList V := ⟨_, rfl⟩
            have KR := Lib.hid (rPut P1.out.row HD.out ⟨P1.out.rb.rb.x0, P1.out.rb.rb.x1⟩ HSR.out hRV (by have := HN2.out; omega) AT HA2.out cs cs.data.toList rfl (by omega) V1 hV1)
            have hlts := P1.out.lts
            have HLT := Lib.hid hlts
            have TC : Hid (cs.data.toList.take 65536 = cs.data.toList) := Lib.hid (List.take_of_length_le (by rw [Array.length_toList]; show cs.size ≤ 65536; omega))
            have HV1 := Lib.hid hV1
            clear hV1 hlts hSs hRV
            go_upto_region 21 with (first | (refine wpList_load_mid rfl 36 _ rfl x 0 rfl [.int .i64 (n : Int), .int .u32 nx, .string S, .slice pp D.length c] _ rg.out Try.underlying36 rfl (by kernel_rfl) ?_) | (go_at_call 17; refine KR.out.mono ?_; rintro e w6 ⟨p', c', D', S', rfl, r1, r2, r3, r4, r5⟩; have K1 := Lib.hid r1; have K2 := Lib.hid r2; have K3 := Lib.hid r3; have K4 := Lib.hid r4; have K5 := Lib.hid r5; clear r1 r2 r3 r4 r5))
            clear a0 a1 a2 a3 a4 rg KR
            obtain ⟨nd, hnd⟩ : ∃ nd, nd = (nx + (runW V1 : Int)) % 4294967296 := ⟨_, rfl⟩
            have HND := Lib.hid hnd
            rw [← hnd] at K4 ⊢
            clear hnd
            have P2 := Lib.hid (P1.out.grow K3.out)
            have A2 := Lib.hid ((K3.out.block na (Array.getElem?_eq_some_iff.1 A1.out).1).trans A1.out)
            have O2 := Lib.hid (show ∀ k, (Value.slice p' D'.length c').ownBlock = some k → k ≠ g ∧ k ≠ gb ∧ k ≠ x from fun k hk => by have := K2.out k hk; have := HLT.out; omega)
            clear P1 K2 K3
            have P3 := Lib.hid (P2.out.grow ((Below.refl _ _).alloc (Nat.le_refl _) (.cells #[.int .i64 (n : Int), .int .u32 nd, .string S', .slice p' D'.length c'] 36)))
            have A3 := Lib.hid ((Below.heap_alloc w6 (.cells #[.int .i64 (n : Int), .int .u32 nd, .string S', .slice p' D'.length c'] 36) na (Array.getElem?_eq_some_iff.1 A2.out).1).trans A2.out)
            have X3 := Lib.hid (range4 (heap_alloc_new w6 (.cells #[.int .i64 (n : Int), .int .u32 nd, .string S', .slice p' D'.length c'] 36)))
            have R3 := Lib.hid (K1.out.kept (((Below.refl w6.heap.size w6).alloc (Nat.le_refl _) (.cells #[.int .i64 (n : Int), .int .u32 nd, .string S', .slice p' D'.length c'] 36))).size (fun k hk => Below.heap_alloc _ _ _ (K1.out.lt k hk).2))
            generalize w6.alloc _ = w7 at P3 A3 X3 R3 ⊢
            generalize w6.heap.size = x13 at X3 ⊢
            have ST := Lib.hid (st_buf (s := S') (i := (n : Int)) (j := nd) (p := p') (m := D'.length) (k := c') P3.out.bx)
            have P4 := Lib.hid (P3.out.doc (nd' := nd) (S' := S') R3.out O2.out)
            have A4 := Lib.hid ((setRow_other w7 x na #[.int .i64 (n : Int), .int .u32 nd, .string S', .slice p' D'.length c'] NX.out).trans A3.out)
            clear P2 A2 P3 A3 R3
            go_upto_region 22 with (first | (refine wpList_load_mid rfl 36 _ rfl x13 0 rfl [.int .i64 (n : Int), .int .u32 nd, .string S', .slice p' D'.length c'] _ X3.out Try.underlying36 rfl (by kernel_rfl) ?_) | (refine wpList_storeW 36 _ _ rfl rfl (.agg #[.int .i64 (n : Int), .int .u32 nd, .string S', .slice p' D'.length c']) x rfl rfl ST.out ?_))
            generalize w7.setRow x _ = w8 at P4 A4 ⊢
            clear X3 ST
            obtain ⟨a0, a1, a2, a3, a4⟩ := cells5 A4.out
            go_wp2_with (go_at_call 9; refine (bput_ok P4.out.rb.rb AT HA2.out cs cs.data.toList TC.out V1 HV1.out).mono ?_; rintro e w9 ⟨rfl, r1, r2⟩; have K6 := Lib.hid r1; have K7 := Lib.hid r2; clear r1 r2)
            go_meet
            case rel => exact ⟨nd, R ++ gotW V1, V1.drop (runW V1), S', p', c', D', Lib.hid (P4.out.prog (by rw [HND.out]; exact K6.out) K7.out), K4, K5⟩
          by_cases hd1 : cd = 1
          · subst hd1
            obtain ⟨a0, a1, a2, a3, a4⟩ := cells5 A1.out
            have rg := Lib.hid (range4 P1.out.bx)
            obtain ⟨K, hK, hKS⟩ := read_num cn S.size
            have KR := Lib.hid (rRead wc (n : Int) nx S pp D.length c cn K hK)
            have HK := Lib.hid (show (K : Int) = max 0 (min cn R.length) by rw [← hSs]; exact hK)
            obtain ⟨Y, hY⟩ : ∃ Y, Y = S.extract K S.size := ⟨_, rfl⟩
            obtain ⟨X, hX⟩ : ∃ X, X = S.extract 0 K := ⟨_, rfl⟩
            rw [← hY, ← hX] at KR
            have HYL : Hid (Y.data.toList = R.drop K) := Lib.hid (by rw [hY, extract_list S R HSR.out, hSs, List.take_length])
            obtain ⟨Z, hZ⟩ : ∃ Z : ByteArray, Z = ⟨(R.take K).toArray⟩ := ⟨_, rfl⟩
            have EQ : (Z.toList == X.toList) = true := eq_of_lists (by rw [hZ, hX, extract_list S R HSR.out, List.drop_zero])
            have EQ2 : Hid ((Z.toList != X.toList) = false) := Lib.hid (by rw [bne, EQ]; rfl)
            have EQ1 := Lib.hid EQ
            have HZ := Lib.hid hZ
            clear hK hKS hY hX hZ EQ hSs hRV hd0
            go_upto_region 26 with (first | (refine wpList_load_mid rfl 36 _ rfl x 0 rfl [.int .i64 (n : Int), .int .u32 nx, .string S, .slice pp D.length c] _ rg.out Try.underlying36 rfl (by kernel_rfl) ?_) | (go_at_call 18; refine KR.out.mono ?_; rintro e w6 ⟨rfl, r3⟩; have K3 := Lib.hid r3; clear r3))
            clear a0 a1 a2 a3 a4 rg KR
            have P2 := Lib.hid (P1.out.grow K3.out)
            have A2 := Lib.hid ((K3.out.block na (Array.getElem?_eq_some_iff.1 A1.out).1).trans A1.out)
            clear P1 K3
            have P3 := Lib.hid (P2.out.grow ((Below.refl _ _).alloc (Nat.le_refl _) (.cells #[.int .i64 (n : Int), .int .u32 nx, .string Y, .slice pp D.length c] 36)))
            have A3 := Lib.hid ((Below.heap_alloc w6 (.cells #[.int .i64 (n : Int), .int .u32 nx, .string Y, .slice pp D.length c] 36) na (Array.getElem?_eq_some_iff.1 A2.out).1).trans A2.out)
            have X3 := Lib.hid (range4 (heap_alloc_new w6 (.cells #[.int .i64 (n : Int), .int .u32 nx, .string Y, .slice pp D.length c] 36)))
            have R3 := Lib.hid (P2.out.row.kept (((Below.refl w6.heap.size w6).alloc (Nat.le_refl _) (.cells #[.int .i64 (n : Int), .int .u32 nx, .string Y, .slice pp D.length c] 36))).size (fun k hk => Below.heap_alloc _ _ _ (P2.out.row.lt k hk).2))
            generalize w6.alloc _ = w7 at P3 A3 X3 R3 ⊢
            generalize w6.heap.size = x13 at X3 ⊢
            have ST := Lib.hid (st_buf (s := Y) (i := (n : Int)) (j := nx) (p := pp) (m := D.length) (k := c) P3.out.bx)
            have P4 := Lib.hid (P3.out.doc (nd' := nx) (S' := Y) R3.out P3.out.own)
            have A4 := Lib.hid ((setRow_other w7 x na #[.int .i64 (n : Int), .int .u32 nx, .string Y, .slice pp D.length c] NX.out).trans A3.out)
            clear P2 A2 P3 A3 R3
            go_upto_region 27 with (first | (refine wpList_load_mid rfl 36 _ rfl x13 0 rfl [.int .i64 (n : Int), .int .u32 nx, .string Y, .slice pp D.length c] _ X3.out Try.underlying36 rfl (by kernel_rfl) ?_) | (refine wpList_storeW 36 _ _ rfl rfl (.agg #[.int .i64 (n : Int), .int .u32 nx, .string Y, .slice pp D.length c]) x rfl rfl ST.out ?_))
            generalize w7.setRow x _ = w8 at P4 A4 ⊢
            clear X3 ST
            obtain ⟨a0, a1, a2, a3, a4⟩ := cells5 A4.out
            have eq2 := EQ2.out
            have eq1 := EQ1.out
            go_wp2_with (go_at_call 13; refine (bread_ok P4.out.rb.rb cn K HK.out).mono ?_; rintro e w9 ⟨rfl, r1, r2⟩; rw [← HZ.out]; have K6 := Lib.hid r1; have K7 := Lib.hid r2; clear r1 r2)
            go_meet
            case rel => exact ⟨nx, R.drop K, V ++ List.replicate K none, Y, pp, c, D, Lib.hid (P4.out.prog K6.out K7.out), Lib.hid (HD.out.more K), HYL⟩
          · have e0 : (cd == 0) = false := beq_eq_false_iff_ne.2 hd0
            have e1 : (cd == 1) = false := beq_eq_false_iff_ne.2 hd1
            clear hd0 hd1 hSs hRV
            go_wp2_with fail
            go_meet
            case rel => exact ⟨nx, R, V, S, pp, c, D, P1, HD, HSR⟩
        case rest =>
          clear P1 A1 HD HSR HA2 HAT NX
          obtain ⟨nx1, R1, V1, S1, p1, c1, D1, P9, D9, S9⟩ := hcut
          rename World => w9
          have hrv := P9.out.rb.rb.len
          have hss := size_of S9.out
          obtain ⟨r, hr⟩ : ∃ r, r = R1.length := ⟨_, rfl⟩
          obtain ⟨v, hv⟩ : ∃ v, v = V1.length := ⟨_, rfl⟩
          have HRL : Hid ((r : Int) = (R1.length : Int)) := Lib.hid (by rw [hr])
          have HVL := Lib.hid hv
          have HSS : Hid (S1.size = r) := Lib.hid (by rw [hss, hr])
          have HSV : Hid (S1.size + v = n) := Lib.hid (by rw [hss, hv]; exact hrv)
          have HDH : Hid (D1.length = heldW V1) := Lib.hid D9.out.len
          clear hrv hss hr hv
          go_upto_region 29 with fail
          refine wp_region_noPanic ?_
          refine region_heldR (S := fun V => Below w9.heap.size w9 V) (by kernel_rfl) (fun V d => d.below) (fun V d hS => ?_)
          refine wpAnyH_take (i := 0) (oi := ⟨some 107, Op.move (Operand.tmp 7), _, _, _, none⟩) (v := (.pointer (some ⟨g, 0, none⟩))) rfl (by kernel_rfl) (by kernel_rfl) (by kernel_rfl) (fun _ _ _ h => h) (Or.inl ⟨by rfl, fun w' h' => ?_⟩) hS ?_
          · clear h'
            go_simp
          simp only [Act.put]
          refine wpAnyH_take (i := 2) (oi := ⟨some 109, Op.fieldAddr 36 (Operand.tmp 9) 2, _, _, _, none⟩) (v := (.pointer (some ⟨x, 2, none⟩))) rfl (by kernel_rfl) (by kernel_rfl) (by kernel_rfl) (fun _ _ _ h => h) (Or.inl ⟨by rfl, fun w' h' => ?_⟩) hS ?_
          · clear h'
            go_simp
          simp only [Act.put]
          refine wpAnyH_take (i := 3) (oi := ⟨some 110, Op.load 9 (Operand.tmp 109), _, _, _, none⟩) (v := (.string S1)) rfl (by kernel_rfl) (by kernel_rfl) (by kernel_rfl) (fun _ _ _ h => h) (Or.inl ⟨by rfl, fun w' h' => ?_⟩) hS ?_
          · have c0 := (cells4 (P9.out.grow h').bx).2.2.1
            clear h'
            go_simp
          simp only [Act.put]
          refine wpAnyH_take (i := 4) (oi := ⟨some 111, Op.call { callee := Callee.builtin Builtin.len, args := #[(Operand.tmp 110)], argTypes := #[9] }, _, _, _, none⟩) (v := (.int .i64 (r : Int))) rfl (by kernel_rfl) (by kernel_rfl) (by kernel_rfl) (fun _ _ _ h => h) (Or.inl ⟨by rfl, fun w' h' => ?_⟩) hS ?_
          · have c0 := HSS.out
            clear h'
            go_simp
          simp only [Act.put]
          refine wpAnyH_ready (rs := [1]) (by kernel_rfl) (by simp) ?_
          refine AllReadyH.cons rfl (fun K hK => ?_) AllReadyH.nil
          go_simp
          refine (sReady (P9.out.grow hS).rb (r : Int) HRL.out).mono ?_
          rintro e w8 ⟨rfl, rfl⟩
          go_simp
          refine hK.out _ _ hS (fun _ => ?_)
          clear hK K
          refine wpAnyH_take (i := 5) (oi := ⟨some 112, Op.binOp BinOp.neq 3 (Operand.tmp 108) (Operand.tmp 111) 3, _, _, _, none⟩) (v := (.bool false)) rfl (by kernel_rfl) (by kernel_rfl) (by kernel_rfl) (fun _ _ _ h => h) (Or.inl ⟨by rfl, fun w' h' => ?_⟩) hS ?_
          · clear h'
            go_simp
          simp only [Act.put]
          refine wpAnyH_take (i := 6) (oi := ⟨some 113, Op.move (Operand.tmp 112), _, _, _, none⟩) (v := (.bool false)) rfl (by kernel_rfl) (by kernel_rfl) (by kernel_rfl) (fun _ _ _ h => h) (Or.inl ⟨by rfl, fun w' h' => ?_⟩) hS ?_
          · clear h'
            go_simp
          simp only [Act.put]
          refine wpAnyH_take (i := 7) (oi := ⟨some 114, Op.move (Operand.tmp 7), _, _, _, some (6, false)⟩) (v := (.pointer (some ⟨g, 0, none⟩))) rfl (by kernel_rfl) (by kernel_rfl) (by kernel_rfl) (fun _ _ _ h => h) (Or.inl ⟨by kernel_rfl, fun w' h' => ?_⟩) hS ?_
          · clear h'
            go_simp
          simp only [Act.put]
          refine wpAnyH_take (i := 9) (oi := ⟨some 116, Op.fieldAddr 36 (Operand.tmp 9) 3, _, _, _, some (6, false)⟩) (v := (.pointer (some ⟨x, 3, none⟩))) rfl (by kernel_rfl) (by kernel_rfl) (by kernel_rfl) (fun _ _ _ h => h) (Or.inl ⟨by kernel_rfl, fun w' h' => ?_⟩) hS ?_
          · clear h'
            go_simp
          simp only [Act.put]
          refine wpAnyH_take (i := 10) (oi := ⟨some 117, Op.load 34 (Operand.tmp 116), _, _, _, some (6, false)⟩) (v := (.slice p1 D1.length c1)) rfl (by kernel_rfl) (by kernel_rfl) (by kernel_rfl) (fun _ _ _ h => h) (Or.inl ⟨by kernel_rfl, fun w' h' => ?_⟩) hS ?_
          · have c0 := (cells4 (P9.out.grow h').bx).2.2.2.1
            clear h'
            go_simp
          simp only [Act.put]
          refine wpAnyH_take (i := 11) (oi := ⟨some 118, Op.call { callee := Callee.builtin Builtin.len, args := #[(Operand.tmp 117)], argTypes := #[34] }, _, _, _, some (6, false)⟩) (v := (.int .i64 (D1.length : Int))) rfl (by kernel_rfl) (by kernel_rfl) (by kernel_rfl) (fun _ _ _ h => h) (Or.inl ⟨by kernel_rfl, fun w' h' => ?_⟩) hS ?_
          · clear h'
            go_simp
          simp only [Act.put]
          refine wpAnyH_ready (rs := [8]) (by kernel_rfl) (by simp) ?_
          refine AllReadyH.cons rfl (fun K hK => ?_) AllReadyH.nil
          go_simp
          refine (hHeld (P9.out.grow hS).rb.rb D1.length HDH.out).mono ?_
          rintro e w7 ⟨rfl, q7⟩
          have s3 := hS.trans (q7.mono hS.size)
          clear q7
          go_simp
          refine hK.out _ _ s3 (fun _ => ?_)
          clear hK K
          refine wpAnyH_take (i := 12) (oi := ⟨some 119, Op.binOp BinOp.neq 3 (Operand.tmp 115) (Operand.tmp 118) 3, _, _, _, some (6, false)⟩) (v := (.bool false)) rfl (by kernel_rfl) (by kernel_rfl) (by kernel_rfl) (fun _ _ _ h => h) (Or.inl ⟨by kernel_rfl, fun w' h' => ?_⟩) s3 ?_
          · clear h'
            go_simp
          simp only [Act.put]
          refine wpAnyH_take (i := 13) (oi := ⟨some 120, Op.pick (Operand.tmp 113) (Operand.const (Value.bool true)) (Operand.tmp 119), _, _, _, none⟩) (v := (.bool false)) rfl (by kernel_rfl) (by kernel_rfl) (by kernel_rfl) (fun _ _ _ h => h) (Or.inl ⟨by rfl, fun w' h' => ?_⟩) s3 ?_
          · clear h'
            go_simp
          simp only [Act.put]
          refine wpAnyH_take (i := 14) (oi := ⟨some 121, Op.move (Operand.tmp 120), _, _, _, none⟩) (v := (.bool false)) rfl (by kernel_rfl) (by kernel_rfl) (by kernel_rfl) (fun _ _ _ h => h) (Or.inl ⟨by rfl, fun w' h' => ?_⟩) s3 ?_
          · clear h'
            go_simp
          simp only [Act.put]
          refine wpAnyH_take (i := 15) (oi := ⟨some 122, Op.move (Operand.tmp 7), _, _, _, some (14, false)⟩) (v := (.pointer (some ⟨g, 0, none⟩))) rfl (by kernel_rfl) (by kernel_rfl) (by kernel_rfl) (fun _ _ _ h => h) (Or.inl ⟨by kernel_rfl, fun w' h' => ?_⟩) s3 ?_
          · clear h'
            go_simp
          simp only [Act.put]
          refine wpAnyH_take (i := 17) (oi := ⟨some 124, Op.fieldAddr 36 (Operand.tmp 9) 1, _, _, _, some (14, false)⟩) (v := (.pointer (some ⟨x, 1, none⟩))) rfl (by kernel_rfl) (by kernel_rfl) (by kernel_rfl) (fun _ _ _ h => h) (Or.inl ⟨by kernel_rfl, fun w' h' => ?_⟩) s3 ?_
          · clear h'
            go_simp
          simp only [Act.put]
          refine wpAnyH_take (i := 18) (oi := ⟨some 125, Op.load 26 (Operand.tmp 124), _, _, _, some (14, false)⟩) (v := (.int .u32 nx1)) rfl (by kernel_rfl) (by kernel_rfl) (by kernel_rfl) (fun _ _ _ h => h) (Or.inl ⟨by kernel_rfl, fun w' h' => ?_⟩) s3 ?_
          · have c0 := (cells4 (P9.out.grow h').bx).2.1
            clear h'
            go_simp
          simp only [Act.put]
          refine wpAnyH_ready (rs := [16]) (by kernel_rfl) (by simp) ?_
          refine AllReadyH.cons rfl (fun K hK => ?_) AllReadyH.nil
          go_simp
          refine (sNext (P9.out.grow s3).rb nx1 rfl).mono ?_
          rintro e w6 ⟨rfl, rfl⟩
          go_simp
          refine hK.out _ _ s3 (fun _ => ?_)
          clear hK K
          refine wpAnyH_take (i := 19) (oi := ⟨some 126, Op.binOp BinOp.neq 26 (Operand.tmp 123) (Operand.tmp 125) 26, _, _, _, some (14, false)⟩) (v := (.bool false)) rfl (by kernel_rfl) (by kernel_rfl) (by kernel_rfl) (fun _ _ _ h => h) (Or.inl ⟨by kernel_rfl, fun w' h' => ?_⟩) s3 ?_
          · clear h'
            go_simp
          simp only [Act.put]
          refine wpAnyH_take (i := 20) (oi := ⟨some 127, Op.pick (Operand.tmp 121) (Operand.const (Value.bool true)) (Operand.tmp 126), _, _, _, none⟩) (v := (.bool false)) rfl (by kernel_rfl) (by kernel_rfl) (by kernel_rfl) (fun _ _ _ h => h) (Or.inl ⟨by rfl, fun w' h' => ?_⟩) s3 ?_
          · clear h'
            go_simp
          simp only [Act.put]
          refine wpAnyH_take (i := 21) (oi := ⟨some 128, Op.move (Operand.tmp 127), _, _, _, none⟩) (v := (.bool false)) rfl (by kernel_rfl) (by kernel_rfl) (by kernel_rfl) (fun _ _ _ h => h) (Or.inl ⟨by rfl, fun w' h' => ?_⟩) s3 ?_
          · clear h'
            go_simp
          simp only [Act.put]
          refine wpAnyH_take (i := 22) (oi := ⟨some 129, Op.move (Operand.tmp 7), _, _, _, some (21, false)⟩) (v := (.pointer (some ⟨g, 0, none⟩))) rfl (by kernel_rfl) (by kernel_rfl) (by kernel_rfl) (fun _ _ _ h => h) (Or.inl ⟨by kernel_rfl, fun w' h' => ?_⟩) s3 ?_
          · clear h'
            go_simp
          simp only [Act.put]
          refine wpAnyH_take (i := 24) (oi := ⟨some 131, Op.load 36 (Operand.tmp 9), _, _, _, some (21, false)⟩) (v := (.agg #[.int .i64 (n : Int), .int .u32 nx1, .string S1, .slice p1 D1.length c1])) rfl (by kernel_rfl) (by kernel_rfl) (by kernel_rfl) (fun _ _ _ h => h) (Or.inl ⟨by kernel_rfl, fun w' h' => ?_⟩) s3 ?_
          · have c0 := (cells4 (P9.out.grow h').bx).1
            have c1 := (cells4 (P9.out.grow h').bx).2.1
            have c2 := (cells4 (P9.out.grow h').bx).2.2.1
            have c3 := (cells4 (P9.out.grow h').bx).2.2.2.1
            clear h'
            go_simp
          simp only [Act.put]
          refine wpAnyH_ready (rs := [23]) (by kernel_rfl) (by simp) ?_
          refine AllReadyH.cons rfl (fun K hK => ?_) AllReadyH.nil
          go_simp
          refine (hWin (P9.out.grow s3).rb.rb v HVL.out).mono ?_
          rintro e w5 ⟨rfl, q5⟩
          have s4 := s3.trans (q5.mono s3.size)
          clear q5
          go_simp
          refine hK.out _ _ s4 (fun _ => ?_)
          clear hK K
          refine wpAnyH_ready (rs := [25]) (by kernel_rfl) (by simp) ?_
          refine AllReadyH.cons rfl (fun K hK => ?_) AllReadyH.nil
          go_simp
          refine (rWindow _ n nx1 S1 (.slice p1 D1.length c1) v HSV.out (by have := HN2.out; omega)).mono ?_
          rintro e w4 ⟨rfl, q4⟩
          have s5 := s4.trans (q4.mono s4.size)
          clear q4
          go_simp
          refine hK.out _ _ s5 (fun _ => ?_)
          clear hK K
          refine wpAnyH_take (i := 26) (oi := ⟨some 133, Op.binOp BinOp.neq 3 (Operand.tmp 130) (Operand.tmp 132) 3, _, _, _, some (21, false)⟩) (v := (.bool false)) rfl (by kernel_rfl) (by kernel_rfl) (by kernel_rfl) (fun _ _ _ h => h) (Or.inl ⟨by kernel_rfl, fun w' h' => ?_⟩) s5 ?_
          · clear h'
            go_simp
          simp only [Act.put]
          refine wpAnyH_take (i := 27) (oi := ⟨some 134, Op.pick (Operand.tmp 128) (Operand.const (Value.bool true)) (Operand.tmp 133), _, _, _, none⟩) (v := (.bool false)) rfl (by kernel_rfl) (by kernel_rfl) (by kernel_rfl) (fun _ _ _ h => h) (Or.inl ⟨by rfl, fun w' h' => ?_⟩) s5 ?_
          · clear h'
            go_simp
          simp only [Act.put]
          refine wpAnyH_done (by kernel_rfl) (NoPanic.normal ?_) _
          try simp only [List.setIfInBounds_toArray, List.set_cons_zero, List.set_cons_succ]
          go_wp2_with fail
          go_roundw
          case rel => exact ⟨k + 1, nx1, R1, V1, S1, p1, c1, D1, by omega, by go_num, Lib.hid (P9.out.grow s5), D9, S9⟩
          case measure => simp [intOf]; omega
    · obtain rfl : k = len := by omega
      have q3 : decide ((k : Int) < (k : Int)) = false := by simp
      go_wp2_with fail
      go_ret
      exact ⟨rfl, BL0.out.trans (HP.out.rb.bl.mono BL0.out.size)⟩
theorem walk (a0 a1 : Int) (p : Option Addr) (len cap : Nat) (l : List Act12) (w : World) (w0 : (Lit.int .u32 a0).wf = true) (w1 : (Lit.int .i64 a1).wf = true) (w2 : IsActs12 w p len l) :
    Calls Try.prog 4 #[.int .u32 a0, .int .i64 a1, .slice p len cap] w fun e w' => e = .returned (.bool true) ∧ Below w.heap.size w w' := by
  have b0 := sq_u32 w0
  cases hg : great12 l with
  | true => exact walk_out a0 a1 p len cap l w2 (.inl hg)
  | false =>
    by_cases h1 : a1 < 1
    · exact walk_bad a0 a1 p len cap l w2 hg (.inl h1)
    by_cases h2 : 2048 < a1
    · exact walk_bad a0 a1 p len cap l w2 hg (.inr h2)
    by_cases h3 : 300 < a1
    · exact walk_out a0 a1 p len cap l w2 (.inr ⟨hg, h3, by omega⟩)
    obtain ⟨n, rfl⟩ := Int.eq_ofNat_of_zero_le (show 0 ≤ a1 by omega)
    exact walk_main a0 n b0 (by omega) (by omega) p len cap l w2 hg
set_option maxRecDepth 100000 in
theorem lifted (os : Os) (started : os.Started) (H : Type) (enc : TypeId × Value → H) :
    ReturnsInHanded {} Try.checked os 4 .any (Rows.rbufPlaysSpec.pre6 enc Try.prog Try.f4 Rows.rbufPlaysRow.domain false) (Rows.rbufPlaysSpec.post enc Try.prog Try.f4 false true false false) := by
  refine returnsInHanded_of_change (C := Try.checked) own started (by kernel_rfl) Try.func4
    (ChangeSpec.witness6 (enc := enc) (C := Try.checked) false ⟨#[], #[.int .u32 0, .int .i64 0, .slice none 0 0], []⟩ 8 (by kernel_rfl) (by kernel_rfl) (by kernel_rfl) (by kernel_rfl)) ?_
  intro W base args ds gs before hval0 hW hcnd _
  have hval : ∀ (j : Nat) t v, Try.f4.params[j]? = some t → args[j]? = some v → Value.okWide Try.prog W .any base t v := hval0
  have hW' := hW
  obtain ⟨p, q, hA0, hV, rfl, hfz, hnd⟩ := hW
  have hA : DataW.TrodAll enc Try.prog W 0 (fun _ => true) true Try.f4.params.toList args.toList ds p := hA0
  rw [Try.params4] at hA hval
  obtain ⟨v0, vs0, d0, ds0, p0, q0, hargs, rfl, rfl, h0, r0⟩ := trodAll_cons hA
  obtain ⟨v1, vs1, d1, ds1, p1, q1, rfl, rfl, rfl, h1, r1⟩ := trodAll_cons r0
  obtain ⟨v2, vs2, d2, ds2, p2, q2, rfl, rfl, rfl, h2, r2⟩ := trodAll_cons r1
  obtain ⟨rfl, rfl, rfl⟩ := trodAll_nil r2
  obtain rfl : args = #[v0, v1, v2] := by cases args; simp_all
  obtain ⟨rfl, rfl⟩ := trodVars_none hV
  obtain ⟨a0, rfl, rfl, rfl, w0⟩ := open_int Try.underlying26 (hval 0 26 v0 rfl rfl) h0
  obtain ⟨a1, rfl, rfl, rfl, w1⟩ := open_int Try.underlying3 (hval 1 3 v1 rfl rfl) h1
  obtain ⟨a2, len2, cap2, rfl⟩ := okWide_slice Try.underlying32 (hval 2 32 v2 rfl rfl)
  have k2 := h2
  have lt2 : ∀ x ∈ p2, x.block < W.heap.size := by obtain ⟨m, hm⟩ := k2; exact DataW.trod_lt m _ _ _ hm
  obtain ⟨l2, w2⟩ : ∃ l, IsActs12 W a2 len2 l := by obtain ⟨fuel, hf⟩ := h2; exact open_acts12 hf
  clear hA0 hval0
  refine (walk a0 a1 a2 len2 cap2 l2 W w0 w1 w2).mono fun e W' ⟨he, bel⟩ => ?_
  subst he
  exact ⟨_, rfl, _, _, _, [], _, [], hW', trodAll_mk1 (shut_bool Try.underlying4 _), (trodAll_cons_mk (shut_int Try.underlying26 w0) (trodAll_cons_mk (shut_int Try.underlying3 w1) (trodAll_cons_mk (Below.trod laidOut (by kernel_rfl) (of_decide_eq_true (by kernel_rfl)) k2 bel lt2) trodAll_mk0))), rfl, bel.frame _, fun h => by cases h⟩

/-- THE STATEMENT. -/
theorem proved : Rows.RbufPlaysSaid :=
  OpenClaim.holds_of_wide 4 Try.f4 rfl rfl rfl rfl rfl rfl rfl ⟨rfl, rfl, rfl, rfl, rfl⟩ rfl rfl rfl rfl rfl (by kernel_rfl) Try.func4 (by kernel_rfl)
    (of_decide_eq_true (by kernel_rfl)) (by unfold Func.isWrapper; first | (rw [if_pos (by decide +kernel)]; kernel_rfl) | (rw [if_neg (by decide +kernel)]; exact ⟨rfl, rfl⟩))
    (fun os started H enc _ => lifted os started H enc)
#print axioms proved

end Go.Proofs.Ytgbjedngmdpheaa.rbp
