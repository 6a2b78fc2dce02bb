/-
  Layer 2: the document's Next once more: the buffers that it answers lie in a block of buffers. Conditions: as at rNext_any.
-/
import Derived.Test.YtjelgifijhcnnaaVPn
namespace Go.Proofs.Ytjelgifijhcnnaa
open Go.RowKit Go.Sort
set_option linter.unusedVariables false

/-- A slice whose own block, where it has one, is one of buffers. -/
def OwnT (w : World) (v : Value) : Prop := ∀ k, v.ownBlock = some k → ∃ cur r, w.heap[k]? = some (.cells cur 66 r)
def BufsT (w : World) (v : Value) (l : List Bf) : Prop := IsBufs w v l ∧ OwnT w v
theorem bufsT_nil (w : World) : BufsT w (.slice none 0 0) [] := ⟨bufs_nil w, fun k e => by cases e⟩
theorem bufsT_of_row {w : World} {v : Value} {l : List Bf} (h : RowA 3 bfCells 66 w v l) (hl : l.length ≤ 1000) : BufsT w v l := ⟨bufs_of_row h hl, fun k e => by
  rcases h.2 with ⟨rfl, _⟩ | ⟨b, cap, cur, rfl, _, h2, _⟩
  · cases e
  · injection e with e
    have e' : b = k := e
    subst e'
    exact ⟨cur, _, h2⟩⟩

/-- What the document's Next comes to. -/
def NextPostT (w : World) (base n taken told : Int) (r : Int × List Bf × Int) (e : Ending) (w' : World) : Prop :=
  ∃ v, e = .returned (.tuple #[.agg #[.int .i64 base, .int .i64 n, .int .i64 (if r.2.2 = 0 then (taken + 1) % 65536 else taken), .int .i64 told], .int .i64 r.1, v, .int .i64 r.2.2]) ∧ BufsT w' v r.2.1 ∧ Below w.heap.size w w'
set_option maxRecDepth 100000 in
set_option maxHeartbeats 8000000 in
theorem rNextT_any (base taken told : Int) (n : Nat) (l : List UInt8) (w : World) (hl : l.length ≤ 5000) (hb0 : 0 ≤ base) (hb1 : base ≤ 5000) (hn1 : 1 ≤ n) (hn2 : n ≤ 64) (ht0 : 0 ≤ taken) (ht1 : taken ≤ 65535) :
    Calls Try.prog 41 #[.agg #[.int .i64 base, .int .i64 n, .int .i64 taken, .int .i64 told], .string ⟨l.toArray⟩] w
      (NextPostT w base n taken told (nextF l base n taken)) := by
  have hl' : l.length ≤ 9223372036854775807 := by omega
  obtain ⟨idx, hidx⟩ : ∃ x, x = G2 l (base + 16 * n + 2) := ⟨_, rfl⟩
  obtain ⟨R, hR⟩ : ∃ R, R = nextF l base n taken := ⟨_, rfl⟩
  rw [← hR]
  have hib := G2_bd l (base + 16 * n + 2)
  rw [← hidx] at hib
  obtain ⟨i0, i1⟩ := hib
  have S0 := ((RaG.start 3 bfCells 66 w).push (.cells #[.int .i64 base, .int .i64 n, .int .i64 taken, .int .i64 told] 42)).push (.cells #[.int .i64 0, .int .i64 0, .int .i64 0, .int .i64 0] 42)
  rw [show (w.alloc (.cells #[.int .i64 base, .int .i64 n, .int .i64 taken, .int .i64 told] 42)).heap.size = w.heap.size + 1 from by simp] at S0
  have HS0 := Lib.hid S0
  have HI := Lib.hid hidx
  have HR := Lib.hid hR
  clear hidx hR S0
  go_enter Try.func41, Try.ntmps41
  go_upto_region 1 with fail
  generalize (w.alloc _).alloc _ = W1 at HS0 ⊢
  obtain ⟨m2, hm⟩ : ∃ m, m = w.heap.size + 1 := ⟨_, rfl⟩
  rw [← hm] at HS0 ⊢
  have hm2 : w.heap.size ≤ m2 := by omega
  have h12 : w.heap.size ≠ m2 := by omega
  clear hm
  obtain ⟨m1, hm⟩ : ∃ m, m = w.heap.size := ⟨_, rfl⟩
  rw [← hm] at HS0 h12 ⊢
  have hm1 : w.heap.size ≤ m1 := by omega
  clear hm
  have P1 : PoAt W1 m1 base n taken told := HS0.out.get (.tail _ (.head _))
  have P2 : PoAt W1 m2 0 0 0 0 := HS0.out.get (.head _)
  obtain ⟨c0, c1, c2, c3⟩ := po_all P1
  go_wp2_with fail
  refine (rget2 _ l _ hl').mono ?_
  rintro e w1 ⟨rfl, rfl⟩
  rw [← HI.out]
  by_cases hz : idx = taken
  · have hzb : (idx == taken) = true := beq_iff_eq.2 hz
    have hRv : R = (0, [], 4) := by rw [HR.out]; unfold nextF; rw [← HI.out, if_pos hz]
    subst hRv
    clear hz
    obtain ⟨hst, hp2⟩ := po_store P2 base n (taken) told
    go_wp2_with (refine wpl_store_at 42 _ _ rfl rfl rfl _ m2 0 rfl rfl hst ?_)
    exact bodyPost_ret (v := .tuple #[.agg #[.int .i64 base, .int .i64 n, .int .i64 (taken), .int .i64 told], .int .i64 0, .slice none 0 0, .int .i64 4]) (results_row4 _ 4 5 6 7 42 (by kernel_rfl) _ m2 _ _ _ _ _ _ rfl rfl rfl rfl hp2 Try.underlying42 rfl (by kernel_rfl)) rfl ⟨_, rfl, bufsT_nil _, below_setRow HS0.out.bl hm2 _⟩
  · have hzb : (idx == taken) = false := beq_eq_false_iff_ne.2 hz
    obtain ⟨D, hD⟩ : ∃ D, D = (idx - taken) % 65536 := ⟨_, rfl⟩
    have hD0 : 1 ≤ D ∧ D ≤ 65535 := by omega
    obtain ⟨D0, D1⟩ := hD0
    obtain ⟨r, hr⟩ : ∃ r, taken % n = r := ⟨_, rfl⟩
    have hr0 : 0 ≤ taken % n := Int.emod_nonneg _ (by omega)
    have hr1 : taken % n < n := Int.emod_lt_of_pos _ (by omega)
    rw [hr] at hr0 hr1
    obtain ⟨hd, hhd⟩ : ∃ x, x = G2 l (base + 16 * n + 4 + 2 * r) := ⟨_, rfl⟩
    have hdb := G2_bd l (base + 16 * n + 4 + 2 * r)
    rw [← hhd] at hdb
    obtain ⟨hd0, hd1⟩ := hdb
    obtain ⟨C, hC⟩ : ∃ C, C = chainF l base n n hd [] := ⟨_, rfl⟩
    have hRv : R = if D ≤ n then (match C with | some r => (hd, r, (0 : Int)) | none => ((0 : Int), [], (8 : Int))) else ((0 : Int), [], (8 : Int)) := by
      rw [HR.out]
      unfold nextF
      rw [← HI.out, if_neg hz, ← hD, hr, ← hhd, ← hC]
      cases C <;> rfl
    have HRv := Lib.hid hRv
    have HC := Lib.hid hC
    have Hhd := Lib.hid hhd
    have HD := Lib.hid hD
    have Hz := Lib.hid hz
    clear hRv hC hhd hD hz HR HI
    have HP1 := Lib.hid P1
    have HP2 := Lib.hid P2
    clear P1 P2
    go_wp2_with fail
    go_loop [10] (fun a => ∃ v : Int, 0 ≤ v ∧ v ≤ D ∧ a = .int .i64 v) (fun a => (D + 1 - intOf a).toNat)
    case atStart => exact ⟨0, by omega, by omega, rfl⟩
    case round =>
      obtain ⟨v, v0, v1, rfl⟩ := hrel
      by_cases hv : v = D
      · subst hv
        have hb : ((taken + v) % 65536 == idx) = true := beq_iff_eq.2 ((mod_step taken idx v i0 i1 v0 (by rw [← HD.out]; omega)).2 HD.out)
        go_wp2_with fail
        refine (rget2 _ l _ hl').mono ?_
        rintro e w1 ⟨rfl, rfl⟩
        rw [← Hhd.out]
        have Hb : Hid (((taken + v) % 65536 == idx) = true) := Lib.hid hb
        clear hb c0 c1 c2 c3
        go_wp2_with fail
        go_loopw [12, 13] (fun lv iv wr => ∃ (acc : List Bf) (i : Int) (f : Nat), iv = .int .i64 i ∧ 0 ≤ i ∧ i ≤ 65535 ∧ f + acc.length = n ∧ Hid (chainF l base n f i acc = C) ∧ Hid (RaG 3 bfCells 66 w wr [(m2, .cells #[.int .i64 0, .int .i64 0, .int .i64 0, .int .i64 0] 42), (m1, .cells #[.int .i64 base, .int .i64 n, .int .i64 taken, .int .i64 told] 42)] lv acc)) (fun lv iv wr => n - (match lv with | .slice _ k _ => k | _ => 0))
        case atStart => exact ⟨[], hd, n, rfl, hd0, hd1, rfl, Lib.hid HC.out.symm, HS0⟩
        case round =>
          obtain ⟨acc, i, f, rfl, i0', i1', hf, HCh, SS⟩ := hrel
          obtain ⟨lp, lc, hlv⟩ := SS.out.acc.shape
          subst hlv
          have Q1 : PoAt wr m1 base n taken told := SS.out.get (.tail _ (.head _))
          have Q2 : PoAt wr m2 0 0 0 0 := SS.out.get (.head _)
          obtain ⟨c0, c1, c2, c3⟩ := po_all Q1
          by_cases hgo : v ≤ n ∧ i < n ∧ acc.length < n
          · obtain ⟨h1, h2, h3⟩ := hgo
            obtain ⟨f', rfl⟩ : ∃ f', f = f' + 1 := ⟨f - 1, by omega⟩
            obtain ⟨fl, hfl⟩ : ∃ x, x = G2 l (base + 16 * i + 12) := ⟨_, rfl⟩
            obtain ⟨xa, hxa⟩ : ∃ x, x = G8 l (base + 16 * i) := ⟨_, rfl⟩
            obtain ⟨xn, hxn⟩ : ∃ x, x = G4 l (base + 16 * i + 8) := ⟨_, rfl⟩
            obtain ⟨nx, hnx⟩ : ∃ x, x = G2 l (base + 16 * i + 14) := ⟨_, rfl⟩
            obtain ⟨xw, hxw⟩ : ∃ x, (fl / 2 % 2 == 1) = x := ⟨_, rfl⟩
            have b1 := G2_bd l (base + 16 * i + 12)
            have b2 := G2_bd l (base + 16 * i + 14)
            rw [← hfl] at b1
            rw [← hnx] at b2
            obtain ⟨fl0, fl1⟩ := b1
            obtain ⟨nx0, nx1⟩ := b2
            have hx : bufAt l base i = ⟨xa, xn, xw⟩ := by unfold bufAt; rw [← hfl, ← hxa, ← hxn, hxw]
            have hstep : C = if badBuf l acc ⟨xa, xn, xw⟩ then none else if fl % 2 = 0 then some (acc ++ [⟨xa, xn, xw⟩]) else chainF l base n f' nx (acc ++ [⟨xa, xn, xw⟩]) := by
              rw [← HCh.out]
              conv => lhs; unfold chainF
              rw [if_pos h2, hx, ← hfl, ← hnx]
            obtain ⟨T2, hT2⟩ : ∃ x, (textE l xa xn == 0) = x := ⟨_, rfl⟩
            obtain ⟨lw, hlw⟩ : ∃ x, x = (match acc.getLast? with | some y => y.wr | none => false) := ⟨_, rfl⟩
            have hbad : badBuf l acc ⟨xa, xn, xw⟩ = (decide (xn < 1) || !T2 || (lw && !xw)) := by
              show (decide (xn < 1) || !(textE l xa xn == 0) || ((match acc.getLast? with | some y => y.wr | none => false) && !xw)) = _
              rw [hT2, ← hlw]
            rw [hbad] at hstep
            have hlast : Hid (∀ (h0 : 0 < acc.length), lw = (acc[acc.length - 1]'(by omega)).wr) := Lib.hid (fun h0 => by
              rw [hlw, List.getLast?_eq_getElem?, List.getElem?_eq_getElem (by omega)])
            have hlast0 : Hid (acc.length = 0 → lw = false) := Lib.hid (fun h0 => by
              rw [hlw, List.length_eq_zero_iff.1 h0]; rfl)
            have IC := fun W0 => rinside_any W0 l xa xn xw hl'
            rw [hT2] at IC
            have IC' := Lib.hid IC
            have HS := Lib.hid hstep
            have Hfl := Lib.hid hfl
            have Hxa := Lib.hid hxa
            have Hxn := Lib.hid hxn
            have Hnx := Lib.hid hnx
            have Hxw := Lib.hid hxw
            have h3' : decide (acc.length < n) = true := decide_eq_true h3
            have hle : acc.length ≤ 64 := by omega
            clear hfl hxa hxn hnx hstep hT2 hlw hbad IC hx HCh
            go_wp2_with fail
            refine (rget2 _ l _ hl').mono ?_
            rintro e w1 ⟨rfl, rfl⟩
            rw [← Hfl.out]
            go_wp2_with fail
            refine (rget8 _ l _ hl').mono ?_
            rintro e w1 ⟨rfl, rfl⟩
            rw [← Hxa.out]
            go_wp2_with fail
            refine (rget4 _ l _ hl').mono ?_
            rintro e w1 ⟨rfl, rfl⟩
            rw [← Hxn.out]
            go_upto_region 15 with fail
            have S5 := Lib.hid (SS.out.push (.cells #[.int .i64 xa, .int .i64 xn, .bool xw] 66))
            obtain ⟨n5, hn⟩ : ∃ m, m = wr.heap.size := ⟨_, rfl⟩
            clear c0 c1 c2 c3 Q1 Q2
            generalize wr.alloc _ = W5 at S5 ⊢
            rw [← hn] at S5 ⊢
            clear hn SS Hxw hxw
            have bx : ∀ {W : World} {y : Bool}, W.heap[n5]? = some (.cells #[.int .i64 xa, .int .i64 xn, .bool y] 66 (0, 0)) → W.cell? ⟨n5, 0, none⟩ = some (.int .i64 xa) ∧ W.cell? ⟨n5, 1, none⟩ = some (.int .i64 xn) ∧ W.cell? ⟨n5, 2, none⟩ = some (.bool y) := fun h => ⟨by rw [cell_of_block h]; rfl, by rw [cell_of_block h]; rfl, by rw [cell_of_block h]; rfl⟩
            obtain ⟨x0, x1, x2⟩ := bx (S5.out.get (.head _))
            have Q1 : PoAt W5 m1 base n taken told := S5.out.get (.tail _ (.tail _ (.head _)))
            have Q2 : PoAt W5 m2 0 0 0 0 := S5.out.get (.tail _ (.head _))
            obtain ⟨c0, c1, c2, c3⟩ := po_all Q1
            by_cases hn : xn < 1
            · have hnb : decide (xn < 1) = true := by simpa using hn
              have hRe : R = (0, [], 8) := by
                rw [HRv.out, if_pos h1, HS.out]
                simp [hn]
              subst hRe
              obtain ⟨hst, hp2⟩ := po_store Q2 base n (taken) told
              go_wp2_with (refine wpl_store_at 42 _ _ rfl rfl rfl _ m2 0 rfl rfl hst ?_)
              exact bodyPost_ret (v := .tuple #[.agg #[.int .i64 base, .int .i64 n, .int .i64 (taken), .int .i64 told], .int .i64 0, .slice none 0 0, .int .i64 8]) (results_row4 _ 4 5 6 7 42 (by kernel_rfl) _ m2 _ _ _ _ _ _ rfl rfl rfl rfl hp2 Try.underlying42 rfl (by kernel_rfl)) rfl ⟨_, rfl, bufsT_nil _, below_setRow S5.out.bl hm2 _⟩
            · have hnb : decide (xn < 1) = false := by simpa using hn
              cases T2 with
              | false =>
                have hRe : R = (0, [], 8) := by
                  rw [HRv.out, if_pos h1, HS.out]
                  simp [hn]
                subst hRe
                go_upto_region 16 with (go_at_call 71; refine (IC'.out _).mono ?_; rintro e w6 ⟨rfl, k6⟩; have S6 := Lib.hid (S5.out.grow (below_grown k6)); clear k6)
                clear x0 x1 x2 c0 c1 c2 c3 Q1 Q2
                have Q1 : PoAt w6 m1 base n taken told := S6.out.get (.tail _ (.tail _ (.head _)))
                have Q2 : PoAt w6 m2 0 0 0 0 := S6.out.get (.tail _ (.head _))
                obtain ⟨c0, c1, c2, c3⟩ := po_all Q1
                obtain ⟨hst, hp2⟩ := po_store Q2 base n (taken) told
                go_wp2_with (refine wpl_store_at 42 _ _ rfl rfl rfl _ m2 0 rfl rfl hst ?_)
                exact bodyPost_ret (v := .tuple #[.agg #[.int .i64 base, .int .i64 n, .int .i64 (taken), .int .i64 told], .int .i64 0, .slice none 0 0, .int .i64 8]) (results_row4 _ 4 5 6 7 42 (by kernel_rfl) _ m2 _ _ _ _ _ _ rfl rfl rfl rfl hp2 Try.underlying42 rfl (by kernel_rfl)) rfl ⟨_, rfl, bufsT_nil _, below_setRow S6.out.bl hm2 _⟩
              | true =>
                by_cases ha : acc.length = 0
                · have hgood : (lw && !xw) = false := by rw [hlast0.out ha]; rfl
                  clear hlast hlast0
                  obtain rfl : acc = [] := List.length_eq_zero_iff.1 ha
                  clear ha
                  go_upto_region 17 with (go_at_call 71; refine (IC'.out _).mono ?_; rintro e w6 ⟨rfl, k6⟩; have S6 := Lib.hid (S5.out.grow (below_grown k6)); clear k6)
                  have HS2 : Hid (C = if fl % 2 = 0 then some (([] : List Bf) ++ [⟨xa, xn, xw⟩]) else chainF l base n f' nx (([] : List Bf) ++ [⟨xa, xn, xw⟩])) := Lib.hid (by rw [HS.out, hnb, hgood]; rfl)
                  clear x0 x1 x2 c0 c1 c2 c3 Q1 Q2
                  have Q1 : PoAt w6 m1 base n taken told := S6.out.get (.tail _ (.tail _ (.head _)))
                  have Q2 : PoAt w6 m2 0 0 0 0 := S6.out.get (.tail _ (.head _))
                  obtain ⟨c0, c1, c2, c3⟩ := po_all Q1
                  obtain ⟨y0, y1, y2⟩ := bx (S6.out.get (.head _))
                  have HA := Lib.hid (S6.out.alloc (.cells #[.int .i64 xa, .int .i64 xn, .bool xw] 66))
                  have HNW := Lib.hid (bf_new w6 ⟨xa, xn, xw⟩)
                  have hll : ([] : List Bf).length ≤ 1000000 := by omega
                  go_upto_region 18 with (refine wpList_append_bf rfl (.tmp 120) (.tmp 122) rfl _ _ rfl HA.out.acc hll ⟨w6.heap.size, 0, none⟩ 1 ⟨xa, xn, xw⟩ rfl HNW.out ?_; intro v' w7 hrow hgr hbl2; have S7 := Lib.hid (HA.out.app hgr hrow hbl2); clear hrow hgr hbl2)
                  clear c0 c1 c2 c3 Q1 Q2 y0 y1 y2 HA HNW
                  obtain ⟨p', c', hv'⟩ := S7.out.acc.shape
                  subst hv'
                  have Q1 : PoAt w7 m1 base n taken told := S7.out.get (.tail _ (.tail _ (.head _)))
                  have Q2 : PoAt w7 m2 0 0 0 0 := S7.out.get (.tail _ (.head _))
                  obtain ⟨c0, c1, c2, c3⟩ := po_all Q1
                  by_cases he : fl % 2 = 0
                  · have heb : (fl % 2 == 0) = true := by simpa using he
                    have hRe : R = (hd, ([] : List Bf) ++ [⟨xa, xn, xw⟩], 0) := by
                      rw [HRv.out, if_pos h1, HS2.out, if_pos he]
                    subst hRe
                    have f2 := po_free Q1 2
                    obtain ⟨T, hT⟩ : ∃ T, T = (taken + 1) % 65536 := ⟨_, rfl⟩
                    have P8 : PoAt (w7.setCell ⟨m1, 2, none⟩ (.int .i64 ((taken + 1) % 65536))) m1 base n ((taken + 1) % 65536) told := set_block Q1 2 _
                    have P9 : PoAt (w7.setCell ⟨m1, 2, none⟩ (.int .i64 ((taken + 1) % 65536))) m2 0 0 0 0 := (Below.heap_setCell _ _ _ _ (Ne.symm h12)).trans Q2
                    have hk1 : ∀ b, (Value.slice p' (([] : List Bf) ++ [⟨xa, xn, xw⟩] : List Bf).length c').ownBlock = some b → b ≠ m1 := (S7.out.fx _ (.tail _ (.tail _ (.head _)))).2
                    have hk2 : ∀ b, (Value.slice p' (([] : List Bf) ++ [⟨xa, xn, xw⟩] : List Bf).length c').ownBlock = some b → b ≠ m2 := (S7.out.fx _ (.tail _ (.head _))).2
                    have BL8 := Lib.hid (S7.out.bl.setCell (p := ⟨m1, 2, none⟩) hm1 (.int .i64 ((taken + 1) % 65536)))
                    have R8 : Hid (RowA 3 bfCells 66 (w7.setCell ⟨m1, 2, none⟩ (.int .i64 ((taken + 1) % 65536))) (.slice p' (([] : List Bf) ++ [⟨xa, xn, xw⟩] : List Bf).length c') (([] : List Bf) ++ [⟨xa, xn, xw⟩])) := Lib.hid (S7.out.acc.kept (by simp [World.setCell]) (fun b hb => Below.heap_setCell _ _ _ _ (hk1 b hb)))
                    have HK2 := Lib.hid hk2
                    have HLE : Hid ((([] : List Bf) ++ [⟨xa, xn, xw⟩] : List Bf).length ≤ 1000) := Lib.hid (by rw [List.length_append]; simp <;> omega)
                    clear hk1 hk2 hT
                    go_upto_region 20 with fail
                    clear c0 c1 c2 c3 Q1 Q2 f2
                    generalize w7.setCell _ _ = W8 at P8 P9 BL8 R8 ⊢
                    obtain ⟨T, hT⟩ : ∃ T, T = (taken + 1) % 65536 := ⟨_, rfl⟩
                    obtain ⟨c0, c1, c2, c3⟩ := po_all P8
                    obtain ⟨hst, hp2⟩ := po_store P9 base n ((taken + 1) % 65536) told
                    go_wp2_with (refine wpl_store_at 42 _ _ rfl rfl rfl _ m2 0 rfl rfl hst ?_)
                    exact bodyPost_ret (v := .tuple #[.agg #[.int .i64 base, .int .i64 n, .int .i64 ((taken + 1) % 65536), .int .i64 told], .int .i64 hd, .slice p' (([] : List Bf) ++ [⟨xa, xn, xw⟩] : List Bf).length c', .int .i64 0]) (results_row4 _ 4 5 6 7 42 (by kernel_rfl) _ m2 _ _ _ _ _ _ rfl rfl rfl rfl hp2 Try.underlying42 rfl (by kernel_rfl)) rfl ⟨_, rfl, bufsT_of_row (by have r := R8.out.kept (w' := W8.setRow m2 #[.int .i64 base, .int .i64 n, .int .i64 ((taken + 1) % 65536), .int .i64 told]) (by simp) (fun b hb => setRow_other _ _ _ _ (HK2.out b hb)); exact r) HLE.out, below_setRow BL8.out hm2 _⟩
                  · have heb : (fl % 2 == 0) = false := by simpa using he
                    have HC2 : Hid (chainF l base n f' nx (([] : List Bf) ++ [⟨xa, xn, xw⟩]) = C) := Lib.hid (by rw [HS2.out, if_neg he])
                    clear he
                    go_wp2_with fail
                    refine (rget2 _ l _ hl').mono ?_
                    rintro e w8 ⟨rfl, rfl⟩
                    rw [← Hnx.out]
                    go_wp2_with fail
                    go_roundw
                    case rel => exact ⟨([] : List Bf) ++ [⟨xa, xn, xw⟩], nx, f', rfl, nx0, nx1, by rw [List.length_append]; simp <;> omega, HC2, Lib.hid (by have r := S7.out.drop; first | exact r | (simp only [List.length_append, List.length_cons, List.length_nil, Nat.zero_add] at r; exact r) | (simpa using r))⟩
                    case measure => first | omega | (simp; omega)
                · obtain ⟨kk, hkk⟩ : ∃ k, acc.length = k + 1 := ⟨acc.length - 1, by omega⟩
                  obtain ⟨bb, cap7, hv7, hcap, hcm, hbl, hfz, _⟩ := RowA.elem bf_len S5.out.acc (by omega)
                  injection hv7 with hv7 _ hc7
                  subst hv7 hc7
                  have hga : decide ((0 : Int) < (acc.length : Int)) = true := decide_eq_true (by omega)
                  have hwk : IntKind.i64.wrap ((acc.length : Int) - 1) = (kk : Int) := by rw [IntWalk.i64_in _ (by omega)]; omega
                  have q1 : (0 : Int) ≤ (kk : Int) := by omega
                  have q2 : (kk : Int) < (acc.length : Int) := by omega
                  have LC : Hid (∀ W, RaG 3 bfCells 66 w W ((n5, .cells #[.int .i64 xa, .int .i64 xn, .bool xw] 66) :: [(m2, .cells #[.int .i64 0, .int .i64 0, .int .i64 0, .int .i64 0] 42), (m1, .cells #[.int .i64 base, .int .i64 n, .int .i64 taken, .int .i64 told] 42)]) (.slice (some ⟨bb, 0, none⟩) acc.length lc) acc → W.cell? ⟨bb, kk * 3 + 2, none⟩ = some (.bool lw)) := Lib.hid (fun W h => by
                    obtain ⟨b', cap', hv', _, _, _, _, hE⟩ := RowA.elem bf_len h.acc (by omega)
                    injection hv' with hv' _ _; injection hv' with hv'; injection hv' with hv'
                    subst hv'
                    have e := hE kk (by omega) 2 _ rfl
                    rw [e, hlast.out (by omega)]
                    simp only [hkk, Nat.add_sub_cancel])
                  have HKK := Lib.hid hkk
                  clear hlast hlast0 ha hcap hcm hfz hkk
                  cases lw with
                  | false =>
                    have hgood : (false && !xw) = false := rfl
                    go_upto_region 17 with (go_at_call 71; refine (IC'.out _).mono ?_; rintro e w6 ⟨rfl, k6⟩; have S6 := Lib.hid (S5.out.grow (below_grown k6)); clear k6; have lcell := LC.out _ S6.out)
                    have HS2 : Hid (C = if fl % 2 = 0 then some (acc ++ [⟨xa, xn, xw⟩]) else chainF l base n f' nx (acc ++ [⟨xa, xn, xw⟩])) := Lib.hid (by rw [HS.out, hnb, hgood]; rfl)
                    clear x0 x1 x2 c0 c1 c2 c3 Q1 Q2
                    have Q1 : PoAt w6 m1 base n taken told := S6.out.get (.tail _ (.tail _ (.head _)))
                    have Q2 : PoAt w6 m2 0 0 0 0 := S6.out.get (.tail _ (.head _))
                    obtain ⟨c0, c1, c2, c3⟩ := po_all Q1
                    obtain ⟨y0, y1, y2⟩ := bx (S6.out.get (.head _))
                    have HA := Lib.hid (S6.out.alloc (.cells #[.int .i64 xa, .int .i64 xn, .bool xw] 66))
                    have HNW := Lib.hid (bf_new w6 ⟨xa, xn, xw⟩)
                    have hll : acc.length ≤ 1000000 := by omega
                    go_upto_region 18 with (refine wpList_append_bf rfl (.tmp 120) (.tmp 122) rfl _ _ rfl HA.out.acc hll ⟨w6.heap.size, 0, none⟩ 1 ⟨xa, xn, xw⟩ rfl HNW.out ?_; intro v' w7 hrow hgr hbl2; have S7 := Lib.hid (HA.out.app hgr hrow hbl2); clear hrow hgr hbl2)
                    clear c0 c1 c2 c3 Q1 Q2 y0 y1 y2 HA HNW
                    obtain ⟨p', c', hv'⟩ := S7.out.acc.shape
                    subst hv'
                    have Q1 : PoAt w7 m1 base n taken told := S7.out.get (.tail _ (.tail _ (.head _)))
                    have Q2 : PoAt w7 m2 0 0 0 0 := S7.out.get (.tail _ (.head _))
                    obtain ⟨c0, c1, c2, c3⟩ := po_all Q1
                    by_cases he : fl % 2 = 0
                    · have heb : (fl % 2 == 0) = true := by simpa using he
                      have hRe : R = (hd, acc ++ [⟨xa, xn, xw⟩], 0) := by
                        rw [HRv.out, if_pos h1, HS2.out, if_pos he]
                      subst hRe
                      have f2 := po_free Q1 2
                      obtain ⟨T, hT⟩ : ∃ T, T = (taken + 1) % 65536 := ⟨_, rfl⟩
                      have P8 : PoAt (w7.setCell ⟨m1, 2, none⟩ (.int .i64 ((taken + 1) % 65536))) m1 base n ((taken + 1) % 65536) told := set_block Q1 2 _
                      have P9 : PoAt (w7.setCell ⟨m1, 2, none⟩ (.int .i64 ((taken + 1) % 65536))) m2 0 0 0 0 := (Below.heap_setCell _ _ _ _ (Ne.symm h12)).trans Q2
                      have hk1 : ∀ b, (Value.slice p' (acc ++ [⟨xa, xn, xw⟩] : List Bf).length c').ownBlock = some b → b ≠ m1 := (S7.out.fx _ (.tail _ (.tail _ (.head _)))).2
                      have hk2 : ∀ b, (Value.slice p' (acc ++ [⟨xa, xn, xw⟩] : List Bf).length c').ownBlock = some b → b ≠ m2 := (S7.out.fx _ (.tail _ (.head _))).2
                      have BL8 := Lib.hid (S7.out.bl.setCell (p := ⟨m1, 2, none⟩) hm1 (.int .i64 ((taken + 1) % 65536)))
                      have R8 : Hid (RowA 3 bfCells 66 (w7.setCell ⟨m1, 2, none⟩ (.int .i64 ((taken + 1) % 65536))) (.slice p' (acc ++ [⟨xa, xn, xw⟩] : List Bf).length c') (acc ++ [⟨xa, xn, xw⟩])) := Lib.hid (S7.out.acc.kept (by simp [World.setCell]) (fun b hb => Below.heap_setCell _ _ _ _ (hk1 b hb)))
                      have HK2 := Lib.hid hk2
                      have HLE : Hid ((acc ++ [⟨xa, xn, xw⟩] : List Bf).length ≤ 1000) := Lib.hid (by rw [List.length_append]; simp <;> omega)
                      clear hk1 hk2 hT
                      go_upto_region 20 with fail
                      clear c0 c1 c2 c3 Q1 Q2 f2
                      generalize w7.setCell _ _ = W8 at P8 P9 BL8 R8 ⊢
                      obtain ⟨T, hT⟩ : ∃ T, T = (taken + 1) % 65536 := ⟨_, rfl⟩
                      obtain ⟨c0, c1, c2, c3⟩ := po_all P8
                      obtain ⟨hst, hp2⟩ := po_store P9 base n ((taken + 1) % 65536) told
                      go_wp2_with (refine wpl_store_at 42 _ _ rfl rfl rfl _ m2 0 rfl rfl hst ?_)
                      exact bodyPost_ret (v := .tuple #[.agg #[.int .i64 base, .int .i64 n, .int .i64 ((taken + 1) % 65536), .int .i64 told], .int .i64 hd, .slice p' (acc ++ [⟨xa, xn, xw⟩] : List Bf).length c', .int .i64 0]) (results_row4 _ 4 5 6 7 42 (by kernel_rfl) _ m2 _ _ _ _ _ _ rfl rfl rfl rfl hp2 Try.underlying42 rfl (by kernel_rfl)) rfl ⟨_, rfl, bufsT_of_row (by have r := R8.out.kept (w' := W8.setRow m2 #[.int .i64 base, .int .i64 n, .int .i64 ((taken + 1) % 65536), .int .i64 told]) (by simp) (fun b hb => setRow_other _ _ _ _ (HK2.out b hb)); exact r) HLE.out, below_setRow BL8.out hm2 _⟩
                    · have heb : (fl % 2 == 0) = false := by simpa using he
                      have HC2 : Hid (chainF l base n f' nx (acc ++ [⟨xa, xn, xw⟩]) = C) := Lib.hid (by rw [HS2.out, if_neg he])
                      clear he
                      go_wp2_with fail
                      refine (rget2 _ l _ hl').mono ?_
                      rintro e w8 ⟨rfl, rfl⟩
                      rw [← Hnx.out]
                      go_wp2_with fail
                      go_roundw
                      case rel => exact ⟨acc ++ [⟨xa, xn, xw⟩], nx, f', rfl, nx0, nx1, by rw [List.length_append]; simp <;> omega, HC2, Lib.hid (by have r := S7.out.drop; first | exact r | (simp only [List.length_append, List.length_cons, List.length_nil, Nat.zero_add] at r; exact r) | (simpa using r))⟩
                      case measure => first | omega | (simp; omega)
                  | true =>
                    cases xw with
                    | false =>
                      have hRe : R = (0, [], 8) := by
                        rw [HRv.out, if_pos h1, HS.out]
                        simp [hn]
                      subst hRe
                      go_upto_region 16 with (go_at_call 71; refine (IC'.out _).mono ?_; rintro e w6 ⟨rfl, k6⟩; have S6 := Lib.hid (S5.out.grow (below_grown k6)); clear k6; have lcell := LC.out _ S6.out; obtain ⟨y0, y1, y2⟩ := bx (S6.out.get (.head _)))
                      clear x0 x1 x2 c0 c1 c2 c3 Q1 Q2
                      have Q1 : PoAt w6 m1 base n taken told := S6.out.get (.tail _ (.tail _ (.head _)))
                      have Q2 : PoAt w6 m2 0 0 0 0 := S6.out.get (.tail _ (.head _))
                      obtain ⟨c0, c1, c2, c3⟩ := po_all Q1
                      obtain ⟨hst, hp2⟩ := po_store Q2 base n (taken) told
                      go_wp2_with (refine wpl_store_at 42 _ _ rfl rfl rfl _ m2 0 rfl rfl hst ?_)
                      exact bodyPost_ret (v := .tuple #[.agg #[.int .i64 base, .int .i64 n, .int .i64 (taken), .int .i64 told], .int .i64 0, .slice none 0 0, .int .i64 8]) (results_row4 _ 4 5 6 7 42 (by kernel_rfl) _ m2 _ _ _ _ _ _ rfl rfl rfl rfl hp2 Try.underlying42 rfl (by kernel_rfl)) rfl ⟨_, rfl, bufsT_nil _, below_setRow S6.out.bl hm2 _⟩
                    | true =>
                      have hgood : (true && !true) = false := rfl
                      go_upto_region 17 with (go_at_call 71; refine (IC'.out _).mono ?_; rintro e w6 ⟨rfl, k6⟩; have S6 := Lib.hid (S5.out.grow (below_grown k6)); clear k6; have lcell := LC.out _ S6.out; obtain ⟨y0, y1, y2⟩ := bx (S6.out.get (.head _)))
                      clear y0 y1 y2 lcell
                      have HS2 : Hid (C = if fl % 2 = 0 then some (acc ++ [⟨xa, xn, true⟩]) else chainF l base n f' nx (acc ++ [⟨xa, xn, true⟩])) := Lib.hid (by rw [HS.out, hnb, hgood]; rfl)
                      clear x0 x1 x2 c0 c1 c2 c3 Q1 Q2
                      have Q1 : PoAt w6 m1 base n taken told := S6.out.get (.tail _ (.tail _ (.head _)))
                      have Q2 : PoAt w6 m2 0 0 0 0 := S6.out.get (.tail _ (.head _))
                      obtain ⟨c0, c1, c2, c3⟩ := po_all Q1
                      obtain ⟨y0, y1, y2⟩ := bx (S6.out.get (.head _))
                      have HA := Lib.hid (S6.out.alloc (.cells #[.int .i64 xa, .int .i64 xn, .bool true] 66))
                      have HNW := Lib.hid (bf_new w6 ⟨xa, xn, true⟩)
                      have hll : acc.length ≤ 1000000 := by omega
                      go_upto_region 18 with (refine wpList_append_bf rfl (.tmp 120) (.tmp 122) rfl _ _ rfl HA.out.acc hll ⟨w6.heap.size, 0, none⟩ 1 ⟨xa, xn, true⟩ rfl HNW.out ?_; intro v' w7 hrow hgr hbl2; have S7 := Lib.hid (HA.out.app hgr hrow hbl2); clear hrow hgr hbl2)
                      clear c0 c1 c2 c3 Q1 Q2 y0 y1 y2 HA HNW
                      obtain ⟨p', c', hv'⟩ := S7.out.acc.shape
                      subst hv'
                      have Q1 : PoAt w7 m1 base n taken told := S7.out.get (.tail _ (.tail _ (.head _)))
                      have Q2 : PoAt w7 m2 0 0 0 0 := S7.out.get (.tail _ (.head _))
                      obtain ⟨c0, c1, c2, c3⟩ := po_all Q1
                      by_cases he : fl % 2 = 0
                      · have heb : (fl % 2 == 0) = true := by simpa using he
                        have hRe : R = (hd, acc ++ [⟨xa, xn, true⟩], 0) := by
                          rw [HRv.out, if_pos h1, HS2.out, if_pos he]
                        subst hRe
                        have f2 := po_free Q1 2
                        obtain ⟨T, hT⟩ : ∃ T, T = (taken + 1) % 65536 := ⟨_, rfl⟩
                        have P8 : PoAt (w7.setCell ⟨m1, 2, none⟩ (.int .i64 ((taken + 1) % 65536))) m1 base n ((taken + 1) % 65536) told := set_block Q1 2 _
                        have P9 : PoAt (w7.setCell ⟨m1, 2, none⟩ (.int .i64 ((taken + 1) % 65536))) m2 0 0 0 0 := (Below.heap_setCell _ _ _ _ (Ne.symm h12)).trans Q2
                        have hk1 : ∀ b, (Value.slice p' (acc ++ [⟨xa, xn, true⟩] : List Bf).length c').ownBlock = some b → b ≠ m1 := (S7.out.fx _ (.tail _ (.tail _ (.head _)))).2
                        have hk2 : ∀ b, (Value.slice p' (acc ++ [⟨xa, xn, true⟩] : List Bf).length c').ownBlock = some b → b ≠ m2 := (S7.out.fx _ (.tail _ (.head _))).2
                        have BL8 := Lib.hid (S7.out.bl.setCell (p := ⟨m1, 2, none⟩) hm1 (.int .i64 ((taken + 1) % 65536)))
                        have R8 : Hid (RowA 3 bfCells 66 (w7.setCell ⟨m1, 2, none⟩ (.int .i64 ((taken + 1) % 65536))) (.slice p' (acc ++ [⟨xa, xn, true⟩] : List Bf).length c') (acc ++ [⟨xa, xn, true⟩])) := Lib.hid (S7.out.acc.kept (by simp [World.setCell]) (fun b hb => Below.heap_setCell _ _ _ _ (hk1 b hb)))
                        have HK2 := Lib.hid hk2
                        have HLE : Hid ((acc ++ [⟨xa, xn, true⟩] : List Bf).length ≤ 1000) := Lib.hid (by rw [List.length_append]; simp <;> omega)
                        clear hk1 hk2 hT
                        go_upto_region 20 with fail
                        clear c0 c1 c2 c3 Q1 Q2 f2
                        generalize w7.setCell _ _ = W8 at P8 P9 BL8 R8 ⊢
                        obtain ⟨T, hT⟩ : ∃ T, T = (taken + 1) % 65536 := ⟨_, rfl⟩
                        obtain ⟨c0, c1, c2, c3⟩ := po_all P8
                        obtain ⟨hst, hp2⟩ := po_store P9 base n ((taken + 1) % 65536) told
                        go_wp2_with (refine wpl_store_at 42 _ _ rfl rfl rfl _ m2 0 rfl rfl hst ?_)
                        exact bodyPost_ret (v := .tuple #[.agg #[.int .i64 base, .int .i64 n, .int .i64 ((taken + 1) % 65536), .int .i64 told], .int .i64 hd, .slice p' (acc ++ [⟨xa, xn, true⟩] : List Bf).length c', .int .i64 0]) (results_row4 _ 4 5 6 7 42 (by kernel_rfl) _ m2 _ _ _ _ _ _ rfl rfl rfl rfl hp2 Try.underlying42 rfl (by kernel_rfl)) rfl ⟨_, rfl, bufsT_of_row (by have r := R8.out.kept (w' := W8.setRow m2 #[.int .i64 base, .int .i64 n, .int .i64 ((taken + 1) % 65536), .int .i64 told]) (by simp) (fun b hb => setRow_other _ _ _ _ (HK2.out b hb)); exact r) HLE.out, below_setRow BL8.out hm2 _⟩
                      · have heb : (fl % 2 == 0) = false := by simpa using he
                        have HC2 : Hid (chainF l base n f' nx (acc ++ [⟨xa, xn, true⟩]) = C) := Lib.hid (by rw [HS2.out, if_neg he])
                        clear he
                        go_wp2_with fail
                        refine (rget2 _ l _ hl').mono ?_
                        rintro e w8 ⟨rfl, rfl⟩
                        rw [← Hnx.out]
                        go_wp2_with fail
                        go_roundw
                        case rel => exact ⟨acc ++ [⟨xa, xn, true⟩], nx, f', rfl, nx0, nx1, by rw [List.length_append]; simp <;> omega, HC2, Lib.hid (by have r := S7.out.drop; first | exact r | (simp only [List.length_append, List.length_cons, List.length_nil, Nat.zero_add] at r; exact r) | (simpa using r))⟩
                        case measure => first | omega | (simp; omega)
          · have hRe : R = (0, [], 8) := by
              rw [HRv.out]
              by_cases h1 : v ≤ n
              · rw [if_pos h1, ← HCh.out, chain_end l base n f i acc (by omega)]
              · rw [if_neg h1]
            subst hRe
            have hacc := Lib.hid hf
            clear hf
            by_cases h1 : v ≤ n
            · by_cases h2 : i < n
              · have h3 : decide (acc.length < n) = false := decide_eq_false (by omega)
                clear hgo
                obtain ⟨hst, hp2⟩ := po_store Q2 base n (taken) told
                go_wp2_with (refine wpl_store_at 42 _ _ rfl rfl rfl _ m2 0 rfl rfl hst ?_)
                exact bodyPost_ret (v := .tuple #[.agg #[.int .i64 base, .int .i64 n, .int .i64 (taken), .int .i64 told], .int .i64 0, .slice none 0 0, .int .i64 8]) (results_row4 _ 4 5 6 7 42 (by kernel_rfl) _ m2 _ _ _ _ _ _ rfl rfl rfl rfl hp2 Try.underlying42 rfl (by kernel_rfl)) rfl ⟨_, rfl, bufsT_nil _, below_setRow SS.out.bl hm2 _⟩
              · have h2' : decide (i < n) = false := decide_eq_false h2
                clear hgo h2
                obtain ⟨hst, hp2⟩ := po_store Q2 base n (taken) told
                go_wp2_with (refine wpl_store_at 42 _ _ rfl rfl rfl _ m2 0 rfl rfl hst ?_)
                exact bodyPost_ret (v := .tuple #[.agg #[.int .i64 base, .int .i64 n, .int .i64 (taken), .int .i64 told], .int .i64 0, .slice none 0 0, .int .i64 8]) (results_row4 _ 4 5 6 7 42 (by kernel_rfl) _ m2 _ _ _ _ _ _ rfl rfl rfl rfl hp2 Try.underlying42 rfl (by kernel_rfl)) rfl ⟨_, rfl, bufsT_nil _, below_setRow SS.out.bl hm2 _⟩
            · have h1' : decide (v ≤ n) = false := decide_eq_false h1
              clear hgo h1
              obtain ⟨hst, hp2⟩ := po_store Q2 base n (taken) told
              go_wp2_with (refine wpl_store_at 42 _ _ rfl rfl rfl _ m2 0 rfl rfl hst ?_)
              exact bodyPost_ret (v := .tuple #[.agg #[.int .i64 base, .int .i64 n, .int .i64 (taken), .int .i64 told], .int .i64 0, .slice none 0 0, .int .i64 8]) (results_row4 _ 4 5 6 7 42 (by kernel_rfl) _ m2 _ _ _ _ _ _ rfl rfl rfl rfl hp2 Try.underlying42 rfl (by kernel_rfl)) rfl ⟨_, rfl, bufsT_nil _, below_setRow SS.out.bl hm2 _⟩
      · have hb : ((taken + v) % 65536 == idx) = false := beq_eq_false_iff_ne.2 (fun h => hv (by rw [HD.out]; exact (mod_step taken idx v i0 i1 v0 (by rw [← HD.out]; omega)).1 h))
        have hv' : v + 1 ≤ D := by omega
        clear hv
        go_wp2_with fail
        go_round
        case rel => exact ⟨v + 1, by omega, by omega, rfl⟩
        case measure => simp [intOf]; omega

end Go.Proofs.Ytjelgifijhcnnaa
