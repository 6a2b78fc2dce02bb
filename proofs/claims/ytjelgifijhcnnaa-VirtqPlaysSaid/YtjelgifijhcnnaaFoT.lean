/-
  Layer 2: the code's follow and Next once more: the buffers that they answer lie in a block of buffers. Conditions: as at vNext_any.
-/
import Derived.Test.YtjelgifijhcnnaaNextDone
namespace Go.Proofs.Ytjelgifijhcnnaa
open Go.RowKit Go.Sort
set_option linter.unusedVariables false

/-- A slice whose own block, where it has one, is one of buffers. -/
def OwnC (w : World) (v : Value) : Prop := ∀ k, v.ownBlock = some k → ∃ cur r, w.heap[k]? = some (.cells cur 66 r)
theorem OwnC.grown {w w' : World} {v : Value} (h : OwnC w v) (k : w.grownBy w' none) : OwnC w' v := fun j e => by
  obtain ⟨cur, r, hc⟩ := h j e
  exact ⟨cur, r, (k.block j (Array.getElem?_eq_some_iff.1 hc).1 (by simp)).trans hc⟩
theorem OwnC.setCell {w : World} {v : Value} (h : OwnC w v) (p i : Nat) (u : Value) (hp : ∀ cur r, w.heap[p]? ≠ some (.cells cur 66 r)) : OwnC (w.setCell ⟨p, i, none⟩ u) v := fun j e => by
  obtain ⟨cur, r, hc⟩ := h j e
  refine ⟨cur, r, (Below.heap_setCell w ⟨p, i, none⟩ u j (fun e => ?_)).trans hc⟩
  have e' : j = p := e
  rw [e'] at hc
  exact hp _ _ hc
theorem ownC_of {w : World} {base : Nat} {v : Value} {n : Nat} {xs : List Value} (h : w.ownsRow base 66 3 v n xs) : OwnC w v := fun k e => by
  rcases h.2 with ⟨rfl, _⟩ | ⟨b, cap, cur, rfl, _, h2, _⟩
  · cases e
  · injection e with e
    have e' : b = k := e
    subst e'
    exact ⟨cur, _, h2⟩

/-- What follow comes to. -/
def FollowPostT (w : World) (r : Option (List Bf)) (e : Ending) (w' : World) : Prop :=
  w.grownBy w' none ∧ ((r = none ∧ ∃ v, e = .returned (.tuple #[v, .bool false])) ∨ ∃ l v, r = some l ∧ e = .returned (.tuple #[v, .bool true]) ∧ IsBufs w' v l ∧ OwnC w' v)

set_option maxRecDepth 100000 in
set_option maxHeartbeats 1600000 in
theorem followT_any (w : World) (p g h : Nat) (lm : List UInt8) (base : Int) (n : Nat) (taken told : Int) (s : PS w p g h lm base n taken told) (i : Int) (hi0 : 0 ≤ i) (hi1 : i ≤ 65535) :
    Calls Try.prog 61 #[.pointer (some ⟨p, 0, none⟩), .int .i64 i] w (FollowPostT w (followF lm base n n i [])) := by
  obtain ⟨n1, n2⟩ := s.n1
  have hb0 := s.b0
  have hb1 := s.bl
  have hlen := s.len
  obtain ⟨R, hR⟩ : ∃ R, R = followF lm base n n i [] := ⟨_, rfl⟩
  rw [← hR]
  have HR := Lib.hid hR
  have S0 := Lib.hid s
  have ho0 : (w.alloc (.cells #[] 66)).ownsRow w.heap.size 66 3 (.slice (some ⟨w.heap.size, 0, none⟩) 0 0) ([] : List Bf).length (([] : List Bf).flatMap bfCells) :=
    ⟨rfl, .inr ⟨w.heap.size, 0, #[], rfl, Nat.le_refl _, heap_alloc_new w _, Nat.le_refl _, Nat.zero_le _, rfl, rfl⟩⟩
  have hbel := (Below.refl w.heap.size w).alloc (Nat.le_refl _) (.cells #[] 66)
  have s1 := s.grown (World.grownBy_alloc w (.cells #[] 66) none)
  have c2 := s1.at_.c2
  obtain ⟨j0, hj, hz0, hz1, hz2⟩ := info_parts info_buf
  clear hR s s1
  go_enter Try.func61, Try.ntmps61
  go_wp2_with fail
  generalize w.alloc (.cells #[] 66) = W1 at ho0 hbel c2 ⊢
  clear c2
  go_loopw [1, 6, 16] (fun iv lv cv wr => ∃ (c : Nat) (i : Int) (acc : List Bf), cv = .int .i64 c ∧ c ≤ n ∧ iv = .int .i64 i ∧ 0 ≤ i ∧ i ≤ 65535 ∧ acc.length = c ∧ wr.ownsRow w.heap.size 66 3 lv acc.length (acc.flatMap bfCells) ∧ Hid (R = followF lm base n (n - c) i acc) ∧ Below w.heap.size w wr) (fun _ _ cv _ => n - (intOf cv).toNat)
  case atStart => exact ⟨0, i, [], rfl, Nat.zero_le _, rfl, hi0, hi1, rfl, ho0, HR, hbel⟩
  case round =>
    clear ho0 hbel hi0 hi1
    obtain ⟨c, i, acc, rfl, hc, rfl, hi0, hi1, hacc, hown, HF, hB⟩ := hrel
    have kB : w.grownBy wr none := ⟨hB.os, hB.tape, hB.output, hB.size, fun j hj _ => hB.block j hj⟩
    have sr := S0.out.grown kB
    have c0 := sr.at_.c0
    have c1 := sr.at_.c1
    have c2 := sr.at_.c2
    have SR := Lib.hid sr
    clear sr
    by_cases hlt : c < n
    · have hstep := followF_succ lm base n (n - (c + 1)) i acc
      rw [show n - (c + 1) + 1 = n - c by omega, ← HF.out] at hstep
      by_cases hin : i < n
      · rw [if_pos hin] at hstep
        have hid : decide ((n : Int) ≤ i) = false := decide_eq_false (by omega)
        obtain ⟨x1, hx1⟩ : ∃ x : Int, x = getX lm (base + 16 * i) 8 := ⟨_, rfl⟩
        obtain ⟨x2, hx2⟩ : ∃ x : Int, x = getX lm (base + 16 * i + 8) 4 := ⟨_, rfl⟩
        obtain ⟨x3, hx3, x30, x31⟩ := getX2 lm (base + 16 * i + 12)
        obtain ⟨x4, hx4, x40, x41⟩ := getX2 lm (base + 16 * i + 14)
        have x10 : 0 ≤ x1 := by omega
        have x20 : 0 ≤ x2 := by omega
        have DC := fun w m => descriptor_any w g h lm m base n hlen hb0 hb1 i hi0 hi1
        rw [← hx1, ← hx2, ← hx3, ← hx4] at DC
        unfold dX at hstep
        rw [← hx1, ← hx2, ← hx3, ← hx4] at hstep
        have BC := fun w m => buf_any w g h lm m base n hlen x1 x2 x3 x4 x10 x20 x30 x31
        obtain ⟨D, hD⟩ : ∃ D, dbuf lm.length x1 x2 x3 = D := ⟨_, rfl⟩
        rw [hD] at BC hstep
        obtain ⟨⟨ba, bn, bw⟩, ok⟩ := D
        simp only at BC hstep
        have hf1 := and_one x3 x30 x31
        have DC' := Lib.hid DC
        have BC' := Lib.hid BC
        have HS := Lib.hid hstep
        have HF1 := Lib.hid hf1
        clear DC BC hstep hx1 hx2 hx3 hx4 hD hf1 x10 x20
        go_upto_region 7 with (go_at_call 84; refine (DC'.out _ SR.out.mem).mono ?_; rintro e w3 ⟨rfl, k3⟩)
        have d3 := heap_alloc_new w3 (.cells #[.int .u64 x1, .int .u64 x2, .int .u64 x3, .int .u64 x4] 128)
        have k4 := k3.trans (World.grownBy_alloc w3 (.cells #[.int .u64 x1, .int .u64 x2, .int .u64 x3, .int .u64 x4] 128) none)
        generalize w3.alloc _ = W4 at d3 k4 ⊢
        have s4 := SR.out.grown k4
        have S4 := Lib.hid s4
        have hs4 : FolS W4 p g base n taken told w3.heap.size x1 x2 x3 x4 := ⟨s4.at_, d3⟩
        have HS4 := Lib.hid hs4
        have hd4 := lt_of_block d3
        have hown4 := hown.kept k4 (Classical.em _)
        have HOWN := Lib.hid hown4
        clear s4 hs4 c0 c1 c2 d3 k3 hown4 hown SR DC'
        go_cut [8, 9] from 17 to 56 (fun v8 v9 w' => ∃ X, v8 = .pointer (some ⟨X, 0, none⟩) ∧ v9 = .bool ok ∧ w'.heap[X]? = some (.cells #[.int .i64 ba, .int .i64 bn, .bool bw] 66 (0, 0)) ∧ W4.grownBy w' none)
        case first =>
          refine wp_region_noPanic ?_
          refine region_held (S := fun w' => FolS w' p g base n taken told w3.heap.size x1 x2 x3 x4) (by kernel_rfl) (fun V d => HS4.out.next d.grown) (fun V5 d5 hS => ?_)
          refine wpAnyH_take (i := 0) (v := (.pointer (some ⟨p, 0, none⟩))) rfl (by kernel_rfl) (by kernel_rfl) (by kernel_rfl) (fun _ _ _ h => h) (Or.inl ⟨by rfl, fun w' h' => ?_⟩) hS ?_
          · go_simp
          simp only [Act.put]
          refine wpAnyH_take (i := 1) (v := (.pointer (some ⟨p, 0, none⟩))) rfl (by kernel_rfl) (by kernel_rfl) (by kernel_rfl) (fun _ _ _ h => h) (Or.inl ⟨by rfl, fun w' h' => ?_⟩) hS ?_
          · go_simp
          simp only [Act.put]
          refine wpAnyH_take (i := 2) (v := (.pointer (some ⟨p, 0, none⟩))) rfl (by kernel_rfl) (by kernel_rfl) (by kernel_rfl) (fun _ _ _ h => h) (Or.inl ⟨by rfl, fun w' h' => ?_⟩) hS ?_
          · go_simp
          simp only [Act.put]
          refine wpAnyH_take (i := 3) (v := (.agg #[.pointer (some ⟨g, 0, none⟩), .int .i64 base, .int .i64 n])) rfl (by kernel_rfl) (by kernel_rfl) (by kernel_rfl) (fun _ _ _ h => h) (Or.inl ⟨by rfl, fun w' h' => ?_⟩) hS ?_
          · have c0 := h'.1.c0
            have c1 := h'.1.c1
            have c2 := h'.1.c2
            clear h'
            go_simp
          simp only [Act.put]
          refine wpAnyH_take (i := 4) (v := (.agg #[.int .u64 x1, .int .u64 x2, .int .u64 x3, .int .u64 x4])) rfl (by kernel_rfl) (by kernel_rfl) (by kernel_rfl) (fun _ _ _ h => h) (Or.inl ⟨by rfl, fun w' h' => ?_⟩) hS ?_
          · have c0 := cell_of_block (i := 0) h'.2
            have c1 := cell_of_block (i := 1) h'.2
            have c2 := cell_of_block (i := 2) h'.2
            have c3 := cell_of_block (i := 3) h'.2
            clear h'
            go_simp
          simp only [Act.put]
          have k5 := d5.grown
          have m5 := (S4.out.grown k5).mem
          have HS5 := Lib.hid hS
          clear d5 hS
          refine wpAnyH_ready (rs := [5, 9]) (by kernel_rfl) (by simp) ?_
          refine AllReadyH.cons rfl (fun K hK => ?_) (AllReadyH.cons rfl (fun K hK => ?_) AllReadyH.nil)
          · go_simp
            refine (BC'.out V5 m5).mono ?_
            rintro e w6 ⟨rfl, k6⟩
            have h6 := HS5.out.next k6
            have k56 := k5.trans k6
            go_simp
            refine hK.out _ _ h6 (fun _ => ?_)
            clear hK K
            refine wpAnyH_take (i := 6) (v := (.tuple #[.agg #[.int .i64 ba, .int .i64 bn, .bool bw], .bool ok])) rfl (by kernel_rfl) (by kernel_rfl) (by kernel_rfl) (fun _ _ _ h => h) (Or.inl ⟨by rfl, fun w' h' => ?_⟩) h6 ?_
            · go_simp
            simp only [Act.put]
            refine wpAnyH_take (i := 7) (v := (.agg #[.int .i64 ba, .int .i64 bn, .bool bw])) rfl (by kernel_rfl) (by kernel_rfl) (by kernel_rfl) (fun _ _ _ h => h) (Or.inl ⟨by rfl, fun w' h' => ?_⟩) h6 ?_
            · go_simp
            simp only [Act.put]
            refine wpAnyH_take (i := 8) (v := (.bool ok)) rfl (by kernel_rfl) (by kernel_rfl) (by kernel_rfl) (fun _ _ _ h => h) (Or.inl ⟨by rfl, fun w' h' => ?_⟩) h6 ?_
            · go_simp
            simp only [Act.put]
            have h7 := h6.next (World.grownBy_alloc w6 (.cells #[.int .i64 0, .int .i64 0, .bool false] 66) none)
            have h8 := h6.next (World.grownBy_alloc w6 (.cells #[.int .i64 ba, .int .i64 bn, .bool bw] 66) none)
            have b8 := heap_alloc_new w6 (.cells #[.int .i64 ba, .int .i64 bn, .bool bw] 66)
            have k8 := k56.trans (World.grownBy_alloc w6 (.cells #[.int .i64 ba, .int .i64 bn, .bool bw] 66) none)
            refine wpAnyH_ready (rs := [9]) (by kernel_rfl) (by simp) ?_
            refine AllReadyH.cons rfl (fun K hK => ?_) AllReadyH.nil
            go_simp
            refine hK.out _ _ h7 (fun _ => ?_)
            clear hK K
            refine wpAnyH_ready (rs := [10]) (by kernel_rfl) (by simp) ?_
            refine AllReadyH.cons rfl (fun K hK => ?_) AllReadyH.nil
            go_simp
            refine hK.out _ _ h8 (fun _ => ?_)
            clear hK K
            refine wpAnyH_ready (rs := [11]) (by kernel_rfl) (by simp) ?_
            refine AllReadyH.cons rfl (fun K hK => ?_) AllReadyH.nil
            go_simp
            refine hK.out _ _ h8 (fun _ => ?_)
            clear hK K
            refine wpAnyH_done (by kernel_rfl) (NoPanic.normal ?_) _
            go_wp2_with fail
            go_meet
            case rel => exact ⟨w6.heap.size, rfl, rfl, b8, k8⟩
          · go_simp
            have k6 := World.grownBy_alloc V5 (.cells #[.int .i64 0, .int .i64 0, .bool false] 66) none
            have h6 := HS5.out.next k6
            refine hK.out _ _ h6 (fun _ => ?_)
            clear hK K
            have b6 := heap_alloc_new V5 (.cells #[.int .i64 0, .int .i64 0, .bool false] 66)
            have m6 := m5.same k6
            refine wpAnyH_ready (rs := [5]) (by kernel_rfl) (by simp) ?_
            refine AllReadyH.cons rfl (fun K hK => ?_) AllReadyH.nil
            go_simp
            refine (BC'.out _ m6).mono ?_
            rintro e w7 ⟨rfl, k7⟩
            have h7 := h6.next k7
            have b7 := (k7.block _ (lt_of_block b6) (by simp)).trans b6
            have k57 := (k5.trans k6).trans k7
            go_simp
            refine hK.out _ _ h7 (fun _ => ?_)
            clear hK K
            refine wpAnyH_take (i := 6) (v := (.tuple #[.agg #[.int .i64 ba, .int .i64 bn, .bool bw], .bool ok])) rfl (by kernel_rfl) (by kernel_rfl) (by kernel_rfl) (fun _ _ _ h => h) (Or.inl ⟨by rfl, fun w' h' => ?_⟩) h7 ?_
            · go_simp
            simp only [Act.put]
            refine wpAnyH_take (i := 7) (v := (.agg #[.int .i64 ba, .int .i64 bn, .bool bw])) rfl (by kernel_rfl) (by kernel_rfl) (by kernel_rfl) (fun _ _ _ h => h) (Or.inl ⟨by rfl, fun w' h' => ?_⟩) h7 ?_
            · go_simp
            simp only [Act.put]
            refine wpAnyH_take (i := 8) (v := (.bool ok)) rfl (by kernel_rfl) (by kernel_rfl) (by kernel_rfl) (fun _ _ _ h => h) (Or.inl ⟨by rfl, fun w' h' => ?_⟩) h7 ?_
            · go_simp
            simp only [Act.put]
            have e0 := cell_of_block (i := 0) b7
            have e1 := cell_of_block (i := 1) b7
            have e2 := cell_of_block (i := 2) b7
            have g0 := frozen_of_block (i := 0) b7
            have g1 := frozen_of_block (i := 1) b7
            have g2 := frozen_of_block (i := 2) b7
            have b8 := three_block b7 (.int .i64 ba) (.int .i64 bn) (.bool bw)
            have hne : p ≠ V5.heap.size ∧ w3.heap.size ≠ V5.heap.size := ⟨Nat.ne_of_lt (lt_of_block HS5.out.1), Nat.ne_of_lt (lt_of_block HS5.out.2)⟩
            have h8 : FolS (((w7.setCell ⟨V5.heap.size, 0, none⟩ (.int .i64 ba)).setCell ⟨V5.heap.size, 1, none⟩ (.int .i64 bn)).setCell ⟨V5.heap.size, 2, none⟩ (.bool bw)) p g base n taken told w3.heap.size x1 x2 x3 x4 := by
              refine ⟨h7.1.kept ?_, Eq.trans ?_ h7.2⟩
              · rw [Below.heap_setCell _ _ _ _ hne.1, Below.heap_setCell _ _ _ _ hne.1, Below.heap_setCell _ _ _ _ hne.1]
              · rw [Below.heap_setCell _ _ _ _ hne.2, Below.heap_setCell _ _ _ _ hne.2, Below.heap_setCell _ _ _ _ hne.2]
            have k8 := three_grown k57 (by have := k5.size; omega) (.int .i64 ba) (.int .i64 bn) (.bool bw)
            clear hne
            refine wpAnyH_ready (rs := [10]) (by kernel_rfl) (by simp) ?_
            refine AllReadyH.cons rfl (fun K hK => ?_) AllReadyH.nil
            go_simp
            refine hK.out _ _ h8 (fun _ => ?_)
            clear hK K
            refine wpAnyH_ready (rs := [11]) (by kernel_rfl) (by simp) ?_
            refine AllReadyH.cons rfl (fun K hK => ?_) AllReadyH.nil
            go_simp
            refine hK.out _ _ h8 (fun _ => ?_)
            clear hK K
            refine wpAnyH_done (by kernel_rfl) (NoPanic.normal ?_) _
            go_wp2_with fail
            go_meet
            case rel => exact ⟨V5.heap.size, rfl, rfl, b8, k8⟩
        case rest =>
          obtain ⟨X, rfl, rfl, bX, kX⟩ := hcut
          have kc := k4.trans kX
          have kwc := kB.trans kc
          have dC := (kX.block _ (lt_of_block HS4.out.2) (by simp)).trans HS4.out.2
          have hownc := HOWN.out.kept kX (Classical.em _)
          cases ok with
          | false =>
            have hz : R = none := by rw [HS.out]; rfl
            subst hz
            clear bX dC
            go_wp2_with fail
            go_ret2
            exact ⟨kwc, .inl ⟨rfl, _, rfl⟩⟩
          | true =>
            have hst := HS.out
            rw [if_pos rfl] at hst
            have c0 := cell_of_block (i := 0) bX
            have c1 := cell_of_block (i := 1) bX
            have c2 := cell_of_block (i := 2) bX
            have hbc := hB.trans (show Below w.heap.size wr wc from ⟨kc.os, kc.tape, kc.output, kc.size, fun j hj => kc.block j (by have := kB.size; omega) (by simp)⟩)
            have hbs := hbc.size
            have hne := own_type_ne hownc dC (by decide)
            have hlen3 : acc.length ≤ 64 := by omega
            have HST := Lib.hid hst
            clear bX hst
            go_wp2_with (at_builtin; refine wpList_append_own _ rfl _ _ 47 rfl w.heap.size 66 j0 (.agg #[.int .i64 0, .int .i64 0, .bool false]) 3 24 Try.underlying47 hj hz0 hz1 hz2 rfl (by decide) _ _ _ rfl (hownc.alloc _) ⟨wc.heap.size, 0, none⟩ 1 1 [.int .i64 ba, .int .i64 bn, .bool bw] rfl rfl ?c1 ?c2 ?c3 ?c4 ?c5 ?_)
            case c2 => first | rfl | (simp [Value.oneCell']; done)
            case c3 => unfold maxLen; omega
            case c4 => omega
            case c5 => first | omega | (simp; omega)
            intro v' w5 hown' hgrow _
            have hb5 : Below w.heap.size w w5 := (hbc.alloc hbc.size _).grown hgrow (by simp; omega) (own_ge hownc)
            have dA := Below.heap_alloc wc (.cells #[.int .i64 ba, .int .i64 bn, .bool bw] 66) _ (lt_of_block dC)
            have d5 := (hgrow.block _ (by simp; have := lt_of_block dC; omega) hne).trans (dA.trans dC)
            have e2 := cell_of_block (i := 2) d5
            have e3 := cell_of_block (i := 3) d5
            have hl2 : (acc ++ [(⟨ba, bn, bw⟩ : Bf)]).length = acc.length + 1 := by simp
            have hf2 : (acc ++ [(⟨ba, bn, bw⟩ : Bf)]).flatMap bfCells = acc.flatMap bfCells ++ [.int .i64 ba, .int .i64 bn, .bool bw] := by rw [List.flatMap_append]; rfl
            have hown2 : w5.ownsRow w.heap.size 66 3 v' (acc ++ [(⟨ba, bn, bw⟩ : Bf)]).length ((acc ++ [(⟨ba, bn, bw⟩ : Bf)]).flatMap bfCells) := by rw [hl2, hf2, hacc]; exact hown'
            have HL2 := Lib.hid hl2
            have kw5 : w.grownBy w5 none := ⟨hb5.os, hb5.tape, hb5.output, hb5.size, fun j hj _ => hb5.block j hj⟩
            clear hl2 hf2 hown' hgrow hne dA d5 dC c0 c1 c2 hownc hbc
            by_cases hz : x3 % 2 = 0
            · have hb1' : (bits .and .u64 x3 1 == 0) = true := by rw [HF1.out, hz]; rfl
              have hrv := HST.out
              rw [if_pos hz] at hrv
              have IC := Lib.hid (inOrder_any w5 v' _ (bufs_of_own hown2 (by have := HL2.out; omega)))
              have hfin := bufs_of_own hown2 (by have := HL2.out; omega)
              have HT5 := Lib.hid (ownC_of hown2)
              have HB5 := Lib.hid hfin
              change R = if inOrd (acc ++ [(⟨ba, bn, bw⟩ : Bf)]) then some (acc ++ [(⟨ba, bn, bw⟩ : Bf)]) else none at hrv
              have HRV := Lib.hid hrv
              clear hz hrv hfin hown2
              go_wp2_with fail
              refine IC.out.mono ?_
              rintro e w6 ⟨rfl, k6⟩
              have kw6 := kw5.trans k6
              have HB6 := Lib.hid (And.intro (HB5.out.grown k6) (HT5.out.grown k6))
              cases hio : inOrd (acc ++ [(⟨ba, bn, bw⟩ : Bf)]) with
              | true =>
                have hRv := HRV.out
                rw [hio, if_pos rfl] at hRv
                subst hRv
                go_wp2_with fail
                go_ret2
                exact ⟨kw6, .inr ⟨_, _, rfl, rfl, HB6.out.1, HB6.out.2⟩⟩
              | false =>
                have hRv := HRV.out
                rw [hio, if_neg (by decide)] at hRv
                subst hRv
                go_wp2_with fail
                go_ret2
                exact ⟨kw6, .inl ⟨rfl, _, rfl⟩⟩
            · have hb1' : (bits .and .u64 x3 1 == 0) = false := by rw [HF1.out]; exact beq_eq_false_iff_ne.2 hz
              have hrv := HST.out
              rw [if_neg hz] at hrv
              have HRV : Hid (R = followF lm base n (n - (c + 1)) x4 (acc ++ [(⟨ba, bn, bw⟩ : Bf)])) := Lib.hid hrv
              clear hz hrv
              go_wp2_with fail
              go_roundw
              case rel => exact ⟨c + 1, x4, acc ++ [(⟨ba, bn, bw⟩ : Bf)], by go_num, by omega, rfl, x40, x41, by rw [HL2.out]; omega, hown2, HRV, hb5⟩
              case measure => simp [intOf]; omega
      · rw [if_neg hin] at hstep
        have hid : decide ((n : Int) ≤ i) = true := decide_eq_true (by omega)
        subst hstep
        clear hin
        go_wp2_with fail
        go_ret2
        exact ⟨kB, .inl ⟨rfl, _, rfl⟩⟩
    · have hz : R = none := by rw [HF.out, show n - c = 0 by omega]; rfl
      have hd : decide ((c : Int) < n) = false := decide_eq_false (by omega)
      have hd2 : decide (c < n) = false := decide_eq_false hlt
      subst hz
      clear hlt
      go_wp2_with fail
      go_ret2
      exact ⟨kB, .inl ⟨rfl, _, rfl⟩⟩


/-- What Next comes to. -/
def VNextPostT (w : World) (p g h : Nat) (lm : List UInt8) (base : Int) (n : Nat) (taken told : Int) (e : Ending) (w' : World) : Prop :=
  (offI lm base n = taken ∧ e = .returned (.tuple #[.int .i64 0, .slice none 0 0, .int .i64 4]) ∧ w.grownBy w' none) ∨
  (offI lm base n ≠ taken ∧ ((n : Int) < (offI lm base n - taken) % 65536 ∨ followF lm base n n (offHead lm base n taken) [] = none) ∧ e = .returned (.tuple #[.int .i64 0, .slice none 0 0, .int .i64 8]) ∧ w.grownBy w' none) ∨
  (∃ l v, offI lm base n ≠ taken ∧ (offI lm base n - taken) % 65536 ≤ n ∧ followF lm base n n (offHead lm base n taken) [] = some l ∧ e = .returned (.tuple #[.int .i64 (offHead lm base n taken), v, .int .i64 0]) ∧ IsBufs w' v l ∧ OwnC w' v ∧
    PS w' p g h lm base n ((taken + 1) % 65536) told ∧ w.grownBy w' (some p))

set_option maxRecDepth 100000 in
set_option maxHeartbeats 1600000 in
theorem vNextT_any (w : World) (p g h : Nat) (lm : List UInt8) (base : Int) (n : Nat) (taken told : Int) (s : PS w p g h lm base n taken told) :
    Calls Try.prog 32 #[.pointer (some ⟨p, 0, none⟩)] w (VNextPostT w p g h lm base n taken told) := by
  have h5 := s.at_.c5
  obtain ⟨n1, n2⟩ := s.n1
  have hb1 := s.bl
  have hb0 := s.b0
  have taken0 := s.taken0
  have taken1 := s.taken1
  have hph := s.ph
  have hpg := s.pg
  have hlen := s.len
  have hr0 : 0 ≤ taken % (n : Int) := Int.emod_nonneg _ (by omega)
  have hr1 : taken % (n : Int) < n := Int.emod_lt_of_pos _ (by omega)
  obtain ⟨I, hI⟩ : ∃ I, I = offI lm base n := ⟨_, rfl⟩
  obtain ⟨H, hH⟩ : ∃ H, H = offHead lm base n taken := ⟨_, rfl⟩
  have hIb := offI_bd lm base n
  have hHb := offHead_bd lm base n taken
  rw [← hI] at hIb
  rw [← hH] at hHb
  obtain ⟨I0, I1⟩ := hIb
  obtain ⟨H0, H1⟩ := hHb
  have UC := fun w m => offeredIndex_any w g h lm m base n hlen hb0 hb1 (by omega) (by omega)
  have AC := fun w => offeredAt_any w g base n hb0 hb1 (by omega) (by omega) taken taken0 taken1
  have GC := fun w m a k => aget_any w g h lm m base n a k hlen
  obtain ⟨R, hR⟩ : ∃ R, R = followF lm base n n H [] := ⟨_, rfl⟩
  have FC := fun w s => followT_any w p g h lm base n taken told s H H0 H1
  rw [← hR] at FC
  unfold VNextPostT
  rw [← hI, ← hH, ← hR]
  unfold offI at hI
  unfold offHead at hH
  rw [← hI] at UC
  obtain ⟨ro, hro⟩ : ∃ r, taken % (n : Int) = r := ⟨_, rfl⟩
  rw [hro] at hr0 hr1 hH AC
  obtain ⟨at_, hat⟩ : ∃ a, a = base + 16 * n + 4 + 2 * ro := ⟨_, rfl⟩
  rw [← hat] at hH AC
  have GN := fun w m => GC w m at_ 2
  rw [← hH] at GN
  have hw16 := wrap_u16 (I - taken)
  obtain ⟨D, hD⟩ : ∃ D, (I - taken) % 65536 = D := ⟨_, rfl⟩
  rw [hD] at hw16 ⊢
  have D0 : 0 ≤ D := by omega
  have D1 : D ≤ 65535 := by omega
  have hDz : D = 0 ↔ I = taken := by omega
  have UC' := Lib.hid UC
  have AC' := Lib.hid AC
  have GN' := Lib.hid GN
  have FC' := Lib.hid FC
  have S0 := Lib.hid s
  have q0 := s.at_
  have HDZ := Lib.hid hDz
  clear UC AC GN GC FC hI hH hR hro hat hD hDz s
  go_enter Try.func32, Try.ntmps32
  go_wp2_with (go_at_call 58; refine (pnone_no _ _ h5).mono ?_; rintro e w' ⟨rfl, rfl⟩)
  refine wp_region_noPanic ?_
  refine region_held (S := fun w' => PAt w' p g base n taken told) (by kernel_rfl) (fun V d => q0.kept (d.block _)) (fun V1 d1 hS => ?_)
  refine wpAnyH_take (i := 0) (v := (.pointer (some ⟨p, 0, none⟩))) rfl (by kernel_rfl) (by kernel_rfl) (by kernel_rfl) (fun _ _ _ h => h) (Or.inl ⟨by rfl, fun w' h' => ?_⟩) hS ?_
  · go_simp
  simp only [Act.put]
  refine wpAnyH_take (i := 1) (v := (.pointer (some ⟨p, 0, none⟩))) rfl (by kernel_rfl) (by kernel_rfl) (by kernel_rfl) (fun _ _ _ h => h) (Or.inl ⟨by rfl, fun w' h' => ?_⟩) hS ?_
  · go_simp
  simp only [Act.put]
  refine wpAnyH_take (i := 2) (v := (.pointer (some ⟨p, 0, none⟩))) rfl (by kernel_rfl) (by kernel_rfl) (by kernel_rfl) (fun _ _ _ h => h) (Or.inl ⟨by rfl, fun w' h' => ?_⟩) hS ?_
  · go_simp
  simp only [Act.put]
  refine wpAnyH_take (i := 3) (v := (.agg #[.pointer (some ⟨g, 0, none⟩), .int .i64 base, .int .i64 n])) rfl (by kernel_rfl) (by kernel_rfl) (by kernel_rfl) (fun _ _ _ h => h) (Or.inl ⟨by rfl, fun w' h' => ?_⟩) hS ?_
  · have c0 := h'.c0
    have c1 := h'.c1
    have c2 := h'.c2
    clear h'
    go_simp
  simp only [Act.put]
  refine wpAnyH_take (i := 5) (v := (.pointer (some ⟨p, 0, none⟩))) rfl (by kernel_rfl) (by kernel_rfl) (by kernel_rfl) (fun _ _ _ h => h) (Or.inl ⟨by rfl, fun w' h' => ?_⟩) hS ?_
  · go_simp
  simp only [Act.put]
  refine wpAnyH_take (i := 6) (v := (.pointer (some ⟨p, 0, none⟩))) rfl (by kernel_rfl) (by kernel_rfl) (by kernel_rfl) (fun _ _ _ h => h) (Or.inl ⟨by rfl, fun w' h' => ?_⟩) hS ?_
  · go_simp
  simp only [Act.put]
  refine wpAnyH_take (i := 7) (v := (.pointer (some ⟨p, 3, none⟩))) rfl (by kernel_rfl) (by kernel_rfl) (by kernel_rfl) (fun _ _ _ h => h) (Or.inl ⟨by rfl, fun w' h' => ?_⟩) hS ?_
  · go_simp
  simp only [Act.put]
  refine wpAnyH_take (i := 8) (v := (.int .u16 taken)) rfl (by kernel_rfl) (by kernel_rfl) (by kernel_rfl) (fun _ _ _ h => h) (Or.inl ⟨by rfl, fun w' h' => ?_⟩) hS ?_
  · have c0 := h'.c3
    clear h'
    go_simp
  simp only [Act.put]
  have s1 := S0.out.grown d1.grown
  have k1 := d1.grown
  clear d1 hS q0 h5
  refine wpAnyH_ready (rs := [4]) (by kernel_rfl) (by simp) ?_
  refine AllReadyH.cons rfl (fun K hK => ?_) AllReadyH.nil
  go_simp
  refine (UC'.out V1 s1.mem).mono ?_
  rintro e w2 ⟨rfl, k2⟩
  have s2 := s1.grown k2
  have k2' := k1.trans k2
  go_simp
  refine hK.out _ _ s2.at_ (fun _ => ?_)
  clear hK K
  refine wpAnyH_ready (rs := [9]) (by kernel_rfl) (by simp) ?_
  refine AllReadyH.cons rfl (fun K hK => ?_) AllReadyH.nil
  go_simp
  refine hK.out _ _ s2.at_ (fun _ => ?_)
  clear hK K
  refine wpAnyH_ready (rs := [10]) (by kernel_rfl) (by simp) ?_
  refine AllReadyH.cons rfl (fun K hK => ?_) AllReadyH.nil
  go_simp
  refine hK.out _ _ s2.at_ (fun _ => ?_)
  clear hK K
  refine wpAnyH_ready (rs := [11]) (by kernel_rfl) (by simp) ?_
  refine AllReadyH.cons rfl (fun K hK => ?_) AllReadyH.nil
  go_simp
  refine hK.out _ _ s2.at_ (fun _ => ?_)
  clear hK K
  refine wpAnyH_done (by kernel_rfl) (NoPanic.normal ?_) _
  have S2 := Lib.hid s2
  have K2 := Lib.hid k2'
  have q2 := s2.at_
  clear k1 k2 k2' s1 s2 UC'
  by_cases hz : D = 0
  · have hzb : (D == 0) = true := beq_iff_eq.2 hz
    have hIe := HDZ.out.1 hz
    have HIe := Lib.hid hIe
    clear hz hIe
    go_wp2_with fail
    go_ret3
    exact .inl ⟨HIe.out, rfl, K2.out⟩
  · have hzb : (D == 0) = false := beq_eq_false_iff_ne.2 hz
    have HIe : Hid (I ≠ taken) := Lib.hid (fun e => hz (HDZ.out.2 e))
    clear hz
    go_wp2_with fail
    refine wp_region_noPanic ?_
    refine region_held (S := fun w' => PAt w' p g base n taken told) (by kernel_rfl) (fun V d => q2.kept (d.block _)) (fun V3 d3 hS => ?_)
    refine wpAnyH_take (i := 0) (v := (.pointer (some ⟨p, 0, none⟩))) rfl (by kernel_rfl) (by kernel_rfl) (by kernel_rfl) (fun _ _ _ h => h) (Or.inl ⟨by rfl, fun w' h' => ?_⟩) hS ?_
    · go_simp
    simp only [Act.put]
    refine wpAnyH_take (i := 1) (v := (.pointer (some ⟨p, 0, none⟩))) rfl (by kernel_rfl) (by kernel_rfl) (by kernel_rfl) (fun _ _ _ h => h) (Or.inl ⟨by rfl, fun w' h' => ?_⟩) hS ?_
    · go_simp
    simp only [Act.put]
    refine wpAnyH_take (i := 2) (v := (.pointer (some ⟨p, 0, none⟩))) rfl (by kernel_rfl) (by kernel_rfl) (by kernel_rfl) (fun _ _ _ h => h) (Or.inl ⟨by rfl, fun w' h' => ?_⟩) hS ?_
    · go_simp
    simp only [Act.put]
    refine wpAnyH_take (i := 3) (v := (.agg #[.pointer (some ⟨g, 0, none⟩), .int .i64 base, .int .i64 n])) rfl (by kernel_rfl) (by kernel_rfl) (by kernel_rfl) (fun _ _ _ h => h) (Or.inl ⟨by rfl, fun w' h' => ?_⟩) hS ?_
    · have c0 := h'.c0
      have c1 := h'.c1
      have c2 := h'.c2
      clear h'
      go_simp
    simp only [Act.put]
    refine wpAnyH_take (i := 4) (v := (.pointer (some ⟨p, 0, none⟩))) rfl (by kernel_rfl) (by kernel_rfl) (by kernel_rfl) (fun _ _ _ h => h) (Or.inl ⟨by rfl, fun w' h' => ?_⟩) hS ?_
    · go_simp
    simp only [Act.put]
    refine wpAnyH_take (i := 5) (v := (.pointer (some ⟨p, 0, none⟩))) rfl (by kernel_rfl) (by kernel_rfl) (by kernel_rfl) (fun _ _ _ h => h) (Or.inl ⟨by rfl, fun w' h' => ?_⟩) hS ?_
    · go_simp
    simp only [Act.put]
    refine wpAnyH_take (i := 6) (v := (.pointer (some ⟨p, 0, none⟩))) rfl (by kernel_rfl) (by kernel_rfl) (by kernel_rfl) (fun _ _ _ h => h) (Or.inl ⟨by rfl, fun w' h' => ?_⟩) hS ?_
    · go_simp
    simp only [Act.put]
    refine wpAnyH_take (i := 7) (v := (.agg #[.pointer (some ⟨g, 0, none⟩), .int .i64 base, .int .i64 n])) rfl (by kernel_rfl) (by kernel_rfl) (by kernel_rfl) (fun _ _ _ h => h) (Or.inl ⟨by rfl, fun w' h' => ?_⟩) hS ?_
    · have c0 := h'.c0
      have c1 := h'.c1
      have c2 := h'.c2
      clear h'
      go_simp
    simp only [Act.put]
    refine wpAnyH_take (i := 8) (v := (.pointer (some ⟨p, 0, none⟩))) rfl (by kernel_rfl) (by kernel_rfl) (by kernel_rfl) (fun _ _ _ h => h) (Or.inl ⟨by rfl, fun w' h' => ?_⟩) hS ?_
    · go_simp
    simp only [Act.put]
    refine wpAnyH_take (i := 9) (v := (.pointer (some ⟨p, 0, none⟩))) rfl (by kernel_rfl) (by kernel_rfl) (by kernel_rfl) (fun _ _ _ h => h) (Or.inl ⟨by rfl, fun w' h' => ?_⟩) hS ?_
    · go_simp
    simp only [Act.put]
    refine wpAnyH_take (i := 10) (v := (.pointer (some ⟨p, 3, none⟩))) rfl (by kernel_rfl) (by kernel_rfl) (by kernel_rfl) (fun _ _ _ h => h) (Or.inl ⟨by rfl, fun w' h' => ?_⟩) hS ?_
    · go_simp
    simp only [Act.put]
    refine wpAnyH_take (i := 11) (v := (.int .u16 taken)) rfl (by kernel_rfl) (by kernel_rfl) (by kernel_rfl) (fun _ _ _ h => h) (Or.inl ⟨by rfl, fun w' h' => ?_⟩) hS ?_
    · have c0 := h'.c3
      clear h'
      go_simp
    simp only [Act.put]
    have s3 := S2.out.grown d3.grown
    have k3 := K2.out.trans d3.grown
    clear d3 hS q2
    refine wpAnyH_ready (rs := [12]) (by kernel_rfl) (by simp) ?_
    refine AllReadyH.cons rfl (fun K hK => ?_) AllReadyH.nil
    go_simp
    refine (AC'.out V3).mono ?_
    rintro e w4 ⟨rfl, k4⟩
    have s4 := s3.grown k4
    have k4' := k3.trans k4
    go_simp
    refine hK.out _ _ s4.at_ (fun _ => ?_)
    clear hK K
    refine wpAnyH_ready (rs := [13]) (by kernel_rfl) (by simp) ?_
    refine AllReadyH.cons rfl (fun K hK => ?_) AllReadyH.nil
    go_simp
    refine (GN'.out w4 s4.mem).mono ?_
    rintro e w5 ⟨rfl, k5⟩
    have s5 := s4.grown k5
    have k5' := k4'.trans k5
    go_simp
    refine hK.out _ _ s5.at_ (fun _ => ?_)
    clear hK K
    refine wpAnyH_ready (rs := [14]) (by kernel_rfl) (by simp) ?_
    refine AllReadyH.cons rfl (fun K hK => ?_) AllReadyH.nil
    go_simp
    refine hK.out _ _ s5.at_ (fun _ => ?_)
    clear hK K
    refine wpAnyH_ready (rs := [15]) (by kernel_rfl) (by simp) ?_
    refine AllReadyH.cons rfl (fun K hK => ?_) AllReadyH.nil
    go_simp
    refine hK.out _ _ s5.at_ (fun _ => ?_)
    clear hK K
    refine wpAnyH_done (by kernel_rfl) (NoPanic.normal ?_) _
    have S5 := Lib.hid s5
    have K5 := Lib.hid k5'
    clear k3 k4 k4' k5 k5' s3 s4 s5
    go_wp2_with fail
    refine (FC'.out w5 S5.out).mono ?_
    rintro e w6 ⟨k6, hres⟩
    have s6 := S5.out.grown k6
    have k6' := K5.out.trans k6
    have c2 := s6.at_.c2
    have c3 := s6.at_.c3
    have f3 := s6.at_.fz 3
    have S6 := Lib.hid s6
    have K6 := Lib.hid k6'
    clear s6 k6 k6'
    rcases hres with ⟨hRn, v, rfl⟩ | ⟨l, v, hRs, rfl, hv, hvt0⟩
    · have HRn := Lib.hid hRn
      clear hRn
      by_cases hlt : (n : Int) < D
      · have hd : decide ((n : Int) < D) = true := decide_eq_true hlt
        have HL := Lib.hid hlt
        clear hlt
        go_wp2_with fail
        go_ret3
        exact .inr (.inl ⟨HIe.out, .inl HL.out, rfl, K6.out⟩)
      · have hd : decide ((n : Int) < D) = false := decide_eq_false hlt
        clear hlt
        go_wp2_with fail
        go_ret3
        exact .inr (.inl ⟨HIe.out, .inr HRn.out, rfl, K6.out⟩)
    · obtain ⟨pp, cap, rfl, _⟩ := hv.form
      have HRs := Lib.hid hRs
      have HV := Lib.hid hv
      have HVT := Lib.hid hvt0
      clear hRs hv hvt0
      by_cases hlt : (n : Int) < D
      · have hd : decide ((n : Int) < D) = true := decide_eq_true hlt
        have HL := Lib.hid hlt
        clear hlt
        go_wp2_with fail
        go_ret3
        exact .inr (.inl ⟨HIe.out, .inl HL.out, rfl, K6.out⟩)
      · have hd : decide ((n : Int) < D) = false := decide_eq_false hlt
        have HL : Hid (D ≤ n) := Lib.hid (by omega)
        have hwb := wrap_u16 (taken + 1)
        clear hlt
        go_wp2_with fail
        have k7 := grown_setCell w6 p 3 (.int .u16 ((taken + 1) % 65536))
        have hfin : PS (w6.setCell ⟨p, 3, none⟩ (.int .u16 ((taken + 1) % 65536))) p g h lm base n ((taken + 1) % 65536) told :=
          { S6.out with
            mem := S6.out.mem.kept k7 (fun e => hpg (by injection e)) (fun e => hph (by injection e with e; exact e.symm))
            at_ := set_block S6.out.at_ 3 _
            taken0 := by omega
            taken1 := by omega }
        have hvb : IsBufs (w6.setCell ⟨p, 3, none⟩ (.int .u16 ((taken + 1) % 65536))) (.slice pp l.length cap) l := bufs_setPort HV.out S6.out.at_ _
        have HFIN := Lib.hid hfin
        have hvt := HVT.out.setCell p 3 (.int .u16 ((taken + 1) % 65536)) (fun cur r e => by have h9 := S6.out.at_; unfold PAt at h9; rw [h9] at e; injection e with e; injection e with _ e; exact absurd e (by decide))
        have HVB := Lib.hid (And.intro hvb hvt)
        have hkf := (K6.out.but (some p)).trans k7
        clear hfin hvb hvt k7
        go_ret3
        exact .inr (.inr ⟨l, _, HIe.out, HL.out, HRs.out, rfl, HVB.out.1, HVB.out.2, HFIN.out, hkf⟩)


end Go.Proofs.Ytjelgifijhcnnaa
