/-
  Layer 14, the document's own clock: New, Back, Measure. Conditions: as said.
-/
import Derived.Test.YtgimadcfckgcmaaRtC
import Derived.Deep.CutBlock
import Derived.Deep.DeepCutAuto
namespace Go.Proofs.Ytgimadcfckgcmaa
open Go.RowKit
set_option linter.unusedVariables false

/-- Two boxes behind a world. -/
structure DkW (w w1 : World) (n0 n1 : Nat) (l m a d : Int) (b : Bool) (t : Int) : Prop where
  y0 : w1.heap[n0]? = some (dkO l m a d b t)
  y1 : w1.heap[n1]? = some (dkO 0 0 0 0 false 0)
  bl : Below w.heap.size w w1
  hn : w.heap.size ≤ n0 ∧ w.heap.size ≤ n1 ∧ n0 ≠ n1
theorem DkW.start (w : World) (l m a d : Int) (b : Bool) (t : Int) : DkW w ((w.alloc (dkO l m a d b t)).alloc (dkO 0 0 0 0 false 0)) w.heap.size (w.heap.size + 1) l m a d b t := by
  obtain ⟨t1, t2⟩ := two_new w (dkO l m a d b t) (dkO 0 0 0 0 false 0)
  exact ⟨t1.trans (heap_alloc_new w (dkO l m a d b t)), t2.trans (heap_alloc_new (w.alloc (dkO l m a d b t)) (dkO 0 0 0 0 false 0)), ((Below.refl w.heap.size w).alloc (Nat.le_refl _) _).alloc (by simp) _, Nat.le_refl _, by omega, by omega⟩
theorem DkW.grow {w w1 w2 : World} {n0 n1 : Nat} {l m a d : Int} {b : Bool} {t : Int} (h : DkW w w1 n0 n1 l m a d b t) (k : Below w1.heap.size w1 w2) : DkW w w2 n0 n1 l m a d b t :=
  ⟨(k.block n0 (Array.getElem?_eq_some_iff.1 h.y0).1).trans h.y0, (k.block n1 (Array.getElem?_eq_some_iff.1 h.y1).1).trans h.y1, h.bl.trans (k.mono h.bl.size), h.hn⟩
theorem DkW.set {w w1 : World} {n0 n1 : Nat} {l m a d : Int} {b : Bool} {t : Int} (h : DkW w w1 n0 n1 l m a d b t) (i : Nat) (hi : i < 6) (v : Value) {l' m' a' d' : Int} {b' : Bool} {t' : Int}
    (e : (#[.int .i64 l, .int .i64 m, .int .i64 a, .int .i64 d, .bool b, .int .i64 t] : Array Value).setIfInBounds i v = #[.int .i64 l', .int .i64 m', .int .i64 a', .int .i64 d', .bool b', .int .i64 t']) : DkW w (w1.setCell ⟨n0, i, none⟩ v) n0 n1 l' m' a' d' b' t' :=
  ⟨(set_cellsB h.y0 v hi).trans (by rw [e]; rfl), (heap_setCell_other w1 ⟨n0, i, none⟩ n1 _ (fun e => h.hn.2.2 e.symm)).trans h.y1, h.bl.setCell (p := ⟨n0, i, none⟩) h.hn.1 v, h.hn⟩
set_option maxRecDepth 10000 in
set_option maxHeartbeats 2000000 in
theorem rBack (w : World) (l m a d : Int) (b : Bool) (t v : Int) (ht : 1 ≤ t ∧ t ≤ 1048576) (hv : boundV l m (2 * t) = v) :
    Calls Try.prog 14 #[.agg #[.int .i64 l, .int .i64 m, .int .i64 a, .int .i64 d, .bool b, .int .i64 t]] w fun e w' => e = .returned (.agg #[.int .i64 l, .int .i64 m, .int .i64 a, .int .i64 d, .bool b, .int .i64 v]) ∧ Below w.heap.size w w' := by
  have X := Lib.hid (DkW.start w l m a d b t)
  have e1 : IntKind.i64.wrap (2 * t) = 2 * t := IntWalk.i64_in _ (by omega)
  have HV := Lib.hid hv
  clear ht hv
  go_enter Try.func14, Try.ntmps14
  go_upto_region 1 with fail
  unfold dkO at X
  generalize (w.alloc _).alloc _ = W1 at X ⊢
  obtain ⟨n1, hn1⟩ : ∃ n1, n1 = w.heap.size + 1 := ⟨_, rfl⟩
  rw [← hn1] at X ⊢
  obtain ⟨n0, hn0⟩ : ∃ n0, n0 = w.heap.size := ⟨_, rfl⟩
  rw [← hn0] at X ⊢
  clear hn0 hn1
  obtain ⟨-, -, -, -, -, c5, -⟩ := dk_cells X.out.y0
  have RG := Lib.hid (dk_range X.out.y0)
  go_wp2_with (first | (refine wpList_load_mid rfl 33 _ rfl n0 0 rfl _ _ RG.out Try.underlying33 rfl (by kernel_rfl) ?_) | (go_at_call 18; refine (rBound W1 l m a d b t (2 * t) v HV.out).mono ?_; rintro e w2 ⟨rfl, k⟩; have X2 := Lib.hid (X.out.grow k); have ST := Lib.hid (st_dk (l' := l) (m' := m) (a' := a) (d' := d) (b' := b) (t' := v) X2.out.y1); clear k) | (refine wpList_storeT 33 _ _ rfl rfl _ n1 rfl rfl ST.out ?_))
  exact bodyPost_ret (results_rowT _ 2 33 (by kernel_rfl) _ n1 _ _ _ rfl (dk_row X2.out.y1) Try.underlying33 rfl (by kernel_rfl)) rfl ⟨rfl, below_setRowT X2.out.bl X2.out.hn.2.1 _⟩
theorem bound_same (l m x : Int) (h : l ≤ m) : boundV l m x = max l (min x m) := by unfold boundV; dsimp only; split <;> split <;> omega
set_option maxRecDepth 10000 in
set_option maxHeartbeats 4000000 in
theorem rMeas (w : World) (c : CkV) (hk : c.ok) (r : Int) :
    Calls Try.prog 13 #[.agg #[.int .i64 c.l, .int .i64 c.m, .int .i64 c.a, .int .i64 c.d, .bool c.b, .int .i64 c.t], .int .i64 r] w fun e w' => e = .returned (.agg #[.int .i64 (measV c r).l, .int .i64 (measV c r).m, .int .i64 (measV c r).a, .int .i64 (measV c r).d, .bool (measV c r).b, .int .i64 (measV c r).t]) ∧ Below w.heap.size w w' := by
  have hin := nxt_in hk (clampR_in r)
  have hR := clampR_in r
  obtain ⟨R, hRe⟩ : ∃ R, R = clampR r := ⟨_, rfl⟩
  have hP : measV c r = ⟨c.l, c.m, waitV c.l c.m (nxtA c R) (nxtD c R), true, nxtA c R, nxtD c R⟩ := by rw [hRe]; rfl
  rw [← hRe] at hin hR
  rw [hP]
  clear hP
  obtain ⟨l, m, t, b, a, d⟩ := c
  obtain ⟨h1, h2, h3, h4, h5, h6, h7, h8⟩ := hk
  dsimp only at h1 h2 h3 h4 h5 h6 h7 h8 ⊢
  obtain ⟨A, hA⟩ : ∃ A, nxtA ⟨l, m, t, b, a, d⟩ R = A := ⟨_, rfl⟩
  obtain ⟨D, hD⟩ : ∃ D, nxtD ⟨l, m, t, b, a, d⟩ R = D := ⟨_, rfl⟩
  rw [hA, hD] at hin ⊢
  obtain ⟨v, hv⟩ : ∃ v, waitV l m A D = v := ⟨_, rfl⟩
  rw [hv]
  have HV : Hid (boundV l m (A / 8 + max D 1) = v) := Lib.hid (by rw [bound_same _ _ _ (by omega), ← hv]; rfl)
  clear hv
  obtain ⟨Q, hQ⟩ : ∃ Q, Q = A / 8 := ⟨_, rfl⟩
  rw [← hQ] at HV
  have E0 : Hid (Int.tdiv A 8 = Q) := Lib.hid (by rw [hQ]; exact Int.tdiv_eq_ediv_of_nonneg hin.1)
  have E1 : Hid (IntKind.i64.wrap Q = Q) := Lib.hid (IntWalk.i64_in _ (by omega))
  have EA : Hid (∀ s, 0 ≤ s → s ≤ 4194304 → IntKind.i64.wrap (Q + s) = Q + s) := Lib.hid (fun s s1 s2 => IntWalk.i64_in _ (by omega))
  have HD := Lib.hid hin.2.2
  obtain ⟨q, hq⟩ : ∃ q, q = a / 8 := ⟨_, rfl⟩
  obtain ⟨q4, hq4⟩ : ∃ q4, q4 = d / 4 := ⟨_, rfl⟩
  have F0 : Hid (Int.tdiv a 8 = q) := Lib.hid (by rw [hq]; exact Int.tdiv_eq_ediv_of_nonneg h5)
  have F1 : Hid (IntKind.i64.wrap q = q) := Lib.hid (IntWalk.i64_in _ (by omega))
  have F2 : Hid (Int.tdiv d 4 = q4) := Lib.hid (by rw [hq4]; exact Int.tdiv_eq_ediv_of_nonneg h7)
  have F3 : Hid (IntKind.i64.wrap q4 = q4) := Lib.hid (IntWalk.i64_in _ (by omega))
  obtain ⟨x, hx⟩ : ∃ x, x = R - q := ⟨_, rfl⟩
  have F4 : Hid (IntKind.i64.wrap (R - q) = x) := Lib.hid (by rw [hx]; exact IntWalk.i64_in _ (by omega))
  have F5 : Hid (IntKind.i64.wrap (-x) = -x) := Lib.hid (IntWalk.i64_in _ (by omega))
  have FB : Hid (b = true → A = a + x ∧ D = d + (max x (-x) - q4)) := Lib.hid (fun hb => by
    subst hb
    rw [← hA, ← hD, hx, hq, hq4]
    exact ⟨rfl, rfl⟩)
  have FF : Hid (b = false → A = 8 * R ∧ D = 2 * R) := Lib.hid (fun hb => by
    subst hb
    rw [← hA, ← hD]
    exact ⟨rfl, rfl⟩)
  have W1 : Hid (∀ s, (s = x ∨ s = -x) → IntKind.i64.wrap (d + s) = d + s ∧ IntKind.i64.wrap (d + s - q4) = d + s - q4) := Lib.hid (fun s hs => ⟨IntWalk.i64_in _ (by omega), IntWalk.i64_in _ (by omega)⟩)
  have W2 : Hid (IntKind.i64.wrap (a + x) = a + x) := Lib.hid (IntWalk.i64_in _ (by omega))
  have W3 : Hid (IntKind.i64.wrap (8 * R) = 8 * R ∧ IntKind.i64.wrap (2 * R) = 2 * R) := Lib.hid ⟨IntWalk.i64_in _ (by omega), IntWalk.i64_in _ (by omega)⟩
  have HRE := Lib.hid hRe
  clear h1 h2 h3 h4 h5 h6 h7 h8 hin hR hRe hA hD hQ hq hq4 hx
  have X := Lib.hid (DkW.start w l m a d b t)
  go_enter Try.func13, Try.ntmps13
  go_upto_region 1 with fail
  unfold dkO at X
  generalize (w.alloc _).alloc _ = W at X ⊢
  obtain ⟨n1, hn1⟩ : ∃ n1, n1 = w.heap.size + 1 := ⟨_, rfl⟩
  rw [← hn1] at X ⊢
  obtain ⟨n0, hn0⟩ : ∃ n0, n0 = w.heap.size := ⟨_, rfl⟩
  rw [← hn0] at X ⊢
  clear hn0 hn1
  obtain ⟨r1, hr1⟩ : ∃ r1, r1 = max r 0 := ⟨_, rfl⟩
  go_upto_if 9 with fail
  go_cut [1] from 8 to 9 (fun v wx => v = .int .i64 r1 ∧ wx = W)
  case first =>
    by_cases hr0 : r < 0
    · obtain rfl : r1 = 0 := by omega
      clear hr1
      go_wp2_with fail
      go_meet
      case rel => exact ⟨rfl, rfl⟩
    · obtain rfl : r1 = r := by omega
      clear hr1
      go_wp2_with fail
      go_meet
      case rel => exact ⟨rfl, rfl⟩
  case rest =>
  obtain ⟨rfl, rfl⟩ := hcut
  have hR1 : R = min r1 1048576 := by rw [HRE.out, hr1]; unfold clampR; omega
  clear hr1 HRE
  go_upto_if 11 with fail
  go_cut [1] from 10 to 11 (fun v wx => v = .int .i64 R ∧ wx = wc)
  case first =>
    by_cases hr0 : 1048576 < r1
    · obtain rfl : R = 1048576 := by omega
      clear hR1
      go_wp2_with fail
      go_meet
      case rel => exact ⟨rfl, rfl⟩
    · obtain rfl : R = r1 := by omega
      clear hR1
      go_wp2_with fail
      go_meet
      case rel => exact ⟨rfl, rfl⟩
  case rest =>
  obtain ⟨rfl, rfl⟩ := hcut
  rename World => V
  clear hR1
  obtain ⟨-, -, c2, c3, c4, -, f⟩ := dk_cells X.out.y0
  have f2 := f 2
  have f3 := f 3
  have f4 := f 4
  clear f
  have q0 := F0.out
  have q1 := F1.out
  have q2 := F2.out
  have q3 := F3.out
  have k4 := F4.out
  have k5 := F5.out
  have k6 := W2.out
  obtain ⟨k7, k8⟩ := W3.out
  go_upto_if 14 with fail
  go_cut [5, 6] from 14 to 45 (fun v5 v6 wx => Hid (DkW w wx n0 n1 l m A D true t))
  case first =>
    cases b with
    | true =>
      by_cases hx0 : x < 0
      · have hd : d + -x - q4 = D := by have := (FB.out rfl).2; omega
        have ha : a + x = A := (FB.out rfl).1.symm
        have X3 : DkW w (V.setCell ⟨n0, 3, none⟩ (.int .i64 (d + -x - q4))) n0 n1 l m a D true t := X.out.set 3 (by decide) _ (by rw [hd]; rfl)
        have X4 := Lib.hid (X3.set 2 (by decide) (.int .i64 (a + x)) (l' := l) (m' := m) (a' := A) (d' := D) (b' := true) (t' := t) (by rw [ha]; rfl))
        obtain ⟨g1, g2⟩ := W1.out (-x) (.inr rfl)
        clear hd ha X3
        go_wp2_with fail
        go_meet
        case rel => exact X4
      · skip
        have hd : d + x - q4 = D := by have := (FB.out rfl).2; omega
        have ha : a + x = A := (FB.out rfl).1.symm
        have X3 : DkW w (V.setCell ⟨n0, 3, none⟩ (.int .i64 (d + x - q4))) n0 n1 l m a D true t := X.out.set 3 (by decide) _ (by rw [hd]; rfl)
        have X4 := Lib.hid (X3.set 2 (by decide) (.int .i64 (a + x)) (l' := l) (m' := m) (a' := A) (d' := D) (b' := true) (t' := t) (by rw [ha]; rfl))
        obtain ⟨g1, g2⟩ := W1.out (x) (.inl rfl)
        clear hd ha X3
        go_wp2_with fail
        go_meet
        case rel => exact X4
    | false =>
      have hd : 2 * R = D := (FF.out rfl).2.symm
      have ha : 8 * R = A := (FF.out rfl).1.symm
      have X3 : DkW w (V.setCell ⟨n0, 2, none⟩ (.int .i64 (8 * R))) n0 n1 l m A d false t := X.out.set 2 (by decide) _ (by rw [ha]; rfl)
      have X4 : DkW w ((V.setCell ⟨n0, 2, none⟩ (.int .i64 (8 * R))).setCell ⟨n0, 3, none⟩ (.int .i64 (2 * R))) n0 n1 l m A D false t := X3.set 3 (by decide) _ (by rw [hd]; rfl)
      have X5 := Lib.hid (X4.set 4 (by decide) (.bool true) (l' := l) (m' := m) (a' := A) (d' := D) (b' := true) (t' := t) rfl)
      clear hd ha X3 X4
      go_wp2_with fail
      go_meet
      case rel => exact X5
  case rest =>
  have X9 := hcut
  clear c2 c3 c4 f2 f3 f4 q0 q1 q2 q3 k4 k5 k6 k7 k8 X hcut
  rename World => V9
  obtain ⟨-, -, c2, c3, -, -, -⟩ := dk_cells X9.out.y0
  have RG := Lib.hid (dk_range X9.out.y0)
  have q0 := E0.out
  have q1 := E1.out
  have TL : ∀ s : Int, s = max D 1 → IntKind.i64.wrap (Q + s) = Q + s ∧ boundV l m (Q + s) = v := fun s hs => ⟨EA.out s (by have := HD.out; omega) (by have := HD.out; omega), by rw [hs]; exact HV.out⟩
  by_cases hD1 : D < 1
  · obtain ⟨k1, k2⟩ := TL (1) (by omega)
    have KV := Lib.hid k2
    clear TL k2
    go_wp2_with (first | (refine wpList_load_mid rfl 33 _ rfl n0 0 rfl _ _ RG.out Try.underlying33 rfl (by kernel_rfl) ?_) | (go_at_call 18; refine (rBound V9 l m A D true t (Q + 1) v KV.out).mono ?_; rintro e w2 ⟨rfl, k⟩; have X2 := Lib.hid (X9.out.grow k); have ST := Lib.hid (st_dk (l' := l) (m' := m) (a' := A) (d' := D) (b' := true) (t' := v) X2.out.y1); clear k) | (refine wpList_storeT 33 _ _ rfl rfl _ n1 rfl rfl ST.out ?_))
    exact bodyPost_ret (results_rowT _ 4 33 (by kernel_rfl) _ n1 _ _ _ rfl (dk_row X2.out.y1) Try.underlying33 rfl (by kernel_rfl)) rfl ⟨rfl, below_setRowT X2.out.bl X2.out.hn.2.1 _⟩
  · obtain ⟨k1, k2⟩ := TL (D) (by omega)
    have KV := Lib.hid k2
    clear TL k2
    go_wp2_with (first | (refine wpList_load_mid rfl 33 _ rfl n0 0 rfl _ _ RG.out Try.underlying33 rfl (by kernel_rfl) ?_) | (go_at_call 18; refine (rBound V9 l m A D true t (Q + D) v KV.out).mono ?_; rintro e w2 ⟨rfl, k⟩; have X2 := Lib.hid (X9.out.grow k); have ST := Lib.hid (st_dk (l' := l) (m' := m) (a' := A) (d' := D) (b' := true) (t' := v) X2.out.y1); clear k) | (refine wpList_storeT 33 _ _ rfl rfl _ n1 rfl rfl ST.out ?_))
    exact bodyPost_ret (results_rowT _ 4 33 (by kernel_rfl) _ n1 _ _ _ rfl (dk_row X2.out.y1) Try.underlying33 rfl (by kernel_rfl)) rfl ⟨rfl, below_setRowT X2.out.bl X2.out.hn.2.1 _⟩
end Go.Proofs.Ytgimadcfckgcmaa
