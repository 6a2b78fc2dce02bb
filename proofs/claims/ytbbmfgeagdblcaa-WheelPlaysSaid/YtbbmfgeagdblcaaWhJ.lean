/-
  Layer 5: Cancel. Conditions: as said.
-/
import Derived.Test.YtbbmfgeagdblcaaWhI
namespace Go.Proofs.Ytbbmfgeagdblcaa
open Go.RowKit Go.Sort Go.Shelf

theorem Turn.of_below {w w' : World} (h : Below w.heap.size w w') : Turn w w' (fun _ => False) := ⟨h.os, h.tape, h.output, h.size, fun k hk _ => h.block k hk⟩
theorem idx_cases {α : Type} (p : α → Bool) (d : α) : ∀ (l : List α) (n : Nat), (Lib.idxByFrom (fun _ y => p y) d l n = -1 ∧ ∀ t ∈ l, p t = false) ∨ ∃ i, ∃ h : i < l.length, Lib.idxByFrom (fun _ y => p y) d l n = ((n + i : Nat) : Int) ∧ p l[i] = true
  | [], n => .inl ⟨rfl, fun t ht => absurd ht List.not_mem_nil⟩
  | y :: l, n => by
    by_cases hy : p y = true
    · exact .inr ⟨0, Nat.zero_lt_succ _, by simp [Lib.idxByFrom, hy], hy⟩
    · have hy' : p y = false := by simpa using hy
      rcases idx_cases p d l (n + 1) with ⟨h1, h2⟩ | ⟨i, hi, h1, h2⟩
      · refine .inl ⟨by simp [Lib.idxByFrom, hy', h1], fun t ht => ?_⟩
        rcases List.mem_cons.1 ht with rfl | ht
        · exact hy'
        · exact h2 t ht
      · exact .inr ⟨i + 1, Nat.succ_lt_succ hi, by simp only [Lib.idxByFrom, hy', h1]; simp; omega, h2⟩

/-- What Cancel finds in a slot. -/
def Found {X : Type} (id : Int) (l : List (Tm X)) (r : Int) : Prop := (r = -1 ∧ ∀ t ∈ l, t.id ≠ id) ∨ ∃ i : Nat, ∃ h : i < l.length, r = (i : Int) ∧ l[i].id = id
/-- What Cancel leaves. -/
def Cancelled {X : Type} (id : Int) (ls ls' : Nat → List (Tm X)) (r : Bool) : Prop :=
  (r = false ∧ ls' = ls ∧ ∀ s, s < 64 → ∀ t ∈ ls s, t.id ≠ id) ∨ (r = true ∧ ∃ (s i : Nat), ∃ _ : s < 64, ∃ h : i < (ls s).length, (ls s)[i].id = id ∧ ls' = upd ls s ((ls s).eraseIdx i))

/-- A slot's row is rewritten in its own block, ahead of the store. -/
theorem WhV.rewritten {X : Type} {TW TE : TypeId} {e : X → Value} {w w2 : World} {O : Nat → Prop} {g : Nat} {now last : Int} {vs : Nat → Value} {ls : Nat → List (Tm X)} {s b : Nat} {v v' : Value} {l : List (Tm X)}
    (h : WhV TW TE e w O g now last vs ls) (hs : s < 64) (hv : vs s = v) (hvb : v.ownBlock = some b) (hg : Turn w w2 (fun k => k = b)) (hr : Row TE e w2 v' l) (hb : v'.ownBlock = some b) :
    w2.cell? ⟨g, 2 + s, none⟩ = some v ∧ w2.frozen? ⟨g, 2 + s, none⟩ = false ∧ (WhV TW TE e (w2.setCell ⟨g, 2 + s, none⟩ v') O g now last (upd vs s v') (upd ls s l) ∧ Turn w (w2.setCell ⟨g, 2 + s, none⟩ v') O) := by
  subst hv
  have hOb := (h.2.2.1 s hs).2 b hvb
  have hgg : w2.heap[g]? = some (.cells (wcells now last vs g) TW (0, 0)) := (hg.block g h.lt (fun x => hOb.2 x.symm)).trans h.1
  have hrow : ∀ i, i < 64 → i ≠ s → Row TE e w2 (vs i) (ls i) := fun i hi his => Row.turn (h.2.2.1 i hi).1 hg (fun k hk hx => by subst hx; exact h.2.2.2 i s hi hs his k hk hvb)
  refine ⟨by rw [cell_of_cells hgg, wcells_slot _ _ _ _ _ hs], frozen_of_cells hgg, ⟨by rw [heap_set _ hgg, wcells_setSlot _ _ _ _ _ _ hs], h.2.1, fun i hi => ?_, fun i j hi hj hij k hk => ?_⟩, ?_⟩
  · by_cases his : i = s
    · subst his
      rw [upd_same, upd_same]
      have hne : ∀ k, v'.ownBlock = some k → O k ∧ k ≠ g := fun k hk => by rw [hb] at hk; injection hk with hk; subst hk; exact hOb
      exact ⟨hr.set _ (fun k hk => (hne k hk).2), hne⟩
    · rw [upd_other _ _ _ his, upd_other _ _ _ his]
      exact ⟨(hrow i hi his).set _ (fun k hk => ((h.2.2.1 i hi).2 k hk).2), (h.2.2.1 i hi).2⟩
  · by_cases his : i = s
    · subst his
      rw [upd_same, hb] at hk
      rw [upd_other _ _ _ (Ne.symm hij)]
      injection hk with hk
      subst hk
      exact fun hx => h.2.2.2 j i hj hi (Ne.symm hij) b hx hvb
    · rw [upd_other _ _ _ his] at hk
      by_cases hjs : j = s
      · subst hjs
        rw [upd_same, hb]
        intro hx
        injection hx with hx
        subst hx
        exact h.2.2.2 i j hi hj his b hk hvb
      · rw [upd_other _ _ _ hjs]
        exact h.2.2.2 i j hi hj hij k hk
  · exact (hg.mono (fun j _ hj => by subst hj; exact hOb.1)).setCell h.2.1 _ _

theorem pred_okI (id : Int) (B : Nat) (w : World) (hB : B < w.heap.size) (hcell : w.cell? ⟨B, 0, none⟩ = some (.int .i64 id)) :
    PredBelow Try.prog 37 #[.pointer (some ⟨B, 0, none⟩)] (fun x => .agg (Tm.cells (Value.int .i64) x).toArray) (fun x : Tm Int => decide (x.id = id)) w := fun W x hb => by
  have hc : W.cell? ⟨B, 0, none⟩ = some (.int .i64 id) := (hb.cell (p := ⟨B, 0, none⟩) hB).trans hcell
  have hBW : B < W.heap.size := Nat.lt_of_lt_of_le hB hb.size
  have hne : B ≠ W.heap.size := by omega
  obtain ⟨xi, xd, xx⟩ := x
  show Calls Try.prog 37 #[.agg #[.int .i64 xi, .int .i64 xd, (Value.int .i64) xx], .pointer (some ⟨B, 0, none⟩)] W _
  by_cases he : xi = id
  · subst he
    rw [show ((fun x : Tm Int => decide (x.id = xi)) ⟨xi, xd, xx⟩) = true from by simp]
    go_enter Try.func37, Try.ntmps37
    go_wp2
    all_goals (go_ret; exact ⟨rfl, hb.alloc hb.size _⟩)
  · rw [show ((fun x : Tm Int => decide (x.id = id)) ⟨xi, xd, xx⟩) = false from by simpa using he]
    have he2 : (xi == id) = false := by simpa using he
    go_enter Try.func37, Try.ntmps37
    go_wp2
    all_goals (go_ret; exact ⟨rfl, hb.alloc hb.size _⟩)

theorem enters_predI : ∀ args w, (callFunc 37 args).run Try.prog w = .ok (.enter 37 args) w := enters_of Try.func37 (by kernel_rfl) rfl

set_option maxHeartbeats 400000 in
theorem find_nilI (w : World) (fv : Value) :
    Calls Try.prog 36 #[.slice none 0 0, fv] w fun e w' => e = .returned (.int .i64 (-1)) ∧ w = w' := by
  go_enter Try.func36, Try.ntmps36
  go_wp2
  go_loop [8] (fun i => i = .int .i64 0) (fun _ => 0)
  case atStart => exact rfl
  case round =>
    subst hrel
    go_wp2
    go_ret
    exact ⟨rfl, rfl⟩

theorem find_okI (w : World) (v : Value) (l : List (Tm Int)) (h : Row 79 (Value.int .i64) w v l) (hl : l.length ≤ 1000000) (id : Int) (B : Nat) (hB : B < w.heap.size) (hcell : w.cell? ⟨B, 0, none⟩ = some (.int .i64 id)) :
    Calls Try.prog 36 #[v, .func (.func 37) #[] #[.pointer (some ⟨B, 0, none⟩)]] w fun e w' => ∃ r, e = .returned (.int .i64 r) ∧ Found id l r ∧ Turn w w' (fun _ => False) := by
  rcases h.2 with ⟨hv, h0⟩ | ⟨b, cap, cur, hv, _, hb, _⟩
  · subst hv
    obtain rfl := List.length_eq_zero_iff.1 h0
    exact (find_nilI w _).mono fun e w' ⟨he, hw⟩ => ⟨-1, he, .inl ⟨rfl, fun t ht => absurd ht List.not_mem_nil⟩, by subst hw; exact Turn.refl _ _⟩
  · subst hv
    have hcon := AnyQ.slices_IndexFunc Try.idxI 3 Try.isAgg79 Try.sizeOf79 (Tm.cells (Value.int .i64)) (fun _ => rfl) (fun x => decide (x.id = id)) 37 #[.pointer (some ⟨B, 0, none⟩)] enters_predI b 0 l.length cap l w
      (pred_okI id B w hB hcell) (Nat.le_refl _) (by omega) (Array.getElem?_eq_some_iff.1 hb).1 (fun j hj i u hu => by
        have hlj : l[j]! = l[j] := getElem!_pos l j hj
        rw [hlj] at hu
        obtain ⟨b', cap', hv', _, _, _, hE⟩ := Row.elem h (by omega)
        injection hv' with hv'; injection hv' with hv'; injection hv' with hv'
        subst hv'
        rw [Nat.zero_add]
        exact hE j hj i u hu)
    have hcon2 : Calls Try.prog 36 #[.slice (some ⟨b, 0, none⟩) l.length cap, .func (.func 37) #[] #[.pointer (some ⟨B, 0, none⟩)]] w _ := hcon
    refine hcon2.mono fun e w' ⟨he, hw⟩ => ⟨_, he, ?_, Turn.of_below hw⟩
    rw [List.take_length]
    unfold Lib.idxBy
    rcases idx_cases (fun x : Tm Int => decide (x.id = id)) default l 0 with ⟨h1, h2⟩ | ⟨i, hi, h1, h2⟩
    · exact .inl ⟨h1, fun t ht => by simpa using h2 t ht⟩
    · exact .inr ⟨i, hi, by rw [h1, Nat.zero_add], by simpa using h2⟩

set_option maxRecDepth 100000 in
set_option maxHeartbeats 400000 in
theorem cancel_okI {w : World} {O : Nat → Prop} {g : Nat} {now last : Int} {ls : Nat → List (Tm Int)} (h : WhI w O g now last ls) (id : Int) (hf : count ls 64 ≤ 1000000) :
    Calls Try.prog 14 #[.pointer (some ⟨g, 0, none⟩), .int .i64 id] w fun e w' => ∃ r ls', e = .returned (.bool r) ∧ Cancelled id ls ls' r ∧ WhI w' O g now last ls' ∧ Turn w w' O := by
  obtain ⟨vs, m0⟩ := h
  have m := m0.kept (w' := w.alloc (.cells #[.int .i64 id] 3)) (fun j hj _ => (World.grownBy_alloc w _ none).block j hj (by simp))
  have hr := m.range
  have hbx : (w.alloc (.cells #[.int .i64 id] 3)).cell? ⟨w.heap.size, 0, none⟩ = some (.int .i64 id) := cell_of_cells (_root_.Go.heap_alloc_new w _)
  have hbz : w.heap.size < (w.alloc (.cells #[.int .i64 id] 3)).heap.size := by simp
  have HT0 := Lib.hid (Turn.of_grown (O := fun _ => False) (World.grownBy_alloc w (.cells #[.int .i64 id] 3) none) (fun j h => by cases h))
  have HX := Lib.hid (fun (k : Nat) (hk : k < 64) (w : World) => run_index_agg (P := Try.prog) 73 72 vs k hk w Try.underlying73 (fun _ => by kernel_rfl) (fun _ => by kernel_rfl))
  have HLE := Lib.hid (fun s hs => ls_le ls hf s hs)
  have HBX := Lib.hid hbx
  have HBZ := Lib.hid hbz
  have HOG := Lib.hid m.2.1
  clear m0 hbx hbz
  go_enter Try.func14, Try.ntmps14
  go_wp2_with (first | (go_at_call 35; refine (none_noI m).mono ?_; rintro e w' ⟨rfl, rfl⟩) | (refine wpList_load_mid rfl _ _ rfl g 2 rfl (slotsL vs) _ hr Try.underlying73 rfl (by rw [slotsL_len]; kernel_rfl) ?_))
  have M := Lib.hid m
  clear hr m
  generalize hW1 : w.alloc (.cells #[.int .i64 id] 3) = W1 at *
  have HBB := Lib.hid hW1
  clear hW1
  have hTl : Turn W1 W1 (fun _ => False) := Turn.refl _ _
  go_loopw [14] (fun i wr => ∃ k : Nat, k ≤ 64 ∧ i = .int .i64 k ∧ Turn W1 wr (fun _ => False) ∧ Hid (∀ s, s < k → ∀ t ∈ ls s, t.id ≠ id)) (fun i _ => 64 - (intOf i).toNat)
  case atStart => exact ⟨0, by omega, rfl, hTl, Lib.hid (fun s hs => absurd hs (Nat.not_lt_zero _))⟩
  case round =>
    obtain ⟨k, hk, rfl, T, HNO⟩ := hrel
    by_cases hlt : k < 64
    · have h1 := HX.out k hlt wr
      have hd : decide ((k : Int) < 64) = true := by simp; omega
      have mk := M.out.kept (w' := wr) (fun j hj _ => T.block j hj (fun h => h))
      have R := (mk.2.2.1 k hlt).1
      have hcell : wr.cell? ⟨w.heap.size, 0, none⟩ = some (.int .i64 id) := (World.cell?_of_block (a := ⟨w.heap.size, 0, none⟩) (T.block _ HBZ.out (fun h => h))).trans HBX.out
      have HF := Lib.hid (find_okI wr (vs k) (ls k) R (HLE.out k hlt) id w.heap.size (Nat.lt_of_lt_of_le HBZ.out T.size) hcell)
      have HM := Lib.hid mk
      have hvk : ∃ p c, vs k = .slice p (ls k).length c := mk.len hlt
      obtain ⟨pk, ck, hpk⟩ := hvk
      have HPK := Lib.hid hpk
      rw [hpk] at h1 HF
      clear R hcell mk hpk
      go_upto_region 7 with (go_at_call 36; refine HF.out.mono ?_; rintro e w2 ⟨r, rfl, q1, q2⟩; have Q1 := Lib.hid q1; have Q2 := Lib.hid q2; clear q1 q2)
      rcases Q1.out with ⟨rfl, hno⟩ | ⟨i, hi, rfl, hid⟩
      · have HNO2 : Hid (∀ s, s < k + 1 → ∀ t ∈ ls s, t.id ≠ id) := fun s hs => by
          by_cases hsk : s = k
          · subst hsk; exact hno
          · exact HNO.out s (by omega)
        have T2 := T.trans Q2.out
        clear hno HNO T h1 HF
        go_wp2_with fail
        go_roundw
        case rel => exact ⟨k + 1, by omega, by go_num, T2, HNO2⟩
        case measure => simp [intOf]; omega
      · have HID := Lib.hid hid
        have hi' : i < (ls k).length := hi
        obtain ⟨b, cap, hv, _, _, _, _⟩ := Row.elem (HM.out.2.2.1 k hlt).1 (by omega)
        have hpk2 : pk = some ⟨b, 0, none⟩ ∧ ck = cap := by
          have := HPK.out.symm.trans hv
          injection this with h1 h2 h3
          exact ⟨h1, h3⟩
        obtain ⟨rfl, rfl⟩ := hpk2
        have HM2 := Lib.hid (HM.out.kept (w' := w2) (fun j hj _ => Q2.out.block j hj (fun h => h)))
        have HDL := Lib.hid (fun (V : World) (d : Drew w2 V) => delete_okI V b ck i (ls k) (by have := ((HM2.out.kept (w' := V) (fun j _ _ => d.block j)).2.2.1 k hlt).1; rw [HPK.out] at this; exact this) hi' (HLE.out k hlt))
        have HCN := Lib.hid (fun (V w3 : World) (d : Drew w2 V) hr ht => WhV.rewritten (b := b) (HM2.out.kept (w' := V) (fun j _ _ => d.block j)) hlt HPK.out rfl (w2 := w3) (v' := .slice (some ⟨b, 0, none⟩) ((ls k).length - 1) ck) (l := (ls k).eraseIdx i) ht hr rfl)
        have hil : (i : Int) + 1 ≤ 1000001 := by have := HLE.out k hlt; omega
        have hwr : IntKind.i64.wrap ((i : Int) + 1) = (i : Int) + 1 := IntWalk.i64_in _ (by omega)
        have hki : (k : Int) < 64 := by omega
        have hTT := Lib.hid ((HT0.out.mono (O' := O) (fun _ _ h => h.elim)).trans ((T.mono (O' := O) (fun _ _ h => h.elim)).trans (Q2.out.mono (O' := O) (fun _ _ h => h.elim))))
        clear hid hv h1 HF T HNO
        go_upto_region 8 with fail
        refine wp_region_noPanic ?_
        refine region_held (S := fun _ => True) (by kernel_rfl) (fun V d => trivial) (fun V d hS => ?_)
        refine wpAnyH_take (i := 0) (oi := ⟨some 23, Op.move (Operand.tmp 0), _, _, _, none⟩) (v := (.pointer (some ⟨g, 0, none⟩))) rfl (by kernel_rfl) (by kernel_rfl) (by kernel_rfl) (fun _ _ _ h => h) (Or.inl ⟨by rfl, fun w' h' => ?_⟩) hS ?_
        · clear h'
          go_simp
        simp only [Act.put]
        refine wpAnyH_take (i := 1) (oi := ⟨some 24, Op.move (Operand.tmp 5), _, _, _, none⟩) (v := (.int .i64 (k : Int))) rfl (by kernel_rfl) (by kernel_rfl) (by kernel_rfl) (fun _ _ _ h => h) (Or.inl ⟨by rfl, fun w' h' => ?_⟩) hS ?_
        · clear h'
          go_simp
        simp only [Act.put]
        refine wpAnyH_take (i := 2) (oi := ⟨some 25, Op.move (Operand.tmp 6), _, _, _, none⟩) (v := (.slice (some ⟨b, 0, none⟩) (ls k).length ck)) rfl (by kernel_rfl) (by kernel_rfl) (by kernel_rfl) (fun _ _ _ h => h) (Or.inl ⟨by rfl, fun w' h' => ?_⟩) hS ?_
        · clear h'
          go_simp
        simp only [Act.put]
        refine wpAnyH_take (i := 3) (oi := ⟨some 26, Op.move (Operand.tmp 7), _, _, _, none⟩) (v := (.int .i64 (i : Int))) rfl (by kernel_rfl) (by kernel_rfl) (by kernel_rfl) (fun _ _ _ h => h) (Or.inl ⟨by rfl, fun w' h' => ?_⟩) hS ?_
        · clear h'
          go_simp
        simp only [Act.put]
        refine wpAnyH_take (i := 4) (oi := ⟨some 27, Op.move (Operand.tmp 7), _, _, _, none⟩) (v := (.int .i64 (i : Int))) rfl (by kernel_rfl) (by kernel_rfl) (by kernel_rfl) (fun _ _ _ h => h) (Or.inl ⟨by rfl, fun w' h' => ?_⟩) hS ?_
        · clear h'
          go_simp
        simp only [Act.put]
        refine wpAnyH_take (i := 5) (oi := ⟨some 28, Op.binOp BinOp.add 3 (Operand.tmp 27) (Operand.const (Value.int IntKind.i64 1)) 3, _, _, _, none⟩) (v := (.int .i64 ((i : Int) + 1))) rfl (by kernel_rfl) (by kernel_rfl) (by kernel_rfl) (fun _ _ _ h => h) (Or.inl ⟨by rfl, fun w' h' => ?_⟩) hS ?_
        · clear h'
          go_simp
        simp only [Act.put]
        refine wpAnyH_take (i := 7) (oi := ⟨some 30, Op.nilCheck (Operand.tmp 23), _, _, _, none⟩) (v := (.pointer (some ⟨g, 0, none⟩))) rfl (by kernel_rfl) (by kernel_rfl) (by kernel_rfl) (fun _ _ _ h => h) (Or.inl ⟨by rfl, fun w' h' => ?_⟩) hS ?_
        · clear h'
          go_simp
        simp only [Act.put]
        refine wpAnyH_take (i := 8) (oi := ⟨some 31, Op.fieldAddr 75 (Operand.tmp 30) 2, _, _, _, none⟩) (v := (.pointer (some ⟨g, 2, none⟩))) rfl (by kernel_rfl) (by kernel_rfl) (by kernel_rfl) (fun _ _ _ h => h) (Or.inl ⟨by rfl, fun w' h' => ?_⟩) hS ?_
        · clear h'
          go_simp
        simp only [Act.put]
        refine wpAnyH_ready (rs := [6]) (by kernel_rfl) (by simp) ?_
        refine AllReadyH.cons rfl (fun K hK => ?_) AllReadyH.nil
        go_simp
        refine (HDL.out V d).mono ?_
        rintro e w3 ⟨rfl, q3, q4⟩
        have A1 := HCN.out V w3 d q3 q4
        have f3 := A1.1
        have s3 := A1.2.1
        have A3 := Lib.hid A1.2.2
        clear A1 q3 q4
        go_simp
        refine hK.out _ _ trivial (fun _ => ?_)
        clear hK K
        refine wpAnyH_take (i := 9) (oi := ⟨some 32, Op.indexAddr 73 (Operand.tmp 31) (Operand.tmp 24), _, _, _, none⟩) (v := (.pointer (some ⟨g, 2 + k, none⟩))) rfl (by kernel_rfl) (by kernel_rfl) (by kernel_rfl) (fun _ _ _ h => h) (Or.inl ⟨by rfl, fun w' h' => ?_⟩) trivial ?_
        · clear h'
          go_simp
        simp only [Act.put]
        refine wpAnyH_ready (rs := [10]) (by kernel_rfl) (by simp) ?_
        refine AllReadyH.cons rfl (fun K hK => ?_) AllReadyH.nil
        go_simp
        skip
        refine hK.out _ _ trivial (fun _ => ?_)
        clear hK K
        refine wpAnyH_done (by kernel_rfl) (NoPanic.normal ?_) _
        go_wp2_with fail
        go_ret
        exact ⟨true, _, rfl, .inr ⟨rfl, k, i, hlt, hi', HID.out, rfl⟩, ⟨_, A3.out.1⟩, hTT.out.trans ((d.turn O).trans A3.out.2)⟩
    · obtain rfl : k = 64 := by omega
      have HM := Lib.hid (M.out.kept (w' := wr) (fun j hj _ => T.block j hj (fun h => h)))
      go_wp2_with fail
      go_ret
      exact ⟨false, ls, rfl, .inl ⟨rfl, rfl, HNO.out⟩, ⟨vs, HM.out⟩, (HT0.out.mono (fun _ _ h => h.elim)).trans (T.mono (fun _ _ h => h.elim))⟩





end Go.Proofs.Ytbbmfgeagdblcaa
