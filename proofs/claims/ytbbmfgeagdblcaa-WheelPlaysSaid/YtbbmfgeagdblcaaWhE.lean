/-
  Layer 5: takeDue, things. Conditions: as said.
-/
import Derived.Test.YtbbmfgeagdblcaaWhD
namespace Go.Proofs.Ytbbmfgeagdblcaa
open Go.RowKit Go.Sort

/-- 'append' of one timer, onto a row of its own: at the list of a plain region's operations. -/
theorem wpList_append_row {P : Program} {ops : Array Oper} {rest : List Oper} {o : Oper} {a : Act} {w : World} {Q : Exit → Act → World → Prop} {X : Type}
    (hg : o.guard = none) (s x : Operand) (t : TypeId) (hop : o.op = Op.call { callee := Callee.builtin Builtin.append, args := #[s, x], argTypes := #[t, t] })
    (TE : TypeId) (i : TypeInfo) (z : Value) (bytes : Nat) (ht : P.underlying t = some (.slice TE)) (hi : P.info? TE = some i) (hz : i.zero = some z) (hsize : i.size = 3) (hby : i.bytes = bytes) (hb2 : bytes ≤ 64) (hzs : z.cells.size = 3)
    (e : X → Value) (h1e : ∀ y, (e y).oneCell' = true) (v : Value) (l : List (Tm X)) (hs : a.eval s = v) (hown : Row TE e w v l) (hl : l.length ≤ 100000000)
    (ad : Addr) (c : Nat) (tm : Tm X) (hx : a.eval x = .slice (some ad) 1 c) (hc : ∀ j u, (Tm.cells e tm)[j]? = some u → w.cell? (ad.add j) = some u)
    (hK : ∀ v' w', Row TE e w' v' (l ++ [tm]) → w.grownBy w' v.ownBlock → (v'.ownBlock = v.ownBlock ∨ v'.ownBlock = some w.heap.size) → wpList P ops Q rest (a.put o.dst v') w') :
    wpList P ops Q (o :: rest) a w :=
  wpList_plain hg fun K hKK => by
    obtain ⟨v', w', hr, h2, h3, _, h5⟩ := run_append_own_at (P := P) w 0 t o.type TE i z 3 bytes ht hi hz hsize hby hzs (by decide) v l.length (encL e l) hown ad 1 c (Tm.cells e tm) rfl hc
      (fun u hu => by simp [Tm.cells] at hu; rcases hu with rfl | rfl | rfl <;> first | rfl | exact h1e _) (by unfold maxLen; omega) (by have := Nat.mul_le_mul (show l.length + 1 ≤ 100000001 by omega) hb2; omega) (Nat.zero_le _)
    unfold Oper.wp
    simp only [execOp, hop, resolve, invoke, builtin, Sem.run_bind, Sem.run_pure, Result.andThen_ok, List.map_toArray, List.map_cons, List.map_nil, hs, hx, hr]
    refine hKK _ _ (hK v' w' ?_ h3 h5)
    unfold Row
    rw [List.length_append, encL_append]
    simpa [encL] using h2

/-- Two rows, each its own, in blocks from B on. -/
structure Two {X : Type} (TE : TypeId) (e : X → Value) (B : Nat) (w : World) (va : Value) (la : List (Tm X)) (vb : Value) (lb : List (Tm X)) : Prop where
  a : Row TE e w va la
  b : Row TE e w vb lb
  ab : ∀ k, va.ownBlock = some k → B ≤ k
  bb : ∀ k, vb.ownBlock = some k → B ≤ k
  ne : ∀ k, va.ownBlock = some k → vb.ownBlock ≠ some k
section
variable {X : Type} {TE : TypeId} {e : X → Value} {B : Nat} {w w' : World} {va vb va' : Value} {la lb la' : List (Tm X)}
theorem Two.symm (h : Two TE e B w va la vb lb) : Two TE e B w vb lb va la := ⟨h.b, h.a, h.bb, h.ab, fun k hk hx => h.ne k hx hk⟩
theorem Two.nil (TE : TypeId) (e : X → Value) (B : Nat) (w : World) : Two TE e B w (.slice none 0 0) [] (.slice none 0 0) [] :=
  ⟨World.ownsRow_nil _ _ _ _, World.ownsRow_nil _ _ _ _, fun k hk => by simp [Value.ownBlock] at hk, fun k hk => by simp [Value.ownBlock] at hk, fun k hk => by simp [Value.ownBlock] at hk⟩
theorem Two.kept (h : Two TE e B w va la vb lb) (k : w.grownBy w' none) : Two TE e B w' va la vb lb :=
  ⟨h.a.kept k (by cases va.ownBlock <;> simp), h.b.kept k (by cases vb.ownBlock <;> simp), h.ab, h.bb, h.ne⟩
theorem Two.left (h : Two TE e B w va la vb lb) (hB : B ≤ w.heap.size) (k : w.grownBy w' va.ownBlock) (hr : Row TE e w' va' la') (hb : va'.ownBlock = va.ownBlock ∨ va'.ownBlock = some w.heap.size) : Two TE e B w' va' la' vb lb := by
  refine ⟨hr, h.b.kept k ?_, fun j hj => ?_, h.bb, fun j hj hx => ?_⟩
  · cases hv : vb.ownBlock with
    | none => exact .inl rfl
    | some j => exact .inr (fun hx => h.ne j hx.symm hv)
  · rcases hb with hb | hb
    · exact h.ab j (by rw [← hb]; exact hj)
    · rw [hb] at hj; injection hj with hj; omega
  · rcases hb with hb | hb
    · exact h.ne j (by rw [← hb]; exact hj) hx
    · rw [hb] at hj; injection hj with hj
      have := (h.b.lt j hx).2; omega
end
theorem Row.shape {X : Type} {TE : TypeId} {e : X → Value} {w : World} {v : Value} {l : List (Tm X)} (h : Row TE e w v l) : ∃ p c, v = .slice p l.length c := by
  rcases h.2 with ⟨h1, h2⟩ | ⟨g, cap, _, h1, _⟩
  · exact ⟨none, 0, by rw [h1, h2]⟩
  · exact ⟨_, cap, h1⟩
theorem turn_of_row {w0 w w' : World} {v : Value} {B : Nat} (h : Turn w0 w (fun _ => False)) (hB : w0.heap.size = B) (k : w.grownBy w' v.ownBlock) (hb : ∀ j, v.ownBlock = some j → B ≤ j) : Turn w0 w' (fun _ => False) :=
  h.trans' (Turn.of_grown (O := fun j => v.ownBlock = some j) k (fun j h => h)) (fun j hj hx => by have := hb j hx; omega)

/-- What stays through a drawing test: a copy of a timer, and the wheel's time. -/
def DueS (t : TypeId) (B g : Nat) (now : Int) (xs : List Value) (w : World) : Prop := w.heap[B]? = some (.cells xs.toArray t (0, 0)) ∧ w.cell? ⟨g, 0, none⟩ = some (.int .i64 now)
section
variable {t : TypeId} {B g : Nat} {now : Int} {w w' : World} {a b c : Value} {xs : List Value}
theorem DueS.d (h : DueS t B g now [a, b, c] w) : w.cell? ⟨B, 1, none⟩ = some b := cell_of_cells h.1
theorem DueS.n (h : DueS t B g now xs w) : w.cell? ⟨g, 0, none⟩ = some (.int .i64 now) := h.2
theorem DueS.drew (h : DueS t B g now xs w) (d : Drew w w') : DueS t B g now xs w' := ⟨(d.block _).trans h.1, (World.cell?_of_block (a := ⟨g, 0, none⟩) (d.block g)).trans h.2⟩
end
def isDue {X : Type} (now : Int) (t : Tm X) : Bool := decide (t.due ≤ now)
def dues {X : Type} (now : Int) (l : List (Tm X)) : List (Tm X) := l.filter (isDue now)
def rests {X : Type} (now : Int) (l : List (Tm X)) : List (Tm X) := l.filter fun t => !isDue now t
theorem dues_len {X : Type} (now : Int) (l : List (Tm X)) : (dues now l).length ≤ l.length := List.length_filter_le _ _
theorem rests_len {X : Type} (now : Int) (l : List (Tm X)) : (rests now l).length ≤ l.length := List.length_filter_le _ _

set_option maxRecDepth 100000 in
set_option maxHeartbeats 400000 in
theorem takeDue_okI {w : World} {O : Nat → Prop} {g : Nat} {now last : Int} {ls : Nat → List (Tm Int)} (h : WhI w O g now last ls) (s : Nat) (hs : s < 64) (hb : (ls s).length ≤ 1000000) :
    Calls Try.prog 39 #[.pointer (some ⟨g, 0, none⟩), .int .i64 s] w fun e w' => ∃ v, e = .returned v ∧ Row 79 (Value.int .i64) w' v (dues now (ls s)) ∧ (∀ k, v.ownBlock = some k → w.heap.size ≤ k) ∧
      WhI w' (fun k => (O k ∨ (w.heap.size ≤ k ∧ k < w'.heap.size)) ∧ v.ownBlock ≠ some k) g now last (upd ls s (rests now (ls s))) ∧ Turn w w' O := by
  obtain ⟨vs, m⟩ := h
  have cs := m.slot hs
  have hsi : (s : Int) < 64 := by omega
  have hpl := m.len2 hs
  have M := Lib.hid m
  have R := Lib.hid (m.2.2.1 s hs).1
  have hgl := m.lt
  have hTl : Turn w w (fun _ => False) := Turn.refl _ _
  obtain ⟨i0, z0, hi, hz0, hz1, hz2, hz3⟩ := info_tmI
  have HI := Lib.hid hi
  have HZ0 := Lib.hid hz0
  have HZ1 := Lib.hid hz1
  have HZ2 := Lib.hid hz2
  have HZ3 := Lib.hid hz3
  have h64 : 24 ≤ 64 := by decide
  clear m hi hz0 hz1 hz2 hz3
  have HP : Hid (∃ p c, vs s = .slice p (ls s).length c ∧ (0 < (ls s).length → ∃ b, p = some ⟨b, 0, none⟩)) := Lib.hid (by
    rcases hpl with ⟨h1, h2⟩ | ⟨b, c, h1⟩
    · exact ⟨none, 0, by rw [h1, h2]; rfl, fun h => by rw [h2] at h; cases h⟩
    · exact ⟨_, c, h1, fun _ => ⟨b, rfl⟩⟩)
  clear hpl
  obtain ⟨p, c, hp, hpp⟩ := HP.out
  rw [hp] at cs
  have HPE := Lib.hid hp
  have HPP := Lib.hid hpp
  clear hp hpp HP
  go_enter Try.func39, Try.ntmps39
  go_wp2_with fail
  clear cs
  go_loopw [5, 6, 16] (fun dv ov i wr => ∃ j : Nat, j ≤ (ls s).length ∧ i = .int .i64 j ∧ Two 79 (Value.int .i64) w.heap.size wr dv (dues now ((ls s).take j)) ov (rests now ((ls s).take j)) ∧ Turn w wr (fun _ => False)) (fun _ _ i _ => (ls s).length - (intOf i).toNat)
  case atStart => exact ⟨0, by omega, rfl, Two.nil _ _ _ _, hTl⟩
  case round =>
    obtain ⟨j, hj, rfl, TT, T⟩ := hrel
    by_cases hjl : j < (ls s).length
    · have R2 := R.out.kept (T.grown (fun _ _ h => h)) (by cases (vs s).ownBlock <;> simp)
      obtain ⟨b', cap, hv, _, _, hbl, hE0⟩ := Row.elem R2 (by omega)
      have hE := hE0 j hjl
      clear hE0
      obtain ⟨b, hpb⟩ := HPP.out (by omega)
      subst hpb
      have hq := hv.symm.trans HPE.out
      obtain rfl : b' = b := by injection hq with hq1; injection hq1 with hq1; injection hq1
      have HT := take_one (ls s) j hjl
      have hdl := dues_len now ((ls s).take j)
      have hol := rests_len now ((ls s).take j)
      have htl : ((ls s).take j).length ≤ j := List.length_take_le _ _
      have hdl3 : (dues now ((ls s).take j)).length ≤ 100000000 := by omega
      have hol3 : (rests now ((ls s).take j)).length ≤ 100000000 := by omega
      generalize (ls s)[j] = t at hE HT
      obtain ⟨ti, td, tx⟩ := t
      have HE := Lib.hid hE
      have hd2 : decide ((j : Int) < ((ls s).length : Int)) = true := by simp; omega
      have hn0 := ((M.out.kept (w' := wr) (fun j hj _ => T.block j hj id))).c0
      have HN0 := Lib.hid hn0
      have hgr : g < wr.heap.size := Nat.lt_of_lt_of_le hgl T.size
      have HDU : Hid (dues now ((ls s).take (j + 1)) = if td ≤ now then dues now ((ls s).take j) ++ [⟨ti, td, tx⟩] else dues now ((ls s).take j)) := Lib.hid (by
        rw [HT]; unfold dues; rw [List.filter_append]; by_cases h : td ≤ now <;> simp [isDue, h])
      have HRE : Hid (rests now ((ls s).take (j + 1)) = if td ≤ now then rests now ((ls s).take j) else rests now ((ls s).take j) ++ [⟨ti, td, tx⟩]) := Lib.hid (by
        rw [HT]; unfold rests; rw [List.filter_append]; by_cases h : td ≤ now <;> simp [isDue, h])
      have hBw : w.heap.size ≤ wr.heap.size := T.size
      clear R2 hv hE hbl hq HT hdl hol htl hn0
      go_upto_region 5 with (refine wpList_load_mid rfl 79 (.tmp 18) rfl b' (j * 3) rfl [.int .i64 ti, .int .i64 td, (Value.int .i64) tx] _ HE.out Try.underlying79 rfl (by kernel_rfl) ?_)
      have DS : DueS 79 wr.heap.size g now [.int .i64 ti, .int .i64 td, (Value.int .i64) tx] (wr.alloc (.cells #[.int .i64 ti, .int .i64 td, (Value.int .i64) tx] 79)) :=
        ⟨_root_.Go.heap_alloc_new _ _, by rw [World.cell?_alloc_past _ _ _ hgr]; exact HN0.out⟩
      have TT1 := TT.kept (World.grownBy_alloc wr (.cells #[.int .i64 ti, .int .i64 td, (Value.int .i64) tx] 79) none)
      have T1 := T.alloc (.cells #[.int .i64 ti, .int .i64 td, (Value.int .i64) tx] 79)
      have hBw1 : w.heap.size ≤ (wr.alloc (.cells #[.int .i64 ti, .int .i64 td, (Value.int .i64) tx] 79)).heap.size := by simp; omega
      generalize wr.alloc (.cells #[.int .i64 ti, .int .i64 td, (Value.int .i64) tx] 79) = W1 at DS TT1 T1 hBw1 ⊢
      clear TT T HE HN0 hBw
      by_cases hdn : td ≤ now
      · have hdn2 : decide (td ≤ now) = true := by simpa using hdn
        refine wp_region_noPanic ?_
        refine region_held (S := DueS 79 wr.heap.size g now [.int .i64 ti, .int .i64 td, (Value.int .i64) tx]) (by kernel_rfl) (fun V d => DS.drew d) (fun V d hS => ?_)
        refine wpAnyH_take (i := 0) (oi := ⟨some 20, Op.fieldAddr 79 (Operand.tmp 8) 1, _, _, _, none⟩) (v := (.pointer (some ⟨wr.heap.size, 1, none⟩))) rfl (by kernel_rfl) (by kernel_rfl) (by kernel_rfl) (fun _ _ _ h => h) (Or.inl ⟨by rfl, fun w' h' => ?_⟩) hS ?_
        · clear h'
          go_simp
        simp only [Act.put]
        refine wpAnyH_take (i := 1) (oi := ⟨some 21, Op.load 3 (Operand.tmp 20), _, _, _, none⟩) (v := (.int .i64 td)) rfl (by kernel_rfl) (by kernel_rfl) (by kernel_rfl) (fun _ _ _ h => h) (Or.inl ⟨by rfl, fun w' h' => ?_⟩) hS ?_
        · have c0 := h'.d
          clear h'
          go_simp
        simp only [Act.put]
        refine wpAnyH_take (i := 2) (oi := ⟨some 22, Op.move (Operand.tmp 0), _, _, _, none⟩) (v := (.pointer (some ⟨g, 0, none⟩))) rfl (by kernel_rfl) (by kernel_rfl) (by kernel_rfl) (fun _ _ _ h => h) (Or.inl ⟨by rfl, fun w' h' => ?_⟩) hS ?_
        · clear h'
          go_simp
        simp only [Act.put]
        refine wpAnyH_take (i := 3) (oi := ⟨some 23, Op.nilCheck (Operand.tmp 22), _, _, _, none⟩) (v := (.pointer (some ⟨g, 0, none⟩))) rfl (by kernel_rfl) (by kernel_rfl) (by kernel_rfl) (fun _ _ _ h => h) (Or.inl ⟨by rfl, fun w' h' => ?_⟩) hS ?_
        · clear h'
          go_simp
        simp only [Act.put]
        refine wpAnyH_take (i := 4) (oi := ⟨some 24, Op.fieldAddr 75 (Operand.tmp 23) 0, _, _, _, none⟩) (v := (.pointer (some ⟨g, 0, none⟩))) rfl (by kernel_rfl) (by kernel_rfl) (by kernel_rfl) (fun _ _ _ h => h) (Or.inl ⟨by rfl, fun w' h' => ?_⟩) hS ?_
        · clear h'
          go_simp
        simp only [Act.put]
        refine wpAnyH_take (i := 5) (oi := ⟨some 25, Op.load 3 (Operand.tmp 24), _, _, _, none⟩) (v := (.int .i64 now)) rfl (by kernel_rfl) (by kernel_rfl) (by kernel_rfl) (fun _ _ _ h => h) (Or.inl ⟨by rfl, fun w' h' => ?_⟩) hS ?_
        · have c0 := h'.n
          clear h'
          go_simp
        simp only [Act.put]
        refine wpAnyH_take (i := 6) (oi := ⟨some 26, Op.binOp BinOp.leq 3 (Operand.tmp 21) (Operand.tmp 25) 3, _, _, _, none⟩) (v := (.bool true)) rfl (by kernel_rfl) (by kernel_rfl) (by kernel_rfl) (fun _ _ _ h => h) (Or.inl ⟨by rfl, fun w' h' => ?_⟩) hS ?_
        · clear h'
          go_simp
        simp only [Act.put]
        refine wpAnyH_done (by kernel_rfl) (NoPanic.normal ?_) _
        simp only [List.setIfInBounds_toArray, List.set_cons_zero, List.set_cons_succ]
        clear hS
        have k0 := (cell_of_cells (i := 0) (DS.drew d).1 : V.cell? ⟨wr.heap.size, 0, none⟩ = some (.int .i64 ti))
        have k1 := (cell_of_cells (i := 1) (DS.drew d).1 : V.cell? ⟨wr.heap.size, 1, none⟩ = some (.int .i64 td))
        have k2 := (cell_of_cells (i := 2) (DS.drew d).1 : V.cell? ⟨wr.heap.size, 2, none⟩ = some ((Value.int .i64) tx))
        have TV := TT1.kept d.grown
        have hTV := T1.trans (d.turn _)
        have hBV : w.heap.size ≤ V.heap.size := by rw [d.size]; exact hBw1
        have TV2 := TV.kept (World.grownBy_alloc V (.cells #[.int .i64 ti, .int .i64 td, (Value.int .i64) tx] 79) none)
        have hTV2 := hTV.alloc (.cells #[.int .i64 ti, .int .i64 td, (Value.int .i64) tx] 79)
        have HNW := Lib.hid (cells_new (e := (Value.int .i64)) V ⟨ti, td, tx⟩ 79)
        have hBV2 : w.heap.size ≤ (V.alloc (.cells #[.int .i64 ti, .int .i64 td, (Value.int .i64) tx] 79)).heap.size := by simp; omega
        clear d DS TT1 T1 TV hTV
        go_wp2_with (refine wpList_append_row rfl (.tmp 27) (.tmp 29) 72 rfl 79 i0 z0 24 Try.underlying72 HI.out HZ0.out HZ1.out HZ2.out h64 HZ3.out (Value.int .i64) (fun _ => rfl) _ (dues now ((ls s).take j)) rfl TV2.a hdl3 ⟨V.heap.size, 0, none⟩ 1 ⟨ti, td, tx⟩ rfl HNW.out ?_; intro v' w2 hrow hgr2 hbl2; have TV3 := TV2.left hBV2 hgr2 hrow hbl2; have hTV3 := turn_of_row hTV2 rfl hgr2 TV2.ab; clear hrow hgr2 hbl2 TV2 hTV2 k0 k1 k2)
        go_roundw
        case rel => exact ⟨j + 1, by omega, by go_num, by rw [HDU.out, HRE.out, if_pos hdn, if_pos hdn]; exact TV3, hTV3⟩
        case measure => simp [intOf]; omega
      · have hdn2 : decide (td ≤ now) = false := by simpa using hdn
        refine wp_region_noPanic ?_
        refine region_held (S := DueS 79 wr.heap.size g now [.int .i64 ti, .int .i64 td, (Value.int .i64) tx]) (by kernel_rfl) (fun V d => DS.drew d) (fun V d hS => ?_)
        refine wpAnyH_take (i := 0) (oi := ⟨some 20, Op.fieldAddr 79 (Operand.tmp 8) 1, _, _, _, none⟩) (v := (.pointer (some ⟨wr.heap.size, 1, none⟩))) rfl (by kernel_rfl) (by kernel_rfl) (by kernel_rfl) (fun _ _ _ h => h) (Or.inl ⟨by rfl, fun w' h' => ?_⟩) hS ?_
        · clear h'
          go_simp
        simp only [Act.put]
        refine wpAnyH_take (i := 1) (oi := ⟨some 21, Op.load 3 (Operand.tmp 20), _, _, _, none⟩) (v := (.int .i64 td)) rfl (by kernel_rfl) (by kernel_rfl) (by kernel_rfl) (fun _ _ _ h => h) (Or.inl ⟨by rfl, fun w' h' => ?_⟩) hS ?_
        · have c0 := h'.d
          clear h'
          go_simp
        simp only [Act.put]
        refine wpAnyH_take (i := 2) (oi := ⟨some 22, Op.move (Operand.tmp 0), _, _, _, none⟩) (v := (.pointer (some ⟨g, 0, none⟩))) rfl (by kernel_rfl) (by kernel_rfl) (by kernel_rfl) (fun _ _ _ h => h) (Or.inl ⟨by rfl, fun w' h' => ?_⟩) hS ?_
        · clear h'
          go_simp
        simp only [Act.put]
        refine wpAnyH_take (i := 3) (oi := ⟨some 23, Op.nilCheck (Operand.tmp 22), _, _, _, none⟩) (v := (.pointer (some ⟨g, 0, none⟩))) rfl (by kernel_rfl) (by kernel_rfl) (by kernel_rfl) (fun _ _ _ h => h) (Or.inl ⟨by rfl, fun w' h' => ?_⟩) hS ?_
        · clear h'
          go_simp
        simp only [Act.put]
        refine wpAnyH_take (i := 4) (oi := ⟨some 24, Op.fieldAddr 75 (Operand.tmp 23) 0, _, _, _, none⟩) (v := (.pointer (some ⟨g, 0, none⟩))) rfl (by kernel_rfl) (by kernel_rfl) (by kernel_rfl) (fun _ _ _ h => h) (Or.inl ⟨by rfl, fun w' h' => ?_⟩) hS ?_
        · clear h'
          go_simp
        simp only [Act.put]
        refine wpAnyH_take (i := 5) (oi := ⟨some 25, Op.load 3 (Operand.tmp 24), _, _, _, none⟩) (v := (.int .i64 now)) rfl (by kernel_rfl) (by kernel_rfl) (by kernel_rfl) (fun _ _ _ h => h) (Or.inl ⟨by rfl, fun w' h' => ?_⟩) hS ?_
        · have c0 := h'.n
          clear h'
          go_simp
        simp only [Act.put]
        refine wpAnyH_take (i := 6) (oi := ⟨some 26, Op.binOp BinOp.leq 3 (Operand.tmp 21) (Operand.tmp 25) 3, _, _, _, none⟩) (v := (.bool false)) rfl (by kernel_rfl) (by kernel_rfl) (by kernel_rfl) (fun _ _ _ h => h) (Or.inl ⟨by rfl, fun w' h' => ?_⟩) hS ?_
        · clear h'
          go_simp
        simp only [Act.put]
        refine wpAnyH_done (by kernel_rfl) (NoPanic.normal ?_) _
        simp only [List.setIfInBounds_toArray, List.set_cons_zero, List.set_cons_succ]
        clear hS
        have k0 := (cell_of_cells (i := 0) (DS.drew d).1 : V.cell? ⟨wr.heap.size, 0, none⟩ = some (.int .i64 ti))
        have k1 := (cell_of_cells (i := 1) (DS.drew d).1 : V.cell? ⟨wr.heap.size, 1, none⟩ = some (.int .i64 td))
        have k2 := (cell_of_cells (i := 2) (DS.drew d).1 : V.cell? ⟨wr.heap.size, 2, none⟩ = some ((Value.int .i64) tx))
        have TV := TT1.kept d.grown
        have hTV := T1.trans (d.turn _)
        have hBV : w.heap.size ≤ V.heap.size := by rw [d.size]; exact hBw1
        have TV2 := TV.kept (World.grownBy_alloc V (.cells #[.int .i64 ti, .int .i64 td, (Value.int .i64) tx] 79) none)
        have hTV2 := hTV.alloc (.cells #[.int .i64 ti, .int .i64 td, (Value.int .i64) tx] 79)
        have HNW := Lib.hid (cells_new (e := (Value.int .i64)) V ⟨ti, td, tx⟩ 79)
        have hBV2 : w.heap.size ≤ (V.alloc (.cells #[.int .i64 ti, .int .i64 td, (Value.int .i64) tx] 79)).heap.size := by simp; omega
        clear d DS TT1 T1 TV hTV
        go_wp2_with (refine wpList_append_row rfl (.tmp 31) (.tmp 33) 72 rfl 79 i0 z0 24 Try.underlying72 HI.out HZ0.out HZ1.out HZ2.out h64 HZ3.out (Value.int .i64) (fun _ => rfl) _ (rests now ((ls s).take j)) rfl TV2.b hol3 ⟨V.heap.size, 0, none⟩ 1 ⟨ti, td, tx⟩ rfl HNW.out ?_; intro v' w2 hrow hgr2 hbl2; have TV3 := (TV2.symm.left hBV2 hgr2 hrow hbl2).symm; have hTV3 := turn_of_row hTV2 rfl hgr2 TV2.bb; clear hrow hgr2 hbl2 TV2 hTV2 k0 k1 k2)
        go_roundw
        case rel => exact ⟨j + 1, by omega, by go_num, by rw [HDU.out, HRE.out, if_neg hdn, if_neg hdn]; exact TV3, hTV3⟩
        case measure => simp [intOf]; omega
    · obtain rfl : j = (ls s).length := by omega
      rw [List.take_length] at TT
      have M2 := M.out.kept (w' := wr) (fun j hj _ => T.block j hj id)
      have c2 := M2.slot hs
      have f2 := M2.free (2 + s)
      have HT := Lib.hid T
      have M3 := Lib.hid ((((M.out.mono (O' := fun k => O k ∧ k < w.heap.size) (fun j hj ho => ⟨ho, hj⟩)).kept (w' := wr) (fun j hj _ => T.block j hj id))))
      obtain ⟨p5, c5, h5⟩ := Row.shape TT.a
      obtain ⟨p6, c6, h6⟩ := Row.shape TT.b
      subst h5 h6
      have HTT := Lib.hid TT
      clear TT M2 T
      go_wp2_with fail
      go_ret
      have TT := HTT.out
      have hz := HT.out.size
      have hgW : ∀ k, w.heap.size ≤ k → k ≠ g := fun k hk => by omega
      refine ⟨_, rfl, TT.a.set _ (fun k hk => hgW k (TT.ab k hk)), TT.ab, ⟨_, WhV.setSlot (WhV.mono M3.out ?_) hs TT.b ?_ ?_⟩, ?_⟩
      · exact fun j _ hj => ⟨.inl hj.1, fun hx => by have := TT.ab j hx; omega⟩
      · exact fun k hk => ⟨⟨.inr ⟨TT.bb k hk, by simp [World.setCell]; exact (TT.b.lt k hk).2⟩, fun hx => TT.ne k hx hk⟩, hgW k (TT.bb k hk)⟩
      · exact fun j hj _ k hk hx => by have h1 := ((M.out.2.2.1 j hj).1.lt k hx).2; have h2 := TT.bb k hk; omega
      · exact (HT.out.mono (fun _ _ h => h.elim)).setCell M.out.2.1 _ _
set_option maxRecDepth 100000 in
set_option maxHeartbeats 400000 in
theorem takeDue_okS {w : World} {O : Nat → Prop} {g : Nat} {now last : Int} {ls : Nat → List (Tm ByteArray)} (h : WhS w O g now last ls) (s : Nat) (hs : s < 64) (hb : (ls s).length ≤ 1000000) :
    Calls Try.prog 54 #[.pointer (some ⟨g, 0, none⟩), .int .i64 s] w fun e w' => ∃ v, e = .returned v ∧ Row 111 Value.string w' v (dues now (ls s)) ∧ (∀ k, v.ownBlock = some k → w.heap.size ≤ k) ∧
      WhS w' (fun k => (O k ∨ (w.heap.size ≤ k ∧ k < w'.heap.size)) ∧ v.ownBlock ≠ some k) g now last (upd ls s (rests now (ls s))) ∧ Turn w w' O := by
  obtain ⟨vs, m⟩ := h
  have cs := m.slot hs
  have hsi : (s : Int) < 64 := by omega
  have hpl := m.len2 hs
  have M := Lib.hid m
  have R := Lib.hid (m.2.2.1 s hs).1
  have hgl := m.lt
  have hTl : Turn w w (fun _ => False) := Turn.refl _ _
  obtain ⟨i0, z0, hi, hz0, hz1, hz2, hz3⟩ := info_tmS
  have HI := Lib.hid hi
  have HZ0 := Lib.hid hz0
  have HZ1 := Lib.hid hz1
  have HZ2 := Lib.hid hz2
  have HZ3 := Lib.hid hz3
  have h64 : 32 ≤ 64 := by decide
  clear m hi hz0 hz1 hz2 hz3
  have HP : Hid (∃ p c, vs s = .slice p (ls s).length c ∧ (0 < (ls s).length → ∃ b, p = some ⟨b, 0, none⟩)) := Lib.hid (by
    rcases hpl with ⟨h1, h2⟩ | ⟨b, c, h1⟩
    · exact ⟨none, 0, by rw [h1, h2]; rfl, fun h => by rw [h2] at h; cases h⟩
    · exact ⟨_, c, h1, fun _ => ⟨b, rfl⟩⟩)
  clear hpl
  obtain ⟨p, c, hp, hpp⟩ := HP.out
  rw [hp] at cs
  have HPE := Lib.hid hp
  have HPP := Lib.hid hpp
  clear hp hpp HP
  go_enter Try.func54, Try.ntmps54
  go_wp2_with fail
  clear cs
  go_loopw [5, 6, 16] (fun dv ov i wr => ∃ j : Nat, j ≤ (ls s).length ∧ i = .int .i64 j ∧ Two 111 Value.string w.heap.size wr dv (dues now ((ls s).take j)) ov (rests now ((ls s).take j)) ∧ Turn w wr (fun _ => False)) (fun _ _ i _ => (ls s).length - (intOf i).toNat)
  case atStart => exact ⟨0, by omega, rfl, Two.nil _ _ _ _, hTl⟩
  case round =>
    obtain ⟨j, hj, rfl, TT, T⟩ := hrel
    by_cases hjl : j < (ls s).length
    · have R2 := R.out.kept (T.grown (fun _ _ h => h)) (by cases (vs s).ownBlock <;> simp)
      obtain ⟨b', cap, hv, _, _, hbl, hE0⟩ := Row.elem R2 (by omega)
      have hE := hE0 j hjl
      clear hE0
      obtain ⟨b, hpb⟩ := HPP.out (by omega)
      subst hpb
      have hq := hv.symm.trans HPE.out
      obtain rfl : b' = b := by injection hq with hq1; injection hq1 with hq1; injection hq1
      have HT := take_one (ls s) j hjl
      have hdl := dues_len now ((ls s).take j)
      have hol := rests_len now ((ls s).take j)
      have htl : ((ls s).take j).length ≤ j := List.length_take_le _ _
      have hdl3 : (dues now ((ls s).take j)).length ≤ 100000000 := by omega
      have hol3 : (rests now ((ls s).take j)).length ≤ 100000000 := by omega
      generalize (ls s)[j] = t at hE HT
      obtain ⟨ti, td, tx⟩ := t
      have HE := Lib.hid hE
      have hd2 : decide ((j : Int) < ((ls s).length : Int)) = true := by simp; omega
      have hn0 := ((M.out.kept (w' := wr) (fun j hj _ => T.block j hj id))).c0
      have HN0 := Lib.hid hn0
      have hgr : g < wr.heap.size := Nat.lt_of_lt_of_le hgl T.size
      have HDU : Hid (dues now ((ls s).take (j + 1)) = if td ≤ now then dues now ((ls s).take j) ++ [⟨ti, td, tx⟩] else dues now ((ls s).take j)) := Lib.hid (by
        rw [HT]; unfold dues; rw [List.filter_append]; by_cases h : td ≤ now <;> simp [isDue, h])
      have HRE : Hid (rests now ((ls s).take (j + 1)) = if td ≤ now then rests now ((ls s).take j) else rests now ((ls s).take j) ++ [⟨ti, td, tx⟩]) := Lib.hid (by
        rw [HT]; unfold rests; rw [List.filter_append]; by_cases h : td ≤ now <;> simp [isDue, h])
      have hBw : w.heap.size ≤ wr.heap.size := T.size
      clear R2 hv hE hbl hq HT hdl hol htl hn0
      go_upto_region 5 with (refine wpList_load_mid rfl 111 (.tmp 18) rfl b' (j * 3) rfl [.int .i64 ti, .int .i64 td, Value.string tx] _ HE.out Try.underlying111 rfl (by kernel_rfl) ?_)
      have DS : DueS 111 wr.heap.size g now [.int .i64 ti, .int .i64 td, Value.string tx] (wr.alloc (.cells #[.int .i64 ti, .int .i64 td, Value.string tx] 111)) :=
        ⟨_root_.Go.heap_alloc_new _ _, by rw [World.cell?_alloc_past _ _ _ hgr]; exact HN0.out⟩
      have TT1 := TT.kept (World.grownBy_alloc wr (.cells #[.int .i64 ti, .int .i64 td, Value.string tx] 111) none)
      have T1 := T.alloc (.cells #[.int .i64 ti, .int .i64 td, Value.string tx] 111)
      have hBw1 : w.heap.size ≤ (wr.alloc (.cells #[.int .i64 ti, .int .i64 td, Value.string tx] 111)).heap.size := by simp; omega
      generalize wr.alloc (.cells #[.int .i64 ti, .int .i64 td, Value.string tx] 111) = W1 at DS TT1 T1 hBw1 ⊢
      clear TT T HE HN0 hBw
      by_cases hdn : td ≤ now
      · have hdn2 : decide (td ≤ now) = true := by simpa using hdn
        refine wp_region_noPanic ?_
        refine region_held (S := DueS 111 wr.heap.size g now [.int .i64 ti, .int .i64 td, Value.string tx]) (by kernel_rfl) (fun V d => DS.drew d) (fun V d hS => ?_)
        refine wpAnyH_take (i := 0) (oi := ⟨some 20, Op.fieldAddr 111 (Operand.tmp 8) 1, _, _, _, none⟩) (v := (.pointer (some ⟨wr.heap.size, 1, none⟩))) rfl (by kernel_rfl) (by kernel_rfl) (by kernel_rfl) (fun _ _ _ h => h) (Or.inl ⟨by rfl, fun w' h' => ?_⟩) hS ?_
        · clear h'
          go_simp
        simp only [Act.put]
        refine wpAnyH_take (i := 1) (oi := ⟨some 21, Op.load 3 (Operand.tmp 20), _, _, _, none⟩) (v := (.int .i64 td)) rfl (by kernel_rfl) (by kernel_rfl) (by kernel_rfl) (fun _ _ _ h => h) (Or.inl ⟨by rfl, fun w' h' => ?_⟩) hS ?_
        · have c0 := h'.d
          clear h'
          go_simp
        simp only [Act.put]
        refine wpAnyH_take (i := 2) (oi := ⟨some 22, Op.move (Operand.tmp 0), _, _, _, none⟩) (v := (.pointer (some ⟨g, 0, none⟩))) rfl (by kernel_rfl) (by kernel_rfl) (by kernel_rfl) (fun _ _ _ h => h) (Or.inl ⟨by rfl, fun w' h' => ?_⟩) hS ?_
        · clear h'
          go_simp
        simp only [Act.put]
        refine wpAnyH_take (i := 3) (oi := ⟨some 23, Op.nilCheck (Operand.tmp 22), _, _, _, none⟩) (v := (.pointer (some ⟨g, 0, none⟩))) rfl (by kernel_rfl) (by kernel_rfl) (by kernel_rfl) (fun _ _ _ h => h) (Or.inl ⟨by rfl, fun w' h' => ?_⟩) hS ?_
        · clear h'
          go_simp
        simp only [Act.put]
        refine wpAnyH_take (i := 4) (oi := ⟨some 24, Op.fieldAddr 109 (Operand.tmp 23) 0, _, _, _, none⟩) (v := (.pointer (some ⟨g, 0, none⟩))) rfl (by kernel_rfl) (by kernel_rfl) (by kernel_rfl) (fun _ _ _ h => h) (Or.inl ⟨by rfl, fun w' h' => ?_⟩) hS ?_
        · clear h'
          go_simp
        simp only [Act.put]
        refine wpAnyH_take (i := 5) (oi := ⟨some 25, Op.load 3 (Operand.tmp 24), _, _, _, none⟩) (v := (.int .i64 now)) rfl (by kernel_rfl) (by kernel_rfl) (by kernel_rfl) (fun _ _ _ h => h) (Or.inl ⟨by rfl, fun w' h' => ?_⟩) hS ?_
        · have c0 := h'.n
          clear h'
          go_simp
        simp only [Act.put]
        refine wpAnyH_take (i := 6) (oi := ⟨some 26, Op.binOp BinOp.leq 3 (Operand.tmp 21) (Operand.tmp 25) 3, _, _, _, none⟩) (v := (.bool true)) rfl (by kernel_rfl) (by kernel_rfl) (by kernel_rfl) (fun _ _ _ h => h) (Or.inl ⟨by rfl, fun w' h' => ?_⟩) hS ?_
        · clear h'
          go_simp
        simp only [Act.put]
        refine wpAnyH_done (by kernel_rfl) (NoPanic.normal ?_) _
        simp only [List.setIfInBounds_toArray, List.set_cons_zero, List.set_cons_succ]
        clear hS
        have k0 := (cell_of_cells (i := 0) (DS.drew d).1 : V.cell? ⟨wr.heap.size, 0, none⟩ = some (.int .i64 ti))
        have k1 := (cell_of_cells (i := 1) (DS.drew d).1 : V.cell? ⟨wr.heap.size, 1, none⟩ = some (.int .i64 td))
        have k2 := (cell_of_cells (i := 2) (DS.drew d).1 : V.cell? ⟨wr.heap.size, 2, none⟩ = some (Value.string tx))
        have TV := TT1.kept d.grown
        have hTV := T1.trans (d.turn _)
        have hBV : w.heap.size ≤ V.heap.size := by rw [d.size]; exact hBw1
        have TV2 := TV.kept (World.grownBy_alloc V (.cells #[.int .i64 ti, .int .i64 td, Value.string tx] 111) none)
        have hTV2 := hTV.alloc (.cells #[.int .i64 ti, .int .i64 td, Value.string tx] 111)
        have HNW := Lib.hid (cells_new (e := Value.string) V ⟨ti, td, tx⟩ 111)
        have hBV2 : w.heap.size ≤ (V.alloc (.cells #[.int .i64 ti, .int .i64 td, Value.string tx] 111)).heap.size := by simp; omega
        clear d DS TT1 T1 TV hTV
        go_wp2_with (refine wpList_append_row rfl (.tmp 27) (.tmp 29) 106 rfl 111 i0 z0 32 Try.underlying106 HI.out HZ0.out HZ1.out HZ2.out h64 HZ3.out Value.string (fun _ => rfl) _ (dues now ((ls s).take j)) rfl TV2.a hdl3 ⟨V.heap.size, 0, none⟩ 1 ⟨ti, td, tx⟩ rfl HNW.out ?_; intro v' w2 hrow hgr2 hbl2; have TV3 := TV2.left hBV2 hgr2 hrow hbl2; have hTV3 := turn_of_row hTV2 rfl hgr2 TV2.ab; clear hrow hgr2 hbl2 TV2 hTV2 k0 k1 k2)
        go_roundw
        case rel => exact ⟨j + 1, by omega, by go_num, by rw [HDU.out, HRE.out, if_pos hdn, if_pos hdn]; exact TV3, hTV3⟩
        case measure => simp [intOf]; omega
      · have hdn2 : decide (td ≤ now) = false := by simpa using hdn
        refine wp_region_noPanic ?_
        refine region_held (S := DueS 111 wr.heap.size g now [.int .i64 ti, .int .i64 td, Value.string tx]) (by kernel_rfl) (fun V d => DS.drew d) (fun V d hS => ?_)
        refine wpAnyH_take (i := 0) (oi := ⟨some 20, Op.fieldAddr 111 (Operand.tmp 8) 1, _, _, _, none⟩) (v := (.pointer (some ⟨wr.heap.size, 1, none⟩))) rfl (by kernel_rfl) (by kernel_rfl) (by kernel_rfl) (fun _ _ _ h => h) (Or.inl ⟨by rfl, fun w' h' => ?_⟩) hS ?_
        · clear h'
          go_simp
        simp only [Act.put]
        refine wpAnyH_take (i := 1) (oi := ⟨some 21, Op.load 3 (Operand.tmp 20), _, _, _, none⟩) (v := (.int .i64 td)) rfl (by kernel_rfl) (by kernel_rfl) (by kernel_rfl) (fun _ _ _ h => h) (Or.inl ⟨by rfl, fun w' h' => ?_⟩) hS ?_
        · have c0 := h'.d
          clear h'
          go_simp
        simp only [Act.put]
        refine wpAnyH_take (i := 2) (oi := ⟨some 22, Op.move (Operand.tmp 0), _, _, _, none⟩) (v := (.pointer (some ⟨g, 0, none⟩))) rfl (by kernel_rfl) (by kernel_rfl) (by kernel_rfl) (fun _ _ _ h => h) (Or.inl ⟨by rfl, fun w' h' => ?_⟩) hS ?_
        · clear h'
          go_simp
        simp only [Act.put]
        refine wpAnyH_take (i := 3) (oi := ⟨some 23, Op.nilCheck (Operand.tmp 22), _, _, _, none⟩) (v := (.pointer (some ⟨g, 0, none⟩))) rfl (by kernel_rfl) (by kernel_rfl) (by kernel_rfl) (fun _ _ _ h => h) (Or.inl ⟨by rfl, fun w' h' => ?_⟩) hS ?_
        · clear h'
          go_simp
        simp only [Act.put]
        refine wpAnyH_take (i := 4) (oi := ⟨some 24, Op.fieldAddr 109 (Operand.tmp 23) 0, _, _, _, none⟩) (v := (.pointer (some ⟨g, 0, none⟩))) rfl (by kernel_rfl) (by kernel_rfl) (by kernel_rfl) (fun _ _ _ h => h) (Or.inl ⟨by rfl, fun w' h' => ?_⟩) hS ?_
        · clear h'
          go_simp
        simp only [Act.put]
        refine wpAnyH_take (i := 5) (oi := ⟨some 25, Op.load 3 (Operand.tmp 24), _, _, _, none⟩) (v := (.int .i64 now)) rfl (by kernel_rfl) (by kernel_rfl) (by kernel_rfl) (fun _ _ _ h => h) (Or.inl ⟨by rfl, fun w' h' => ?_⟩) hS ?_
        · have c0 := h'.n
          clear h'
          go_simp
        simp only [Act.put]
        refine wpAnyH_take (i := 6) (oi := ⟨some 26, Op.binOp BinOp.leq 3 (Operand.tmp 21) (Operand.tmp 25) 3, _, _, _, none⟩) (v := (.bool false)) rfl (by kernel_rfl) (by kernel_rfl) (by kernel_rfl) (fun _ _ _ h => h) (Or.inl ⟨by rfl, fun w' h' => ?_⟩) hS ?_
        · clear h'
          go_simp
        simp only [Act.put]
        refine wpAnyH_done (by kernel_rfl) (NoPanic.normal ?_) _
        simp only [List.setIfInBounds_toArray, List.set_cons_zero, List.set_cons_succ]
        clear hS
        have k0 := (cell_of_cells (i := 0) (DS.drew d).1 : V.cell? ⟨wr.heap.size, 0, none⟩ = some (.int .i64 ti))
        have k1 := (cell_of_cells (i := 1) (DS.drew d).1 : V.cell? ⟨wr.heap.size, 1, none⟩ = some (.int .i64 td))
        have k2 := (cell_of_cells (i := 2) (DS.drew d).1 : V.cell? ⟨wr.heap.size, 2, none⟩ = some (Value.string tx))
        have TV := TT1.kept d.grown
        have hTV := T1.trans (d.turn _)
        have hBV : w.heap.size ≤ V.heap.size := by rw [d.size]; exact hBw1
        have TV2 := TV.kept (World.grownBy_alloc V (.cells #[.int .i64 ti, .int .i64 td, Value.string tx] 111) none)
        have hTV2 := hTV.alloc (.cells #[.int .i64 ti, .int .i64 td, Value.string tx] 111)
        have HNW := Lib.hid (cells_new (e := Value.string) V ⟨ti, td, tx⟩ 111)
        have hBV2 : w.heap.size ≤ (V.alloc (.cells #[.int .i64 ti, .int .i64 td, Value.string tx] 111)).heap.size := by simp; omega
        clear d DS TT1 T1 TV hTV
        go_wp2_with (refine wpList_append_row rfl (.tmp 31) (.tmp 33) 106 rfl 111 i0 z0 32 Try.underlying106 HI.out HZ0.out HZ1.out HZ2.out h64 HZ3.out Value.string (fun _ => rfl) _ (rests now ((ls s).take j)) rfl TV2.b hol3 ⟨V.heap.size, 0, none⟩ 1 ⟨ti, td, tx⟩ rfl HNW.out ?_; intro v' w2 hrow hgr2 hbl2; have TV3 := (TV2.symm.left hBV2 hgr2 hrow hbl2).symm; have hTV3 := turn_of_row hTV2 rfl hgr2 TV2.bb; clear hrow hgr2 hbl2 TV2 hTV2 k0 k1 k2)
        go_roundw
        case rel => exact ⟨j + 1, by omega, by go_num, by rw [HDU.out, HRE.out, if_neg hdn, if_neg hdn]; exact TV3, hTV3⟩
        case measure => simp [intOf]; omega
    · obtain rfl : j = (ls s).length := by omega
      rw [List.take_length] at TT
      have M2 := M.out.kept (w' := wr) (fun j hj _ => T.block j hj id)
      have c2 := M2.slot hs
      have f2 := M2.free (2 + s)
      have HT := Lib.hid T
      have M3 := Lib.hid ((((M.out.mono (O' := fun k => O k ∧ k < w.heap.size) (fun j hj ho => ⟨ho, hj⟩)).kept (w' := wr) (fun j hj _ => T.block j hj id))))
      obtain ⟨p5, c5, h5⟩ := Row.shape TT.a
      obtain ⟨p6, c6, h6⟩ := Row.shape TT.b
      subst h5 h6
      have HTT := Lib.hid TT
      clear TT M2 T
      go_wp2_with fail
      go_ret
      have TT := HTT.out
      have hz := HT.out.size
      have hgW : ∀ k, w.heap.size ≤ k → k ≠ g := fun k hk => by omega
      refine ⟨_, rfl, TT.a.set _ (fun k hk => hgW k (TT.ab k hk)), TT.ab, ⟨_, WhV.setSlot (WhV.mono M3.out ?_) hs TT.b ?_ ?_⟩, ?_⟩
      · exact fun j _ hj => ⟨.inl hj.1, fun hx => by have := TT.ab j hx; omega⟩
      · exact fun k hk => ⟨⟨.inr ⟨TT.bb k hk, by simp [World.setCell]; exact (TT.b.lt k hk).2⟩, fun hx => TT.ne k hx hk⟩, hgW k (TT.bb k hk)⟩
      · exact fun j hj _ k hk hx => by have h1 := ((M.out.2.2.1 j hj).1.lt k hx).2; have h2 := TT.bb k hk; omega
      · exact (HT.out.mono (fun _ _ h => h.elim)).setCell M.out.2.1 _ _

end Go.Proofs.Ytbbmfgeagdblcaa
