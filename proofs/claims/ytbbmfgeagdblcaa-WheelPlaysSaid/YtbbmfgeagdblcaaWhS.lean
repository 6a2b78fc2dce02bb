/-
  Layer 5: the document's wheel: Advance's walk. Conditions: as said.
-/
import Derived.Test.YtbbmfgeagdblcaaWhR
import Derived.Deep.RegionWith
namespace Go.Proofs.Ytbbmfgeagdblcaa
open Go.RowKit Go.Sort Go.Shelf

theorem r_cells0 {w : World} {g : Nat} {t : TypeId} {y0 y1 y2 : Value} (h : w.heap[g + 1]? = some (.cells #[y0, y1, y2] t (0, 0))) (x0 x1 x2 : Value) (j : Nat) :
    (((w.setCell ⟨g + 1, 0, none⟩ x0).setCell ⟨g + 1, 1, none⟩ x1).setCell ⟨g + 1, 2, none⟩ x2).cell? ⟨g + 1, j, none⟩ = #[x0, x1, x2][j]? := by
  rw [cell_of_cells (heap_setCell_same _ _ 2 _ _ x2 (heap_setCell_same _ _ 1 _ _ x1 (heap_setCell_same _ _ 0 _ _ x0 h)))]
  rfl
theorem own_low {w : World} {B B2 : Nat} {e : TypeId} {size : Nat} {v : Value} {n : Nat} {xs : List Value} (h : w.ownsRow B2 e size v n xs) (hb : B ≤ B2) : w.ownsRow B e size v n xs :=
  ⟨h.1, h.2.imp id fun ⟨g, cap, cur, h1, h2, h3⟩ => ⟨g, cap, cur, h1, Nat.le_trans hb h2, h3⟩⟩
/-- While the document's Advance goes on: its box, its result's block, what stands, what was told. -/
structure AdvS (w wr : World) (p : Option Addr) (c : Nat) (N last : Int) (R : List (Tm Int)) (vo : Value) (xs : List Value) : Prop where
  box : wr.heap[w.heap.size]? = some (.cells #[.slice p R.length c, .int .i64 N, .int .i64 last] 28 (0, 0))
  res : ∃ x y z, wr.heap[w.heap.size + 1]? = some (.cells #[x, y, z] 28 (0, 0))
  row : RRow wr (.slice p R.length c) R
  out : wr.ownsRow (w.heap.size + 2) 3 1 vo xs.length xs
  far : ∀ k, (Value.slice p R.length c).ownBlock = some k → k ≠ w.heap.size ∧ k ≠ w.heap.size + 1 ∧ vo.ownBlock ≠ some k
  turn : Turn w wr (fun _ => False)

section
variable {w wr w' : World} {p p' : Option Addr} {c c' : Nat} {N last : Int} {R R' : List (Tm Int)} {vo vo' : Value} {xs xs' : List Value}
theorem AdvS.kept (h : AdvS w wr p c N last R vo xs) (t : Turn wr w' (fun _ => False)) : AdvS w w' p c N last R vo xs := by
  obtain ⟨x, y, z, hr⟩ := h.res
  have k := t.grown (fun _ _ h => h)
  exact ⟨(t.block _ (Array.getElem?_eq_some_iff.1 h.box).1 id).trans h.box, ⟨x, y, z, (t.block _ (Array.getElem?_eq_some_iff.1 hr).1 id).trans hr⟩, h.row.turn t (fun _ _ h => h), h.out.kept k (by cases vo.ownBlock <;> simp), h.far, h.turn.trans t⟩
theorem AdvS.told (h : AdvS w wr p c N last R vo xs) (hg : wr.grownBy w' vo.ownBlock) (hr : w'.ownsRow (w.heap.size + 2) 3 1 vo' xs'.length xs') (hb : vo'.ownBlock = vo.ownBlock ∨ vo'.ownBlock = some wr.heap.size) : AdvS w w' p c N last R vo' xs' := by
  obtain ⟨x, y, z, h2⟩ := h.res
  have z1 := (Array.getElem?_eq_some_iff.1 h2).1
  have lo := h.out.lt
  refine ⟨(hg.block _ (Array.getElem?_eq_some_iff.1 h.box).1 (fun e => by have := lo _ e.symm; omega)).trans h.box, ⟨x, y, z, (hg.block _ z1 (fun e => by have := lo _ e.symm; omega)).trans h2⟩, h.row.kept hg ?_, hr, fun k hk => ?_, turn_of_row h.turn rfl hg (fun k hk => by have := lo k hk; omega)⟩
  · cases ho : (Value.slice p R.length c).ownBlock with
    | none => exact .inl rfl
    | some k => exact .inr (fun e => (h.far k ho).2.2 e.symm)
  · refine ⟨(h.far k hk).1, (h.far k hk).2.1, fun e => ?_⟩
    rcases hb with hb | hb
    · exact (h.far k hk).2.2 (by rw [← hb]; exact e)
    · have := (World.ownsRow.lt h.row k hk).2
      rw [hb] at e; injection e with e; omega
/-- Its box is written anew. -/
theorem AdvS.anew (h : AdvS w wr p c N last R vo xs) (hr : RRow wr (.slice p' R'.length c') R') (hf : ∀ k, (Value.slice p' R'.length c').ownBlock = some k → k ≠ w.heap.size ∧ k ≠ w.heap.size + 1 ∧ vo.ownBlock ≠ some k) :
    AdvS w (((wr.setCell ⟨w.heap.size, 0, none⟩ (.slice p' R'.length c')).setCell ⟨w.heap.size, 1, none⟩ (.int .i64 N)).setCell ⟨w.heap.size, 2, none⟩ (.int .i64 last)) p' c' N last R' vo xs := by
  obtain ⟨x, y, z, h2⟩ := h.res
  have lo := h.out.lt
  have ne : ∀ k, vo.ownBlock = some k → k ≠ w.heap.size := fun k hk => by have := lo k hk; omega
  have T3 : Turn wr (((wr.setCell ⟨w.heap.size, 0, none⟩ (.slice p' R'.length c')).setCell ⟨w.heap.size, 1, none⟩ (.int .i64 N)).setCell ⟨w.heap.size, 2, none⟩ (.int .i64 last)) (fun j => j = w.heap.size) := (((Turn.refl wr (fun j => j = w.heap.size)).setCell rfl _ _).setCell rfl _ _).setCell rfl _ _
  refine ⟨heap_setCell_same _ _ 2 _ _ _ (heap_setCell_same _ _ 1 _ _ _ (heap_setCell_same _ _ 0 _ _ _ h.box)), ⟨x, y, z, (T3.block _ (Array.getElem?_eq_some_iff.1 h2).1 (by simp)).trans h2⟩, hr.turn T3 (fun k hk => (hf k hk).1), ?_, hf, h.turn.step T3 (fun j hj => by rw [hj]; exact Nat.le_refl _)⟩
  refine h.out.kept (row := some w.heap.size) ⟨T3.os, T3.tape, T3.output, T3.size, fun k hk ho => T3.block k hk (fun e => ho (by rw [e]))⟩ ?_
  cases ho : vo.ownBlock with
  | none => exact .inl rfl
  | some k => exact .inr (fun e => ne k ho (by injection e))
end
/-- How many stand in a box. -/
def lenBox (w : World) (g : Nat) : Nat := match w.cell? ⟨g, 0, none⟩ with | some (.slice _ n _) => n | _ => 0
theorem AdvS.len {w wr : World} {p : Option Addr} {c : Nat} {N last : Int} {R : List (Tm Int)} {vo : Value} {xs : List Value} (h : AdvS w wr p c N last R vo xs) : lenBox wr w.heap.size = R.length := by
  unfold lenBox
  rw [cell_of_cells (i := 0) h.box]
  rfl
theorem AdvS.drewN {w wr : World} {p : Option Addr} {c : Nat} {N last : Int} {R : List (Tm Int)} {vo : Value} {xs : List Value} (h : AdvS w wr p c N last R vo xs) (q : Nat) : AdvS w (wr.drewN q) p c N last R vo xs := h.kept (Turn.drewN wr q _)

set_option maxRecDepth 100000 in
set_option maxHeartbeats 2000000 in
/-- The document's Advance, from behind its clock. -/
theorem rAdv (w : World) (p : Option Addr) (c : Nat) (now last : Int) (L : List (Tm Int)) (to_ : Int) (h : RRow w (.slice p L.length c) L) (hL : L.length ≤ 100000) (hids : L.Pairwise (fun x y => x.id < y.id)) (N : Int) (hN : N = max now to_) :
    Calls Try.prog 15 #[rVal p L.length c now last, .int .i64 to_] w fun e w' => ∃ p' c' v, e = .returned (.tuple #[rVal p' (rests N L).length c' N last, v]) ∧
      RRow w' (.slice p' (rests N L).length c') (rests N L) ∧ (∀ k, (Value.slice p' (rests N L).length c').ownBlock = some k → w.heap.size ≤ k ∨ (Value.slice p L.length c).ownBlock = some k) ∧
      w'.ownsRow w.heap.size 3 1 v (told N L).length ((told N L).map fun t => .int .i64 t.x) ∧ Turn w w' (fun _ => False) := by
  have S0 : AdvS w ((w.alloc (.cells #[.slice p L.length c, .int .i64 N, .int .i64 last] 28)).alloc (.cells #[.slice none 0 0, .int .i64 0, .int .i64 0] 28)) p c N last L (.slice none 0 0) [] :=
    ⟨heap_alloc2_old w _ _, ⟨_, _, _, heap_alloc2_new w _ _⟩, h.turn (((Turn.refl w (fun _ => False)).alloc _).alloc _) (fun _ _ h => h), World.ownsRow_nil _ _ _ _, fun k hk => by
      have := (World.ownsRow.lt h k hk).2
      exact ⟨by omega, by omega, by simp [Value.ownBlock]⟩, ((Turn.refl w _).alloc _).alloc _⟩
  have HS0 := Lib.hid S0
  have HI := Lib.hid hids
  clear h S0 hids
  by_cases hto : to_ > now
  · have hd : decide (to_ > now) = true := by simpa using hto
    have hd2 : decide (now < to_) = true := by simpa using hto
    obtain rfl : N = to_ := by omega
    clear hN
    go_enter Try.func15, Try.ntmps15
    go_wp2_with fail
    generalize (w.alloc _).alloc _ = W0 at HS0 ⊢
    go_loopw [6] (fun vo wr => ∃ p' c' R D, Hid (AdvS w wr p' c' N last R vo (D.map fun t => .int .i64 t.x)) ∧ D.length + R.length ≤ L.length ∧ Hid (R.Pairwise (fun x y : Tm Int => x.id < y.id)) ∧ Hid (told N L = D ++ told N R) ∧ Hid (rests N L = rests N R) ∧ Hid (∀ k, (Value.slice p' R.length c').ownBlock = some k → w.heap.size ≤ k ∨ (Value.slice p L.length c).ownBlock = some k)) (fun _ wr => lenBox wr w.heap.size)
    case atStart => exact ⟨p, c, L, [], HS0, by simp, HI, Lib.hid rfl, Lib.hid rfl, Lib.hid (fun k hk => .inr hk)⟩
    case round =>
      obtain ⟨p1, c1, R, D, HA, hDR, HP, HTd, HRs, HF⟩ := hrel
      have hRl : R.length ≤ 100000 := by omega
      have HLN := HA.out.len
      go_wp2_with fail
      go_loopw [7, 8] (fun bv iv wr2 => ∃ j : Nat, j ≤ R.length ∧ iv = .int .i64 j ∧ BestI N R j bv ∧ AdvS w wr2 p1 c1 N last R u6 (D.map fun t => .int .i64 t.x)) (fun _ i _ => R.length - (intOf i).toNat)
      case atStart => exact ⟨0, Nat.zero_le _, rfl, BestI.zero _ _, HA.out⟩
      case round =>
        obtain ⟨j, hj, rfl, HB, A⟩ := hrel
        have b0 := cell_of_cells (i := 0) A.box
        have b1 := cell_of_cells (i := 1) A.box
        have b2 := cell_of_cells (i := 2) A.box
        by_cases hjl : j < R.length
        · have hd3 : decide ((j : Int) < (R.length : Int)) = true := by simp; omega
          have hjb : (j : Int) < (R.length : Int) := by omega
          obtain ⟨b, cap, hv, _, _, hbl, hE⟩ := Row.elem A.row (by omega)
          injection hv with hp _ hc
          subst hp hc
          have cj := (hE j hjl 1 (.int .i64 R[j].due) rfl : wr.cell? ⟨b, j * 3 + 1, none⟩ = some (.int .i64 R[j].due))
          have HAx := Lib.hid A
          rcases HB with ⟨rfl, h2⟩ | ⟨bi, hb, rfl, hbi, h3, h4⟩
          · have HL := Lib.hid (BestI.late (v := .int .i64 (-1)) (.inl ⟨rfl, h2⟩) hjl)
            have HFi := Lib.hid (BestI.first h2 hjl)
            clear A hE h2
            generalize R[j].due = du at cj HL HFi
            by_cases hdu : du ≤ N
            · have hd4 : decide (du ≤ N) = true := by simpa using hdu
              go_wp2_with fail
              go_quiet (fail)
              go_wp2_with fail
              go_roundw
              case rel => exact ⟨j + 1, by omega, by go_num, HFi.out hdu, HAx.out.drewN _⟩
              case measure => simp [intOf]; omega
            · have hd4 : decide (du ≤ N) = false := by simpa using hdu
              go_wp2_with fail
              go_quiet (fail)
              go_wp2_with fail
              go_roundw
              case rel => exact ⟨j + 1, by omega, by go_num, HL.out hdu, HAx.out.drewN _⟩
              case measure => simp [intOf]; omega
          · have HL := Lib.hid (BestI.late (v := .int .i64 bi) (.inr ⟨bi, hb, rfl, hbi, h3, h4⟩) hjl)
            have HBt := Lib.hid (BestI.better hb h4 hjl)
            have HWo := Lib.hid (BestI.worse hb hbi h3 h4 hjl)
            have cb := (hE bi hb 1 (.int .i64 R[bi].due) rfl : wr.cell? ⟨b, bi * 3 + 1, none⟩ = some (.int .i64 R[bi].due))
            have hbb : (bi : Int) < (R.length : Int) := by omega
            have hb0 : decide ((bi : Int) < 0) = false := by simp
            clear A hE h4 h3
            generalize R[j].due = du at cj HL HBt HWo
            generalize R[bi].due = db at cb HBt HWo
            by_cases hdu : du ≤ N
            · have hd4 : decide (du ≤ N) = true := by simpa using hdu
              by_cases hlt : du < db
              · have hd5 : decide (du < db) = true := by simpa using hlt
                go_wp2_with fail
                go_quiet (fail)
                go_wp2_with fail
                go_roundw
                case rel => exact ⟨j + 1, by omega, by go_num, HBt.out hdu hlt, HAx.out.drewN _⟩
                case measure => simp [intOf]; omega
              · have hd5 : decide (du < db) = false := by simpa using hlt
                go_wp2_with fail
                go_quiet (fail)
                go_wp2_with fail
                go_roundw
                case rel => exact ⟨j + 1, by omega, by go_num, HWo.out hlt, HAx.out.drewN _⟩
                case measure => simp [intOf]; omega
            · have hd4 : decide (du ≤ N) = false := by simpa using hdu
              go_wp2_with fail
              go_quiet (fail)
              go_wp2_with fail
              go_roundw
              case rel => exact ⟨j + 1, by omega, by go_num, HL.out hdu, HAx.out.drewN _⟩
              case measure => simp [intOf]; omega
        · have hjj : j = R.length := by omega
          have hd3 : decide ((j : Int) < (R.length : Int)) = false := by simp; omega
          subst hjj
          rcases HB with ⟨rfl, h2⟩ | ⟨bi, hb, rfl, hbi, h3, h4⟩
          · have hte := told_end (fun j hj => h2 j hj hj)
            have e1 : rests N L = R := by rw [HRs.out, hte.2]
            have e2 : told N L = D := by rw [HTd.out, hte.1, List.append_nil]
            obtain ⟨x, y, z, hr⟩ := A.res
            have r0 := (cell_of_cells (i := 0) hr : wr.cell? ⟨w.heap.size + 1, 0, none⟩ = some x)
            have r1 := (cell_of_cells (i := 1) hr : wr.cell? ⟨w.heap.size + 1, 1, none⟩ = some y)
            have r2 := (cell_of_cells (i := 2) hr : wr.cell? ⟨w.heap.size + 1, 2, none⟩ = some z)
            have g0 := (frozen_of_cells (i := 0) hr)
            have g1 := (frozen_of_cells (i := 1) hr)
            have g2 := (frozen_of_cells (i := 2) hr)
            have HAx := Lib.hid A
            have HR2 := Lib.hid hr
            clear A hr h2 hte
            go_wp2_with fail
            rw [e1, e2]
            have q0 := r_cells0 HR2.out (.slice p1 R.length c1) (.int .i64 N) (.int .i64 last) 0
            have q1 := r_cells0 HR2.out (.slice p1 R.length c1) (.int .i64 N) (.int .i64 last) 1
            have q2 := r_cells0 HR2.out (.slice p1 R.length c1) (.int .i64 N) (.int .i64 last) 2
            have T3 := ((((Turn.refl wr (fun j => j = w.heap.size + 1)).setCell rfl 0 (.slice p1 R.length c1)).setCell rfl 1 (.int .i64 N)).setCell rfl 2 (.int .i64 last))
            refine bodyPost_ret (v := .tuple #[rVal p1 R.length c1 N last, u6]) (by simp [results, Try.results15, go_sem, q0, q1, q2]) rfl ⟨p1, c1, u6, rfl, HAx.out.row.turn T3 (fun k hk => (HAx.out.far k hk).2.1), HF.out, ?_, HAx.out.turn.step T3 (fun j hj => by rw [hj]; exact Nat.le_succ _)⟩
            have ho := HAx.out.out.kept (row := some (w.heap.size + 1)) ⟨T3.os, T3.tape, T3.output, T3.size, fun k hk ho => T3.block k hk (fun e => ho (by rw [e]))⟩ (by
              cases ho : u6.ownBlock with
              | none => exact .inl rfl
              | some k => exact .inr (fun e => by have := (HAx.out.out.lt k ho).1; injection e with e; omega))
            have ho2 := own_low ho (B := w.heap.size) (by omega)
            rw [List.length_map] at ho2
            exact ho2
          · have HTS := Lib.hid (told_step HP.out hb h3 (fun j hj hd => h4 j hj hj hd))
            have HRT := Lib.hid (rests_step (b := bi) HP.out hb h3)
            have hsh : (without R[bi].id R).length < R.length := List.length_filter_lt_length_iff_exists.2 ⟨R[bi], List.getElem_mem hb, by simp⟩
            have HPW : Hid ((without R[bi].id R).Pairwise (fun x y : Tm Int => x.id < y.id)) := Lib.hid (HP.out.filter _)
            obtain ⟨b, cap, hv, _, _, hbl, hE⟩ := Row.elem A.row (by omega)
            injection hv with hp _ hc
            subst hp hc
            have HE := Lib.hid (hE bi hb)
            have cx := (HE.out 2 (.int .i64 R[bi].x) rfl : wr.cell? ⟨b, bi * 3 + 2, none⟩ = some (.int .i64 R[bi].x))
            have hbb : (bi : Int) < (R.length : Int) := by omega
            have hb0 : decide ((bi : Int) < 0) = false := by simp
            have hbR : (Value.slice (some ⟨b, 0, none⟩) R.length c1).ownBlock = some b := rfl
            clear hE h4 h3 hd3 hjl
            generalize R[bi] = tm at HTS HRT HPW HE cx hsh
            obtain ⟨ti, td, tx⟩ := tm
            obtain ⟨i0, z0, hi, hz0, hz1, hz2, hz3⟩ := info_xI
            have HI0 := Lib.hid hi
            have HZ0 := Lib.hid hz0
            have HZ1 := Lib.hid hz1
            have HZ2 := Lib.hid hz2
            have HZ3 := Lib.hid hz3
            clear hi hz0 hz1 hz2 hz3
            have HA2 := Lib.hid (A.kept ((Turn.refl wr _).alloc (.cells #[.int .i64 tx] 3)))
            have HNW := Lib.hid (cell_one_new wr (.int .i64 tx) 3)
            have H1C : Hid (∀ u ∈ [Value.int .i64 tx], u.oneCell' = true) := Lib.hid (fun u hu => by simp at hu; subst hu; rfl)
            have hll2 : Hid ((D.map fun t => Value.int .i64 t.x).length + 1 ≤ maxLen) := Lib.hid (by rw [List.length_map]; unfold maxLen; omega)
            have hll3 : Hid (((D.map fun t => Value.int .i64 t.x).length + 1) * 8 ≤ 140737488355328) := Lib.hid (by rw [List.length_map]; omega)
            have HB2 : Hid (w.heap.size + 2 ≤ (wr.alloc (.cells #[.int .i64 tx] 3)).heap.size) := Lib.hid (by
              have := (Array.getElem?_eq_some_iff.1 (A.res.choose_spec.choose_spec.choose_spec)).1
              simp; omega)
            have HAA := Lib.hid A
            clear A
            go_wp2_with (refine wpList_append_own_at _ rfl (.tmp 55) (.tmp 62) 39 rfl (w.heap.size + 2) 3 i0 z0 1 8 Try.underlying39 HI0.out HZ0.out HZ1.out HZ2.out HZ3.out (by decide) _ _ _ rfl HA2.out.out ⟨wr.heap.size, 0, none⟩ 1 1 [.int .i64 tx] rfl rfl HNW.out H1C.out hll2.out hll3.out HB2.out ?_; intro v' w2 hrow hgr2 _ hbl2; have HR := Lib.hid hrow; have HG := Lib.hid hgr2; have HBL := Lib.hid hbl2; clear hrow hgr2 hbl2)
            have HA3 : Hid (AdvS w w2 (some ⟨b, 0, none⟩) c1 N last R v' ((D ++ [(⟨ti, td, tx⟩ : Tm Int)]).map fun t => .int .i64 t.x)) := Lib.hid (HA2.out.told HG.out (by simpa using HR.out) HBL.out)
            have HA4 := Lib.hid (HA3.out.kept (turn_drew w2 _))
            have e0 := cell_of_cells (i := 0) HA4.out.box
            have e1 := cell_of_cells (i := 1) HA4.out.box
            have e2 := cell_of_cells (i := 2) HA4.out.box
            have ci : w2.drew.cell? ⟨b, bi * 3, none⟩ = some (.int .i64 ti) := by
              have hx := HE.out 0 (.int .i64 ti) rfl
              rw [Nat.add_zero] at hx
              have hg := (Turn.of_grown (w := wr.alloc (.cells #[.int .i64 tx] 3)) (O := fun j => u6.ownBlock = some j) HG.out (fun j h => h))
              exact (World.cell?_of_block (a := ⟨b, bi * 3, none⟩) ((hg.block b (by simp; omega) (HAA.out.far b hbR).2.2).trans (((Turn.refl wr (fun _ => False)).alloc (.cells #[.int .i64 tx] 3)).block b hbl id))).trans hx
            have HCa := Lib.hid (rCancel w2.drew (some ⟨b, 0, none⟩) c1 N last R ti HA4.out.row hRl)
            go_region_with ((go_at_call 13; refine HCa.out.mono ?_; rintro e w4 ⟨p4, c4, rfl, k1, k2, k3⟩; have K1 := Lib.hid k1; have K2 := Lib.hid k2; have HA5 := Lib.hid (HA4.out.kept k3); clear k1 k2 k3; have y0 := cell_of_cells (i := 0) HA5.out.box; have y1 := cell_of_cells (i := 1) HA5.out.box; have y2 := cell_of_cells (i := 2) HA5.out.box; have x0 := frozen_of_cells (i := 0) HA5.out.box; have x1 := frozen_of_cells (i := 1) HA5.out.box; have x2 := frozen_of_cells (i := 2) HA5.out.box))
            all_goals
              have HS4 := Lib.hid (HA5.out.anew K1.out (fun k hk => by
                have z1 := K2.out k hk
                have z2 := (Array.getElem?_eq_some_iff.1 (HA4.out.res.choose_spec.choose_spec.choose_spec)).1
                exact ⟨by omega, by omega, fun e => by have := (HA4.out.out.lt k e).2; omega⟩))
              have HLN4 := HS4.out.len
              have HK4 : Hid (∀ k, (Value.slice p4 (without ti R).length c4).ownBlock = some k → w.heap.size ≤ k ∨ (Value.slice p L.length c).ownBlock = some k) := Lib.hid (fun k hk => by
                have z1 := K2.out k hk
                have z2 := (Array.getElem?_eq_some_iff.1 (HA4.out.res.choose_spec.choose_spec.choose_spec)).1
                exact .inl (by omega))
              have HT4 : Hid (told N L = (D ++ [(⟨ti, td, tx⟩ : Tm Int)]) ++ told N (without ti R)) := Lib.hid (by rw [HTd.out, (HTS.out : told N R = ⟨ti, td, tx⟩ :: told N (without ti R))]; simp)
              have HR4 : Hid (rests N L = rests N (without ti R)) := Lib.hid (by rw [HRs.out]; exact HRT.out.symm)
              have hsh4 : (without ti R).length < R.length := hsh
              have hD4 : (D ++ [(⟨ti, td, tx⟩ : Tm Int)]).length + (without ti R).length ≤ L.length := by rw [List.length_append, List.length_singleton]; omega
              go_wp2_with fail
              go_roundw
            all_goals first
              | exact ⟨p4, c4, without ti R, D ++ [⟨ti, td, tx⟩], HS4, hD4, HPW, HT4, HR4, HK4⟩
              | omega
  · have hd : decide (to_ > now) = false := by simpa using hto
    have hd2 : decide (now < to_) = false := by simpa using hto
    obtain rfl : N = now := by omega
    clear hN
    go_enter Try.func15, Try.ntmps15
    go_wp2_with fail
    generalize (w.alloc _).alloc _ = W0 at HS0 ⊢
    go_loopw [6] (fun vo wr => ∃ p' c' R D, Hid (AdvS w wr p' c' N last R vo (D.map fun t => .int .i64 t.x)) ∧ D.length + R.length ≤ L.length ∧ Hid (R.Pairwise (fun x y : Tm Int => x.id < y.id)) ∧ Hid (told N L = D ++ told N R) ∧ Hid (rests N L = rests N R) ∧ Hid (∀ k, (Value.slice p' R.length c').ownBlock = some k → w.heap.size ≤ k ∨ (Value.slice p L.length c).ownBlock = some k)) (fun _ wr => lenBox wr w.heap.size)
    case atStart => exact ⟨p, c, L, [], HS0, by simp, HI, Lib.hid rfl, Lib.hid rfl, Lib.hid (fun k hk => .inr hk)⟩
    case round =>
      obtain ⟨p1, c1, R, D, HA, hDR, HP, HTd, HRs, HF⟩ := hrel
      have hRl : R.length ≤ 100000 := by omega
      have HLN := HA.out.len
      go_wp2_with fail
      go_loopw [7, 8] (fun bv iv wr2 => ∃ j : Nat, j ≤ R.length ∧ iv = .int .i64 j ∧ BestI N R j bv ∧ AdvS w wr2 p1 c1 N last R u6 (D.map fun t => .int .i64 t.x)) (fun _ i _ => R.length - (intOf i).toNat)
      case atStart => exact ⟨0, Nat.zero_le _, rfl, BestI.zero _ _, HA.out⟩
      case round =>
        obtain ⟨j, hj, rfl, HB, A⟩ := hrel
        have b0 := cell_of_cells (i := 0) A.box
        have b1 := cell_of_cells (i := 1) A.box
        have b2 := cell_of_cells (i := 2) A.box
        by_cases hjl : j < R.length
        · have hd3 : decide ((j : Int) < (R.length : Int)) = true := by simp; omega
          have hjb : (j : Int) < (R.length : Int) := by omega
          obtain ⟨b, cap, hv, _, _, hbl, hE⟩ := Row.elem A.row (by omega)
          injection hv with hp _ hc
          subst hp hc
          have cj := (hE j hjl 1 (.int .i64 R[j].due) rfl : wr.cell? ⟨b, j * 3 + 1, none⟩ = some (.int .i64 R[j].due))
          have HAx := Lib.hid A
          rcases HB with ⟨rfl, h2⟩ | ⟨bi, hb, rfl, hbi, h3, h4⟩
          · have HL := Lib.hid (BestI.late (v := .int .i64 (-1)) (.inl ⟨rfl, h2⟩) hjl)
            have HFi := Lib.hid (BestI.first h2 hjl)
            clear A hE h2
            generalize R[j].due = du at cj HL HFi
            by_cases hdu : du ≤ N
            · have hd4 : decide (du ≤ N) = true := by simpa using hdu
              go_wp2_with fail
              go_quiet (fail)
              go_wp2_with fail
              go_roundw
              case rel => exact ⟨j + 1, by omega, by go_num, HFi.out hdu, HAx.out.drewN _⟩
              case measure => simp [intOf]; omega
            · have hd4 : decide (du ≤ N) = false := by simpa using hdu
              go_wp2_with fail
              go_quiet (fail)
              go_wp2_with fail
              go_roundw
              case rel => exact ⟨j + 1, by omega, by go_num, HL.out hdu, HAx.out.drewN _⟩
              case measure => simp [intOf]; omega
          · have HL := Lib.hid (BestI.late (v := .int .i64 bi) (.inr ⟨bi, hb, rfl, hbi, h3, h4⟩) hjl)
            have HBt := Lib.hid (BestI.better hb h4 hjl)
            have HWo := Lib.hid (BestI.worse hb hbi h3 h4 hjl)
            have cb := (hE bi hb 1 (.int .i64 R[bi].due) rfl : wr.cell? ⟨b, bi * 3 + 1, none⟩ = some (.int .i64 R[bi].due))
            have hbb : (bi : Int) < (R.length : Int) := by omega
            have hb0 : decide ((bi : Int) < 0) = false := by simp
            clear A hE h4 h3
            generalize R[j].due = du at cj HL HBt HWo
            generalize R[bi].due = db at cb HBt HWo
            by_cases hdu : du ≤ N
            · have hd4 : decide (du ≤ N) = true := by simpa using hdu
              by_cases hlt : du < db
              · have hd5 : decide (du < db) = true := by simpa using hlt
                go_wp2_with fail
                go_quiet (fail)
                go_wp2_with fail
                go_roundw
                case rel => exact ⟨j + 1, by omega, by go_num, HBt.out hdu hlt, HAx.out.drewN _⟩
                case measure => simp [intOf]; omega
              · have hd5 : decide (du < db) = false := by simpa using hlt
                go_wp2_with fail
                go_quiet (fail)
                go_wp2_with fail
                go_roundw
                case rel => exact ⟨j + 1, by omega, by go_num, HWo.out hlt, HAx.out.drewN _⟩
                case measure => simp [intOf]; omega
            · have hd4 : decide (du ≤ N) = false := by simpa using hdu
              go_wp2_with fail
              go_quiet (fail)
              go_wp2_with fail
              go_roundw
              case rel => exact ⟨j + 1, by omega, by go_num, HL.out hdu, HAx.out.drewN _⟩
              case measure => simp [intOf]; omega
        · have hjj : j = R.length := by omega
          have hd3 : decide ((j : Int) < (R.length : Int)) = false := by simp; omega
          subst hjj
          rcases HB with ⟨rfl, h2⟩ | ⟨bi, hb, rfl, hbi, h3, h4⟩
          · have hte := told_end (fun j hj => h2 j hj hj)
            have e1 : rests N L = R := by rw [HRs.out, hte.2]
            have e2 : told N L = D := by rw [HTd.out, hte.1, List.append_nil]
            obtain ⟨x, y, z, hr⟩ := A.res
            have r0 := (cell_of_cells (i := 0) hr : wr.cell? ⟨w.heap.size + 1, 0, none⟩ = some x)
            have r1 := (cell_of_cells (i := 1) hr : wr.cell? ⟨w.heap.size + 1, 1, none⟩ = some y)
            have r2 := (cell_of_cells (i := 2) hr : wr.cell? ⟨w.heap.size + 1, 2, none⟩ = some z)
            have g0 := (frozen_of_cells (i := 0) hr)
            have g1 := (frozen_of_cells (i := 1) hr)
            have g2 := (frozen_of_cells (i := 2) hr)
            have HAx := Lib.hid A
            have HR2 := Lib.hid hr
            clear A hr h2 hte
            go_wp2_with fail
            rw [e1, e2]
            have q0 := r_cells0 HR2.out (.slice p1 R.length c1) (.int .i64 N) (.int .i64 last) 0
            have q1 := r_cells0 HR2.out (.slice p1 R.length c1) (.int .i64 N) (.int .i64 last) 1
            have q2 := r_cells0 HR2.out (.slice p1 R.length c1) (.int .i64 N) (.int .i64 last) 2
            have T3 := ((((Turn.refl wr (fun j => j = w.heap.size + 1)).setCell rfl 0 (.slice p1 R.length c1)).setCell rfl 1 (.int .i64 N)).setCell rfl 2 (.int .i64 last))
            refine bodyPost_ret (v := .tuple #[rVal p1 R.length c1 N last, u6]) (by simp [results, Try.results15, go_sem, q0, q1, q2]) rfl ⟨p1, c1, u6, rfl, HAx.out.row.turn T3 (fun k hk => (HAx.out.far k hk).2.1), HF.out, ?_, HAx.out.turn.step T3 (fun j hj => by rw [hj]; exact Nat.le_succ _)⟩
            have ho := HAx.out.out.kept (row := some (w.heap.size + 1)) ⟨T3.os, T3.tape, T3.output, T3.size, fun k hk ho => T3.block k hk (fun e => ho (by rw [e]))⟩ (by
              cases ho : u6.ownBlock with
              | none => exact .inl rfl
              | some k => exact .inr (fun e => by have := (HAx.out.out.lt k ho).1; injection e with e; omega))
            have ho2 := own_low ho (B := w.heap.size) (by omega)
            rw [List.length_map] at ho2
            exact ho2
          · have HTS := Lib.hid (told_step HP.out hb h3 (fun j hj hd => h4 j hj hj hd))
            have HRT := Lib.hid (rests_step (b := bi) HP.out hb h3)
            have hsh : (without R[bi].id R).length < R.length := List.length_filter_lt_length_iff_exists.2 ⟨R[bi], List.getElem_mem hb, by simp⟩
            have HPW : Hid ((without R[bi].id R).Pairwise (fun x y : Tm Int => x.id < y.id)) := Lib.hid (HP.out.filter _)
            obtain ⟨b, cap, hv, _, _, hbl, hE⟩ := Row.elem A.row (by omega)
            injection hv with hp _ hc
            subst hp hc
            have HE := Lib.hid (hE bi hb)
            have cx := (HE.out 2 (.int .i64 R[bi].x) rfl : wr.cell? ⟨b, bi * 3 + 2, none⟩ = some (.int .i64 R[bi].x))
            have hbb : (bi : Int) < (R.length : Int) := by omega
            have hb0 : decide ((bi : Int) < 0) = false := by simp
            have hbR : (Value.slice (some ⟨b, 0, none⟩) R.length c1).ownBlock = some b := rfl
            clear hE h4 h3 hd3 hjl
            generalize R[bi] = tm at HTS HRT HPW HE cx hsh
            obtain ⟨ti, td, tx⟩ := tm
            obtain ⟨i0, z0, hi, hz0, hz1, hz2, hz3⟩ := info_xI
            have HI0 := Lib.hid hi
            have HZ0 := Lib.hid hz0
            have HZ1 := Lib.hid hz1
            have HZ2 := Lib.hid hz2
            have HZ3 := Lib.hid hz3
            clear hi hz0 hz1 hz2 hz3
            have HA2 := Lib.hid (A.kept ((Turn.refl wr _).alloc (.cells #[.int .i64 tx] 3)))
            have HNW := Lib.hid (cell_one_new wr (.int .i64 tx) 3)
            have H1C : Hid (∀ u ∈ [Value.int .i64 tx], u.oneCell' = true) := Lib.hid (fun u hu => by simp at hu; subst hu; rfl)
            have hll2 : Hid ((D.map fun t => Value.int .i64 t.x).length + 1 ≤ maxLen) := Lib.hid (by rw [List.length_map]; unfold maxLen; omega)
            have hll3 : Hid (((D.map fun t => Value.int .i64 t.x).length + 1) * 8 ≤ 140737488355328) := Lib.hid (by rw [List.length_map]; omega)
            have HB2 : Hid (w.heap.size + 2 ≤ (wr.alloc (.cells #[.int .i64 tx] 3)).heap.size) := Lib.hid (by
              have := (Array.getElem?_eq_some_iff.1 (A.res.choose_spec.choose_spec.choose_spec)).1
              simp; omega)
            have HAA := Lib.hid A
            clear A
            go_wp2_with (refine wpList_append_own_at _ rfl (.tmp 55) (.tmp 62) 39 rfl (w.heap.size + 2) 3 i0 z0 1 8 Try.underlying39 HI0.out HZ0.out HZ1.out HZ2.out HZ3.out (by decide) _ _ _ rfl HA2.out.out ⟨wr.heap.size, 0, none⟩ 1 1 [.int .i64 tx] rfl rfl HNW.out H1C.out hll2.out hll3.out HB2.out ?_; intro v' w2 hrow hgr2 _ hbl2; have HR := Lib.hid hrow; have HG := Lib.hid hgr2; have HBL := Lib.hid hbl2; clear hrow hgr2 hbl2)
            have HA3 : Hid (AdvS w w2 (some ⟨b, 0, none⟩) c1 N last R v' ((D ++ [(⟨ti, td, tx⟩ : Tm Int)]).map fun t => .int .i64 t.x)) := Lib.hid (HA2.out.told HG.out (by simpa using HR.out) HBL.out)
            have HA4 := Lib.hid (HA3.out.kept (turn_drew w2 _))
            have e0 := cell_of_cells (i := 0) HA4.out.box
            have e1 := cell_of_cells (i := 1) HA4.out.box
            have e2 := cell_of_cells (i := 2) HA4.out.box
            have ci : w2.drew.cell? ⟨b, bi * 3, none⟩ = some (.int .i64 ti) := by
              have hx := HE.out 0 (.int .i64 ti) rfl
              rw [Nat.add_zero] at hx
              have hg := (Turn.of_grown (w := wr.alloc (.cells #[.int .i64 tx] 3)) (O := fun j => u6.ownBlock = some j) HG.out (fun j h => h))
              exact (World.cell?_of_block (a := ⟨b, bi * 3, none⟩) ((hg.block b (by simp; omega) (HAA.out.far b hbR).2.2).trans (((Turn.refl wr (fun _ => False)).alloc (.cells #[.int .i64 tx] 3)).block b hbl id))).trans hx
            have HCa := Lib.hid (rCancel w2.drew (some ⟨b, 0, none⟩) c1 N last R ti HA4.out.row hRl)
            go_region_with ((go_at_call 13; refine HCa.out.mono ?_; rintro e w4 ⟨p4, c4, rfl, k1, k2, k3⟩; have K1 := Lib.hid k1; have K2 := Lib.hid k2; have HA5 := Lib.hid (HA4.out.kept k3); clear k1 k2 k3; have y0 := cell_of_cells (i := 0) HA5.out.box; have y1 := cell_of_cells (i := 1) HA5.out.box; have y2 := cell_of_cells (i := 2) HA5.out.box; have x0 := frozen_of_cells (i := 0) HA5.out.box; have x1 := frozen_of_cells (i := 1) HA5.out.box; have x2 := frozen_of_cells (i := 2) HA5.out.box))
            all_goals
              have HS4 := Lib.hid (HA5.out.anew K1.out (fun k hk => by
                have z1 := K2.out k hk
                have z2 := (Array.getElem?_eq_some_iff.1 (HA4.out.res.choose_spec.choose_spec.choose_spec)).1
                exact ⟨by omega, by omega, fun e => by have := (HA4.out.out.lt k e).2; omega⟩))
              have HLN4 := HS4.out.len
              have HK4 : Hid (∀ k, (Value.slice p4 (without ti R).length c4).ownBlock = some k → w.heap.size ≤ k ∨ (Value.slice p L.length c).ownBlock = some k) := Lib.hid (fun k hk => by
                have z1 := K2.out k hk
                have z2 := (Array.getElem?_eq_some_iff.1 (HA4.out.res.choose_spec.choose_spec.choose_spec)).1
                exact .inl (by omega))
              have HT4 : Hid (told N L = (D ++ [(⟨ti, td, tx⟩ : Tm Int)]) ++ told N (without ti R)) := Lib.hid (by rw [HTd.out, (HTS.out : told N R = ⟨ti, td, tx⟩ :: told N (without ti R))]; simp)
              have HR4 : Hid (rests N L = rests N (without ti R)) := Lib.hid (by rw [HRs.out]; exact HRT.out.symm)
              have hsh4 : (without ti R).length < R.length := hsh
              have hD4 : (D ++ [(⟨ti, td, tx⟩ : Tm Int)]).length + (without ti R).length ≤ L.length := by rw [List.length_append, List.length_singleton]; omega
              go_wp2_with fail
              go_roundw
            all_goals first
              | exact ⟨p4, c4, without ti R, D ++ [⟨ti, td, tx⟩], HS4, hD4, HPW, HT4, HR4, HK4⟩
              | omega

end Go.Proofs.Ytbbmfgeagdblcaa
