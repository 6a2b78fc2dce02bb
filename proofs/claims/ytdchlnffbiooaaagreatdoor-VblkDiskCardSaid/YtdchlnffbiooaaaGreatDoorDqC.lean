/-
  Layer 3, VblkDisk: a row is cut; two orders are equal in Go where they are the same; the beginning. Conditions: as said.
-/
import Derived.Test.YtdchlnffbiooaaaGreatDoorDqA
import Derived.Test.YtdchlnffbiooaaaGreatDoorDqB
import Derived.Deep.AppendSrc
import Derived.Deep.Upon
import Derived.ProofKit
import Derived.Deep.Slices
import Derived.Deep.Fields
import Derived.ChangeSame
import Derived.Test.YtdchlnffbiooaaaGreatDoorBlkD
import Derived.Test.YtdchlnffbiooaaaGreatDoorVRead
import Derived.Test.YtdchlnffbiooaaaGreatDoorBlkL
import Derived.Test.YtdchlnffbiooaaaGreatDoorBlkI
import Derived.Test.YtdchlnffbiooaaaGreatDoorVGoes
import Derived.Test.YtdchlnffbiooaaaGreatDoorVBackF
import Derived.DeepKeys
import Derived.StillTailTactics
import Derived.Deep.RegionHeld3
namespace Go.Proofs.YtdchlnffbiooaaaGreatDoor
open Go.RowKit Go.Sort Go.ChangeMaps Go.MapKept

section
variable {P : Program} {k t e : TypeId} {w : World} {b : Nat} {cs : List (Int × Value)}
/-- An entry with another value. -/
theorem IsTab.put_at {x : Int} {v0 : Value} (h : IsTab w b cs) (hm : (x, v0) ∈ cs) (ht : P.underlying t = some (.map k e)) (hk : P.underlying k = some (.int .i64)) (v : Value) :
    ∃ (w' : World) (j : Nat), cs[j]? = some (x, v0) ∧ (Instr.mapUpdate t (.map (some b)) (.int .i64 x) v).run P w = .ok () w' ∧ IsTab w' b (cs.set j (x, v)) ∧ w.grownBy w' (some b) := by
  obtain ⟨es, clock, hb, F⟩ := h
  have hx := F.wf _ hm
  rcases F.find hk w hx with ⟨_, h1⟩ | ⟨j, v', h1, h2⟩
  · exact absurd rfl (h1 _ hm)
  have hv0 : v' = v0 := key_one F.keys (List.mem_of_getElem? h2) hm
  subst hv0
  have hjl : j < cs.length := (List.getElem?_eq_some_iff.1 h2).1
  have hes : es.size = cs.length := by have := F.length; simpa using this
  have hkey : ((es[j]?).map (·.key)).getD (.int .i64 x) = .int .i64 x := by
    have hl : j < es.toList.length := by simp; omega
    obtain ⟨c, hc, h4, _⟩ := F.at_ (List.getElem?_eq_getElem hl)
    rw [h2] at hc
    cases hc
    have e1 : es[j]? = some (es.toList[j]'hl) := by simp
    rw [e1]
    simpa using h4
  obtain ⟨W2, hW2⟩ : ∃ W2, W2 = setBlock w b (.map (es.modify j fun e => { e with key := .int .i64 x, val := v }) clock) := ⟨_, rfl⟩
  refine ⟨W2, j, h2, ?_, ?_, ?_⟩
  · rw [hW2]
    have hks : (Instr.keyThatStays (.int .i64 x) (.int .i64 x)).run P w = .ok (.int .i64 x) w := by simp [Instr.keyThatStays, Instr.sameBits]
    simp [Instr.mapUpdate, run_underlying ht, MapKept.run_getObj_map hb, tab_check hk w _ hx, h1, hkey, hks, MapKept.run_setObj_map _ hb, Result.andThen, setBlock]
  · rw [hW2]
    refine ⟨_, _, heap_setBlock_same hb _, ?_⟩
    have hl : (es.modify j fun e => { e with key := .int .i64 x, val := v }).toList = es.toList.modify j fun e => { e with key := .int .i64 x, val := v } := Array.toList_modify
    have hb2 : (es.modify j fun e => { e with key := .int .i64 x, val := v }).toList.map (·.born) = es.toList.map (·.born) := by
      rw [hl]
      apply List.ext_getElem?
      intro i
      rw [List.getElem?_map, List.getElem?_map, List.getElem?_modify]
      cases es.toList[i]? with
      | none => rfl
      | some e0 => by_cases hi : j = i <;> simp [hi]
    refine ⟨?_, ?_, ?_, ?_, ?_⟩
    · rw [hl]
      apply List.ext_getElem?
      intro i
      have h5 := congrArg (fun l => l[i]?) F.ents
      simp only [List.getElem?_map] at h5 ⊢
      rw [List.getElem?_modify]
      by_cases hi : j = i
      · subst hi
        have hl2 : j < es.toList.length := by simp; omega
        have h8 : (cs.set j (x, v))[j]? = some (x, v) := List.getElem?_set_self hjl
        rw [List.getElem?_eq_getElem hl2, h8]
        simp
      · have h9 : (cs.set j (x, v))[i]? = cs[i]? := List.getElem?_set_ne hi
        rw [h9, ← h5]
        cases es.toList[i]? with
        | none => rfl
        | some e0 => simp [hi]
    · rw [hb2]; exact F.born
    · intro e0 he0
      have h6 : e0.born ∈ es.toList.map (·.born) := by rw [← hb2]; exact List.mem_map.2 ⟨e0, he0, rfl⟩
      obtain ⟨e1, he1, h7⟩ := List.mem_map.1 h6
      rw [← h7]
      exact F.old e1 he1
    · have hk2 : (cs.set j (x, v)).map (·.1) = cs.map (·.1) := by
        rw [List.map_set]
        apply List.ext_getElem?
        intro i
        by_cases hi : j = i
        · subst hi
          rw [List.getElem?_set_self (by simpa using hjl), List.getElem?_map, h2]
          rfl
        · rw [List.getElem?_set_ne hi]
      rw [hk2]; exact F.keys
    · intro c hc
      rcases List.mem_or_eq_of_mem_set hc with hc | rfl
      · exact F.wf c hc
      · exact hx
  · rw [hW2]
    exact ⟨rfl, rfl, rfl, by simp [setBlock], fun i _ hi => heap_setBlock_other hb _ (fun e => hi (by rw [e]))⟩
end
/-- What Next comes to, where the chain's head is with the device already. -/
def RNextAg (w : World) (r g h p u : Nat) (lm : List UInt8) (base taken told : Int) (ts : List (Int × Tkn)) (k : Int) (l : List Bf) (o : Ord) (e : Ending) (w' : World) : Prop :=
  e = .returned (.tuple #[.int .i64 k, o.val, .int .i64 0]) ∧ ∃ j : Nat, ts[j]?.map Prod.fst = some k ∧ RS w' r g h p u lm base ((taken + 1) % 65536) told (ts.set j (k, tknOf o l)) ∧ Turned (RB h p u) w w'
set_option maxRecDepth 100000 in
set_option maxHeartbeats 4000000 in
theorem RNext_again (w : World) (r g h p u : Nat) (lm : List UInt8) (base taken told : Int) (ts : List (Int × Tkn)) (hS : Shapes w) (hp0 : p ≠ 0) (s : RS w r g h p u lm base taken told ts) (k : Int) (l : List Bf) (o : Ord)
    (h0 : offI lm base 32 ≠ taken) (h1 : (offI lm base 32 - taken) % 65536 ≤ 32) (hh : Hid (offHead lm base 32 taken = k)) (hF : Hid (followF lm base 32 32 k [] = some l)) (ho : Hid (askL lm l = some o)) (x0 : Tkn) (hn : (k, x0) ∈ ts) :
    Calls Tryz.prog 10 #[.pointer (some ⟨r, 0, none⟩)] w (RNextAg w r g h p u lm base taken told ts k l o) := by
  have ka := World.grownBy_alloc w (.cells #[.int .i64 0, .int .i64 0, .string ⟨#[]⟩] 39) none
  have hrb := heap_alloc_new w (.cells #[.int .i64 0, .int .i64 0, .string ⟨#[]⟩] 39)
  have S1 := Lib.hid (s.grown ka)
  have SH := Lib.hid (hS.grown ka)
  have hll := ask_len ho.out
  have hFo := hF.out
  have hl0 : 0 < l.length := by omega
  have hbd := follow_bd hFo s.ps.len
  obtain ⟨lr, lg, lh, lp, lu⟩ := s.lts
  have LU := Lib.hid lu
  have hk01 := offHead_bd lm base 32 taken
  rw [hh.out] at hk01
  have HK01 := Lib.hid hk01
  have HZ : Hid (p ≠ 0) := Lib.hid hp0
  have H0 := Lib.hid h0
  have H1 := Lib.hid h1
  have HN := Lib.hid hn
  have HBD := Lib.hid hbd
  have RB1 := Lib.hid hrb
  have KA := Lib.hid ka
  clear hS s h0 h1 hn hFo hbd hrb ka
  go_enter Tryz.func10, Tryz.ntmps10
  go_upto_region 1 with fail
  generalize w.alloc _ = W1 at S1 SH RB1 KA ⊢
  have c3 := S1.out.ra.c3
  have c1 := S1.out.ra.c1
  go_wp2_with (go_at_call 28; refine (rnone_no _ _ c3).mono ?_; rintro e w' ⟨rfl, rfl⟩)
--@1
  refine (vNext_any W1 p g h lm base 32 taken told S1.out.ps).mono ?_
  rintro e w2 hpost
  rcases hpost with ⟨a, _, _⟩ | ⟨_, a, _, _⟩ | ⟨l', v, _, _, e3, rfl, bv, ps2, k2⟩
  · exact absurd a H0.out
  · rcases a with a | a
    · exact absurd H1.out (by omega)
    · rw [hh.out, hF.out] at a; cases a
  rw [hh.out, hF.out] at e3
  injection e3 with e3
  subst e3
  rw [hh.out]
  obtain ⟨n1, n2, n3, n4, n5, n6, n7⟩ := S1.out.ne
  have s2 : RS w2 r g h p u lm base ((taken + 1) % 65536) told ts :=
    ⟨S1.out.ra.kept (k2.block _ S1.out.lts.1 (fun e => n3 (by injection e))), ps2, S1.out.tab.kept (k2.block _ S1.out.tab.lt (fun e => n7 (by injection e)))⟩
  have S2 := Lib.hid s2
  have SH2 := Lib.hid (SH.out.kept (k2.block 0 SH.out.pos (fun e => HZ.out (by injection e with e; exact e.symm))))
  have RB2 : Hid (w2.heap[w.heap.size]? = some (.cells #[.int .i64 0, .int .i64 0, .string ⟨#[]⟩] 39 (0, 0))) := Lib.hid ((k2.block _ (lt_of_block RB1.out) (fun e => by injection e with e; omega)).trans RB1.out)
  have T2 : Hid (Turned (RB h p u) w w2) := Lib.hid ((Turned.of KA.out (fun j e => by cases e)).step k2 (fun j e => .inl (.inr (.inl (by injection e with e; exact e.symm)))))
  have BV := Lib.hid bv
  clear c1 c3 k2 ps2 bv s2 S1 SH RB1 KA n1 n2 n3 n4 n5 n6 n7
  obtain ⟨pp, cap, rfl, hle⟩ := BV.out.form
  go_wp2_with fail
--@2
  refine (order_any w2 r g p u h lm SH2.out S2.out.ra S2.out.ps.mem S2.out.ps.len _ l BV.out hl0 (fun x hx => by have := HBD.out x hx; omega)).mono ?_
  rintro e w3 hpost
  obtain ⟨o', e4, rfl, k3⟩ : ∃ o, askL lm l = some o ∧ e = .returned (.tuple #[o.val, .bool true]) ∧ w2.grownBy w3 none := by
    rcases hpost with h | ⟨e4, _⟩
    · exact h
    · rw [ho.out] at e4; cases e4
  rw [ho.out] at e4
  injection e4 with e4
  subst e4
  obtain ⟨ok, os_, od⟩ := o
  unfold Ord.val
  simp only
  have K3 := Lib.hid (k3.trans (World.grownBy_alloc w3 (.cells #[.int .i64 ok, .int .i64 os_, .string od] 39) none))
  have hob3 := heap_alloc_new w3 (.cells #[.int .i64 ok, .int .i64 os_, .string od] 39)
  have z3 := k3.size
  have zb := lt_of_block RB2.out
  obtain ⟨ob, hob⟩ : ∃ ob, ob = w3.heap.size := ⟨_, rfl⟩
  have hobn : ob ≠ w.heap.size := by omega
  have huo : u ≠ ob := by have := LU.out; omega
  rw [← hob] at hob3
  have HOB := Lib.hid hob
  clear k3 hob
  go_upto_region 7 with fail
  rw [← HOB.out]
  generalize w3.alloc _ = W3 at K3 hob3 ⊢
  have S3 := Lib.hid (S2.out.grown K3.out)
  have T3 := Lib.hid (T2.out.step K3.out (fun j e => by cases e))
  have RB3 : Hid (W3.heap[w.heap.size]? = some (.cells #[.int .i64 0, .int .i64 0, .string ⟨#[]⟩] 39 (0, 0))) := Lib.hid ((K3.out.block _ (lt_of_block RB2.out) (by simp)).trans RB2.out)
  have BV3 := Lib.hid (BV.out.grown K3.out)
  have OB3 := Lib.hid hob3
  clear hob3 S2 T2 RB2 BV SH2 K3
  go_wp2_with fail
--@3
  have hwa : IntKind.i64.wrap 1 = 1 := IntWalk.i64_in _ (by omega)
  have hwb : IntKind.i64.wrap 2 = 2 := IntWalk.i64_in _ (by omega)
  rcases (show l.length = 2 ∨ l.length = 3 by omega) with hl2 | hl2
  all_goals rw [hl2]
  all_goals (
  refine region_tail 20 (by kernel_rfl) (by kernel_rfl) (fun V d => ?_)
  have sV := S3.out.grown d.grown
  have bV := BV3.out.grown d.grown
  obtain ⟨b1, o1, y1, rfl, hy1, g0, g1, g2⟩ := bV.at_ 1 (by omega)
  obtain ⟨b2, o2, y2, hb2, hy2, i0, i1, i2⟩ := bV.at_ (l.length - 1) (by omega)
  injection hb2 with hb2
  injection hb2 with hb2a hb2b
  subst hb2a hb2b
  have obV := (d.block ob).trans OB3.out
  have j0 : V.cell? ⟨ob, 0, none⟩ = some (.int .i64 ok) := cell_of_block obV
  have c2 := sV.ra.c2
  have ht : tknOf ⟨ok, os_, od⟩ l = ⟨ok == 1, y1.a, y2.a⟩ := by
    unfold tknOf
    rw [List.getD_eq_getElem?_getD, List.getD_eq_getElem?_getD, hy1, hy2]
    rfl
  obtain ⟨w5, jt, hjt, hrun, t5, k5⟩ := sV.tab.put_at (P := Tryz.prog) (x := k) (List.mem_map.2 ⟨(k, x0), HN.out, rfl⟩) Tryz.underlying68 Tryz.underlying3 (Tkn.val ⟨ok == 1, y1.a, y2.a⟩)
  have HJT : Hid (ts[jt]?.map Prod.fst = some k) := Lib.hid (by rw [List.getElem?_map] at hjt; cases hq : ts[jt]? with | none => rw [hq] at hjt; cases hjt | some q => rw [hq] at hjt; simp at hjt; simp [hjt.1])
  clear hjt
  unfold Tkn.val at hrun
  simp only at hrun
  obtain ⟨n1, n2, n3, n4, n5, n6, n7⟩ := sV.ne
  have s5 : RS w5 r g h p u lm base ((taken + 1) % 65536) told (ts.set jt (k, tknOf ⟨ok, os_, od⟩ l)) := by
    have keep : ∀ x, x < V.heap.size → u ≠ x → w5.heap[x]? = V.heap[x]? := fun x hx hn => k5.block x hx (fun e => hn (by injection e with e; exact e.symm))
    obtain ⟨l1, l2, l3, l4, l5⟩ := sV.lts
    refine ⟨sV.ra.kept (keep _ l1 n4), { sV.ps with mem := ⟨(keep _ l2 n5).trans sV.ps.mem.1, (keep _ l3 n6).trans sV.ps.mem.2⟩, at_ := sV.ps.at_.kept (keep _ l4 n7) }, ?_⟩
    rw [List.map_set, ht]
    exact t5
  have zV : W3.heap.size = V.heap.size := d.size.symm
  have T5 := Lib.hid ((T3.out.step d.grown (fun j e => by cases e)).step k5 (fun j e => .inl (.inr (.inr (by injection e with e; exact e.symm)))))
  have zob := lt_of_block obV
  have rbV := (d.block w.heap.size).trans RB3.out
  have OB5 := Lib.hid ((k5.block ob zob (fun e => by injection e with e; exact huo e.symm)).trans obV)
  have RB5 : Hid (w5.heap[w.heap.size]? = some (.cells #[.int .i64 0, .int .i64 0, .string ⟨#[]⟩] 39 (0, 0))) := Lib.hid ((k5.block _ (lt_of_block rbV) (fun e => by injection e with e; have := LU.out; omega)).trans rbV)
  have S6 := Lib.hid s5
  have T6 := T5
  have OB6 := OB5
  have RB6 := RB5
  obtain ⟨ya, yn, yw⟩ := y1
  obtain ⟨za, zn, zw⟩ := y2
  simp only [Nat.one_mul] at g0 i0 hrun
  rw [hl2] at i0
  simp only [Nat.reduceSub, Nat.reduceMul, Nat.one_mul] at i0
  have HL2 := Lib.hid hl2
  try (rw [g0] at i0; injection i0 with i0; injection i0 with _ i0; subst i0)
  clear sV bV hy1 hy2 g1 g2 i1 i2 obV t5 k5 n1 n2 n3 n4 n5 n6 n7 s5 T5 OB5 RB5 S3 BV3 d T3 zob rbV OB3 RB3 zV hl2 hll hl0
  simp only [List.take_succ_cons, List.take_zero, List.drop_succ_cons, List.drop_zero]
  repeat still_step
  refine wpStill_nil ?_
  go_wp2_with fail
--@4
  refine wp_region_noPanic ?_
  refine region_held (S := fun w' => w'.heap[ob]? = some (.cells #[.int .i64 ok, .int .i64 os_, .string od] 39 (0, 0))) (by kernel_rfl) (fun V d => (d.block _).trans OB6.out) (fun V d hS => ?_)
  have S7 := Lib.hid (S6.out.grown d.grown)
  have T7 : Turned (RB h p u) w V := T6.out.step d.grown (fun j e => by cases e)
  refine wpAnyH_take (i := 0) (v := (.int .i64 k)) rfl (by kernel_rfl) (by kernel_rfl) (by kernel_rfl) (fun _ _ _ h => h) (Or.inl ⟨by rfl, fun w' h' => ?_⟩) hS ?_
  · clear h'
    go_simp
  simp only [Act.put]
  refine wpAnyH_take (i := 1) (v := (.agg #[.int .i64 ok, .int .i64 os_, .string od])) rfl (by kernel_rfl) (by kernel_rfl) (by kernel_rfl) (fun _ _ _ h => h) (Or.inl ⟨by rfl, fun w' h' => ?_⟩) hS ?_
  · have c0 := (cell_of_block h' : w'.cell? ⟨ob, 0, none⟩ = some (.int .i64 ok))
    have c1 := (cell_of_block h' : w'.cell? ⟨ob, 1, none⟩ = some (.int .i64 os_))
    have c2 := (cell_of_block h' : w'.cell? ⟨ob, 2, none⟩ = some (.string od))
    clear h'
    go_simp
  simp only [Act.put]
  refine wpAnyH_take (i := 2) (oi := ⟨some 2, Op.assign (Operand.tmp 55), _, _, _, none⟩) (v := (.int .i64 k)) rfl (by kernel_rfl) (by kernel_rfl) (by kernel_rfl) (fun _ _ _ h => h) (Or.inl ⟨by rfl, fun w' h' => ?_⟩) hS ?_
  · clear h'
    go_simp
  simp only [Act.put]
  have rb := (d.block _).trans RB6.out
  have f0 := frozen_of_block (i := 0) rb
  have f1 := frozen_of_block (i := 1) rb
  have f2 := frozen_of_block (i := 2) rb
  have d0 : V.cell? ⟨w.heap.size, 0, none⟩ = some (.int .i64 0) := cell_of_block rb
  have d1 : V.cell? ⟨w.heap.size, 1, none⟩ = some (.int .i64 0) := cell_of_block rb
  have d2 : V.cell? ⟨w.heap.size, 2, none⟩ = some (.string ⟨#[]⟩) := cell_of_block rb
  have RB7 := Lib.hid rb
  have jE : (((V.setCell ⟨w.heap.size, 0, none⟩ (.int .i64 ok)).setCell ⟨w.heap.size, 1, none⟩ (.int .i64 os_)).setCell ⟨w.heap.size, 2, none⟩ (.string od)).heap[ob]? = some (.cells #[.int .i64 ok, .int .i64 os_, .string od] 39 (0, 0)) := by
    rw [Below.heap_setCell _ _ _ _ hobn, Below.heap_setCell _ _ _ _ hobn, Below.heap_setCell _ _ _ _ hobn]
    exact hS
  clear rb
  refine wpAnyH_ready (rs := [3]) (by kernel_rfl) (by simp) ?_
  refine AllReadyH.cons rfl (fun K hK => ?_) AllReadyH.nil
  go_simp
  refine hK.out _ _ jE (fun _ => ?_)
  clear hK K
  refine wpAnyH_take (i := 4) (oi := ⟨some 4, Op.assign (Operand.const (Value.int IntKind.i64 0)), _, _, _, none⟩) (v := (.int .i64 0)) rfl (by kernel_rfl) (by kernel_rfl) (by kernel_rfl) (fun _ _ _ h => h) (Or.inl ⟨by rfl, fun w' h' => ?_⟩) jE ?_
  · clear h'
    go_simp
  simp only [Act.put]
  refine wpAnyH_done (by kernel_rfl) (NoPanic.normal ?_) _
  have S8 := Lib.hid (S7.out.setThree (b := w.heap.size) (.int .i64 ok) (.int .i64 os_) (.string od) (by omega))
  have T8 := Lib.hid (T7.setThree (.int .i64 ok) (.int .i64 os_) (.string od))
  clear d0 d1 d2 f0 f1 f2 jE d hS hrun T7
  go_wp2_with fail
  have b9 := three_block RB7.out (.int .i64 ok) (.int .i64 os_) (.string od)
  have q0 : ((((V.setCell ⟨w.heap.size, 0, none⟩ (.int .i64 ok)).setCell ⟨w.heap.size, 1, none⟩ (.int .i64 os_)).setCell ⟨w.heap.size, 2, none⟩ (.string od))).cell? ⟨w.heap.size, 0, none⟩ = some (.int .i64 ok) := cell_of_block b9
  have q1 : ((((V.setCell ⟨w.heap.size, 0, none⟩ (.int .i64 ok)).setCell ⟨w.heap.size, 1, none⟩ (.int .i64 os_)).setCell ⟨w.heap.size, 2, none⟩ (.string od))).cell? ⟨w.heap.size, 1, none⟩ = some (.int .i64 os_) := cell_of_block b9
  have q2 : ((((V.setCell ⟨w.heap.size, 0, none⟩ (.int .i64 ok)).setCell ⟨w.heap.size, 1, none⟩ (.int .i64 os_)).setCell ⟨w.heap.size, 2, none⟩ (.string od))).cell? ⟨w.heap.size, 2, none⟩ = some (.string od) := cell_of_block b9
  exact bodyPost_ret (v := .tuple #[.int .i64 k, .agg #[.int .i64 ok, .int .i64 os_, .string od], .int .i64 0]) (by simp [results, Tryz.results10, go_sem, q0, q1, q2]) rfl ⟨rfl, jt, HJT.out, S8.out, T8.out⟩)

end Go.Proofs.YtdchlnffbiooaaaGreatDoor

namespace Go.Proofs.YtdchlnffbiooaaaGreatDoor
open Go.RowKit Go.Sort
set_option linter.unusedVariables false

theorem follow_len (lm : List UInt8) (base : Int) (n : Nat) : ∀ (f : Nat) (i : Int) (acc l : List Bf), followF lm base n f i acc = some l → acc.length < l.length
  | 0, _, _, _, h => by cases h
  | f + 1, i, acc, l, h => by
    rw [followF_succ] at h
    split at h
    · split at h
      · split at h
        · split at h
          · injection h with h; subst h; simp
          · cases h
        · have := follow_len lm base n f _ _ l h
          simp at this
          omega
      · cases h
    · cases h
/-- What Next comes to, where there is no order. -/
def RNextNo (w : World) (r g h p u : Nat) (lm : List UInt8) (base told : Int) (ts : List (Int × Tkn)) (e : Ending) (w' : World) : Prop :=
  ∃ (v : Value) (taken' : Int), e = .returned v ∧ RS w' r g h p u lm base taken' told ts ∧ Turned (RB h p u) w w'
set_option maxRecDepth 100000 in
set_option maxHeartbeats 4000000 in
theorem RNext_bad (w : World) (r g h p u : Nat) (lm : List UInt8) (base taken told : Int) (ts : List (Int × Tkn)) (hS : Shapes w) (hp0 : p ≠ 0) (s : RS w r g h p u lm base taken told ts)
    (hb : Hid (∀ l, offI lm base 32 ≠ taken → (offI lm base 32 - taken) % 65536 ≤ 32 → followF lm base 32 32 (offHead lm base 32 taken) [] = some l → askL lm l = none ∨ l = [])) :
    Calls Tryz.prog 10 #[.pointer (some ⟨r, 0, none⟩)] w (RNextNo w r g h p u lm base told ts) := by
  have ka := World.grownBy_alloc w (.cells #[.int .i64 0, .int .i64 0, .string ⟨#[]⟩] 39) none
  have hrb := heap_alloc_new w (.cells #[.int .i64 0, .int .i64 0, .string ⟨#[]⟩] 39)
  have S1 := Lib.hid (s.grown ka)
  have SH := Lib.hid (hS.grown ka)
  obtain ⟨lr, lg, lh, lp, lu⟩ := s.lts
  have LT := Lib.hid (show r ≠ w.heap.size ∧ g ≠ w.heap.size ∧ h ≠ w.heap.size ∧ p ≠ w.heap.size ∧ u ≠ w.heap.size from ⟨by omega, by omega, by omega, by omega, by omega⟩)
  have HZ : Hid (p ≠ 0) := Lib.hid hp0
  have RB1 := Lib.hid hrb
  have KA := Lib.hid ka
  clear hS s hrb ka lr lg lh lp lu hp0
  go_enter Tryz.func10, Tryz.ntmps10
  go_upto_region 1 with fail
  generalize w.alloc _ = W1 at S1 SH RB1 KA ⊢
  have c3 := S1.out.ra.c3
  have c1 := S1.out.ra.c1
  go_wp2_with (go_at_call 28; refine (rnone_no _ _ c3).mono ?_; rintro e w' ⟨rfl, rfl⟩)
  refine (vNext_any W1 p g h lm base 32 taken told S1.out.ps).mono ?_
  rintro e w2 hpost
  have fin : ∀ (W : World) (E tk : Int), W.heap[w.heap.size]? = some (.cells #[.int .i64 0, .int .i64 0, .string ⟨#[]⟩] 39 (0, 0)) → RS W r g h p u lm base tk told ts → Turned (RB h p u) w W →
      Hid (RNextNo w r g h p u lm base told ts (.returned (.tuple #[.int .i64 0, .agg #[.int .i64 0, .int .i64 0, .string ⟨#[]⟩], .int .i64 E])) (((W.setCell ⟨w.heap.size, 0, none⟩ (.int .i64 0)).setCell ⟨w.heap.size, 1, none⟩ (.int .i64 0)).setCell ⟨w.heap.size, 2, none⟩ (.string ⟨#[]⟩))) :=
    fun W E tk hb hr ht => ⟨_, tk, rfl, hr.setThree _ _ _ ⟨fun e => LT.out.1 e.symm, fun e => LT.out.2.1 e.symm, fun e => LT.out.2.2.1 e.symm, fun e => LT.out.2.2.2.1 e.symm, fun e => LT.out.2.2.2.2 e.symm⟩, ht.setThree _ _ _⟩
  have FIN := Lib.hid fin
  clear fin
  rcases hpost with ⟨_, rfl, k2⟩ | ⟨_, _, rfl, k2⟩ | ⟨l, v, q1, q2, q3, rfl, bv, ps2, k2⟩
  · have hb2 := (k2.block _ (lt_of_block RB1.out) (by simp)).trans RB1.out
    have FF := FIN.out w2 4 taken hb2 (S1.out.grown k2) ((Turned.of KA.out (fun j e => by cases e)).step k2 (fun j e => by cases e))
    have f0 := frozen_of_block (i := 0) hb2
    have f1 := frozen_of_block (i := 1) hb2
    have f2 := frozen_of_block (i := 2) hb2
    have d0 : w2.cell? ⟨w.heap.size, 0, none⟩ = some (.int .i64 0) := cell_of_block hb2
    have d1 : w2.cell? ⟨w.heap.size, 1, none⟩ = some (.int .i64 0) := cell_of_block hb2
    have d2 : w2.cell? ⟨w.heap.size, 2, none⟩ = some (.string ⟨#[]⟩) := cell_of_block hb2
    have RB2 := Lib.hid hb2
    have K2 := Lib.hid (KA.out.trans k2)
    clear c1 c3 k2 hb2 S1 SH RB1 KA FIN
    go_wp2_with fail
    exact ord_out RB2.out K2.out ⟨0, 0, ⟨#[]⟩⟩ (fun q0 q1 q2 => bodyPost_ret (v := .tuple #[.int .i64 0, .agg #[.int .i64 0, .int .i64 0, .string ⟨#[]⟩], .int .i64 4]) (by simp [results, Tryz.results10, go_sem, q0, q1, q2]) rfl FF.out)
  · have hb2 := (k2.block _ (lt_of_block RB1.out) (by simp)).trans RB1.out
    have FF := FIN.out w2 8 taken hb2 (S1.out.grown k2) ((Turned.of KA.out (fun j e => by cases e)).step k2 (fun j e => by cases e))
    have f0 := frozen_of_block (i := 0) hb2
    have f1 := frozen_of_block (i := 1) hb2
    have f2 := frozen_of_block (i := 2) hb2
    have d0 : w2.cell? ⟨w.heap.size, 0, none⟩ = some (.int .i64 0) := cell_of_block hb2
    have d1 : w2.cell? ⟨w.heap.size, 1, none⟩ = some (.int .i64 0) := cell_of_block hb2
    have d2 : w2.cell? ⟨w.heap.size, 2, none⟩ = some (.string ⟨#[]⟩) := cell_of_block hb2
    have RB2 := Lib.hid hb2
    have K2 := Lib.hid (KA.out.trans k2)
    clear c1 c3 k2 hb2 S1 SH RB1 KA FIN
    go_wp2_with fail
    exact ord_out RB2.out K2.out ⟨0, 0, ⟨#[]⟩⟩ (fun q0 q1 q2 => bodyPost_ret (v := .tuple #[.int .i64 0, .agg #[.int .i64 0, .int .i64 0, .string ⟨#[]⟩], .int .i64 8]) (by simp [results, Tryz.results10, go_sem, q0, q1, q2]) rfl FF.out)
  · have hlN : 0 < l.length := follow_len _ _ _ _ _ _ _ q3
    have hask : askL lm l = none := by
      rcases hb.out l q1 q2 q3 with h | h
      · exact h
      · rw [h] at hlN; simp at hlN
    have hbd := follow_bd q3 S1.out.ps.len
    obtain ⟨n1, n2, n3, n4, n5, n6, n7⟩ := S1.out.ne
    have s2 : RS w2 r g h p u lm base ((taken + 1) % 65536) told ts :=
      ⟨S1.out.ra.kept (k2.block _ S1.out.lts.1 (fun e => n3 (by injection e))), ps2, S1.out.tab.kept (k2.block _ S1.out.tab.lt (fun e => n7 (by injection e)))⟩
    have S2 := Lib.hid s2
    have SH2 := Lib.hid (SH.out.kept (k2.block 0 SH.out.pos (fun e => HZ.out (by injection e with e; exact e.symm))))
    have RB2 : Hid (w2.heap[w.heap.size]? = some (.cells #[.int .i64 0, .int .i64 0, .string ⟨#[]⟩] 39 (0, 0))) := Lib.hid ((k2.block _ (lt_of_block RB1.out) (fun e => LT.out.2.2.2.1 (by injection e with e; exact e.symm))).trans RB1.out)
    have T2 : Hid (Turned (RB h p u) w w2) := Lib.hid ((Turned.of KA.out (fun j e => by cases e)).step k2 (fun j e => .inl (.inr (.inl (by injection e with e; exact e.symm)))))
    have BV := Lib.hid bv
    have HBD := Lib.hid hbd
    have HASK := Lib.hid hask
    generalize offHead lm base 32 taken = k
    clear c1 c3 k2 ps2 bv s2 S1 SH RB1 KA n1 n2 n3 n4 n5 n6 n7 q1 q2 q3 hbd hask
    obtain ⟨pp, cap, rfl, hle⟩ := BV.out.form
    go_wp2_with fail
    refine (order_any w2 r g p u h lm SH2.out S2.out.ra S2.out.ps.mem S2.out.ps.len _ l BV.out hlN (fun x hx => by have := HBD.out x hx; omega)).mono ?_
    rintro e w3 hpost
    obtain ⟨⟨ok, os_, od⟩, rfl, k3⟩ : ∃ o : Ord, e = .returned (.tuple #[o.val, .bool false]) ∧ w2.grownBy w3 none := by
      rcases hpost with ⟨o, e4, _⟩ | ⟨_, h⟩
      · rw [HASK.out] at e4; cases e4
      · exact h
    unfold Ord.val
    simp only
    have K3 := Lib.hid (k3.trans (World.grownBy_alloc w3 (.cells #[.int .i64 ok, .int .i64 os_, .string od] 39) none))
    clear k3
    go_upto_region 7 with fail
    generalize w3.alloc _ = W3 at K3 ⊢
    have hb3 := (K3.out.block _ (lt_of_block RB2.out) (by simp)).trans RB2.out
    have FF := FIN.out W3 8 _ hb3 (S2.out.grown K3.out) (T2.out.step K3.out (fun j e => by cases e))
    have f0 := frozen_of_block (i := 0) hb3
    have f1 := frozen_of_block (i := 1) hb3
    have f2 := frozen_of_block (i := 2) hb3
    have d0 : W3.cell? ⟨w.heap.size, 0, none⟩ = some (.int .i64 0) := cell_of_block hb3
    have d1 : W3.cell? ⟨w.heap.size, 1, none⟩ = some (.int .i64 0) := cell_of_block hb3
    have d2 : W3.cell? ⟨w.heap.size, 2, none⟩ = some (.string ⟨#[]⟩) := cell_of_block hb3
    have RB3 := Lib.hid hb3
    clear hb3 S2 SH2 RB2 T2 BV K3 FIN
    go_wp2_with fail
    exact ord_out RB3.out (World.grownBy.refl _ none) ⟨0, 0, ⟨#[]⟩⟩ (fun q0 q1 q2 => bodyPost_ret (v := .tuple #[.int .i64 0, .agg #[.int .i64 0, .int .i64 0, .string ⟨#[]⟩], .int .i64 8]) (by simp [results, Tryz.results10, go_sem, q0, q1, q2]) rfl FF.out)
end Go.Proofs.YtdchlnffbiooaaaGreatDoor

namespace Go.Proofs.YtdchlnffbiooaaaGreatDoor
open Go.RowKit Go.Sort
set_option linter.unusedVariables false

set_option maxRecDepth 100000 in
set_option maxHeartbeats 1000000 in
theorem RDone_bad (w : World) (r g h p u : Nat) (lm : List UInt8) (base taken told : Int) (ts : List (Int × Tkn)) (s : RS w r g h p u lm base taken told ts) (k : Int) (x : Tkn) (hx : (k, x) ∈ ts) (ok : Bool) (d : ByteArray) (hm : mayAns x ok d = false) :
    Calls Tryz.prog 11 #[.pointer (some ⟨r, 0, none⟩), .int .i64 k, .bool ok, .string d] w fun e w' => e = .returned (.int .i64 1) ∧ w.grownBy w' none := by
  have c3 := s.ra.c3
  have c2 := s.ra.c2
  have hrun := s.tab.look_yes (P := Tryz.prog) Tryz.underlying68 Tryz.underlying3 (x := k) (v := x.val) (List.mem_map.2 ⟨(k, x), hx, rfl⟩)
  obtain ⟨xr, xd, xs⟩ := x
  unfold Tkn.val at hrun
  simp only at hrun
  have ka := World.grownBy_alloc w (.cells #[.bool xr, .int .i64 xd, .int .i64 xs] 92) none
  have KA := Lib.hid ka
  have HM := Lib.hid hm
  clear s hx ka hm
  go_enter Tryz.func11, Tryz.ntmps11
  go_wp2_with (first | (go_at_call 28; refine (rnone_no _ _ c3).mono ?_; rintro e w' ⟨rfl, rfl⟩) | (at_lookup; refine wpList_lookup_tab _ rfl _ _ 68 rfl u k (.agg #[.bool xr, .int .i64 xd, .int .i64 xs]) true rfl rfl hrun ?_; clear hrun c2 c3))
  generalize w.alloc _ = W1 at KA ⊢
  have MC := rmayAnswer_any W1 ⟨xr, xd, xs⟩ ok d
  rw [HM.out] at MC
  refine MC.mono ?_
  clear MC
  rintro e w2 ⟨rfl, k2⟩
  have K2 := Lib.hid (KA.out.trans k2)
  clear k2 KA
  go_wp2_with fail
  go_ret
  exact ⟨rfl, K2.out⟩

/-- The heads of what is with the device are numbers of descriptors. -/
def TKeys (ts : List (Int × Tkn)) : Prop := ∀ t ∈ ts, 0 ≤ t.1 ∧ t.1 ≤ 65535
/-- What a call of the device comes to. -/
def DevPost (w : World) (r g h p u : Nat) (lm : List UInt8) (base : Int) (e : Ending) (w' : World) : Prop :=
  ∃ (v : Value) (lm' : List UInt8) (taken' told' : Int) (ts' : List (Int × Tkn)), e = .returned v ∧ RS w' r g h p u lm' base taken' told' ts' ∧ lm'.length = lm.length ∧ TKeys ts' ∧ Turned (RB h p u) w w'
theorem RNext_any (w : World) (r g h p u : Nat) (lm : List UInt8) (base taken told : Int) (ts : List (Int × Tkn)) (hS : Shapes w) (hp0 : p ≠ 0) (s : RS w r g h p u lm base taken told ts) (hk : TKeys ts) :
    Calls Tryz.prog 10 #[.pointer (some ⟨r, 0, none⟩)] w (DevPost w r g h p u lm base) := by
  by_cases hb : ∃ l o, offI lm base 32 ≠ taken ∧ (offI lm base 32 - taken) % 65536 ≤ 32 ∧ followF lm base 32 32 (offHead lm base 32 taken) [] = some l ∧ askL lm l = some o
  · obtain ⟨l, o, q1, q2, q3, q4⟩ := hb
    have hbd := offHead_bd lm base 32 taken
    by_cases hm : ∃ x0, (offHead lm base 32 taken, x0) ∈ ts
    · obtain ⟨x0, hx0⟩ := hm
      refine (RNext_again w r g h p u lm base taken told ts hS hp0 s _ l o q1 q2 (Lib.hid rfl) (Lib.hid q3) (Lib.hid q4) x0 hx0).mono ?_
      rintro e w' ⟨rfl, j, hj, s', t'⟩
      refine ⟨_, lm, _, _, _, rfl, s', rfl, ?_, t'⟩
      intro t ht
      rcases List.mem_or_eq_of_mem_set ht with ht | rfl
      · exact hk t ht
      · exact hbd
    · refine (RNext_ok w r g h p u lm base taken told ts hS hp0 s _ l o q1 q2 (Lib.hid rfl) (Lib.hid q3) (Lib.hid q4) (fun t ht e => hm ⟨t.2, by rw [← e]; exact ht⟩)).mono ?_
      rintro e w' ⟨rfl, s', t'⟩
      refine ⟨_, lm, _, _, _, rfl, s', rfl, ?_, t'⟩
      intro t ht
      rcases List.mem_append.1 ht with ht | ht
      · exact hk t ht
      · rw [List.mem_singleton] at ht; subst ht; exact hbd
  · refine (RNext_bad w r g h p u lm base taken told ts hS hp0 s (Lib.hid fun l q1 q2 q3 => ?_)).mono ?_
    · cases hq : askL lm l with
      | none => exact .inl rfl
      | some o => exact absurd ⟨l, o, q1, q2, q3, hq⟩ hb
    · rintro e w' ⟨v, taken', rfl, s', t'⟩
      exact ⟨v, lm, taken', told, ts, rfl, s', rfl, hk, t'⟩
theorem RDone_any (w : World) (r g h p u : Nat) (lm : List UInt8) (base taken told : Int) (ts : List (Int × Tkn)) (s : RS w r g h p u lm base taken told ts) (hk : TKeys ts) (k : Int) (hw : (Lit.int .i64 k).wf = true) (ok : Bool) (d : ByteArray) :
    Calls Tryz.prog 11 #[.pointer (some ⟨r, 0, none⟩), .int .i64 k, .bool ok, .string d] w (DevPost w r g h p u lm base) := by
  by_cases hm : ∃ x, (k, x) ∈ ts
  · obtain ⟨x, hx⟩ := hm
    have hb := hk _ hx
    cases hy : mayAns x ok d with
    | true =>
      refine (RDone_ok w r g h p u lm base taken told ts s k hb.1 hb.2 x hx ok d hy).mono ?_
      rintro e w' ⟨rfl, s', t'⟩
      exact ⟨_, _, _, _, _, rfl, s', answerL_length _ _ _ _ _ _ _, fun t ht => hk t (List.mem_filter.1 ht).1, t'⟩
    | false =>
      refine (RDone_bad w r g h p u lm base taken told ts s k x hx ok d hy).mono ?_
      rintro e w' ⟨rfl, k'⟩
      exact ⟨_, lm, _, _, _, rfl, s.grown k', rfl, hk, Turned.of k' (fun j e => by cases e)⟩
  · refine (RDone_absent w r g h p u lm base taken told ts s k hw (fun t ht e => hm ⟨t.2, by rw [← e]; exact ht⟩) ok d).mono ?_
    rintro e w' ⟨rfl, k'⟩
    exact ⟨_, lm, _, _, _, rfl, s.grown k', rfl, hk, Turned.of k' (fun j e => by cases e)⟩
end Go.Proofs.YtdchlnffbiooaaaGreatDoor

namespace Go.Proofs.YtdchlnffbiooaaaGreatDoor
open Go.RowKit Go.Sort
set_option linter.unusedVariables false

theorem perm_strike {α : Type} {f : α → Int} : ∀ {os : List α} {y : α}, (os.map f).Nodup → y ∈ os → os.Perm (y :: os.filter fun z => f z != f y)
  | [], y, _, h => by cases h
  | z :: os, y, hn, h => by
    rw [List.map_cons, List.nodup_cons] at hn
    rcases List.mem_cons.1 h with rfl | h
    · rw [List.filter_cons_of_neg (by simp)]
      have e : os.filter (fun z => f z != f y) = os := List.filter_eq_self.2 (fun t ht => by
        have : f t ≠ f y := fun e => hn.1 (List.mem_map.2 ⟨t, ht, e⟩)
        simpa using this)
      rw [e]
    · have hne : f z ≠ f y := fun e => hn.1 (List.mem_map.2 ⟨y, h, e.symm⟩)
      rw [List.filter_cons_of_pos (by simpa using hne)]
      exact ((perm_strike hn.2 h).cons z).trans (List.Perm.swap _ _ _)
theorem told_perm {lm : List UInt8} {base : Int} {os os' : List Snt} {cs cs' : List Oc} {back back' : Int} {l : List Dn} {d : Bool} (h : Told lm base os cs back l os' cs' back' d) :
    (os.map Snt.hd).Nodup → (l.map Dn.id ++ os'.map Snt.id).Perm (os.map Snt.id) ∧ (os'.map Snt.hd).Nodup ∧ (∀ x ∈ l, x.ok = false → x.data = ⟨#[]⟩) ∧ (∀ y ∈ os', y ∈ os) := by
  induction h with
  | stop os cs back h => exact fun hn => ⟨List.Perm.refl _, hn, (fun x hx => by cases hx), fun y hy => hy⟩
  | brk os cs back h hb => exact fun hn => ⟨List.Perm.refl _, hn, (fun x hx => by cases hx), fun y hy => hy⟩
  | step os cs back x hx y hy h hc hk hyk hl l os' cs' back' d r ih =>
    intro hn
    rw [← hyk] at ih
    have hn2 : ((os.filter fun z => z.hd != y.hd).map Snt.hd).Nodup := hn.sublist (List.filter_sublist.map _)
    obtain ⟨i1, i2, i3, i4⟩ := ih hn2
    have hp := perm_strike (f := Snt.hd) hn hy
    refine ⟨?_, i2, ?_, fun z hz => (List.mem_filter.1 (i4 z hz)).1⟩
    · rw [List.map_cons, List.cons_append]
      have e : (ansF lm base y (usedLen lm base 32 back)).id = y.id := by unfold ansF; split <;> first | rfl | (split <;> rfl)
      rw [e]
      exact (i1.cons y.id).trans (hp.map Snt.id).symm
    · intro z hz hok
      rcases List.mem_cons.1 hz with rfl | hz
      · revert hok
        unfold ansF
        split <;> simp
      · exact i3 z hz hok
theorem told_len {lm : List UInt8} {base : Int} {os os' : List Snt} {cs cs' : List Oc} {back back' : Int} {l : List Dn} {d : Bool} (h : Told lm base os cs back l os' cs' back' d) (hn : (os.map Snt.hd).Nodup) : l.length + os'.length = os.length := by
  have := (told_perm h hn).1.length_eq
  simpa using this
end Go.Proofs.YtdchlnffbiooaaaGreatDoor

namespace Go.Proofs.YtdchlnffbiooaaaGreatDoor
open Go.RowKit Go.Sort Go.Shelf
set_option linter.unusedVariables false

set_option maxHeartbeats 400000 in
theorem Submit_d (w : World) (b g : Nat) (base sectors limit : Int) (q u : Nat) (last now : Int) (hK : KAt w b g base sectors limit q u last now true) (o : Ord) :
    Calls Tryz.prog 9 #[.pointer (some ⟨b, 0, none⟩), o.val] w fun e w' => e = .returned (.tuple #[.int .i64 0, .int .i64 14]) ∧ w.grownBy w' none := by
  obtain ⟨ok, os_, od⟩ := o
  unfold Ord.val
  have ka := World.grownBy_alloc w (.cells #[.int .i64 ok, .int .i64 os_, .string od] 39) none
  have s1 := hK.kept (ka.block _ (lt_of_block hK) (by simp))
  have h8 := s1.c8
  have h9 := s1.c9
  clear hK s1
  simp only
  go_enter Tryz.func9, Tryz.ntmps9
  go_wp2_with (go_at_call 20; refine (knone_no _ _ h9).mono ?_; rintro e w' ⟨rfl, rfl⟩)
  go_ret2
  exact ⟨rfl, ka⟩

/-- 'append' of a whole row, be it none. -/
theorem wpList_append_row {P : Program} {ops : Array Oper} {rest : List Oper} {o : Oper} {a : Act} {w : World} {Q : Exit → Act → World → Prop} {α : Type} {k : Nat} {enc : α → List Value} {TE : TypeId}
    (hk : ∀ x, (enc x).length = k) (h1e : ∀ x, ∀ u ∈ enc x, u.oneCell' = true) (hk0 : 0 < k) (hg : o.guard = none) (s x : Operand) (t : TypeId) (hop : o.op = Op.call { callee := Callee.builtin Builtin.append, args := #[s, x], argTypes := #[t, t] })
    (i : TypeInfo) (z : Value) (bytes : Nat) (ht : P.underlying t = some (.slice TE)) (hi : P.info? TE = some i) (hz : i.zero = some z) (hsize : i.size = k) (hby : i.bytes = bytes) (hb2 : bytes ≤ 100) (hzs : z.cells.size = k)
    (v : Value) (l : List α) (hs : a.eval s = v) (hown : RowA k enc TE w v l) (v2 : Value) (ys : List α) (hx : a.eval x = v2) (hown2 : RowA k enc TE w v2 ys) (hl : l.length + ys.length ≤ 100000000)
    (hK : ∀ v' w', RowA k enc TE w' v' (l ++ ys) → w.grownBy w' v.ownBlock → (v'.ownBlock = v.ownBlock ∨ v'.ownBlock = some w.heap.size) → wpList P ops Q rest (a.put o.dst v') w') : wpList P ops Q (o :: rest) a w := by
  rcases hown2.2 with ⟨rfl, h0⟩ | ⟨gb, cap, cur, rfl, _⟩
  · obtain rfl : ys = [] := List.length_eq_zero_iff.1 h0
    refine wpList_plain hg fun K hKK => ?_
    obtain ⟨p, c, hv, hle⟩ : ∃ p c, v = .slice p l.length c ∧ l.length ≤ c := by
      rcases hown.2 with ⟨rfl, h0⟩ | ⟨b, cap, cur, rfl, _, _, h3, _⟩
      · exact ⟨none, 0, by rw [h0], by omega⟩
      · exact ⟨_, _, rfl, h3⟩
    subst hv
    have hr := run_append_nothing (P := P) w t t o.type TE i ht hi p l.length c hle (.slice none 0 0) (Src.ofNil w ht 0)
    unfold Oper.wp
    simp only [execOp, hop, resolve, invoke, builtin, Sem.run_bind, Sem.run_pure, Result.andThen_ok, List.map_toArray, List.map_cons, List.map_nil, hs, hx, hr]
    exact hKK _ _ (hK _ _ (by rw [List.append_nil]; exact hown) (World.grownBy.refl _ _) (.inl rfl))
  · exact wpList_append_many hk h1e hk0 hg s x t hop i z bytes ht hi hz hsize hby hb2 hzs v l hs hown ys hl ⟨gb, 0, none⟩ ys.length cap rfl hx (fun j u hu => hown2.cells (g := gb) rfl j u hu) hK
/-- What told has told, and what Poll tells then. -/
def PollG (w : World) (b g h q u mb : Nat) (base sectors limit last now : Int) (Φ : World → List Dn → List Snt → Bool → Prop) (e : Ending) (w' : World) : Prop :=
  ∃ (v : Value) (l1 : List Dn) (os1 : List Snt) (l2 : List Dn) (d : Bool) (w1 : World), e = .returned v ∧ OwnDns w.heap.size w' v (l1 ++ l2) ∧ Φ w1 l1 os1 d ∧ Turned (KB b q h mb u) w w1 ∧ (d = false → l2 = [] ∧ w' = w1) ∧
    (d = true → l2.Perm (os1.map fun x => ⟨x.id, false, ⟨#[]⟩⟩) ∧ KAt w' b g base sectors limit q u last now true ∧ IsTab w' u [] ∧ (∀ k, k < w.heap.size → k ≠ u → w'.heap[k]? = w1.heap[k]?) ∧ Turned (KB b q h mb u) w w')
set_option maxRecDepth 100000 in
set_option maxHeartbeats 2000000 in
theorem Poll_gen (w : World) (b g h q u mb : Nat) (base sectors limit last now : Int) (Φ : World → List Dn → List Snt → Bool → Prop) (c9 : w.cell? ⟨b, 9, none⟩ = some (.pointer (some ⟨b, 0, none⟩))) (hu : u ≠ b) (hlu : u < w.heap.size) (hlb : b < w.heap.size)
    (TC : Calls Tryz.prog 34 #[.pointer (some ⟨b, 0, none⟩)] w fun e w1 => ∃ (v : Value) (l1 : List Dn) (os1 : List Snt) (d : Bool), e = .returned v ∧ OwnDns w.heap.size w1 v l1 ∧ KAt w1 b g base sectors limit q u last now d ∧ IsTab w1 u (os1.map Snt.ent) ∧ os1.length ≤ 8 ∧ l1.length ≤ 8 ∧ Φ w1 l1 os1 d ∧ Turned (KB b q h mb u) w w1) :
    Calls Tryz.prog 12 #[.pointer (some ⟨b, 0, none⟩)] w (PollG w b g h q u mb base sectors limit last now Φ) := by
  have HTC := Lib.hid TC
  clear TC
  go_enter Tryz.func12, Tryz.ntmps12
  go_wp2_with (go_at_call 20; refine (knone_no _ _ c9).mono ?_; rintro e w' ⟨rfl, rfl⟩)
  refine HTC.out.mono ?_
  rintro e w1 ⟨v, l1, os1, d, rfl, o1, hK, hT, h8, h9, hΦ, t1⟩
  have c8 := hK.c8
  cases d with
  | false =>
    have F : Hid (PollG w b g h q u mb base sectors limit last now Φ (.returned v) w1) := Lib.hid ⟨v, l1, os1, [], false, w1, rfl, by rw [List.append_nil]; exact o1, hΦ, t1, fun _ => ⟨rfl, rfl⟩, fun e => by cases e⟩
    clear o1 hK hT hΦ t1
    go_wp2_with fail
    go_ret
    exact F.out
  | true =>
    have LC := Lib.hid (lost_any w1 b g base sectors limit q u last now os1 hK hT hu h8)
    have O1 := Lib.hid o1
    have HΦ := Lib.hid hΦ
    have T1 := Lib.hid t1
    clear o1 hK hT hΦ t1 c9
    go_wp2_with fail
    refine LC.out.mono ?_
    rintro e w2 ⟨v2, l2, rfl, o2, hp, hpw, k2, t2, T2⟩
    have hlen : l2.length ≤ 8 := by rw [hp.length_eq, List.length_map]; exact h8
    have r1 : OwnDns w.heap.size w2 v l1 := O1.out.turned T2 (fun k hk => by rw [hk]; exact hlu)
    have R1 := Lib.hid r1.rowA
    have R2 := Lib.hid o2.rowA
    obtain ⟨ii, zz, y1, y2, y3, y4, y5⟩ := info_dn
    have HL8 := Lib.hid hlen
    have HQ := Lib.hid (And.intro hp (And.intro k2 (And.intro t2 T2)))
    have HR1 := Lib.hid r1
    have hown2 : ∀ k, v2.ownBlock = some k → w1.heap.size ≤ k := fun k hk => own_ge o2.1 _ hk
    have HO2 := Lib.hid hown2
    clear o2 hp hpw k2 t2 T2 hlen r1 LC c8 hown2
    obtain ⟨p1, c1, hv1⟩ := RowA.shape R1.out
    obtain ⟨p2, c2, hv2⟩ := RowA.shape R2.out
    have HV1 := Lib.hid hv1
    have HV2 := Lib.hid hv2
    clear hv1 hv2
    go_wp2_with (refine wpList_append_row dn_len dn_one (by decide) rfl _ _ 48 rfl ii zz 32 Tryz.underlying48 y1 y2 y3 y4 (by decide) y5 v l1 (by first | rfl | kernel_rfl) R1.out v2 l2 (by first | rfl | kernel_rfl) R2.out (by have := HL8.out; omega) ?_; intro v3 w3 r3 g3 b3)
    go_ret
    obtain ⟨hp, k2, t2, T2⟩ := HQ.out
    have hw1 : w.heap.size ≤ w1.heap.size := T1.out.size
    have hw2 : w1.heap.size ≤ w2.heap.size := T2.size
    have hno : ∀ k, k < w.heap.size → some k ≠ v.ownBlock := fun k hk e => by have := own_ge HR1.out.1 _ e.symm; omega
    refine ⟨v3, l1, os1, l2, true, w1, rfl, ⟨?_, by have := HL8.out; rw [List.length_append]; omega⟩, HΦ.out, T1.out, (fun e => by cases e), fun _ => ⟨hp, k2.kept (g3.block b (by omega) (hno b hlb)), t2.kept (g3.block u (by omega) (hno u hlu)), ?_, ?_⟩⟩
    · refine ⟨r3.1, ?_⟩
      rcases r3.2 with h9 | ⟨g9, cap9, cur9, e9, _, r9⟩
      · exact .inl h9
      · refine .inr ⟨g9, cap9, cur9, e9, ?_, r9⟩
        rcases b3 with e | e
        · rw [e9] at e
          exact own_ge HR1.out.1 _ e.symm
        · rw [e9] at e
          injection e with e
          have e' : g9 = w2.heap.size := e
          omega
    · intro k hk hku
      exact (g3.block k (by omega) (hno k hk)).trans (T2.block k (by omega) hku)
    · refine (T1.out.trans (T2.mono (fun j _ hj => .inr (.inr (.inr (.inr hj)))))).step g3 (fun j e => .inr (own_ge HR1.out.1 _ e))
/-- A dead driver's Poll. -/
theorem Poll_d (w : World) (b g h q u mb : Nat) (base sectors limit : Int) (last now : Int) (os : List Snt) (hK : KAt w b g base sectors limit q u last now true) (hT : IsTab w u (os.map Snt.ent)) (h8 : os.length ≤ 8) (hu : u ≠ b) :
    Calls Tryz.prog 12 #[.pointer (some ⟨b, 0, none⟩)] w (PollG w b g h q u mb base sectors limit last now fun w1 l1 os1 d => l1 = [] ∧ os1 = os ∧ d = true ∧ w1 = w.alloc (.cells #[] 51)) := by
  have ka := World.grownBy_alloc w (.cells #[] 51) none
  refine Poll_gen w b g h q u mb base sectors limit last now _ hK.c9 hu hT.lt (lt_of_block hK) ((told_dead w b g base sectors limit q u last now hK).mono fun e w1 ⟨h1, h2⟩ => ?_)
  subst h2
  exact ⟨_, [], os, true, h1, OwnDns.zero w (Nat.le_refl _), hK.kept (ka.block _ (lt_of_block hK) (by simp)), hT.kept (ka.block _ hT.lt (by simp)), h8, by simp, ⟨rfl, rfl, rfl, rfl⟩, Turned.of ka (fun j e => by cases e)⟩
theorem os_nodup {w : World} {b g h q u mb : Nat} {lm : List UInt8} {base sectors limit : Int} {os : List Snt} {cs : List Oc} {off back : Int} {broken : Bool} {last now : Int} {dead : Bool} (s : KS w b g h q u mb lm base sectors limit os cs off back broken last now dead) : (os.map Snt.hd).Nodup := by
  obtain ⟨es, clock, h1, h2⟩ := s.tab
  have h := h2.keys
  rw [List.map_map] at h
  exact h
/-- A living driver's Poll, whatever the memory. -/
theorem Poll_l (w : World) (b g h q u mb : Nat) (lm : List UInt8) (base sectors limit : Int) (os : List Snt) (cs : List Oc) (off back last now : Int) (s : KS w b g h q u mb lm base sectors limit os cs off back false last now false) :
    Calls Tryz.prog 12 #[.pointer (some ⟨b, 0, none⟩)] w (PollG w b g h q u mb base sectors limit last now fun w1 l1 os1 d => ∃ cs1 back1, Told lm base os cs back l1 os1 cs1 back1 d ∧ KS w1 b g h q u mb lm base sectors limit os1 cs1 off back1 d last now d) := by
  refine Poll_gen w b g h q u mb base sectors limit last now _ s.kat.c9 s.ub.1 s.tab.lt (lt_of_block s.kat) ((told_any w b g h q u mb lm base sectors limit os cs off back last now s).mono fun e w1 hp => ?_)
  obtain ⟨v, l, os', cs', back', d, h1, ho, ht, hk, hT⟩ := hp
  exact ⟨v, l, os', d, h1, ho, hk.kat, hk.tab, hk.few, by have := told_len ht (os_nodup s); have := s.few; omega, ⟨cs', back', ht, hk⟩, hT⟩
end Go.Proofs.YtdchlnffbiooaaaGreatDoor

namespace Go.Proofs.YtdchlnffbiooaaaGreatDoor
open Go.RowKit Go.ChangeShapes Go.WideShapes Go.Deep Go.Sort
set_option linter.unusedVariables false

/-- An act: what is done, an order, a byte, two heads, whether, where, in how many bytes, the number. -/
structure Act3 where
  d : Int
  o : Ord
  y : UInt8
  hd : Int
  ow : Int
  k : Bool
  a : Int
  n : Int
  x : Int
def Act3.cells (c : Act3) : List Value := [.int .i64 c.d, .int .i64 c.o.kind, .int .i64 c.o.sec, .string c.o.data, .int .u8 (c.y.toNat : Int), .int .i64 c.hd, .int .i64 c.ow, .bool c.k, .int .i64 c.a, .int .i64 c.n, .int .u64 c.x]
def Act3.val (c : Act3) : Value := .agg #[.int .i64 c.d, .int .i64 c.o.kind, .int .i64 c.o.sec, .string c.o.data, .int .u8 (c.y.toNat : Int), .int .i64 c.hd, .int .i64 c.ow, .bool c.k, .int .i64 c.a, .int .i64 c.n, .int .u64 c.x]
def Act3.fits (c : Act3) : Prop := (Lit.int .i64 c.d).wf = true ∧ c.o.data.size ≤ maxLen ∧ (Lit.int .i64 c.hd).wf = true ∧ (Lit.int .i64 c.a).wf = true ∧ (Lit.int .i64 c.n).wf = true ∧ (Lit.int .u64 c.x).wf = true
def IsActs3 (w : World) (p : Option Addr) (len : Nat) (l : List Act3) : Prop :=
  l.length = len ∧ len ≤ maxLen ∧ (∀ c ∈ l, c.fits) ∧ (0 < len → ∃ b o, p = some ⟨b, o, none⟩ ∧ ∀ (i : Nat) (h : i < l.length), w.rangeAt b (o + i * 11) l[i].cells)
theorem IsActs3.below {w w' : World} {p : Option Addr} {len : Nat} {l : List Act3} (h : IsActs3 w p len l) (t : Below w.heap.size w w') : IsActs3 w' p len l := by
  obtain ⟨h1, h2, h3, h4⟩ := h
  refine ⟨h1, h2, h3, fun hp => ?_⟩
  obtain ⟨b, o, e, hc⟩ := h4 hp
  refine ⟨b, o, e, fun i hi j u hu => ?_⟩
  have hb : b < w.heap.size := World.block_lt_of_cell? w _ (hc i hi 0 _ rfl)
  exact (t.cell (p := ⟨b, o + i * 11 + j, none⟩) hb).trans (hc i hi j u hu)
theorem IsActs3.at_ {w : World} {p : Option Addr} {len : Nat} {l : List Act3} (h : IsActs3 w p len l) (i : Nat) (hi : i < len) :
    ∃ b o c, p = some ⟨b, o, none⟩ ∧ l[i]? = some c ∧ b < w.heap.size ∧ c.fits ∧ w.rangeAt b (o + i * 11) c.cells := by
  obtain ⟨h1, h2, h3, h4⟩ := h
  obtain ⟨b, o, e, hc⟩ := h4 (by omega)
  have hi' : i < l.length := by omega
  exact ⟨b, o, l[i], e, List.getElem?_eq_getElem hi', World.block_lt_of_cell? w _ (hc i hi' 0 _ rfl), h3 _ (List.getElem_mem _), hc i hi'⟩
theorem add_plain3 (b o i : Nat) : (⟨b, o, none⟩ : Addr).add i = ⟨b, o + i, none⟩ := by
  unfold Addr.add
  by_cases hi : i = 0 <;> simp [hi]
theorem u8_of {y : Int} (h : (Lit.int .u8 y).wf = true) : ∃ b : UInt8, y = (b.toNat : Int) := by
  have h2 : 0 ≤ y ∧ y ≤ 255 := by simpa [Lit.wf, IntKind.min, IntKind.max, IntKind.signed, IntKind.bits] using h
  exact ⟨UInt8.ofNat y.toNat, by rw [UInt8.toNat_ofNat']; omega⟩
/-- What Great answers. -/
def greatB (l : List Act3) : Bool := decide (80 < l.length) || (l.take 81).any fun c => decide (300 < c.o.data.size)

theorem greatB_no {l : List Act3} (h : greatB l = false) : l.length ≤ 80 ∧ ∀ c ∈ l, c.o.data.size ≤ 300 := by
  unfold greatB at h
  simp only [Bool.or_eq_false_iff, decide_eq_false_iff_not, List.any_eq_false, decide_eq_true_eq] at h
  refine ⟨by omega, fun c hc => ?_⟩
  have := h.2 c (by rw [List.take_of_length_le (by omega)]; exact hc)
  omega

/-- Up to place k nothing was found. -/
def SmallB (l : List Act3) (k : Nat) : Prop := ∀ c ∈ l.take k, c.o.data.size ≤ 300
theorem SmallB.zero (l : List Act3) : SmallB l 0 := by simp [SmallB]
theorem SmallB.succ {l : List Act3} {k : Nat} {c : Act3} (h : SmallB l k) (hc : l[k]? = some c) (hs : c.o.data.size ≤ 300) : SmallB l (k + 1) := by
  intro d hd
  rw [List.take_add_one, hc] at hd
  simp only [Option.toList_some, List.mem_append, List.mem_singleton] at hd
  rcases hd with hd | rfl
  · exact h d hd
  · exact hs
theorem greatB_hit {l : List Act3} {k : Nat} {c : Act3} (hk : k ≤ 80) (hc : l[k]? = some c) (hs : 300 < c.o.data.size) : greatB l = true := by
  unfold greatB
  simp only [Bool.or_eq_true, decide_eq_true_eq, List.any_eq_true]
  refine Or.inr ⟨c, ?_, hs⟩
  rw [List.mem_take_iff_getElem]
  obtain ⟨hlt, he⟩ := List.getElem?_eq_some_iff.1 hc
  exact ⟨k, by omega, he⟩
theorem greatB_end {l : List Act3} {k : Nat} (h : SmallB l k) (hk : l.length ≤ k ∨ 81 ≤ k) : greatB l = decide (80 < l.length) := by
  unfold greatB
  have h2 : ((l.take 81).any fun c => decide (300 < c.o.data.size)) = false := by
    simp only [List.any_eq_false, decide_eq_true_eq]
    intro c hc
    have h3 : c ∈ l.take k := by
      rcases hk with hk | hk
      · rw [List.take_of_length_le hk]; exact List.mem_of_mem_take hc
      · exact (List.take_subset_take_left l hk) hc
    have := h c h3
    omega
  rw [h2, Bool.or_false]



def ordOf (c : Act3) : Ord := if c.y = 0 then c.o else ⟨c.o.kind, c.o.sec, fullS c.y⟩
end Go.Proofs.YtdchlnffbiooaaaGreatDoor

namespace Go.Proofs.YtdchlnffbiooaaaGreatDoor
open Go.RowKit Go.Sort
set_option linter.unusedVariables false

/-- The blocks. -/
structure OBl where
  b : Nat
  g : Nat
  h : Nat
  q : Nat
  u : Nat
  mb : Nat
  r : Nat
  p : Nat
  v : Nat
  z : Nat
  o : Nat
/-- The driver, living or dead. -/
def DrvAt (w : World) (K : OBl) (many : Int) (lm : List UInt8) (os : List Snt) (last now : Int) (D : Bool) : Prop :=
  (D = false ∧ ∃ cs off back, KS w K.b K.g K.h K.q K.u K.mb lm 0 8 many os cs off back false last now false) ∨ (D = true ∧ KAt w K.b K.g 0 8 many K.q K.u last now true ∧ IsTab w K.u (os.map Snt.ent) ∧ os.length ≤ 8)
structure OX (w0 w : World) (K : OBl) (many : Int) (os : List Snt) (last now : Int) (D : Bool) (ms : List (Int × Value)) : Prop where
  core : ∃ (lm : List UInt8) (taken told : Int) (ts : List (Int × Tkn)), lm.length = 4096 ∧ RS w K.r K.g K.h K.p K.v lm 0 taken told ts ∧ TKeys ts ∧ DrvAt w K many lm os last now D
  lo : w0.heap.size ≤ K.b ∧ w0.heap.size ≤ K.g ∧ w0.heap.size ≤ K.h ∧ w0.heap.size ≤ K.q ∧ w0.heap.size ≤ K.u ∧ w0.heap.size ≤ K.mb
  mid : K.b < K.z ∧ K.g < K.z ∧ K.h < K.z ∧ K.q < K.z ∧ K.u < K.z ∧ K.mb < K.z
  hi : K.z ≤ K.r ∧ K.z ≤ K.p ∧ K.z ≤ K.v
  ho : K.r < K.o ∧ K.p < K.o ∧ K.v < K.o
  bh : K.b ≠ K.h ∧ K.u ≠ K.h ∧ K.u ≠ K.b ∧ K.u ≠ K.g ∧ K.b ≠ K.g
  map : IsTab w K.o ms
  bel : Below w0.heap.size w0 w
  sh : Shapes w0
  n0 : 0 ≤ now
section
variable {w0 w w' : World} {K : OBl} {many : Int} {os os' : List Snt} {last now last' now' : Int} {D D' : Bool} {ms ms' : List (Int × Value)} {lm lm' : List UInt8} {taken told taken' told' : Int} {ts ts' : List (Int × Tkn)}
theorem OX.shp (x : OX w0 w K many os last now D ms) : Shapes w := x.sh.kept (x.bel.block 0 x.sh.pos)
theorem DrvAt.kat (d : DrvAt w K many lm os last now D) : KAt w K.b K.g 0 8 many K.q K.u last now D := by
  rcases d with ⟨rfl, cs, off, back, s⟩ | ⟨rfl, k, _⟩
  · exact s.kat
  · exact k
theorem DrvAt.tab (d : DrvAt w K many lm os last now D) : IsTab w K.u (os.map Snt.ent) := by
  rcases d with ⟨rfl, cs, off, back, s⟩ | ⟨rfl, k, t, _⟩
  · exact s.tab
  · exact t
theorem DrvAt.few (d : DrvAt w K many lm os last now D) : os.length ≤ 8 := by
  rcases d with ⟨rfl, cs, off, back, s⟩ | ⟨rfl, k, t, h⟩
  · exact s.few
  · exact h
theorem OX.grown (x : OX w0 w K many os last now D ms) (k : w.grownBy w' none) : OX w0 w' K many os last now D ms := by
  obtain ⟨lm, taken, told, ts, h1, h2, h3, h4⟩ := x.core
  refine { x with core := ⟨lm, taken, told, ts, h1, h2.grown k, h3, ?_⟩, map := x.map.kept (k.block _ x.map.lt (by simp)), bel := x.bel.grown k x.bel.size (fun j e => by cases e) }
  rcases h4 with ⟨hd, cs, off, back, s⟩ | ⟨hd, k1, t1, f1⟩
  · exact .inl ⟨hd, cs, off, back, s.grown k⟩
  · exact .inr ⟨hd, k1.kept (k.block _ (lt_of_block k1) (by simp)), t1.kept (k.block _ t1.lt (by simp)), f1⟩
/-- The driver turns. -/
theorem OX.drv (x : OX w0 w K many os last now D ms) (t : Turned (KB K.b K.q K.h K.mb K.u) w w') (rs : RS w K.r K.g K.h K.p K.v lm 0 taken told ts) (hk : TKeys ts) (m' : Mem w' K.g K.h lm') (hl : lm.length = 4096) (hl' : lm'.length = lm.length) (d : DrvAt w' K many lm' os' last' now' D') (n0 : 0 ≤ now') :
    OX w0 w' K many os' last' now' D' ms := by
  obtain ⟨l1, l2, l3, l4, l5, l6⟩ := x.lo
  obtain ⟨m1, m2, m3, m4, m5, m6⟩ := x.mid
  obtain ⟨h1, h2, h3⟩ := x.hi
  obtain ⟨o1, o2, o3⟩ := x.ho
  have nk : ∀ j, K.z ≤ j → ¬ KB K.b K.q K.h K.mb K.u j := by
    rintro j hj (e | e | e | e | e) <;> omega
  exact { x with core := ⟨lm', taken, told, ts, hl'.trans hl, rs.other t (nk _ h1) (nk _ h2) (nk _ h3) m' hl', hk, d⟩, map := x.map.kept (t.block _ x.map.lt (nk _ (by omega))), bel := x.bel.trans (t.below x.bel.size (by rintro j (e | e | e | e | e) <;> omega)), n0 := n0 }
/-- The device turns. -/
theorem OX.dev (x : OX w0 w K many os last now D ms) (e : Ending) (h : DevPost w K.r K.g K.h K.p K.v lm 0 e w') (rs : RS w K.r K.g K.h K.p K.v lm 0 taken told ts) (hl : lm.length = 4096) (d : DrvAt w K many lm os last now D) :
    (∃ v, e = .returned v) ∧ (∀ j, j < w.heap.size → K.o < j → w'.heap[j]? = w.heap[j]?) ∧ OX w0 w' K many os last now D ms := by
  obtain ⟨l1, l2, l3, l4, l5, l6⟩ := x.lo
  obtain ⟨m1, m2, m3, m4, m5, m6⟩ := x.mid
  obtain ⟨h1, h2, h3⟩ := x.hi
  obtain ⟨o1, o2, o3⟩ := x.ho
  obtain ⟨b1, b2, b3, b4⟩ := x.bh
  obtain ⟨v, lm', taken', told', ts', rfl, rs', hl', hk', t⟩ := h
  refine ⟨⟨v, rfl⟩, fun j hj hz => t.block j hj (by rintro (e | e | e) <;> omega), { x with core := ⟨lm', taken', told', ts', hl'.trans hl, rs', hk', ?_⟩, map := x.map.kept (t.block _ x.map.lt (by rintro (e | e | e) <;> omega)), bel := x.bel.trans (t.below x.bel.size (by rintro j (e | e | e) <;> omega)) }⟩
  rcases d with ⟨hd, cs, off, back, s⟩ | ⟨hd, k1, t1, f1⟩
  · exact .inl ⟨hd, cs, off, back, s.device rs t rs'.ps.mem hl' (by omega) (by omega)⟩
  · exact .inr ⟨hd, k1.kept (t.block _ (lt_of_block k1) (by rintro (e | e | e) <;> omega)), t1.kept (t.block _ t1.lt (by rintro (e | e | e) <;> omega)), f1⟩
/-- The memory is written. -/
theorem OX.wrote (x : OX w0 w K many os last now D ms) (rs : RS w K.r K.g K.h K.p K.v lm 0 taken told ts) (hk : TKeys ts) (hl : lm.length = 4096) (d : DrvAt w K many lm os last now D) (m' : Mem w' K.g K.h lm') (hl' : lm'.length = lm.length) (k : w.grownBy w' (some K.h)) :
    OX w0 w' K many os last now D ms := by
  obtain ⟨l1, l2, l3, l4, l5, l6⟩ := x.lo
  obtain ⟨m1, m2, m3, m4, m5, m6⟩ := x.mid
  obtain ⟨h1, h2, h3⟩ := x.hi
  obtain ⟨o1, o2, o3⟩ := x.ho
  obtain ⟨b1, b2, b3, b4⟩ := x.bh
  refine { x with core := ⟨lm', taken, told, ts, hl'.trans hl, rs.wrote m' k hl', hk, ?_⟩, map := x.map.kept (k.block _ x.map.lt (fun e => by injection e with e; omega)), bel := x.bel.grown k x.bel.size (fun j e => by injection e with e; omega) }
  rcases d with ⟨hd, cs, off, back, s⟩ | ⟨hd, k1, t1, f1⟩
  · exact .inl ⟨hd, cs, off, back, s.wrote m' k hl'⟩
  · exact .inr ⟨hd, k1.kept (k.block _ (lt_of_block k1) (fun e => by injection e with e; omega)), t1.kept (k.block _ t1.lt (fun e => by injection e with e; omega)), f1⟩
/-- The statement's map is written. -/
theorem OX.setmap (x : OX w0 w K many os last now D ms) (k : w.grownBy w' (some K.o)) (t : IsTab w' K.o ms') : OX w0 w' K many os last now D ms' := by
  obtain ⟨l1, l2, l3, l4, l5, l6⟩ := x.lo
  obtain ⟨m1, m2, m3, m4, m5, m6⟩ := x.mid
  obtain ⟨h1, h2, h3⟩ := x.hi
  obtain ⟨o1, o2, o3⟩ := x.ho
  obtain ⟨lm, taken, told, ts, c1, c2, c3, c4⟩ := x.core
  refine { x with core := ⟨lm, taken, told, ts, c1, c2.aside k ⟨by omega, by omega, by omega, by omega, by omega⟩, c3, ?_⟩, map := t, bel := x.bel.grown k x.bel.size (fun j e => by injection e with e; omega) }
  have keep : ∀ j, j < w.heap.size → j < K.z → w'.heap[j]? = w.heap[j]? := fun j hj hz => k.block j hj (fun e => by injection e with e; omega)
  rcases c4 with ⟨hd, cs, off, back, s⟩ | ⟨hd, k1, t1, f1⟩
  · exact .inl ⟨hd, cs, off, back, { s with kat := s.kat.kept (keep _ (lt_of_block s.kat) m1), qs := s.qs.keep9 k x.map (by omega), tab := s.tab.kept (keep _ s.tab.lt m5) }⟩
  · exact .inr ⟨hd, k1.kept (keep _ (lt_of_block k1) m1), t1.kept (keep _ t1.lt m5), f1⟩
theorem ox_next (x : OX w0 w K many os last now D ms) : Calls Tryz.prog 10 #[.pointer (some ⟨K.r, 0, none⟩)] w fun e w' => (∃ v, e = .returned v) ∧ (∀ j, j < w.heap.size → K.o < j → w'.heap[j]? = w.heap[j]?) ∧ OX w0 w' K many os last now D ms := by
  obtain ⟨lm, taken, told, ts, c1, c2, c3, c4⟩ := x.core
  exact (RNext_any w K.r K.g K.h K.p K.v lm 0 taken told ts x.shp (by have := x.sh.pos; have := x.lo; have := x.mid; have := x.hi; omega) c2 c3).mono fun e w' h => x.dev e h c2 c1 c4
theorem ox_done (x : OX w0 w K many os last now D ms) (k : Int) (hw : (Lit.int .i64 k).wf = true) (ok : Bool) (d : ByteArray) : Calls Tryz.prog 11 #[.pointer (some ⟨K.r, 0, none⟩), .int .i64 k, .bool ok, .string d] w fun e w' => (∃ v, e = .returned v) ∧ (∀ j, j < w.heap.size → K.o < j → w'.heap[j]? = w.heap[j]?) ∧ OX w0 w' K many os last now D ms := by
  obtain ⟨lm, taken, told, ts, c1, c2, c3, c4⟩ := x.core
  exact (RDone_any w K.r K.g K.h K.p K.v lm 0 taken told ts c2 c3 k hw ok d).mono fun e w' h => x.dev e h c2 c1 c4
theorem ox_put (x : OX w0 w K many os last now D ms) (a n y : Int) (hy : 0 ≤ y) : Calls Tryz.prog 32 #[.pointer (some ⟨K.g, 0, none⟩), .int .i64 a, .int .i64 n, .int .u64 y] w fun e w' => (∃ v, e = .returned v) ∧ OX w0 w' K many os last now D ms := by
  obtain ⟨lm, taken, told, ts, c1, c2, c3, c4⟩ := x.core
  exact (Put_all w K.g K.h lm c2.ps.mem (by omega) a n y hy).mono fun e w' ⟨h1, h2, h3⟩ => ⟨⟨_, h1⟩, x.wrote c2 c3 c1 c4 h2 (putL_length _ _ _ _) h3⟩
theorem ox_flight (x : OX w0 w K many os last now D ms) : Calls Tryz.prog 13 #[.pointer (some ⟨K.b, 0, none⟩)] w fun e w' => e = .returned (.int .i64 os.length) ∧ w = w' := by
  obtain ⟨lm, taken, told, ts, c1, c2, c3, c4⟩ := x.core
  have h := kflight_any w K.b K.g 0 8 many K.q K.u last now D c4.kat _ c4.tab
  rw [List.length_map] at h
  exact h
theorem ox_dead (x : OX w0 w K many os last now D ms) : Calls Tryz.prog 14 #[.pointer (some ⟨K.b, 0, none⟩)] w fun e w' => e = .returned (.bool D) ∧ w = w' := by
  obtain ⟨lm, taken, told, ts, c1, c2, c3, c4⟩ := x.core
  exact kdead_any w K.b K.g 0 8 many K.q K.u last now D c4.kat
/-- What Submit comes to. -/
def SubOX (w0 : World) (K : OBl) (many : Int) (os : List Snt) (last now : Int) (D : Bool) (ms : List (Int × Value)) (e : Ending) (w' : World) : Prop :=
  (∃ code : Int, code ≠ 0 ∧ e = .returned (.tuple #[.int .i64 0, .int .i64 code]) ∧ OX w0 w' K many os last now D ms) ∨
  (D = false ∧ e = .returned (.tuple #[.int .i64 (last + 1), .int .i64 0]) ∧ ∃ y : Snt, y.id = last + 1 ∧ y.since = now ∧ OX w0 w' K many (os ++ [y]) (last + 1) now D ms)
theorem ox_submit (x : OX w0 w K many os last now D ms) (o : Ord) (hlast : last ≤ 1000000) : Calls Tryz.prog 9 #[.pointer (some ⟨K.b, 0, none⟩), o.val] w (SubOX w0 K many os last now D ms) := by
  obtain ⟨lm, taken, told, ts, c1, c2, c3, c4⟩ := x.core
  rcases c4 with ⟨hd, cs, off, back, s⟩ | ⟨hd, k1, t1, f1⟩
  · by_cases hk : ∃ k, k < 5 ∧ o.kind = (shpAt k).kind
    · obtain ⟨k, hk5, hk⟩ := hk
      cases hm : mayOrd 8 o with
      | false => exact (Submit_arg w _ _ _ _ _ _ lm 0 8 many os cs off back false last now false s o rfl x.shp k hk5 hk hm).mono fun e w' ⟨h1, h2⟩ => .inl ⟨1, by decide, h1, x.grown h2⟩
      | true =>
        by_cases hf : os.length < 8
        · refine (Submit_ok w _ _ _ _ _ _ lm 0 8 many os cs off back false last now false s o rfl x.shp k hk5 hk hm hf rfl (by omega) hlast).mono fun e w' h => .inr ?_
          obtain ⟨y, xc, h1, h2, _, h3, _, _, _, _, h4, h5⟩ := h
          exact ⟨hd, h1, y, h2, h3, x.drv h5 c2 c3 h4.qs.mem c1 (by rw [addL_length, slotL_length]) (.inl ⟨hd, _, _, _, h4⟩) x.n0⟩
        · exact (Submit_full w _ _ _ _ _ _ lm 0 8 many os cs off back false last now false s o rfl x.shp k hk5 hk hm (by omega)).mono fun e w' ⟨h1, h2⟩ => .inl ⟨6, by decide, h1, x.grown h2⟩
    · exact (Submit_kind w _ _ _ _ _ _ lm 0 8 many os cs off back false last now false s o rfl x.shp (fun k h5 e => hk ⟨k, h5, e⟩)).mono fun e w' ⟨h1, h2⟩ => .inl ⟨10, by decide, h1, x.grown h2⟩
  · exact (Submit_d w _ _ 0 8 many _ _ last now k1 o).mono fun e w' ⟨h1, h2⟩ => .inl ⟨14, by decide, h1, x.grown h2⟩
/-- What Poll comes to. -/
def PollOX (w0 w : World) (K : OBl) (many : Int) (os : List Snt) (last now : Int) (D : Bool) (ms : List (Int × Value)) (e : Ending) (w' : World) : Prop :=
  ∃ (v : Value) (l : List Dn) (os' : List Snt) (D' : Bool), e = .returned v ∧ OwnDns w.heap.size w' v l ∧ OX w0 w' K many os' last now D' ms ∧ (l.map Dn.id ++ os'.map Snt.id).Perm (os.map Snt.id) ∧ (∀ y ∈ l, y.ok = false → y.data = ⟨#[]⟩) ∧ (D' = true → os' = []) ∧ (D' = false → D = false ∧ ∀ y ∈ os', y ∈ os)
theorem lost_ids {l2 : List Dn} {os : List Snt} (hp : l2.Perm (os.map fun x => ⟨x.id, false, ⟨#[]⟩⟩)) : (l2.map Dn.id).Perm (os.map Snt.id) := by
  have h := hp.map Dn.id
  rw [List.map_map] at h
  exact h
theorem lost_none {l2 : List Dn} {os : List Snt} (hp : l2.Perm (os.map fun x => ⟨x.id, false, ⟨#[]⟩⟩)) : ∀ y ∈ l2, y.data = ⟨#[]⟩ := by
  intro y hy
  obtain ⟨z, _, rfl⟩ := List.mem_map.1 (hp.mem_iff.1 hy)
  rfl
theorem ox_poll (x : OX w0 w K many os last now D ms) : Calls Tryz.prog 12 #[.pointer (some ⟨K.b, 0, none⟩)] w (PollOX w0 w K many os last now D ms) := by
  obtain ⟨lm, taken, told, ts, c1, c2, c3, c4⟩ := x.core
  obtain ⟨b1, b2, b3, b4, b5⟩ := x.bh
  rcases c4 with ⟨hd, cs, off, back, s⟩ | ⟨hd, k1, t1, f1⟩
  · subst hd
    refine (Poll_l w _ _ _ _ _ _ lm 0 8 many os cs off back last now s).mono ?_
    rintro e w' ⟨v, l1, os1, l2, d, w1, he, hown, ⟨cs1, back1, ht, hks⟩, t1, hf, htr⟩
    obtain ⟨p1, p2, p3, p4⟩ := told_perm ht (os_nodup s)
    cases d with
    | false =>
      obtain ⟨rfl, rfl⟩ := hf rfl
      rw [List.append_nil] at hown
      exact ⟨v, l1, os1, false, he, hown, x.drv t1 c2 c3 hks.qs.mem c1 rfl (.inl ⟨rfl, _, _, _, hks⟩) x.n0, p1, p3, (fun e => by cases e), fun _ => ⟨rfl, p4⟩⟩
    | true =>
      obtain ⟨hp, k2, t2, hfr, T⟩ := htr rfl
      have m' : Mem w' K.g K.h lm := ⟨(hfr _ s.qs.mem.lt1 (fun e => b4 e.symm)).trans hks.qs.mem.1, (hfr _ s.qs.mem.lt2 (fun e => b2 e.symm)).trans hks.qs.mem.2⟩
      refine ⟨v, l1 ++ l2, [], true, he, hown, x.drv T c2 c3 m' c1 rfl (.inr ⟨rfl, k2, t2, by simp⟩) x.n0, ?_, ?_, fun _ => rfl, fun e => by cases e⟩
      · rw [List.map_nil, List.append_nil, List.map_append]
        exact ((lost_ids hp).append_left _).trans p1
      · intro y hy hok
        rcases List.mem_append.1 hy with hy | hy
        · exact p3 y hy hok
        · exact lost_none hp y hy
  · subst hd
    refine (Poll_d w K.b K.g K.h K.q K.u K.mb 0 8 many last now os k1 t1 f1 b3).mono ?_
    rintro e w' ⟨v, l1, os1, l2, d, w1, he, hown, ⟨rfl, rfl, rfl, rfl⟩, tt, hf, htr⟩
    obtain ⟨hp, k2, t2, hfr, T⟩ := htr rfl
    have ka := World.grownBy_alloc w (.cells #[] 51) none
    have m' : Mem w' K.g K.h lm := ⟨((hfr _ c2.ps.mem.lt1 (fun e => b4 e.symm)).trans (ka.block _ c2.ps.mem.lt1 (by simp))).trans c2.ps.mem.1, ((hfr _ c2.ps.mem.lt2 (fun e => b2 e.symm)).trans (ka.block _ c2.ps.mem.lt2 (by simp))).trans c2.ps.mem.2⟩
    refine ⟨v, l2, [], true, he, hown, x.drv T c2 c3 m' c1 rfl (.inr ⟨rfl, k2, t2, by simp⟩) x.n0, ?_, ?_, fun _ => rfl, fun e => by cases e⟩
    · rw [List.map_nil, List.append_nil]
      exact lost_ids hp
    · intro y hy _
      exact lost_none hp y hy
/-- The newest order has the greatest number. -/
theorem OX.ids_lt {y : Snt} (x : OX w0 w K many (os ++ [y]) last now false ms) : ∀ z ∈ os, z.id < y.id := by
  obtain ⟨lm, taken, told, ts, c1, c2, c3, c4⟩ := x.core
  rcases c4 with ⟨_, cs, off, back, s⟩ | ⟨hd, _⟩
  · have h := s.ids
    rw [List.map_append, List.pairwise_append] at h
    intro z hz
    exact h.2.2 z.id (List.mem_map.2 ⟨z, hz, rfl⟩) y.id (by simp)
  · cases hd
end
/-- What stands at the beginning of a round. -/
structure Inv (k : Nat) (len : Nat) (many : Int) (os : List Snt) (last now : Int) (D : Bool) (ms : List (Int × Value)) : Prop where
  l0 : 0 ≤ last
  lk : last ≤ k
  nk : now ≤ k
  dd : D = true → os = []
  al : D = false → ∀ y ∈ os, 0 ≤ now - y.since ∧ (k : Int) - len ≤ now - y.since ∧ now - y.since < many
  ids : (ms.map (·.1)).Perm (os.map Snt.id)
  one : ∀ c ∈ ms, c.2 = .int .i64 1
/-- .. behind the act, ahead of Poll. -/
structure Mid (k : Nat) (len : Nat) (many : Int) (os : List Snt) (last now : Int) (D : Bool) (ms : List (Int × Value)) : Prop where
  l0 : 0 ≤ last
  lk : last ≤ (k : Int) + 1
  nk : now ≤ (k : Int) + 1
  al : D = false → ∀ y ∈ os, 0 ≤ now - y.since ∧ (k : Int) + 1 - len ≤ now - y.since ∧ now - y.since < many
  ids : (ms.map (·.1)).Perm (os.map Snt.id)
  one : ∀ c ∈ ms, c.2 = .int .i64 1
section
variable {k len : Nat} {many last now : Int} {os os' : List Snt} {D D' : Bool} {ms ms' : List (Int × Value)}
theorem Inv.same (h : Inv k len many os last now D ms) (hk : k < len) : Mid k len many os last now D ms :=
  ⟨h.l0, by have := h.lk; omega, by have := h.nk; omega, fun hd y hy => by have := h.al hd y hy; omega, h.ids, h.one⟩
theorem Inv.tick (h : Inv k len many os last now D ms) : Mid k len many os last (now + 1) (D || os.any fun x => decide (many ≤ now + 1 - x.since)) ms :=
  ⟨h.l0, by have := h.lk; omega, by have := h.nk; omega, fun hd y hy => by
    rw [Bool.or_eq_false_iff] at hd
    have h1 := h.al hd.1 y hy
    have h2 := List.any_eq_false.1 hd.2 y hy
    simp only [decide_eq_true_eq] at h2
    omega, h.ids, h.one⟩
theorem Inv.sub (h : Inv k len many os last now D ms) (hk : k < len) (hm : 1 ≤ many) {y : Snt} (y1 : y.id = last + 1) (y2 : y.since = now) (hD : D = false) : Mid k len many (os ++ [y]) (last + 1) now D (ms ++ [(last + 1, .int .i64 1)]) :=
  ⟨by have := h.l0; omega, by have := h.lk; omega, by have := h.nk; omega, fun hd z hz => by
    rcases List.mem_append.1 hz with hz | hz
    · have := h.al hd z hz; omega
    · rw [List.mem_singleton] at hz; subst hz; omega, by
    rw [List.map_append, List.map_append]
    have e : [y].map Snt.id = [((last + 1, .int .i64 1) : Int × Value)].map (·.1) := by simp [y1]
    rw [e]
    exact h.ids.append_right _, fun c hc => by
    rcases List.mem_append.1 hc with hc | hc
    · exact h.one c hc
    · rw [List.mem_singleton] at hc; subst hc; rfl⟩
theorem Mid.after (h : Mid k len many os last now D ms) (h1 : D' = true → os' = []) (h2 : D' = false → D = false ∧ ∀ y ∈ os', y ∈ os) (ids : (ms'.map (·.1)).Perm (os'.map Snt.id)) (one : ∀ c ∈ ms', c.2 = .int .i64 1) : Inv (k + 1) len many os' last now D' ms' :=
  ⟨h.l0, by have := h.lk; omega, by have := h.nk; omega, h1, fun hd y hy => by have := h.al (h2 hd).1 y ((h2 hd).2 y hy); omega, ids, one⟩
/-- One's entry is struck out. -/
theorem strike_ids {ms : List (Int × Value)} {x : Int} {r : List Int} (hn : (ms.map (·.1)).Nodup) (h : (ms.map (·.1)).Perm (x :: r)) : ((ms.filter fun c => c.1 != x).map (·.1)).Perm r := by
  have e : (ms.filter fun c => c.1 != x).map (·.1) = (ms.map (·.1)).filter (fun y => y != x) := by rw [List.filter_map]; rfl
  rw [e]
  have h2 := h.filter (fun y => y != x)
  have hn2 : (x :: r).Nodup := h.nodup_iff.1 hn
  rw [List.nodup_cons] at hn2
  rw [List.filter_cons_of_neg (by simp)] at h2
  have e3 : r.filter (fun y => y != x) = r := List.filter_eq_self.2 (fun t ht => by
    have : t ≠ x := fun e => hn2.1 (e ▸ ht)
    simpa using this)
  rw [e3] at h2
  exact h2
theorem tab_nodup {w : World} {o : Nat} (h : IsTab w o ms) : (ms.map (·.1)).Nodup := by obtain ⟨es, clock, _, F⟩ := h; exact F.keys
theorem tab_wf {w : World} {o : Nat} (h : IsTab w o ms) : ∀ c ∈ ms, (Lit.int .i64 c.1).wf = true := by obtain ⟨es, clock, _, F⟩ := h; exact F.wf
end
theorem cells11 {w : World} {b : Nat} {t : TypeId} {x0 x1 x2 x3 x4 x5 x6 x7 x8 x9 x10 : Value} (h : w.heap[b]? = some (.cells #[x0, x1, x2, x3, x4, x5, x6, x7, x8, x9, x10] t (0, 0))) :
    w.cell? ⟨b, 0, none⟩ = some x0 ∧ w.cell? ⟨b, 1, none⟩ = some x1 ∧ w.cell? ⟨b, 2, none⟩ = some x2 ∧ w.cell? ⟨b, 3, none⟩ = some x3 ∧ w.cell? ⟨b, 4, none⟩ = some x4 ∧ w.cell? ⟨b, 5, none⟩ = some x5 ∧ w.cell? ⟨b, 6, none⟩ = some x6 ∧ w.cell? ⟨b, 7, none⟩ = some x7 ∧ w.cell? ⟨b, 8, none⟩ = some x8 ∧ w.cell? ⟨b, 9, none⟩ = some x9 ∧ w.cell? ⟨b, 10, none⟩ = some x10 :=
  ⟨by rw [cell_of_block h]; rfl, by rw [cell_of_block h]; rfl, by rw [cell_of_block h]; rfl, by rw [cell_of_block h]; rfl, by rw [cell_of_block h]; rfl, by rw [cell_of_block h]; rfl, by rw [cell_of_block h]; rfl, by rw [cell_of_block h]; rfl, by rw [cell_of_block h]; rfl, by rw [cell_of_block h]; rfl, by rw [cell_of_block h]; rfl⟩
end Go.Proofs.YtdchlnffbiooaaaGreatDoor

namespace Go.Proofs.YtdchlnffbiooaaaGreatDoor
open Go.RowKit Go.Sort
set_option linter.unusedVariables false

theorem text_get (l : List UInt8) (a n : Int) (h0 : 0 ≤ a) (h1 : 0 ≤ n) (h2 : a + n ≤ l.length) : textS l a n = (l.drop a.toNat).take n.toNat := by
  have he : textE l a n = 0 := by
    unfold textE
    rw [if_neg (by omega)]
  unfold textS
  rw [if_pos he]
theorem lay_apart (l : List UInt8) (a : Nat) (c : List UInt8) (hc : a + c.length ≤ l.length) (b m : Nat) (h : a + c.length ≤ b ∨ b + m ≤ a) : ((lay l a c).drop b).take m = (l.drop b).take m := by
  apply List.ext_getElem?
  intro i
  rw [List.getElem?_take, List.getElem?_take]
  by_cases hi : i < m
  · rw [if_pos hi, if_pos hi, List.getElem?_drop, List.getElem?_drop, vlay_get _ _ _ hc, if_neg (by omega)]
  · rw [if_neg hi, if_neg hi]
theorem lay_same (l : List UInt8) (a : Nat) (c : List UInt8) (hc : a + c.length ≤ l.length) : ((lay l a c).drop a).take c.length = c := by
  apply List.ext_getElem?
  intro i
  rw [List.getElem?_take]
  by_cases hi : i < c.length
  · rw [if_pos hi, List.getElem?_drop, vlay_get _ _ _ hc, if_pos (by omega)]
    congr 1
    omega
  · rw [if_neg hi, List.getElem?_eq_none (by omega)]
theorem textE_bd {l : List UInt8} {b m : Int} (h : textE l b m = 0) : 0 ≤ b ∧ 0 ≤ m ∧ b + m ≤ l.length := by
  unfold textE at h
  split at h
  · cases h
  · omega
theorem putE_bd {l : List UInt8} {a n : Int} (h : putE l a n = 0) : 0 ≤ a ∧ 1 ≤ n ∧ n ≤ 8 ∧ a + n ≤ l.length := by
  unfold putE at h
  split at h
  · cases h
  · split at h
    · cases h
    · omega
theorem text_put (l : List UInt8) (a n x b m : Int) (h : a + n ≤ b ∨ b + m ≤ a) : textS (putL l a n x) b m = textS l b m := by
  have hE : textE (putL l a n x) b m = textE l b m := by unfold textE; rw [putL_length]
  unfold textS
  rw [hE]
  by_cases hb : textE l b m = 0
  · rw [if_pos hb, if_pos hb]
    obtain ⟨b1, b2, b3⟩ := textE_bd hb
    unfold putL
    by_cases he : putE l a n = 0
    · rw [if_pos he]
      obtain ⟨p1, p2, p3, p4⟩ := putE_bd he
      exact lay_apart l a.toNat _ (by rw [le_length]; omega) b.toNat m.toNat (by rw [le_length]; omega)
    · rw [if_neg he]
  · rw [if_neg hb, if_neg hb]
theorem text_write (l : List UInt8) (a : Int) (s : List UInt8) (b m : Int) (h : a + s.length ≤ b ∨ b + m ≤ a) : textS (writeL l a s) b m = textS l b m := by
  have hE : textE (writeL l a s) b m = textE l b m := by unfold textE; rw [writeL_length]
  unfold textS
  rw [hE]
  by_cases hb : textE l b m = 0
  · rw [if_pos hb, if_pos hb]
    obtain ⟨b1, b2, b3⟩ := textE_bd hb
    unfold writeL
    by_cases he : textE l a s.length = 0
    · rw [if_pos he]
      obtain ⟨p1, p2, p3⟩ := textE_bd he
      exact lay_apart l a.toNat _ (by omega) b.toNat m.toNat (by omega)
    · rw [if_neg he]
  · rw [if_neg hb, if_neg hb]
theorem text_wrote (l : List UInt8) (a : Int) (s : List UInt8) (h0 : 0 ≤ a) (h : a + s.length ≤ l.length) : textS (writeL l a s) a s.length = s := by
  rw [text_get _ _ _ h0 (by omega) (by rw [writeL_length]; exact h)]
  have he : textE l a s.length = 0 := by
    unfold textE
    rw [if_neg (by omega)]
  unfold writeL
  rw [if_pos he, Int.toNat_natCast]
  exact lay_same l a.toNat s (by omega)
theorem get_write (l : List UInt8) (a : Int) (s : List UInt8) (b m : Int) (h : a + s.length ≤ b ∨ b + m ≤ a) : getX (writeL l a s) b m = getX l b m := by
  have hE : putE (writeL l a s) b m = putE l b m := by unfold putE; rw [writeL_length]
  unfold getX
  rw [hE]
  by_cases hb : putE l b m = 0
  · rw [if_pos hb, if_pos hb]
    obtain ⟨b1, b2, b3, b4⟩ := putE_bd hb
    unfold writeL
    by_cases he : textE l a s.length = 0
    · rw [if_pos he]
      obtain ⟨p1, p2, p3⟩ := textE_bd he
      rw [lay_apart l a.toNat s (by omega) b.toNat m.toNat (by omega)]
    · rw [if_neg he]
  · rw [if_neg hb, if_neg hb]
theorem text_descs (base : Int) (n : Nat) : ∀ (ks : List Int) (l : List Bf) (lm : List UInt8) (hk : ∀ k ∈ ks, 0 ≤ k ∧ k < n) (a m : Int) (ha : base + 16 * n ≤ a), textS (descs base ks l lm) a m = textS lm a m
  | [], _, _, _, _, _, _ => by unfold descs; rfl
  | _ :: _, [], _, _, _, _, _ => by unfold descs; rfl
  | k :: ks, b :: bs, lm, hk, a, m, ha => by
    have hk0 := hk k List.mem_cons_self
    unfold descs
    rw [text_descs base n ks bs _ (fun y hy => hk y (List.mem_cons_of_mem _ hy)) a m ha]
    unfold descL
    rw [text_put _ _ _ _ _ _ (by omega), text_put _ _ _ _ _ _ (by omega), text_put _ _ _ _ _ _ (by omega), text_put _ _ _ _ _ _ (by omega)]
theorem text_add (lm : List UInt8) (off : Int) (ks : List Int) (l : List Bf) (hk : ∀ k ∈ ks, 0 ≤ k ∧ k < 32) (a m : Int) (ha : 848 ≤ a) : textS (addL lm 0 32 off ks l) a m = textS lm a m := by
  have r0 : 0 ≤ off % ((32 : Nat) : Int) := Int.emod_nonneg _ (by decide)
  have r1 : off % ((32 : Nat) : Int) < 32 := Int.emod_lt_of_pos _ (by decide)
  unfold addL
  rw [text_put _ _ _ _ _ _ (by omega), text_put _ _ _ _ _ _ (by omega), text_descs 0 32 ks l lm hk a m (by omega)]
theorem get_add (lm : List UInt8) (off : Int) (ks : List Int) (l : List Bf) (hk : ∀ k ∈ ks, 0 ≤ k ∧ k < 32) (a m : Int) (ha : 580 ≤ a) : getX (addL lm 0 32 off ks l) a m = getX lm a m := by
  have r0 : 0 ≤ off % ((32 : Nat) : Int) := Int.emod_nonneg _ (by decide)
  have r1 : off % ((32 : Nat) : Int) < 32 := Int.emod_lt_of_pos _ (by decide)
  unfold addL
  rw [put_apart _ _ _ _ _ _ (by omega), put_apart _ _ _ _ _ _ (by omega), descs_far lm 0 32 ks l hk a m (by omega)]

/-- The numbers of a first chain. -/
def fks (k : Nat) : List Int := if k = 2 then [0, 1] else [0, 1, 2]
def fmost (k : Nat) : Int := if k = 0 then 65 else 1
theorem f_new (k : Nat) (hk : k < 5) : newCh [] 32 (chainL (shpAt k) 848) = ⟨0, fks k, fmost k⟩ := by
  rcases k with _ | _ | _ | _ | _ | k <;> first | omega | (unfold newCh; rfl)
theorem fks_in (k : Nat) : ∀ y ∈ fks k, 0 ≤ y ∧ y < ((32 : Nat) : Int) := by
  unfold fks
  split <;> (intro y hy; simp at hy; omega)

end Go.Proofs.YtdchlnffbiooaaaGreatDoor

namespace Go.Proofs.YtdchlnffbiooaaaGreatDoor
open Go.RowKit Go.Sort
set_option linter.unusedVariables false

theorem leL_exact (x n : Int) (h1 : 1 ≤ n) (h2 : n ≤ 8) : (leL x n).length = n.toNat := by
  unfold leL
  rw [if_pos ⟨h1, h2⟩, le_length]
theorem leL_num (x n : Int) (h1 : 1 ≤ n) (h2 : n ≤ 8) (hx : 0 ≤ x) (hb : x.toNat < 256 ^ n.toNat) : (num (leL x n) : Int) = x := by
  unfold leL
  rw [if_pos ⟨h1, h2⟩, num_le, Nat.mod_eq_of_lt hb]
  omega
theorem headL_16 (s : Shp) (o : Ord) : (headL s o).length = 16 := by
  unfold headL
  rw [List.length_append, List.length_append, leL_exact _ _ (by decide) (by decide), leL_exact _ _ (by decide) (by decide), leL_exact _ _ (by decide) (by decide)]
  rfl
theorem slot_head (lm : List UInt8) (hl : lm.length = 2048) (s : Shp) (o : Ord) (hd : (dataL s o).length ≤ 64) : textS (slotL lm 848 s o) 848 16 = headL s o := by
  have hh := headL_16 s o
  have h := text_wrote lm 848 (headL s o) (by decide) (by rw [hh, hl]; decide)
  rw [hh] at h
  unfold slotL
  rw [text_put _ _ _ _ _ _ (by omega), text_write _ _ _ _ _ (by omega)]
  exact h
theorem slot_data (lm : List UInt8) (hl : lm.length = 2048) (s : Shp) (o : Ord) (hd : (dataL s o).length ≤ 64) : textS (slotL lm 848 s o) 864 (dataL s o).length = dataL s o := by
  unfold slotL
  rw [text_put _ _ _ _ _ _ (by omega)]
  exact text_wrote _ _ _ (by decide) (by rw [writeL_length, hl]; omega)
theorem cut_at (l : List UInt8) (a n : Nat) (h1 : 1 ≤ n) (h2 : n ≤ 8) (h : a + n ≤ l.length) : cutS ⟨l.toArray⟩ (a : Int) (n : Int) = (l.drop a).take n := by
  unfold cutS okR
  have hs : (⟨l.toArray⟩ : ByteArray).size = l.length := toArray_size l
  rw [if_pos (decide_eq_true (by rw [hs]; omega))]
  simp
theorem head_num (s : Shp) (o : Ord) (h0 : 0 ≤ s.num) (h1 : s.num ≤ 255) : (num (cutS ⟨(headL s o).toArray⟩ 0 4) : Int) = s.num := by
  have h := cut_at (headL s o) 0 4 (by decide) (by decide) (by rw [headL_16]; decide)
  have e : ((headL s o).drop 0).take 4 = leL s.num 4 := by
    unfold headL
    rw [List.drop_zero, List.append_assoc]
    exact List.take_left' (by rw [leL_exact _ _ (by decide) (by decide)]; rfl)
  rw [e] at h
  rw [show cutS ⟨(headL s o).toArray⟩ 0 4 = leL s.num 4 from h]
  exact leL_num _ _ (by decide) (by decide) h0 (by show s.num.toNat < 256 ^ 4; omega)
theorem head_sec (s : Shp) (o : Ord) (hs : s.sec = 1) (h0 : 0 ≤ o.sec) (h1 : o.sec < 512) : (num (cutS ⟨(headL s o).toArray⟩ 8 8) : Int) = o.sec := by
  have h := cut_at (headL s o) 8 8 (by decide) (by decide) (by rw [headL_16]; decide)
  have e : ((headL s o).drop 8).take 8 = leL o.sec 8 := by
    unfold headL
    rw [if_pos hs, List.drop_left' (by rw [List.length_append, leL_exact _ _ (by decide) (by decide), leL_exact _ _ (by decide) (by decide)]; rfl)]
    exact List.take_of_length_le (by rw [leL_exact _ _ (by decide) (by decide)]; decide)
  rw [e] at h
  rw [show cutS ⟨(headL s o).toArray⟩ 8 8 = leL o.sec 8 from h]
  exact leL_num _ _ (by decide) (by decide) h0 (by show o.sec.toNat < 256 ^ 8; omega)
theorem data_16 (s : Shp) (o : Ord) (hs : s.sec = 2) : (dataL s o).length = 16 := by
  unfold dataL
  rw [if_pos hs, List.length_append, List.length_append, leL_exact _ _ (by decide) (by decide), leL_exact _ _ (by decide) (by decide), leL_exact _ _ (by decide) (by decide)]
  rfl
theorem data_sec (s : Shp) (o : Ord) (hs : s.sec = 2) (h0 : 0 ≤ o.sec) (h1 : o.sec < 512) : (num (cutS ⟨(dataL s o).toArray⟩ 0 8) : Int) = o.sec := by
  have h := cut_at (dataL s o) 0 8 (by decide) (by decide) (by rw [data_16 s o hs]; decide)
  have e : ((dataL s o).drop 0).take 8 = leL o.sec 8 := by
    unfold dataL
    rw [if_pos hs, List.drop_zero, List.append_assoc]
    exact List.take_left' (by rw [leL_exact _ _ (by decide) (by decide)]; rfl)
  rw [e] at h
  rw [show cutS ⟨(dataL s o).toArray⟩ 0 8 = leL o.sec 8 from h]
  exact leL_num _ _ (by decide) (by decide) h0 (by show o.sec.toNat < 256 ^ 8; omega)

/-- The memory behind Submit. -/
def f1 (lm : List UInt8) (off : Int) (k : Nat) (o : Ord) : List UInt8 := addL (slotL lm 848 (shpAt k) o) 0 32 off (fks k) (chainL (shpAt k) 848)
theorem f1_len (lm : List UInt8) (off : Int) (k : Nat) (o : Ord) : (f1 lm off k o).length = lm.length := by unfold f1; rw [addL_length, slotL_length]
theorem may_of {o : Ord} (h : mayOrd 512 o = true) : 0 ≤ o.sec ∧ o.sec < 512 ∧ (o.kind = 3 → o.sec = 0) ∧ (o.kind = 2 → o.data.size = 64) ∧ (o.kind ≠ 2 → o.data = ⟨#[]⟩) := by
  unfold mayOrd at h
  simp only [Bool.and_eq_true, decide_eq_true_eq] at h
  obtain ⟨⟨h1, h2⟩, h3⟩ := h
  refine ⟨h1, ?_, ?_, ?_, ?_⟩
  · split at h2 <;> omega
  · intro e; rw [if_pos e] at h2; omega
  · intro e; rw [if_pos e] at h3; omega
  · intro e
    rw [if_neg e] at h3
    have hz : o.data.data.size = 0 := by
      have : o.data.data.size = o.data.size := rfl
      omega
    exact ByteArray.ext (Array.eq_empty_of_size_eq_zero hz)
theorem f_data (k : Nat) (hk : k < 5) (o : Ord) (he : o.kind = (shpAt k).kind) (hm : mayOrd 512 o = true) : (dataL (shpAt k) o).length = if k = 1 then 64 else if 3 ≤ k then 16 else 0 := by
  obtain ⟨_, _, _, h4, h5⟩ := may_of hm
  rcases k with _ | _ | _ | _ | _ | k
  · have := h5 (by rw [he]; decide)
    show (if (1 : Int) = 2 then _ else o.data.data.toList).length = _
    rw [if_neg (by decide), this]; rfl
  · have := h4 he
    show (if (1 : Int) = 2 then _ else o.data.data.toList).length = _
    rw [if_neg (by decide), Array.length_toList]; exact this
  · have := h5 (by rw [he]; decide)
    show (if (0 : Int) = 2 then _ else o.data.data.toList).length = _
    rw [if_neg (by decide), this]; rfl
  · exact data_16 shp4 o rfl
  · exact data_16 shp5 o rfl
  · omega
theorem ofN_shp (k : Nat) (hk : k < 5) : ofN (shpAt k).num = some k := by
  rcases k with _ | _ | _ | _ | _ | k <;> first | rfl | omega
theorem like_shp (k : Nat) (hk : k < 5) : likeL (chainL (shpAt k) 848) (chainL (shpAt k) 0) = true := by
  rcases k with _ | _ | _ | _ | _ | k <;> first | decide +kernel | omega
theorem ord_of {o : Ord} {a b : Int} {c : ByteArray} (h1 : a = o.kind) (h2 : b = o.sec) (h3 : c = o.data) : (⟨a, b, c⟩ : Ord) = o := by
  subst h1 h2 h3; rfl
theorem ask_of (M : List UInt8) (l : List Bf) (s : Shp) (o : Ord) (H D : List UInt8) (hH : textS M (l.headD ⟨0, 0, false⟩).a (l.headD ⟨0, 0, false⟩).n = H)
    (hD : (if 0 < s.len ∧ s.back = false then textS M (l.getD 1 ⟨0, 0, false⟩).a (l.getD 1 ⟨0, 0, false⟩).n else []) = D) (hX : tellX s ⟨H.toArray⟩ ⟨D.toArray⟩ = o.sec) (hs : o.sec ≤ 9223372036854775807)
    (hk : s.kind = o.kind) (hdat : (if s.kind = 2 then (⟨D.toArray⟩ : ByteArray) else ⟨#[]⟩) = o.data) (h1 : H = headL s o) (h2 : D = dataL s o) : askF M l s = some o := by
  have ho : (⟨s.kind, (o.sec, true).1, if s.kind = 2 then ⟨D.toArray⟩ else ⟨#[]⟩⟩ : Ord) = o := ord_of hk rfl hdat
  have e : askF M l s = (if (sectV (tellX s ⟨H.toArray⟩ ⟨D.toArray⟩)).2 = true ∧ H = headL s ⟨s.kind, (sectV (tellX s ⟨H.toArray⟩ ⟨D.toArray⟩)).1, if s.kind = 2 then ⟨D.toArray⟩ else ⟨#[]⟩⟩ ∧ D = dataL s ⟨s.kind, (sectV (tellX s ⟨H.toArray⟩ ⟨D.toArray⟩)).1, if s.kind = 2 then ⟨D.toArray⟩ else ⟨#[]⟩⟩
      then some ⟨s.kind, (sectV (tellX s ⟨H.toArray⟩ ⟨D.toArray⟩)).1, if s.kind = 2 then ⟨D.toArray⟩ else ⟨#[]⟩⟩ else none) := by
    subst hH hD
    rfl
  rw [e, hX, sectV_no (by omega), ho, if_pos ⟨rfl, h1, h2⟩]
theorem f_ask (lm : List UInt8) (hl : lm.length = 2048) (off : Int) (k : Nat) (hk : k < 5) (o : Ord) (he : o.kind = (shpAt k).kind) (hm : mayOrd 512 o = true) : askL (f1 lm off k o) (chainL (shpAt k) 848) = some o := by
  obtain ⟨h1, h2, h3, h4, h5⟩ := may_of hm
  have hdl := f_data k hk o he hm
  have hd64 : (dataL (shpAt k) o).length ≤ 64 := by rw [hdl]; split <;> (try split) <;> omega
  have hH : textS (f1 lm off k o) 848 16 = headL (shpAt k) o := by
    unfold f1
    rw [text_add _ _ _ _ (fks_in k) _ _ (by decide), slot_head lm hl _ _ hd64]
  have hD : textS (f1 lm off k o) 864 (dataL (shpAt k) o).length = dataL (shpAt k) o := by
    unfold f1
    rw [text_add _ _ _ _ (fks_in k) _ _ (by decide), slot_data lm hl _ _ hd64]
  rw [hdl] at hD
  have hN : headN (f1 lm off k o) (chainL (shpAt k) 848) = (shpAt k).num := by
    show (num (cutS ⟨(textS (f1 lm off k o) 848 16).toArray⟩ 0 4) : Int) = _
    rw [hH]
    exact head_num _ _ (shp_bd k hk).1 (by rcases k with _ | _ | _ | _ | _ | k <;> first | decide | omega)
  unfold askL
  rw [hN, ofN_shp k hk]
  simp only
  rw [if_pos (like_shp k hk)]
  generalize f1 lm off k o = M at hH hD
  rcases k with _ | _ | _ | _ | _ | k
  · have hDd : dataL shp1 o = [] := List.eq_nil_of_length_eq_zero hdl
    exact ask_of M _ shp1 o (headL shp1 o) [] hH (if_neg (by decide)) (head_sec shp1 o rfl h1 h2) (by omega) he.symm ((if_neg (by decide)).trans (h5 (by rw [he]; decide)).symm) rfl hDd.symm
  · have hdd : dataL shp2 o = o.data.data.toList := if_neg (by decide)
    exact ask_of M _ shp2 o (headL shp2 o) (dataL shp2 o) hH ((if_pos ⟨by decide, rfl⟩).trans hD) (head_sec shp2 o rfl h1 h2) (by omega) he.symm ((if_pos rfl).trans (by rw [hdd])) rfl rfl
  · have hDd : dataL shp3 o = [] := List.eq_nil_of_length_eq_zero hdl
    exact ask_of M _ shp3 o (headL shp3 o) [] hH (if_neg (by decide)) (h3 he).symm (by omega) he.symm ((if_neg (by decide)).trans (h5 (by rw [he]; decide)).symm) rfl hDd.symm
  · exact ask_of M _ shp4 o (headL shp4 o) (dataL shp4 o) hH ((if_pos ⟨by decide, rfl⟩).trans hD) (data_sec shp4 o rfl h1 h2) (by omega) he.symm ((if_neg (by decide)).trans (h5 (by rw [he]; decide)).symm) rfl rfl
  · exact ask_of M _ shp5 o (headL shp5 o) (dataL shp5 o) hH ((if_pos ⟨by decide, rfl⟩).trans hD) (data_sec shp5 o rfl h1 h2) (by omega) he.symm ((if_neg (by decide)).trans (h5 (by rw [he]; decide)).symm) rfl rfl
  · omega

end Go.Proofs.YtdchlnffbiooaaaGreatDoor

namespace Go.Proofs.YtdchlnffbiooaaaGreatDoor
set_option linter.unusedVariables false

theorem get_slot (lm : List UInt8) (at_ : Int) (s : Shp) (o : Ord) (hd : (dataL s o).length ≤ 64) (b m : Int) (h : at_ + 96 ≤ b ∨ b + m ≤ at_) : getX (slotL lm at_ s o) b m = getX lm b m := by
  have hh := headL_16 s o
  unfold slotL
  rw [put_apart _ _ _ _ _ _ (by omega), get_write _ _ _ _ _ (by omega), get_write _ _ _ _ _ (by omega)]
theorem text_slot (lm : List UInt8) (at_ : Int) (s : Shp) (o : Ord) (hd : (dataL s o).length ≤ 64) (b m : Int) (h : at_ + 96 ≤ b ∨ b + m ≤ at_) : textS (slotL lm at_ s o) b m = textS lm b m := by
  have hh := headL_16 s o
  unfold slotL
  rw [text_put _ _ _ _ _ _ (by omega), text_write _ _ _ _ _ (by omega), text_write _ _ _ _ _ (by omega)]
theorem slot_head2 (lm : List UInt8) (at_ : Int) (h0 : 0 ≤ at_) (hl : at_ + 96 ≤ lm.length) (s : Shp) (o : Ord) (hd : (dataL s o).length ≤ 64) : textS (slotL lm at_ s o) at_ 16 = headL s o := by
  have hh := headL_16 s o
  have h := text_wrote lm at_ (headL s o) h0 (by rw [hh]; omega)
  rw [hh] at h
  unfold slotL
  rw [text_put _ _ _ _ _ _ (by omega), text_write _ _ _ _ _ (by omega)]
  exact h
theorem slot_data2 (lm : List UInt8) (at_ : Int) (h0 : 0 ≤ at_) (hl : at_ + 96 ≤ lm.length) (s : Shp) (o : Ord) (hd : (dataL s o).length ≤ 64) : textS (slotL lm at_ s o) (at_ + 16) (dataL s o).length = dataL s o := by
  unfold slotL
  rw [text_put _ _ _ _ _ _ (by omega)]
  exact text_wrote _ _ _ (by omega) (by rw [writeL_length]; omega)
/-- The slot at at_ holds this order. -/
def SlotAt (M : List UInt8) (at_ : Int) (s : Shp) (o : Ord) : Prop := textS M at_ 16 = headL s o ∧ textS M (at_ + 16) (dataL s o).length = dataL s o
theorem SlotAt.made (lm : List UInt8) (at_ : Int) (h0 : 0 ≤ at_) (hl : at_ + 96 ≤ lm.length) (s : Shp) (o : Ord) (hd : (dataL s o).length ≤ 64) : SlotAt (slotL lm at_ s o) at_ s o := ⟨slot_head2 lm at_ h0 hl s o hd, slot_data2 lm at_ h0 hl s o hd⟩
theorem SlotAt.kept {M M' : List UInt8} {at_ : Int} {s : Shp} {o : Ord} (h : SlotAt M at_ s o) (hd : (dataL s o).length ≤ 64) (k : ∀ b m : Int, at_ ≤ b → b + m ≤ at_ + 80 → textS M' b m = textS M b m) : SlotAt M' at_ s o :=
  ⟨(k _ _ (by omega) (by omega)).trans h.1, (k _ _ (by omega) (by omega)).trans h.2⟩
/-- Another slot is laid. -/
theorem SlotAt.lay {M : List UInt8} {at_ a2 : Int} {s s2 : Shp} {o o2 : Ord} (h : SlotAt M at_ s o) (hd : (dataL s o).length ≤ 64) (hd2 : (dataL s2 o2).length ≤ 64) (ha : a2 + 96 ≤ at_ ∨ at_ + 96 ≤ a2) : SlotAt (slotL M a2 s2 o2) at_ s o :=
  h.kept hd fun b m h1 h2 => text_slot M a2 s2 o2 hd2 b m (by omega)
theorem text_addB (lm : List UInt8) (base off : Int) (ks : List Int) (l : List Bf) (hk : ∀ k ∈ ks, 0 ≤ k ∧ k < ((32 : Nat) : Int)) (a m : Int) (ha : base + 848 ≤ a) : textS (addL lm base 32 off ks l) a m = textS lm a m := by
  have r0 : 0 ≤ off % ((32 : Nat) : Int) := Int.emod_nonneg _ (by decide)
  have r1 : off % ((32 : Nat) : Int) < 32 := Int.emod_lt_of_pos _ (by decide)
  unfold addL
  rw [text_put _ _ _ _ _ _ (by omega), text_put _ _ _ _ _ _ (by omega), text_descs base 32 ks l lm hk a m (by omega)]
/-- A chain is offered. -/
theorem SlotAt.add {M : List UInt8} {at_ : Int} {s : Shp} {o : Ord} (h : SlotAt M at_ s o) (hd : (dataL s o).length ≤ 64) (base off : Int) (ks : List Int) (l : List Bf) (hk : ∀ k ∈ ks, 0 ≤ k ∧ k < ((32 : Nat) : Int)) (ha : base + 848 ≤ at_) : SlotAt (addL M base 32 off ks l) at_ s o :=
  h.kept hd fun b m h1 h2 => text_addB M base off ks l hk b m (by omega)
theorem used32 : usedAt ((32 : Nat) : Int) = 580 := by decide
theorem text_vdone (lm : List UInt8) (base told hd len : Int) (a m : Int) (ha : base + 848 ≤ a) : textS (vdoneL lm base 32 told hd len) a m = textS lm a m := by
  have r0 : 0 ≤ told % ((32 : Nat) : Int) := Int.emod_nonneg _ (by decide)
  have r1 : told % ((32 : Nat) : Int) < 32 := Int.emod_lt_of_pos _ (by decide)
  unfold vdoneL
  rw [used32]
  rw [text_put _ _ _ _ _ _ (by omega), text_put _ _ _ _ _ _ (by omega), text_put _ _ _ _ _ _ (by omega)]
theorem get_vdone (lm : List UInt8) (base told hd len : Int) (a m : Int) (ha : base + 848 ≤ a) : getX (vdoneL lm base 32 told hd len) a m = getX lm a m := by
  have r0 : 0 ≤ told % ((32 : Nat) : Int) := Int.emod_nonneg _ (by decide)
  have r1 : told % ((32 : Nat) : Int) < 32 := Int.emod_lt_of_pos _ (by decide)
  unfold vdoneL
  rw [used32]
  rw [put_apart _ _ _ _ _ _ (by omega), put_apart _ _ _ _ _ _ (by omega), put_apart _ _ _ _ _ _ (by omega)]
theorem text_answer (lm : List UInt8) (base told k : Int) (x : Tkn) (ok : Bool) (d : ByteArray) (a m : Int) (ha : base + 848 ≤ a) (h1 : x.dat + d.size ≤ a ∨ a + m ≤ x.dat) (h2 : x.st + 1 ≤ a ∨ a + m ≤ x.st) : textS (answerL lm base told k x ok d) a m = textS lm a m := by
  have e : (d.data.toList.length : Int) = d.size := by rw [Array.length_toList]; rfl
  unfold answerL
  rw [text_vdone _ _ _ _ _ _ _ ha, text_put _ _ _ _ _ _ (by omega), text_write _ _ _ _ _ (by omega)]
/-- Another order is answered. -/
theorem SlotAt.answer {M : List UInt8} {at_ : Int} {s : Shp} {o : Ord} (h : SlotAt M at_ s o) (hd : (dataL s o).length ≤ 64) (base told k : Int) (x : Tkn) (ok : Bool) (d : ByteArray) (a2 : Int) (hx : a2 ≤ x.dat) (hx2 : x.dat + d.size ≤ a2 + 96) (hs : x.st = a2 + 80) (ha : base + 848 ≤ at_) (hap : a2 + 96 ≤ at_ ∨ at_ + 96 ≤ a2) : SlotAt (answerL M base told k x ok d) at_ s o :=
  h.kept hd fun b m h1 h2 => text_answer M base told k x ok d b m (by omega) (by omega) (by omega)
/-- What the driver reads of an answer. -/
theorem answer_stat (lm : List UInt8) (base told k : Int) (x : Tkn) (ok : Bool) (d : ByteArray) (hx : base + 848 ≤ x.dat) (hs : base + 848 ≤ x.st) (hb : 0 ≤ base) (hl : x.st + 1 ≤ lm.length) : (getX (answerL lm base told k x ok d) x.st 1 : Int) = if ok then 0 else 1 := by
  unfold answerL
  rw [get_vdone _ _ _ _ _ _ _ hs, put_same _ _ _ _ (by omega) (by decide) (by decide) (by rw [writeL_length]; omega)]
  cases ok <;> decide
theorem answer_data (lm : List UInt8) (base told k : Int) (x : Tkn) (ok : Bool) (d : ByteArray) (hx : base + 848 ≤ x.dat) (hb : 0 ≤ base) (hap : x.dat + d.size ≤ x.st) (hl : x.dat + d.size ≤ lm.length) : textS (answerL lm base told k x ok d) x.dat d.size = d.data.toList := by
  have e : (d.data.toList.length : Int) = d.size := by rw [Array.length_toList]; rfl
  unfold answerL
  rw [text_vdone _ _ _ _ _ _ _ hx, text_put _ _ _ _ _ _ (by omega)]
  have h := text_wrote lm x.dat d.data.toList (by omega) (by omega)
  rw [e] at h
  exact h
/-- The descriptors of a chain lie as Add laid them. -/
def DscAt (M : List UInt8) (base : Int) (ks : List Int) (l : List Bf) : Prop := ∃ lm0 : List UInt8, lm0.length = M.length ∧ ∀ k ∈ ks, Dsc M base k = Dsc (descs base ks l lm0) base k
theorem DscAt.kept {M M' : List UInt8} {base : Int} {ks : List Int} {l : List Bf} (h : DscAt M base ks l) (hl : M'.length = M.length) (k : ∀ j ∈ ks, Dsc M' base j = Dsc M base j) : DscAt M' base ks l := by
  obtain ⟨lm0, h1, h2⟩ := h
  exact ⟨lm0, h1.trans hl.symm, fun j hj => (k j hj).trans (h2 j hj)⟩
theorem DscAt.follow {M : List UInt8} {base : Int} {ks : List Int} {l : List Bf} (h : DscAt M base ks l) (b0 : 0 ≤ base) (hM : M.length ≤ 65536) (hn : base + 16 * ((32 : Nat) : Int) ≤ M.length) (hkl : ks.length = l.length) (hl0 : l ≠ []) (hnd : ks.Nodup) (hk : ∀ k ∈ ks, 0 ≤ k ∧ k < ((32 : Nat) : Int)) (hb : ∀ b ∈ l, InLen M.length b) (hf : l.length ≤ 32) (ho : inOrd l = true) :
    followF M base 32 32 (ks.headD 0) [] = some l := by
  obtain ⟨lm0, h1, h2⟩ := h
  have := follow_descs base 32 b0 M hM hn (by decide) l ks lm0 [] 32 hkl hl0 hnd hk hb hf (by simpa using ho) h1 h2
  simpa using this
theorem DscAt.made (lm : List UInt8) (base off : Int) (ks : List Int) (l : List Bf) (hk : ∀ k ∈ ks, 0 ≤ k ∧ k < ((32 : Nat) : Int)) : DscAt (addL lm base 32 off ks l) base ks l :=
  ⟨lm, (addL_length lm base 32 off ks l).symm, fun j hj => addL_dsc lm base 32 (by decide) (by decide) off ks l j (hk j hj).2⟩
theorem DscAt.add {M : List UInt8} {base : Int} {ks : List Int} {l : List Bf} (h : DscAt M base ks l) (off : Int) (ks2 : List Int) (l2 : List Bf) (hk : ∀ k ∈ ks, 0 ≤ k ∧ k < ((32 : Nat) : Int)) (hap : ∀ k ∈ ks, k ∉ ks2) : DscAt (addL M base 32 off ks2 l2) base ks l :=
  h.kept (addL_length M base 32 off ks2 l2) fun j hj => (addL_dsc M base 32 (by decide) (by decide) off ks2 l2 j (hk j hj).2).trans (descs_other base j ks2 l2 M (hap j hj))
theorem dsc_slot (lm : List UInt8) (at_ : Int) (s : Shp) (o : Ord) (hd : (dataL s o).length ≤ 64) (base j : Int) (hj : base + 16 * j + 16 ≤ at_) : Dsc (slotL lm at_ s o) base j = Dsc lm base j := by
  unfold Dsc
  rw [get_slot _ _ _ _ hd _ _ (by omega), get_slot _ _ _ _ hd _ _ (by omega), get_slot _ _ _ _ hd _ _ (by omega), get_slot _ _ _ _ hd _ _ (by omega)]
theorem DscAt.lay {M : List UInt8} {base : Int} {ks : List Int} {l : List Bf} (h : DscAt M base ks l) (at_ : Int) (s : Shp) (o : Ord) (hd : (dataL s o).length ≤ 64) (hk : ∀ k ∈ ks, 0 ≤ k ∧ k < ((32 : Nat) : Int)) (ha : base + 848 ≤ at_) : DscAt (slotL M at_ s o) base ks l :=
  h.kept (slotL_length M at_ s o) fun j hj => dsc_slot M at_ s o hd base j (by have := hk j hj; omega)
theorem get_answer (lm : List UInt8) (base told k : Int) (x : Tkn) (ok : Bool) (d : ByteArray) (b m : Int) (hb : b + m ≤ base + 580) (hx : base + 848 ≤ x.dat) (hs : base + 848 ≤ x.st) : getX (answerL lm base told k x ok d) b m = getX lm b m := by
  unfold answerL
  rw [vdone_before _ base 32 (by decide) (by decide) told _ _ b m (by rw [used32]; exact hb), put_apart _ _ _ _ _ _ (by omega), get_write _ _ _ _ _ (by omega)]
theorem DscAt.answer {M : List UInt8} {base : Int} {ks : List Int} {l : List Bf} (h : DscAt M base ks l) (told k : Int) (x : Tkn) (ok : Bool) (d : ByteArray) (hk : ∀ k ∈ ks, 0 ≤ k ∧ k < ((32 : Nat) : Int)) (hx : base + 848 ≤ x.dat) (hs : base + 848 ≤ x.st) : DscAt (answerL M base told k x ok d) base ks l :=
  h.kept (answerL_length M base told k x ok d) fun j hj => by
    have hj2 := hk j hj
    unfold Dsc
    rw [get_answer _ _ _ _ _ _ _ _ _ (by omega) hx hs, get_answer _ _ _ _ _ _ _ _ _ (by omega) hx hs, get_answer _ _ _ _ _ _ _ _ _ (by omega) hx hs, get_answer _ _ _ _ _ _ _ _ _ (by omega) hx hs]
theorem like_any (k : Nat) (hk : k < 5) (at_ : Int) : likeL (chainL (shpAt k) at_) (chainL (shpAt k) 0) = true := by
  rcases k with _ | _ | _ | _ | _ | k <;> first | rfl | omega
/-- What a slot holds is read as it was asked. -/
theorem ask_slot (M : List UInt8) (at_ : Int) (k : Nat) (hk : k < 5) (o : Ord) (he : o.kind = (shpAt k).kind) (hm : mayOrd 512 o = true) (hS : SlotAt M at_ (shpAt k) o) : askL M (chainL (shpAt k) at_) = some o := by
  obtain ⟨h1, h2, h3, h4, h5⟩ := may_of hm
  have hdl := f_data k hk o he hm
  obtain ⟨hH, hD⟩ := hS
  rw [hdl] at hD
  have hN : headN M (chainL (shpAt k) at_) = (shpAt k).num := by
    show (num (cutS ⟨(textS M at_ 16).toArray⟩ 0 4) : Int) = _
    rw [hH]
    exact head_num _ _ (shp_bd k hk).1 (by rcases k with _ | _ | _ | _ | _ | k <;> first | decide | omega)
  unfold askL
  rw [hN, ofN_shp k hk]
  simp only
  rw [if_pos (like_any k hk at_)]
  rcases k with _ | _ | _ | _ | _ | k
  · have hDd : dataL shp1 o = [] := List.eq_nil_of_length_eq_zero hdl
    exact ask_of M _ shp1 o (headL shp1 o) [] hH (if_neg (by decide)) (head_sec shp1 o rfl h1 h2) (by omega) he.symm ((if_neg (by decide)).trans (h5 (by rw [he]; decide)).symm) rfl hDd.symm
  · have hdd : dataL shp2 o = o.data.data.toList := if_neg (by decide)
    exact ask_of M _ shp2 o (headL shp2 o) (dataL shp2 o) hH ((if_pos ⟨by decide, rfl⟩).trans hD) (head_sec shp2 o rfl h1 h2) (by omega) he.symm ((if_pos rfl).trans (by rw [hdd])) rfl rfl
  · have hDd : dataL shp3 o = [] := List.eq_nil_of_length_eq_zero hdl
    exact ask_of M _ shp3 o (headL shp3 o) [] hH (if_neg (by decide)) (h3 he).symm (by omega) he.symm ((if_neg (by decide)).trans (h5 (by rw [he]; decide)).symm) rfl hDd.symm
  · exact ask_of M _ shp4 o (headL shp4 o) (dataL shp4 o) hH ((if_pos ⟨by decide, rfl⟩).trans hD) (data_sec shp4 o rfl h1 h2) (by omega) he.symm ((if_neg (by decide)).trans (h5 (by rw [he]; decide)).symm) rfl rfl
  · exact ask_of M _ shp5 o (headL shp5 o) (dataL shp5 o) hH ((if_pos ⟨by decide, rfl⟩).trans hD) (data_sec shp5 o rfl h1 h2) (by omega) he.symm ((if_neg (by decide)).trans (h5 (by rw [he]; decide)).symm) rfl rfl
  · omega

end Go.Proofs.YtdchlnffbiooaaaGreatDoor

namespace Go.Proofs.YtdchlnffbiooaaaGreatDoor
set_option linter.unusedVariables false

/-- Where an order's slot begins. -/
def slAt (base : Int) (y : Snt) : Int := base + 848 + 96 * y.slot
structure Rd (M : List UInt8) (base : Int) (y : Snt) (x : Oc) (o : Ord) (k : Nat) : Prop where
  kk : k < 5
  ke : o.kind = (shpAt k).kind
  km : mayOrd 512 o = true
  yk : y.kind = o.kind
  yh : y.hd = x.c.head
  sl : 0 ≤ y.slot ∧ y.slot < 8
  ks : ∀ j ∈ x.c.of, 0 ≤ j ∧ j < ((32 : Nat) : Int)
  nd : x.c.of.Nodup
  hd : x.c.head = x.c.of.headD 0
  ln : x.c.of.length = (chainL (shpAt k) (slAt base y)).length
  ds : DscAt M base x.c.of (chainL (shpAt k) (slAt base y))
  st : SlotAt M (slAt base y) (shpAt k) o
  mo : x.c.most = if k = 0 then 65 else 1
theorem room_chain (k : Nat) (hk : k < 5) (a : Int) : roomOf (chainL (shpAt k) a) = if k = 0 then 65 else 1 := by
  rcases k with _ | _ | _ | _ | _ | k <;> first | rfl | omega
section
variable {M : List UInt8} {base : Int} {y y2 : Snt} {x x2 : Oc} {o o2 : Ord} {k k2 : Nat}
theorem Rd.d64 (r : Rd M base y x o k) : (dataL (shpAt k) o).length ≤ 64 := by
  rw [f_data k r.kk o r.ke r.km]; split <;> (try split) <;> omega
/-- It is read as it was asked. -/
theorem Rd.reads (r : Rd M base y x o k) (b0 : 0 ≤ base) (b1 : base + 1616 ≤ M.length) (hM : M.length ≤ 65536) :
    followF M base 32 32 x.c.head [] = some (chainL (shpAt k) (slAt base y)) ∧ askL M (chainL (shpAt k) (slAt base y)) = some o := by
  have hs := r.sl
  have hf := chain_fits k r.kk M (slAt base y) (by unfold slAt; omega) (by unfold slAt; omega) 32 (by decide)
  obtain ⟨f1, f2, f3⟩ := refuse_none hf
  have hl0 : chainL (shpAt k) (slAt base y) ≠ [] := by unfold chainL; simp
  refine ⟨?_, ask_slot M _ k r.kk o r.ke r.km r.st⟩
  rw [r.hd]
  exact r.ds.follow b0 hM (by omega) r.ln hl0 r.nd r.ks f2 (by have := chainL_len (shpAt k) (slAt base y); omega) f1
/-- Another order is submitted. -/
theorem Rd.submit (r : Rd M base y x o k) (off : Int) (hk2 : (dataL (shpAt k2) o2).length ≤ 64) (hs2 : 0 ≤ y2.slot ∧ y2.slot < 8) (hne : y.slot ≠ y2.slot) (hap : ∀ j ∈ x.c.of, j ∉ x2.c.of) (hks2 : ∀ j ∈ x2.c.of, 0 ≤ j ∧ j < ((32 : Nat) : Int)) (l2 : List Bf) :
    Rd (addL (slotL M (slAt base y2) (shpAt k2) o2) base 32 off x2.c.of l2) base y x o k := by
  have hs := r.sl
  have h1 : slAt base y2 + 96 ≤ slAt base y ∨ slAt base y + 96 ≤ slAt base y2 := by unfold slAt; omega
  exact { r with ds := (r.ds.lay _ _ _ hk2 r.ks (by unfold slAt; omega)).add off _ _ r.ks hap, st := (r.st.lay r.d64 hk2 h1).add r.d64 base off _ _ hks2 (by unfold slAt; omega) }
/-- Another order is answered. -/
theorem Rd.answer (r : Rd M base y x o k) (told h : Int) (t : Tkn) (ok : Bool) (d : ByteArray) (hs2 : 0 ≤ y2.slot ∧ y2.slot < 8) (hne : y.slot ≠ y2.slot) (ht : slAt base y2 ≤ t.dat) (ht2 : t.dat + d.size ≤ slAt base y2 + 96) (hst : t.st = slAt base y2 + 80) :
    Rd (answerL M base told h t ok d) base y x o k := by
  have hs := r.sl
  have h1 : slAt base y2 + 96 ≤ slAt base y ∨ slAt base y + 96 ≤ slAt base y2 := by unfold slAt; omega
  exact { r with ds := r.ds.answer told h t ok d r.ks (by unfold slAt at ht; omega) (by rw [hst]; unfold slAt; omega), st := r.st.answer r.d64 base told h t ok d (slAt base y2) ht ht2 hst (by unfold slAt; omega) h1 }
/-- .. is made. -/
theorem Rd.made (lm : List UInt8) (base off : Int) (b0 : 0 ≤ base) (b1 : base + 1616 ≤ lm.length) (cs : List Oc) (y : Snt) (x : Oc) (o : Ord) (k : Nat) (kk : k < 5) (ke : o.kind = (shpAt k).kind) (km : mayOrd 512 o = true) (yk : y.kind = o.kind) (yh : y.hd = x.c.head) (sl : 0 ≤ y.slot ∧ y.slot < 8)
    (hx : x.c = newCh cs 32 (chainL (shpAt k) (slAt base y))) (h3 : ∀ x ∈ cs, x.c.of.length ≤ 3) (h7 : cs.length ≤ 7) :
    Rd (addL (slotL lm (slAt base y) (shpAt k) o) base 32 off x.c.of (chainL (shpAt k) (slAt base y))) base y x o k := by
  have hof : x.c.of = (freeL (cs.map Oc.c) 32).take (chainL (shpAt k) (slAt base y)).length := by rw [hx]; rfl
  have hhd : x.c.head = x.c.of.headD 0 := by rw [hx]; rfl
  have hks : ∀ j ∈ x.c.of, 0 ≤ j ∧ j < ((32 : Nat) : Int) := fun j hj => by
    rw [hof] at hj
    obtain ⟨f0, f1, _⟩ := free_spec (List.mem_of_mem_take hj)
    exact ⟨f0, f1⟩
  have hfr := free_three cs 32 7 h3 h7
  have hln : x.c.of.length = (chainL (shpAt k) (slAt base y)).length := by
    have := chainL_len (shpAt k) (slAt base y)
    rw [hof, List.length_take]; omega
  have hnd : x.c.of.Nodup := by rw [hof]; exact (freeL_nodup _ _).sublist (List.take_sublist _ _)
  have hd64 : (dataL (shpAt k) o).length ≤ 64 := by rw [f_data k kk o ke km]; split <;> (try split) <;> omega
  exact ⟨kk, ke, km, yk, yh, sl, hks, hnd, hhd, hln, DscAt.made _ base off _ _ hks, (SlotAt.made lm (slAt base y) (by unfold slAt; omega) (by unfold slAt; omega) (shpAt k) o hd64).add hd64 base off _ _ hks (by unfold slAt; omega), by rw [hx]; exact room_chain k kk _⟩
/-- A new chain's numbers are none of those that are out. -/
theorem new_apart {cs : List Oc} {z : Oc} {l : List Bf} (hz : z ∈ cs) (hx : x.c = newCh cs 32 l) : ∀ j ∈ z.c.of, j ∉ x.c.of := by
  intro j hj hj2
  have hof : x.c.of = (freeL (cs.map Oc.c) 32).take l.length := by rw [hx]; rfl
  rw [hof] at hj2
  exact (free_spec (List.mem_of_mem_take hj2)).2.2 z.c (List.mem_map.2 ⟨z, hz, rfl⟩) hj
/-- Heads and rooms of what was offered, as the device reads them in turn: from 'taken' on. -/
def Offered (M : List UInt8) (base taken off : Int) (hs : List Int) : Prop := (off - taken) % 65536 = hs.length ∧ offI M base 32 = off ∧ ∀ (i : Nat) (h : i < hs.length), offHead M base 32 ((taken + i) % 65536) = hs[i]
end
end Go.Proofs.YtdchlnffbiooaaaGreatDoor

namespace Go.Proofs.YtdchlnffbiooaaaGreatDoor
set_option linter.unusedVariables false

theorem off_slot (lm : List UInt8) (at_ : Int) (s : Shp) (o : Ord) (hd : (dataL s o).length ≤ 64) (base t : Int) (ha : base + 848 ≤ at_) : offHead (slotL lm at_ s o) base 32 t = offHead lm base 32 t := by
  have r1 : t % ((32 : Nat) : Int) < 32 := Int.emod_lt_of_pos _ (by decide)
  unfold offHead
  rw [get_slot _ _ _ _ hd _ _ (by omega)]
theorem offI_slot (lm : List UInt8) (at_ : Int) (s : Shp) (o : Ord) (hd : (dataL s o).length ≤ 64) (base : Int) (ha : base + 848 ≤ at_) : offI (slotL lm at_ s o) base 32 = offI lm base 32 := by
  unfold offI
  rw [get_slot _ _ _ _ hd _ _ (by omega)]
theorem off_same (lm : List UInt8) (base off : Int) (b0 : 0 ≤ base) (b1 : base + 1616 ≤ lm.length) (ks : List Int) (l : List Bf) (h0 : 0 ≤ ks.headD 0) (h1 : ks.headD 0 ≤ 65535) : offHead (addL lm base 32 off ks l) base 32 off = ks.headD 0 := by
  have r0 : 0 ≤ off % ((32 : Nat) : Int) := Int.emod_nonneg _ (by decide)
  have r1 : off % ((32 : Nat) : Int) < 32 := Int.emod_lt_of_pos _ (by decide)
  unfold offHead addL
  generalize off % ((32 : Nat) : Int) = r at r0 r1 ⊢
  rw [put_apart _ _ _ _ _ _ (by omega)]
  exact put2 _ _ _ (by omega) (by rw [descs_length]; omega) h0 h1
theorem off_other (lm : List UInt8) (base off t : Int) (ks : List Int) (l : List Bf) (hk : ∀ k ∈ ks, 0 ≤ k ∧ k < ((32 : Nat) : Int)) (h : t % 32 ≠ off % 32) : offHead (addL lm base 32 off ks l) base 32 t = offHead lm base 32 t := by
  have r0 : 0 ≤ off % ((32 : Nat) : Int) := Int.emod_nonneg _ (by decide)
  have t0 : 0 ≤ t % ((32 : Nat) : Int) := Int.emod_nonneg _ (by decide)
  have h' : t % ((32 : Nat) : Int) ≠ off % ((32 : Nat) : Int) := h
  unfold offHead addL
  generalize off % ((32 : Nat) : Int) = r at r0 h' ⊢
  generalize t % ((32 : Nat) : Int) = z at t0 h' ⊢
  rw [put_apart _ _ _ _ _ _ (by omega), put_apart _ _ _ _ _ _ (by omega), descs_far lm base 32 ks l hk _ _ (by omega)]
theorem offI_add (lm : List UInt8) (base off : Int) (b0 : 0 ≤ base) (b1 : base + 1616 ≤ lm.length) (ks : List Int) (l : List Bf) : offI (addL lm base 32 off ks l) base 32 = (off + 1) % 65536 := by
  unfold offI addL
  exact put2 _ _ _ (by omega) (by rw [putL_length, descs_length]; omega) (by omega) (by omega)
theorem off_answer (lm : List UInt8) (base told k : Int) (x : Tkn) (ok : Bool) (d : ByteArray) (hx : base + 848 ≤ x.dat) (hs : base + 848 ≤ x.st) (t : Int) : offHead (answerL lm base told k x ok d) base 32 t = offHead lm base 32 t := by
  have r1 : t % ((32 : Nat) : Int) < 32 := Int.emod_lt_of_pos _ (by decide)
  unfold offHead
  rw [get_answer _ _ _ _ _ _ _ _ _ (by omega) hx hs]
theorem offI_answer (lm : List UInt8) (base told k : Int) (x : Tkn) (ok : Bool) (d : ByteArray) (hx : base + 848 ≤ x.dat) (hs : base + 848 ≤ x.st) : offI (answerL lm base told k x ok d) base 32 = offI lm base 32 := by
  unfold offI
  rw [get_answer _ _ _ _ _ _ _ _ _ (by omega) hx hs]
section
variable {M : List UInt8} {base taken off : Int} {hs : List Int}
theorem Offered.none (h : Offered M base taken off []) (t0 : 0 ≤ taken ∧ taken ≤ 65535) (o0 : 0 ≤ off ∧ off ≤ 65535) : off = taken := by
  have h1 : (off - taken) % 65536 = 0 := h.1
  omega
theorem Offered.take {x : Int} (h : Offered M base taken off (x :: hs)) (t0 : 0 ≤ taken ∧ taken ≤ 65535) (h8 : hs.length ≤ 8) : off ≠ taken ∧ (off - taken) % 65536 ≤ 32 ∧ offI M base 32 = off ∧ offHead M base 32 taken = x ∧ Offered M base ((taken + 1) % 65536) off hs := by
  obtain ⟨h1, h2, h3⟩ := h
  rw [List.length_cons] at h1
  refine ⟨by omega, by omega, h2, ?_, by omega, h2, fun i hi => ?_⟩
  · have := h3 0 (by simp)
    rw [show (taken + ((0 : Nat) : Int)) % 65536 = taken by omega] at this
    exact this
  · have := h3 (i + 1) (by simp; omega)
    rw [show (taken + ((i + 1 : Nat) : Int)) % 65536 = ((taken + 1) % 65536 + (i : Int)) % 65536 by omega] at this
    exact this
theorem Offered.submit (h : Offered M base taken off hs) (t0 : 0 ≤ taken ∧ taken ≤ 65535) (o0 : 0 ≤ off ∧ off ≤ 65535) (h8 : hs.length ≤ 8) (b0 : 0 ≤ base) (b1 : base + 1616 ≤ M.length) (at_ : Int) (ha : base + 848 ≤ at_) (s : Shp) (o : Ord) (hd : (dataL s o).length ≤ 64) (ks : List Int) (l : List Bf)
    (hk : ∀ k ∈ ks, 0 ≤ k ∧ k < ((32 : Nat) : Int)) (h0 : 0 ≤ ks.headD 0) (h1 : ks.headD 0 ≤ 65535) : Offered (addL (slotL M at_ s o) base 32 off ks l) base taken ((off + 1) % 65536) (hs ++ [ks.headD 0]) := by
  obtain ⟨e1, e2, e3⟩ := h
  refine ⟨by rw [List.length_append, List.length_singleton]; omega, offI_add _ base off b0 (by rw [slotL_length]; exact b1) ks l, fun i hi => ?_⟩
  rw [List.length_append, List.length_singleton] at hi
  by_cases hl : i < hs.length
  · rw [List.getElem_append_left hl, off_other _ base off _ ks l hk (by omega), off_slot _ _ _ _ hd _ _ ha]
    exact e3 i hl
  · have hie : i = hs.length := by omega
    subst hie
    rw [List.getElem_append_right (Nat.le_refl _)]
    simp only [Nat.sub_self, List.getElem_cons_zero]
    rw [show (taken + (hs.length : Int)) % 65536 = off by omega]
    exact off_same _ base off b0 (by rw [slotL_length]; exact b1) ks l h0 h1
theorem Offered.answer (h : Offered M base taken off hs) (told k : Int) (x : Tkn) (ok : Bool) (d : ByteArray) (hx : base + 848 ≤ x.dat) (hs2 : base + 848 ≤ x.st) : Offered (answerL M base told k x ok d) base taken off hs :=
  ⟨h.1, (offI_answer _ _ _ _ _ _ _ hx hs2).trans h.2.1, fun i hi => (off_answer _ _ _ _ _ _ _ hx hs2 _).trans (h.2.2 i hi)⟩
end
theorem map_one {α : Type} {f : α → Int} : ∀ {l : List α}, (l.map f).Nodup → ∀ {x y : α}, x ∈ l → y ∈ l → f x = f y → x = y
  | [], _, _, _, h, _, _ => by cases h
  | z :: l, hn, x, y, hx, hy, e => by
    rw [List.map_cons, List.nodup_cons] at hn
    rcases List.mem_cons.1 hx with h1 | h1
    · rcases List.mem_cons.1 hy with h2 | h2
      · rw [h1, h2]
      · exact absurd (List.mem_map.2 ⟨y, h2, by rw [← e, h1]⟩) hn.1
    · rcases List.mem_cons.1 hy with h2 | h2
      · exact absurd (List.mem_map.2 ⟨x, h1, by rw [e, h2]⟩) hn.1
      · exact map_one hn.2 h1 h2 e
theorem heads_one {cs : List Oc} (h : (cs.map fun z => z.c.head).Nodup) {x y : Oc} (hx : x ∈ cs) (hy : y ∈ cs) (e : x.c.head = y.c.head) : x = y := map_one h hx hy e
theorem snt_one {os : List Snt} (h : (os.map Snt.hd).Nodup) {x y : Snt} (hx : x ∈ os) (hy : y ∈ os) (e : x.hd = y.hd) : x = y := map_one h hx hy e
/-- One answer is there: it is told, and no more. -/
theorem told_one {lm : List UInt8} {base : Int} {os os' : List Snt} {cs cs' : List Oc} {back back' : Int} {l : List Dn} {d : Bool} (h : Told lm base os cs back l os' cs' back' d) (b0 : 0 ≤ back ∧ back ≤ 65535) (hu : usedI lm base 32 = (back + 1) % 65536)
    {x : Oc} {y : Snt} (hx : x ∈ cs) (hy : y ∈ os) (hyx : y.hd = x.c.head) (hn : usedNum lm base 32 back = x.c.head) (hl : usedLen lm base 32 back ≤ x.c.most) (hos : (os.map Snt.hd).Nodup) (hcs : (cs.map fun z => z.c.head).Nodup) :
    l = [ansF lm base y (usedLen lm base 32 back)] ∧ os' = (os.filter fun z => z.hd != y.hd) ∧ cs' = (cs.filter fun z => z.c.head != y.hd) ∧ back' = (back + 1) % 65536 ∧ d = false := by
  have hc0 : 0 < cs.length := List.length_pos_of_mem hx
  cases h with
  | stop _ _ _ h => exfalso; rw [hu] at h; omega
  | brk _ _ _ h hb =>
    exfalso
    rcases hb with hb | hb | ⟨z, hz, hz1, hz2⟩
    · rw [hu] at hb; omega
    · exact hb x hx hn.symm
    · have e : z = x := heads_one hcs hz hx (hz1.trans hn)
      subst e
      omega
  | step _ _ _ z hz y' hy' h hc hk hyk hl' l1 _ _ _ _ r =>
    have ey : y' = y := snt_one hos hy' hy (by rw [hyk, hn, hyx])
    subst ey
    have hst : l1 = [] ∧ os' = (os.filter fun z => z.hd != usedNum lm base 32 back) ∧ cs' = (cs.filter fun z => z.c.head != usedNum lm base 32 back) ∧ back' = (back + 1) % 65536 ∧ d = false := by
      cases r with
      | stop _ _ _ h => exact ⟨rfl, rfl, rfl, rfl, rfl⟩
      | brk _ _ _ h hb => exact absurd hu h
      | step _ _ _ z2 hz2 y2 hy2 h hc2 hk2 hyk2 hl2 l2 os2 cs2 back2 d2 r2 => exact absurd hu h
    obtain ⟨rfl, rfl, rfl, rfl, rfl⟩ := hst
    refine ⟨rfl, ?_, ?_, rfl, rfl⟩
    · rw [hyk]
    · rw [hyk]
end Go.Proofs.YtdchlnffbiooaaaGreatDoor

namespace Go.Proofs.YtdchlnffbiooaaaGreatDoor
set_option linter.unusedVariables false

/-- An order that is out: the driver's entry, its chain, the order, its shape's number. -/
structure En where
  y : Snt
  x : Oc
  o : Ord
  k : Nat
def En.hd (e : En) : Int := e.y.hd
def En.tkn (base : Int) (e : En) : Tkn := tknOf e.o (chainL (shpAt e.k) (slAt base e.y))
structure DL (M : List UInt8) (base off taken : Int) (ts : List (Int × Tkn)) (es : List En) (hs : List Int) : Prop where
  rd : ∀ e ∈ es, Rd M base e.y e.x e.o e.k
  ofd : Offered M base taken off hs
  split : (hs ++ ts.map (·.1)).Perm (es.map En.hd)
  nd : (es.map En.hd).Nodup
  sls : (es.map fun e => e.y.slot).Nodup
  tk : ∀ t ∈ ts, ∃ e ∈ es, e.hd = t.1 ∧ t.2 = e.tkn base
  few : es.length ≤ 8
  b0 : 0 ≤ base
  b1 : base + 1616 ≤ M.length
  b2 : M.length ≤ 65536
  t0 : 0 ≤ taken ∧ taken ≤ 65535
  o0 : 0 ≤ off ∧ off ≤ 65535
theorem tkn_any (k : Nat) (hk : k < 5) (o : Ord) (a : Int) : (tknOf o (chainL (shpAt k) a)).st = a + 80 ∧ ((tknOf o (chainL (shpAt k) a)).dat = a + 16 ∨ ((tknOf o (chainL (shpAt k) a)).dat = a + 80 ∧ k = 2)) ∧ (tknOf o (chainL (shpAt k) a)).read = (o.kind == 1) := by
  rcases k with _ | _ | _ | _ | _ | k
  · exact ⟨rfl, .inl rfl, rfl⟩
  · exact ⟨rfl, .inl rfl, rfl⟩
  · exact ⟨rfl, .inr ⟨rfl, rfl⟩, rfl⟩
  · exact ⟨rfl, .inl rfl, rfl⟩
  · exact ⟨rfl, .inl rfl, rfl⟩
  · omega
section
variable {M : List UInt8} {base off taken : Int} {ts : List (Int × Tkn)} {es : List En} {hs : List Int}
theorem DL.hs8 (d : DL M base off taken ts es hs) : hs.length ≤ 8 := by
  have := d.split.length_eq
  rw [List.length_append, List.length_map, List.length_map] at this
  have := d.few
  omega
theorem DL.submit (d : DL M base off taken ts es hs) (e : En) (h7 : es.length ≤ 7) (cs : List Oc) (hcs : cs = es.map En.x) (h3 : ∀ x ∈ cs, x.c.of.length ≤ 3) (kk : e.k < 5) (ke : e.o.kind = (shpAt e.k).kind) (km : mayOrd 512 e.o = true) (yk : e.y.kind = e.o.kind) (yh : e.y.hd = e.x.c.head)
    (sl : 0 ≤ e.y.slot ∧ e.y.slot < 8) (hx : e.x.c = newCh cs 32 (chainL (shpAt e.k) (slAt base e.y))) (hns : ∀ z ∈ es, z.y.slot ≠ e.y.slot) (hnh : ∀ z ∈ es, z.hd ≠ e.hd) :
    DL (addL (slotL M (slAt base e.y) (shpAt e.k) e.o) base 32 off e.x.c.of (chainL (shpAt e.k) (slAt base e.y))) base ((off + 1) % 65536) taken ts (es ++ [e]) (hs ++ [e.hd]) := by
  have hd64 : (dataL (shpAt e.k) e.o).length ≤ 64 := by rw [f_data e.k kk e.o ke km]; split <;> (try split) <;> omega
  have r := Rd.made M base off d.b0 d.b1 cs e.y e.x e.o e.k kk ke km yk yh sl hx h3 (by rw [hcs, List.length_map]; exact h7)
  have hhd : e.hd = e.x.c.of.headD 0 := yh.trans r.hd
  have hmem : e.x.c.of.headD 0 ∈ e.x.c.of := by
    have hl := r.ln
    cases ho : e.x.c.of with
    | nil => rw [ho] at hl; unfold chainL at hl; simp at hl
    | cons a l => simp
  have hb := r.ks _ hmem
  refine ⟨?_, ?_, ?_, ?_, ?_, ?_, by rw [List.length_append, List.length_singleton]; omega, d.b0, by rw [addL_length, slotL_length]; exact d.b1, by rw [addL_length, slotL_length]; exact d.b2, d.t0, by omega⟩
  · intro z hz
    rcases List.mem_append.1 hz with hz | hz
    · exact (d.rd z hz).submit off hd64 sl (hns z hz) (new_apart (by rw [hcs]; exact List.mem_map.2 ⟨z, hz, rfl⟩) hx) r.ks _
    · rw [List.mem_singleton] at hz; subst hz; exact r
  · rw [hhd]
    exact d.ofd.submit d.t0 d.o0 d.hs8 d.b0 d.b1 _ (by unfold slAt; omega) _ _ hd64 _ _ r.ks hb.1 (by omega)
  · rw [List.map_append, List.append_assoc]
    have p1 : (hs ++ ([e.hd] ++ ts.map (·.1))).Perm (hs ++ (ts.map (·.1) ++ [e.hd])) := List.perm_append_comm.append_left hs
    have p2 : (hs ++ (ts.map (·.1) ++ [e.hd])).Perm (es.map En.hd ++ [e].map En.hd) := by
      rw [← List.append_assoc]
      exact d.split.append_right [e.hd]
    exact p1.trans p2
  · rw [List.map_append, List.nodup_append]
    refine ⟨d.nd, by simp, fun a ha b hb => ?_⟩
    obtain ⟨z, hz, rfl⟩ := List.mem_map.1 ha
    simp at hb
    subst hb
    exact hnh z hz
  · rw [List.map_append, List.nodup_append]
    refine ⟨d.sls, by simp, fun a ha b hb => ?_⟩
    obtain ⟨z, hz, rfl⟩ := List.mem_map.1 ha
    simp at hb
    subst hb
    exact hns z hz
  · intro t ht
    obtain ⟨z, hz, h1, h2⟩ := d.tk t ht
    exact ⟨z, List.mem_append_left _ hz, h1, h2⟩
/-- What the device takes next. -/
theorem DL.next {h : Int} (d : DL M base off taken ts es (h :: hs)) : ∃ e ∈ es, e.hd = h ∧ off ≠ taken ∧ (off - taken) % 65536 ≤ 32 ∧ offI M base 32 = off ∧ offHead M base 32 taken = h ∧
    followF M base 32 32 h [] = some (chainL (shpAt e.k) (slAt base e.y)) ∧ askL M (chainL (shpAt e.k) (slAt base e.y)) = some e.o ∧ (∀ t ∈ ts, t.1 ≠ h) ∧ DL M base off ((taken + 1) % 65536) (ts ++ [(h, e.tkn base)]) es hs := by
  obtain ⟨f1, f2, f3, f4, f5⟩ := d.ofd.take d.t0 (by have := d.hs8; simp at this; omega)
  obtain ⟨e, he, hh⟩ := List.mem_map.1 (d.split.mem_iff.1 (by simp : h ∈ (h :: hs) ++ ts.map (·.1)))
  have r := d.rd e he
  obtain ⟨r1, r2⟩ := r.reads d.b0 d.b1 d.b2
  have hn := d.split.nodup_iff.2 d.nd
  rw [List.cons_append, List.nodup_cons] at hn
  refine ⟨e, he, hh, f1, f2, f3, f4, ?_, r2, fun t ht e' => hn.1 (List.mem_append_right _ (List.mem_map.2 ⟨t, ht, e'⟩)), { d with ofd := f5, split := ?_, tk := ?_, t0 := by omega }⟩
  · rw [← hh]
    have : e.hd = e.x.c.head := r.yh
    rw [this]
    exact r1
  · rw [List.map_append, ← List.append_assoc]
    refine (List.perm_append_comm (l₁ := hs ++ ts.map (·.1)) (l₂ := [h])).trans ?_
    exact d.split
  · intro t ht
    rcases List.mem_append.1 ht with ht | ht
    · exact d.tk t ht
    · rw [List.mem_singleton] at ht
      subst ht
      exact ⟨e, he, hh, rfl⟩
/-- An order that was taken is answered, and its answer told. -/
theorem DL.done (d : DL M base off taken ts es hs) {e : En} (he : e ∈ es) (hin : e.hd ∈ ts.map (·.1)) (told : Int) (ok : Bool) (dd : ByteArray) (h64 : dd.size ≤ 64) (hfl : e.k = 2 → dd.size = 0) :
    DL (answerL M base told e.hd (e.tkn base) ok dd) base off taken (ts.filter fun t => t.1 != e.hd) (es.filter fun z => z.hd != e.hd) hs := by
  have r := d.rd e he
  obtain ⟨t1, t2, _⟩ := tkn_any e.k r.kk e.o (slAt base e.y)
  have hs1 : (e.tkn base).st = slAt base e.y + 80 := t1
  have hd1 : slAt base e.y ≤ (e.tkn base).dat ∧ (e.tkn base).dat + dd.size ≤ slAt base e.y + 96 := by
    have t2' : (e.tkn base).dat = slAt base e.y + 16 ∨ ((e.tkn base).dat = slAt base e.y + 80 ∧ e.k = 2) := t2
    rcases t2' with h | ⟨h, h2⟩
    · omega
    · have := hfl h2; omega
  have hsl := r.sl
  have hdat : base + 848 ≤ (e.tkn base).dat := by have := hd1.1; unfold slAt at this; omega
  have hst : base + 848 ≤ (e.tkn base).st := by rw [hs1]; unfold slAt; omega
  have hn := d.split.nodup_iff.2 d.nd
  rw [List.nodup_append] at hn
  have hnh : e.hd ∉ hs := fun h => hn.2.2 e.hd h e.hd hin rfl
  refine ⟨?_, d.ofd.answer told _ _ ok dd hdat hst, ?_, d.nd.sublist (List.filter_sublist.map _), d.sls.sublist (List.filter_sublist.map _), ?_, Nat.le_trans (List.length_filter_le _ _) d.few, d.b0, by rw [answerL_length]; exact d.b1, by rw [answerL_length]; exact d.b2, d.t0, d.o0⟩
  · intro z hz
    obtain ⟨hz1, hz2⟩ := List.mem_filter.1 hz
    have hne : z.y.slot ≠ e.y.slot := fun h => by
      have := map_one d.sls hz1 he h
      subst this
      simp at hz2
    exact (d.rd z hz1).answer told _ _ ok dd r.sl hne hd1.1 hd1.2 hs1
  · have h := d.split.filter (fun x => x != e.hd)
    rw [List.filter_append] at h
    have e1 : hs.filter (fun x => x != e.hd) = hs := List.filter_eq_self.2 (fun x hx => by
      have : x ≠ e.hd := fun h => hnh (h ▸ hx)
      simpa using this)
    rw [e1, List.filter_map, List.filter_map] at h
    exact h
  · intro t ht
    obtain ⟨h1, h2⟩ := List.mem_filter.1 ht
    obtain ⟨z, hz, h3, h4⟩ := d.tk t h1
    exact ⟨z, List.mem_filter.2 ⟨hz, by rw [h3]; exact h2⟩, h3, h4⟩
end
end Go.Proofs.YtdchlnffbiooaaaGreatDoor

namespace Go.Proofs.YtdchlnffbiooaaaGreatDoor
open Go.RowKit Go.Sort
set_option linter.unusedVariables false

theorem ans_told (M : List UInt8) (base : Int) (b0 : 0 ≤ base) (b1 : base + 1616 ≤ M.length) (told h : Int) (h0 : 0 ≤ h) (h1 : h ≤ 65535) (t : Tkn) (ok : Bool) (dd : ByteArray) (h64 : dd.size ≤ 64) :
    usedI (answerL M base told h t ok dd) base 32 = (told + 1) % 65536 ∧ usedNum (answerL M base told h t ok dd) base 32 told = h ∧ usedLen (answerL M base told h t ok dd) base 32 told = dd.size + 1 := by
  have hl : base + usedAt ((32 : Nat) : Int) + 4 + 8 * ((32 : Nat) : Int) ≤ (putL (writeL M t.dat dd.data.toList) t.st 1 (if ok then 0 else 1)).length := by rw [putL_length, writeL_length, used32]; omega
  unfold answerL
  exact ⟨vdone_usedI _ base 32 b0 (by decide) (by decide) hl told _ _, vdone_num _ base 32 b0 (by decide) (by decide) hl told _ _ h0 (by omega), vdone_len _ base 32 b0 (by decide) (by decide) hl told _ _ (by omega) (by omega)⟩
theorem ba_list (d : ByteArray) : (⟨d.data.toList.toArray⟩ : ByteArray) = d := by cases d; simp
theorem ans_of {M : List UInt8} {base : Int} {e : En} (r : Rd M base e.y e.x e.o e.k) (b0 : 0 ≤ base) (b1 : base + 1616 ≤ M.length) (told h : Int) (dd : ByteArray) (hm : mayAns (e.tkn base) true dd = true) :
    ansF (answerL M base told h (e.tkn base) true dd) base e.y (dd.size + 1) = ⟨e.y.id, true, dd⟩ := by
  obtain ⟨t1, t2, t3⟩ := tkn_any e.k r.kk e.o (slAt base e.y)
  have hs1 : (e.tkn base).st = slAt base e.y + 80 := t1
  have hr1 : (e.tkn base).read = (e.o.kind == 1) := t3
  have hsl := r.sl
  have hst : base + 848 ≤ (e.tkn base).st := by rw [hs1]; unfold slAt; omega
  have t2' : (e.tkn base).dat = slAt base e.y + 16 ∨ ((e.tkn base).dat = slAt base e.y + 80 ∧ e.k = 2) := t2
  have hdat : base + 848 ≤ (e.tkn base).dat := by rcases t2' with h | ⟨h, _⟩ <;> rw [h] <;> unfold slAt <;> omega
  have h64 := mayAns_size hm
  have e1 : ansS (answerL M base told h (e.tkn base) true dd) base e.y.slot = 0 := by
    have := answer_stat M base told h (e.tkn base) true dd hdat hst b0 (by rw [hs1]; unfold slAt; omega)
    rw [hs1] at this
    exact this
  by_cases hk : e.o.kind = 1
  · have hyk : e.y.kind = 1 := r.yk.trans hk
    have hread : (e.tkn base).read = true := by rw [hr1, hk]; rfl
    have hsz : dd.size = 64 := by
      unfold mayAns at hm
      rw [hread] at hm
      simpa using hm
    have hk0 : e.k = 0 := by
      have h1 := r.ke
      have h2 := r.kk
      rw [hk] at h1
      rcases (show e.k = 0 ∨ e.k = 1 ∨ e.k = 2 ∨ e.k = 3 ∨ e.k = 4 by omega) with h | h | h | h | h <;> rw [h] at h1 <;> first | exact h | exact absurd h1 (by decide)
    have hda : (e.tkn base).dat = slAt base e.y + 16 := by
      rcases t2' with h | ⟨_, h⟩
      · exact h
      · omega
    have hd := answer_data M base told h (e.tkn base) true dd hdat b0 (by rw [hda, hs1]; omega) (by rw [hda]; unfold slAt; omega)
    rw [hda, hsz] at hd
    unfold ansF
    rw [if_neg (by rw [e1, hyk, hsz]; decide), if_pos hyk]
    have hd' : textS (answerL M base told h (e.tkn base) true dd) (base + 848 + 96 * e.y.slot + 16) 64 = dd.data.toList := hd
    rw [hd', ba_list]
  · have hyk : e.y.kind ≠ 1 := fun h => hk (r.yk.symm.trans h)
    have hread : (e.tkn base).read = false := by rw [hr1]; simpa using hk
    have hdd : dd = ⟨#[]⟩ := by
      unfold mayAns at hm
      rw [hread] at hm
      have h1 : dd.toList = [] := by simpa using hm
      rw [ByteArray.toList_eq] at h1
      have h2 : dd.data = #[] := by
        apply Array.ext'
        simpa using h1
      cases dd
      simp only at h2
      rw [h2]
    unfold ansF
    rw [if_neg (by rw [e1]; simp [hyk]), if_neg hyk, hdd]
theorem may_up {o : Ord} (h : mayOrd 8 o = true) : mayOrd 512 o = true := by
  unfold mayOrd at h ⊢
  simp only [Bool.and_eq_true, decide_eq_true_eq] at h ⊢
  split at h <;> simp_all <;> omega
structure DX (w0 w : World) (K : OBl) (M : List UInt8) (off back taken : Int) (ts : List (Int × Tkn)) (es : List En) (hs : List Int) (last : Int) : Prop where
  ks : KS w K.b K.g K.h K.q K.u K.mb M 16 8 1000 (es.map En.y) (es.map En.x) off back false last 0 false
  rs : RS w K.r K.g K.h K.p K.v M 16 taken back ts
  dl : DL M 16 off taken ts es hs
  len : M.length = 4096
  lo : w0.heap.size ≤ K.b ∧ w0.heap.size ≤ K.g ∧ w0.heap.size ≤ K.h ∧ w0.heap.size ≤ K.q ∧ w0.heap.size ≤ K.u ∧ w0.heap.size ≤ K.mb
  mid : K.b < K.z ∧ K.g < K.z ∧ K.h < K.z ∧ K.q < K.z ∧ K.u < K.z ∧ K.mb < K.z
  hi : K.z ≤ K.r ∧ K.z ≤ K.p ∧ K.z ≤ K.v
  bel : Below w0.heap.size w0 w
  sh : Shapes w0
section
variable {w0 w w' : World} {K : OBl} {M M' : List UInt8} {off back taken off' back' taken' : Int} {ts ts' : List (Int × Tkn)} {es es' : List En} {hs hs' : List Int} {last last' : Int}
theorem DX.shp (x : DX w0 w K M off back taken ts es hs last) : Shapes w := x.sh.kept (x.bel.block 0 x.sh.pos)
theorem DX.grown (x : DX w0 w K M off back taken ts es hs last) (k : w.grownBy w' none) : DX w0 w' K M off back taken ts es hs last :=
  { x with ks := x.ks.grown k, rs := x.rs.grown k, bel := x.bel.grown k x.bel.size (fun j e => by cases e) }
theorem DX.drv (x : DX w0 w K M off back taken ts es hs last) (t : Turned (KB K.b K.q K.h K.mb K.u) w w') (ks : KS w' K.b K.g K.h K.q K.u K.mb M' 16 8 1000 (es'.map En.y) (es'.map En.x) off' back' false last' 0 false) (hl : M'.length = M.length) (hb : back' = back) (dl : DL M' 16 off' taken ts es' hs') :
    DX w0 w' K M' off' back' taken ts es' hs' last' := by
  obtain ⟨l1, l2, l3, l4, l5, l6⟩ := x.lo
  obtain ⟨m1, m2, m3, m4, m5, m6⟩ := x.mid
  obtain ⟨h1, h2, h3⟩ := x.hi
  have nk : ∀ j, K.z ≤ j → ¬ KB K.b K.q K.h K.mb K.u j := by
    rintro j hj (e | e | e | e | e) <;> omega
  subst hb
  exact ⟨ks, x.rs.other t (nk _ h1) (nk _ h2) (nk _ h3) ks.qs.mem hl, dl, hl.trans x.len, x.lo, x.mid, x.hi, x.bel.trans (t.below x.bel.size (by rintro j (e | e | e | e | e) <;> omega)), x.sh⟩
/-- What the driver's and the device's calls may turn. -/
def DB (K : OBl) : Nat → Prop := fun j => KB K.b K.q K.h K.mb K.u j ∨ RB K.h K.p K.v j
theorem dk_submit (x : DX w0 w K M off back taken ts es hs last) (o : Ord) (k : Nat) (kk : k < 5) (ke : o.kind = (shpAt k).kind) (km : mayOrd 8 o = true) (h7 : es.length ≤ 7) (hlast : last ≤ 1000000) :
    Calls Tryz.prog 9 #[.pointer (some ⟨K.b, 0, none⟩), o.val] w fun e w' => ∃ (M' : List UInt8) (en : En), e = .returned (.tuple #[.int .i64 (last + 1), .int .i64 0]) ∧ en.o = o ∧ en.y.id = last + 1 ∧ DX w0 w' K M' ((off + 1) % 65536) back taken ts (es ++ [en]) (hs ++ [en.hd]) (last + 1) ∧ Turned (DB K) w w' := by
  refine (Submit_ok w _ _ _ _ _ _ M 16 8 1000 (es.map En.y) (es.map En.x) off back false last 0 false x.ks o rfl x.shp k kk ke km (by rw [List.length_map]; omega) rfl (by omega) hlast).mono ?_
  rintro e w' ⟨y, xc, rfl, h1, h2, h3, h4, ⟨s0, s1, s2⟩, _, h5, h6, t⟩
  have hnd := os_nodup h6
  rw [List.map_append, List.nodup_append] at hnd
  have hd := x.dl.submit ⟨y, xc, o, k⟩ h7 (es.map En.x) rfl x.ks.three kk ke (may_up km) h2 h4 ⟨s0, s1⟩ h5 (fun z hz => s2 z.y (List.mem_map.2 ⟨z, hz, rfl⟩)) (fun z hz e => hnd.2.2 z.y.hd (List.mem_map.2 ⟨z.y, List.mem_map.2 ⟨z, hz, rfl⟩, rfl⟩) y.hd (by simp) e)
  refine ⟨_, ⟨y, xc, o, k⟩, rfl, rfl, h1, x.drv t (es' := es ++ [⟨y, xc, o, k⟩]) ?_ ?_ rfl hd, t.mono (fun _ _ => .inl)⟩
  · rw [List.map_append, List.map_append]
    exact h6
  · rw [addL_length, slotL_length]
end
end Go.Proofs.YtdchlnffbiooaaaGreatDoor

namespace Go.Proofs.YtdchlnffbiooaaaGreatDoor
open Go.RowKit Go.Sort
set_option linter.unusedVariables false

set_option maxRecDepth 100000 in
set_option maxHeartbeats 4000000 in
theorem RNext_nothing (w : World) (r g h p u : Nat) (lm : List UInt8) (base taken told : Int) (ts : List (Int × Tkn)) (hS : Shapes w) (hp0 : p ≠ 0) (s : RS w r g h p u lm base taken told ts)
    (hb : Hid (offI lm base 32 = taken)) :
    Calls Tryz.prog 10 #[.pointer (some ⟨r, 0, none⟩)] w (fun e w' => e = .returned (.tuple #[.int .i64 0, .agg #[.int .i64 0, .int .i64 0, .string ⟨#[]⟩], .int .i64 4]) ∧ RS w' r g h p u lm base taken told ts ∧ Turned (RB h p u) w w') := by
  have ka := World.grownBy_alloc w (.cells #[.int .i64 0, .int .i64 0, .string ⟨#[]⟩] 39) none
  have hrb := heap_alloc_new w (.cells #[.int .i64 0, .int .i64 0, .string ⟨#[]⟩] 39)
  have S1 := Lib.hid (s.grown ka)
  have SH := Lib.hid (hS.grown ka)
  obtain ⟨lr, lg, lh, lp, lu⟩ := s.lts
  have LT := Lib.hid (show r ≠ w.heap.size ∧ g ≠ w.heap.size ∧ h ≠ w.heap.size ∧ p ≠ w.heap.size ∧ u ≠ w.heap.size from ⟨by omega, by omega, by omega, by omega, by omega⟩)
  have HZ : Hid (p ≠ 0) := Lib.hid hp0
  have RB1 := Lib.hid hrb
  have KA := Lib.hid ka
  clear hS s hrb ka lr lg lh lp lu hp0
  go_enter Tryz.func10, Tryz.ntmps10
  go_upto_region 1 with fail
  generalize w.alloc _ = W1 at S1 SH RB1 KA ⊢
  have c3 := S1.out.ra.c3
  have c1 := S1.out.ra.c1
  go_wp2_with (go_at_call 28; refine (rnone_no _ _ c3).mono ?_; rintro e w' ⟨rfl, rfl⟩)
  refine (vNext_any W1 p g h lm base 32 taken told S1.out.ps).mono ?_
  rintro e w2 hpost
  have fin : ∀ (W : World), W.heap[w.heap.size]? = some (.cells #[.int .i64 0, .int .i64 0, .string ⟨#[]⟩] 39 (0, 0)) → RS W r g h p u lm base taken told ts → Turned (RB h p u) w W →
      Hid (RS (((W.setCell ⟨w.heap.size, 0, none⟩ (.int .i64 0)).setCell ⟨w.heap.size, 1, none⟩ (.int .i64 0)).setCell ⟨w.heap.size, 2, none⟩ (.string ⟨#[]⟩)) r g h p u lm base taken told ts ∧ Turned (RB h p u) w (((W.setCell ⟨w.heap.size, 0, none⟩ (.int .i64 0)).setCell ⟨w.heap.size, 1, none⟩ (.int .i64 0)).setCell ⟨w.heap.size, 2, none⟩ (.string ⟨#[]⟩))) :=
    fun W hb hr ht => ⟨hr.setThree _ _ _ ⟨fun e => LT.out.1 e.symm, fun e => LT.out.2.1 e.symm, fun e => LT.out.2.2.1 e.symm, fun e => LT.out.2.2.2.1 e.symm, fun e => LT.out.2.2.2.2 e.symm⟩, ht.setThree _ _ _⟩
  have FIN := Lib.hid fin
  clear fin
  rcases hpost with ⟨_, rfl, k2⟩ | ⟨h, _, rfl, k2⟩ | ⟨l, v, h, _⟩
  · have hb2 := (k2.block _ (lt_of_block RB1.out) (by simp)).trans RB1.out
    have FF := FIN.out w2 hb2 (S1.out.grown k2) ((Turned.of KA.out (fun j e => by cases e)).step k2 (fun j e => by cases e))
    have f0 := frozen_of_block (i := 0) hb2
    have f1 := frozen_of_block (i := 1) hb2
    have f2 := frozen_of_block (i := 2) hb2
    have d0 : w2.cell? ⟨w.heap.size, 0, none⟩ = some (.int .i64 0) := cell_of_block hb2
    have d1 : w2.cell? ⟨w.heap.size, 1, none⟩ = some (.int .i64 0) := cell_of_block hb2
    have d2 : w2.cell? ⟨w.heap.size, 2, none⟩ = some (.string ⟨#[]⟩) := cell_of_block hb2
    have RB2 := Lib.hid hb2
    have K2 := Lib.hid (KA.out.trans k2)
    clear c1 c3 k2 hb2 S1 SH RB1 KA FIN
    go_wp2_with fail
    exact ord_out RB2.out K2.out ⟨0, 0, ⟨#[]⟩⟩ (fun q0 q1 q2 => bodyPost_ret (v := .tuple #[.int .i64 0, .agg #[.int .i64 0, .int .i64 0, .string ⟨#[]⟩], .int .i64 4]) (by simp [results, Tryz.results10, go_sem, q0, q1, q2]) rfl ⟨rfl, FF.out⟩)
  · exact absurd hb.out h
  · exact absurd hb.out h
section
variable {w0 w w' : World} {K : OBl} {M M' : List UInt8} {off back taken taken' : Int} {ts ts' : List (Int × Tkn)} {es : List En} {hs hs' : List Int} {last : Int} {h : Int}
theorem DX.dev (x : DX w0 w K M off back taken ts es hs last) (t : Turned (RB K.h K.p K.v) w w') (rs : RS w' K.r K.g K.h K.p K.v M 16 taken' back ts') (dl : DL M 16 off taken' ts' es hs') :
    DX w0 w' K M off back taken' ts' es hs' last := by
  obtain ⟨l1, l2, l3, l4, l5, l6⟩ := x.lo
  obtain ⟨m1, m2, m3, m4, m5, m6⟩ := x.mid
  obtain ⟨h1, h2, h3⟩ := x.hi
  exact ⟨x.ks.device x.rs t rs.ps.mem rfl (by omega) (by omega), rs, dl, x.len, x.lo, x.mid, x.hi, x.bel.trans (t.below x.bel.size (by rintro j (e | e | e) <;> omega)), x.sh⟩
theorem DX.p0 (x : DX w0 w K M off back taken ts es hs last) : K.p ≠ 0 := by have := x.sh.pos; have := x.lo; have := x.mid; have := x.hi; omega
theorem dk_next (x : DX w0 w K M off back taken ts es (h :: hs) last) : Calls Tryz.prog 10 #[.pointer (some ⟨K.r, 0, none⟩)] w fun e w' =>
    ∃ en ∈ es, en.hd = h ∧ e = .returned (.tuple #[.int .i64 h, en.o.val, .int .i64 0]) ∧ DX w0 w' K M off back ((taken + 1) % 65536) (ts ++ [(h, en.tkn 16)]) es hs last ∧ Turned (DB K) w w' := by
  obtain ⟨en, he, h1, f1, f2, f3, f4, f5, f6, f7, f8⟩ := x.dl.next
  refine (RNext_ok w K.r K.g K.h K.p K.v M 16 taken back ts x.shp x.p0 x.rs h _ en.o (by rw [f3]; exact f1) (by rw [f3]; exact f2) (Lib.hid f4) (Lib.hid f5) (Lib.hid f6) f7).mono ?_
  rintro e w' ⟨rfl, r', t'⟩
  exact ⟨en, he, h1, rfl, x.dev t' r' f8, t'.mono (fun _ _ => .inr)⟩
theorem dk_nothing (x : DX w0 w K M off back taken ts es [] last) : Calls Tryz.prog 10 #[.pointer (some ⟨K.r, 0, none⟩)] w fun e w' =>
    e = .returned (.tuple #[.int .i64 0, .agg #[.int .i64 0, .int .i64 0, .string ⟨#[]⟩], .int .i64 4]) ∧ DX w0 w' K M off back taken ts es [] last ∧ Turned (DB K) w w' := by
  have h := x.dl.ofd.none x.dl.t0 x.dl.o0
  refine (RNext_nothing w K.r K.g K.h K.p K.v M 16 taken back ts x.shp x.p0 x.rs (Lib.hid (by rw [x.dl.ofd.2.1]; exact h))).mono ?_
  rintro e w' ⟨rfl, r', t'⟩
  exact ⟨rfl, x.dev t' r' x.dl, t'.mono (fun _ _ => .inr)⟩
end
end Go.Proofs.YtdchlnffbiooaaaGreatDoor

namespace Go.Proofs.YtdchlnffbiooaaaGreatDoor
open Go.RowKit Go.Sort
set_option linter.unusedVariables false

theorem may_no {t : Tkn} {dd : ByteArray} (hm : mayAns t true dd = true) (hr : t.read = false) : dd.size = 0 := by
  unfold mayAns at hm
  rw [hr] at hm
  have h1 : dd.toList = [] := by simpa using hm
  rw [ByteArray.toList_eq] at h1
  show dd.data.size = 0
  rw [← Array.length_toList, h1]
  rfl
theorem Rd.kind {M : List UInt8} {base : Int} {y : Snt} {x : Oc} {o : Ord} {k : Nat} (r : Rd M base y x o k) (h : k ≠ 0) : (o.kind == 1) = false := by
  have h1 := r.ke
  have h2 := r.kk
  rcases (show k = 1 ∨ k = 2 ∨ k = 3 ∨ k = 4 by omega) with rfl | rfl | rfl | rfl <;> rw [h1] <;> decide
/-- Driver and device, when an order was answered that was not polled yet. -/
structure DY (w0 w : World) (K : OBl) (M : List UInt8) (off back taken : Int) (ts : List (Int × Tkn)) (es : List En) (hs : List Int) (last : Int) (en : En) (dd : ByteArray) : Prop where
  ks : KS w K.b K.g K.h K.q K.u K.mb M 16 8 1000 (es.map En.y) (es.map En.x) off back false last 0 false
  rs : RS w K.r K.g K.h K.p K.v M 16 taken ((back + 1) % 65536) ts
  dl : DL M 16 off taken ts (es.filter fun z => z.hd != en.hd) hs
  ui : usedI M 16 32 = (back + 1) % 65536
  un : usedNum M 16 32 back = en.hd
  ul : usedLen M 16 32 back = dd.size + 1
  an : ansF M 16 en.y (dd.size + 1) = ⟨en.y.id, true, dd⟩
  he : en ∈ es
  mo : (dd.size : Int) + 1 ≤ en.x.c.most
  hh : ∀ z ∈ es, z.x.c.head = z.hd
  len : M.length = 4096
  lo : w0.heap.size ≤ K.b ∧ w0.heap.size ≤ K.g ∧ w0.heap.size ≤ K.h ∧ w0.heap.size ≤ K.q ∧ w0.heap.size ≤ K.u ∧ w0.heap.size ≤ K.mb
  mid : K.b < K.z ∧ K.g < K.z ∧ K.h < K.z ∧ K.q < K.z ∧ K.u < K.z ∧ K.mb < K.z
  hi : K.z ≤ K.r ∧ K.z ≤ K.p ∧ K.z ≤ K.v
  bel : Below w0.heap.size w0 w
  sh : Shapes w0
section
variable {w0 w w' : World} {K : OBl} {M M' : List UInt8} {off back taken taken' : Int} {ts ts' : List (Int × Tkn)} {es : List En} {hs hs' : List Int} {last : Int} {en : En} {dd : ByteArray}
theorem dk_done (x : DX w0 w K M off back taken ts es hs last) (he : en ∈ es) (hin : (en.hd, en.tkn 16) ∈ ts) (dd : ByteArray) (hm : mayAns (en.tkn 16) true dd = true) :
    Calls Tryz.prog 11 #[.pointer (some ⟨K.r, 0, none⟩), .int .i64 en.hd, .bool true, .string dd] w fun e w' =>
      e = .returned (.int .i64 0) ∧ DY w0 w' K (answerL M 16 back en.hd (en.tkn 16) true dd) off back taken (ts.filter fun t => t.1 != en.hd) es hs last en dd ∧ Turned (DB K) w w' := by
  have r := x.dl.rd en he
  have hhd : en.x.c.head ∈ en.x.c.of := x.ks.qs.heads en.x (List.mem_map.2 ⟨en, he, rfl⟩)
  have hhe : en.hd = en.x.c.head := r.yh
  have hb := r.ks _ hhd
  rw [← hhe] at hb
  have h64 := mayAns_size hm
  obtain ⟨_, _, t3⟩ := tkn_any en.k r.kk en.o (slAt 16 en.y)
  have hr1 : (en.tkn 16).read = (en.o.kind == 1) := t3
  have hz : en.k ≠ 0 → dd.size = 0 := fun h => may_no hm (hr1.trans (r.kind h))
  obtain ⟨a1, a2, a3⟩ := ans_told M 16 (by decide) (by rw [x.len]; decide) back en.hd hb.1 (by omega) (en.tkn 16) true dd h64
  obtain ⟨l1, l2, l3, l4, l5, l6⟩ := x.lo
  obtain ⟨m1, m2, m3, m4, m5, m6⟩ := x.mid
  obtain ⟨h1, h2, h3⟩ := x.hi
  refine (RDone_ok w K.r K.g K.h K.p K.v M 16 taken back ts x.rs en.hd hb.1 (by omega) (en.tkn 16) hin true dd hm).mono ?_
  rintro e w' ⟨rfl, r', t'⟩
  refine ⟨rfl, ⟨x.ks.device x.rs t' r'.ps.mem (answerL_length _ _ _ _ _ _ _) (by omega) (by omega), r', x.dl.done he (List.mem_map.2 ⟨_, hin, rfl⟩) back true dd h64 (fun h => hz (by omega)), a1, a2, a3, ans_of r (by decide) (by rw [x.len]; decide) back en.hd dd hm, he, ?_, fun z hz => (x.dl.rd z hz).yh.symm, (answerL_length _ _ _ _ _ _ _).trans x.len, x.lo, x.mid, x.hi, x.bel.trans (t'.below x.bel.size (by rintro j (e | e | e) <;> omega)), x.sh⟩, t'.mono (fun _ _ => .inr)⟩
  rw [r.mo]
  split
  · omega
  · rename_i h
    have := hz h
    omega
theorem dk_poll (x : DY w0 w K M off back taken ts es hs last en dd) : Calls Tryz.prog 12 #[.pointer (some ⟨K.b, 0, none⟩)] w fun e w' =>
    ∃ v, e = .returned v ∧ OwnDns w.heap.size w' v [⟨en.y.id, true, dd⟩] ∧ DX w0 w' K M off ((back + 1) % 65536) taken ts (es.filter fun z => z.hd != en.hd) hs last ∧ Turned (DB K) w w' := by
  obtain ⟨l1, l2, l3, l4, l5, l6⟩ := x.lo
  obtain ⟨m1, m2, m3, m4, m5, m6⟩ := x.mid
  obtain ⟨h1, h2, h3⟩ := x.hi
  have nk : ∀ j, K.z ≤ j → ¬ KB K.b K.q K.h K.mb K.u j := by
    rintro j hj (e | e | e | e | e) <;> omega
  refine (Poll_l w _ _ _ _ _ _ M 16 8 1000 (es.map En.y) (es.map En.x) off back last 0 x.ks).mono ?_
  rintro e w' ⟨v, n1, os1, n2, d, w1, he, hown, ⟨cs1, back1, ht, hks⟩, t1, hf, htr⟩
  have hhe : en.y.hd = en.x.c.head := (x.hh en x.he).symm
  obtain ⟨rfl, rfl, rfl, rfl, rfl⟩ := told_one ht ⟨x.ks.qs.back0, x.ks.qs.back1⟩ x.ui (x := en.x) (y := en.y) (List.mem_map.2 ⟨en, x.he, rfl⟩) (List.mem_map.2 ⟨en, x.he, rfl⟩) hhe (x.un.trans hhe) (by rw [x.ul]; exact x.mo) (os_nodup x.ks) (heads_nodup x.ks.qs)
  obtain ⟨rfl, rfl⟩ := hf rfl
  rw [List.append_nil, x.ul, x.an] at hown
  have e1 : ((es.map En.y).filter fun z => z.hd != en.y.hd) = (es.filter fun z => z.hd != en.hd).map En.y := by rw [List.filter_map]; rfl
  have e2 : ((es.map En.x).filter fun z => z.c.head != en.y.hd) = (es.filter fun z => z.hd != en.hd).map En.x := by
    rw [List.filter_map]
    congr 1
    refine List.filter_congr fun z hz => ?_
    show (z.x.c.head != en.y.hd) = (z.hd != en.hd)
    rw [x.hh z hz]
    rfl
  rw [e1, e2] at hks
  exact ⟨v, he, hown, ⟨hks, x.rs.other t1 (nk _ h1) (nk _ h2) (nk _ h3) hks.qs.mem rfl, x.dl, x.len, x.lo, x.mid, x.hi, x.bel.trans (t1.below x.bel.size (by rintro j (e | e | e | e | e) <;> omega)), x.sh⟩, t1.mono (fun _ _ => .inl)⟩
end
end Go.Proofs.YtdchlnffbiooaaaGreatDoor

namespace Go.Proofs.YtdchlnffbiooaaaGreatDoor
open Go.RowKit Go.Sort
set_option linter.unusedVariables false

def dM0 : List UInt8 := madeL (List.replicate (4096 : Int).toNat 0) 16
theorem dM0_len : dM0.length = 4096 := by unfold dM0; rw [madeL_length, List.length_replicate]; rfl
theorem d_bar (n : Nat) (h : n = 4096) : blkBar n 16 true = 0 := by rw [h]; decide +kernel
theorem d_offI : offI dM0 16 32 = 0 := by decide +kernel
theorem dl_nothing : DL dM0 16 0 0 [] [] [] :=
  ⟨(fun e he => by cases he), ⟨by decide, d_offI, fun i hi => by cases hi⟩, List.Perm.refl _, List.nodup_nil, List.nodup_nil, (fun t ht => by cases ht), by decide, by decide, by rw [dM0_len]; decide, by rw [dM0_len]; decide, by decide, by decide⟩
/-- The answer that the statement hands in may be. -/
theorem may_yes {M : List UInt8} {base : Int} {e : En} (r : Rd M base e.y e.x e.o e.k) (dd : ByteArray) (h1 : e.o.kind = 1 → dd.size = 64) (h2 : e.o.kind ≠ 1 → dd = ⟨#[]⟩) : mayAns (e.tkn base) true dd = true := by
  obtain ⟨_, _, t3⟩ := tkn_any e.k r.kk e.o (slAt base e.y)
  have hr1 : (e.tkn base).read = (e.o.kind == 1) := t3
  unfold mayAns
  rw [hr1]
  by_cases h : e.o.kind = 1
  · rw [h]
    simpa using h1 h
  · have h3 : (e.o.kind == 1) = false := by simpa using h
    rw [h3, h2 h, if_neg (by decide), ByteArray.toList_eq]
    rfl
section
variable {w0 w w' : World} {K : OBl} {M : List UInt8} {off back taken : Int} {ts : List (Int × Tkn)} {es : List En} {hs : List Int} {last : Int}
theorem dk_full (x : DX w0 w K M off back taken ts es hs last) (o : Ord) (k : Nat) (kk : k < 5) (ke : o.kind = (shpAt k).kind) (km : mayOrd 8 o = true) (h8 : 8 ≤ es.length) :
    Calls Tryz.prog 9 #[.pointer (some ⟨K.b, 0, none⟩), o.val] w fun e w' => e = .returned (.tuple #[.int .i64 0, .int .i64 6]) ∧ DX w0 w' K M off back taken ts es hs last ∧ w.grownBy w' none :=
  (Submit_full w _ _ _ _ _ _ M 16 8 1000 (es.map En.y) (es.map En.x) off back false last 0 false x.ks o rfl x.shp k kk ke km (by rw [List.length_map]; exact h8)).mono fun e w' ⟨h1, h2⟩ => ⟨h1, x.grown h2, h2⟩
theorem DX.below (x : DX w0 w K M off back taken ts es hs last) (k : Below w.heap.size w w') : DX w0 w' K M off back taken ts es hs last :=
  x.grown ⟨k.os, k.tape, k.output, k.size, fun j hj _ => k.block j hj⟩
theorem dk_flight (x : DX w0 w K M off back taken ts es hs last) : Calls Tryz.prog 13 #[.pointer (some ⟨K.b, 0, none⟩)] w fun e w' => e = .returned (.int .i64 es.length) ∧ w = w' := by
  have h := kflight_any w K.b K.g 16 8 1000 K.q K.u last 0 false x.ks.kat _ x.ks.tab
  rw [List.length_map, List.length_map] at h
  exact h
theorem dk_dead (x : DX w0 w K M off back taken ts es hs last) : Calls Tryz.prog 14 #[.pointer (some ⟨K.b, 0, none⟩)] w fun e w' => e = .returned (.bool false) ∧ w = w' :=
  kdead_any w K.b K.g 16 8 1000 K.q K.u last 0 false x.ks.kat
end
end Go.Proofs.YtdchlnffbiooaaaGreatDoor

namespace Go.Proofs.YtdchlnffbiooaaaGreatDoor
open Go.RowKit Go.ChangeShapes Go.WideShapes Go.Deep Go.Sort
set_option linter.unusedVariables false

/-- A slice of numbers below 65536 that came in. -/
def U16At (w : World) (b o : Nat) (x : Int) : Prop := (0 ≤ x ∧ x ≤ 65535) ∧ w.cell? ⟨b, o, none⟩ = some (.int .u16 x)
def U16Row (w : World) (v : Value) (l : List Int) : Prop := RowAt (U16At w) 1 v l
theorem U16Row.below {w w' : World} {v : Value} {l : List Int} (h : U16Row w v l) (k : Below w.heap.size w w') : U16Row w' v l := h.mono fun _ _ _ _ ⟨h0, h1⟩ =>
  ⟨h0, by rw [World.cell?_of_block (w := w) (k.block _ (World.block_lt_of_cell? w _ h1))]; exact h1⟩
theorem open_u16row {H : Type} {enc : TypeId × Value → H} {w : World} {fuel : Nat} {v : Value} {x : DataW H × List MemPlace} (h : DataW.trod enc Tryz.prog w 0 (fun _ => true) true fuel 22 [v] = some x) : ∃ l, U16Row w v l := by
  refine open_row Tryz.underlying22 (by kernel_rfl) ?_ h
  intro a fuel cs x hc ht
  obtain ⟨_, hlen, hcell⟩ := World.cells?_some hc
  have hC : Tryz.prog.cellsOf 37 = 1 := by kernel_rfl
  rw [hC] at hlen hcell
  obtain ⟨u, rfl⟩ : ∃ u, cs = [u] := by
    match cs, hlen with
    | [u], _ => exact ⟨u, rfl⟩
  have c0 := hcell 0 (by omega)
  obtain ⟨n0, e0, _, w0⟩ := DataW.trod_int Tryz.underlying37 ht
  simp only [List.cons.injEq, and_true] at e0
  subst e0
  obtain ⟨b, o, sp⟩ := a
  have hs : sp = none := by simpa [Addr.add] using World.cell?_spot c0
  subst hs
  rw [vadd_plain] at c0
  refine ⟨n0, rfl, ?_, by simpa using c0⟩
  simp [Lit.wf, IntKind.min, IntKind.max, IntKind.bits, IntKind.signed] at w0
  omega
def PU16s (w : World) (p : Option Addr) (len : Nat) (l : List Int) : Prop := len = l.length ∧ ∃ cap, U16Row w (.slice p len cap) l
theorem open_u16s {H : Type} {enc : TypeId × Value → H} {w : World} {p : Option Addr} {len cap fuel : Nat} {x : DataW H × List MemPlace}
    (h : DataW.trod enc Tryz.prog w 0 (fun _ => true) true fuel 22 (Value.slice p len cap).cells.toList = some x) : ∃ l, PU16s w p len l := by
  obtain ⟨l, hl⟩ := open_u16row (v := .slice p len cap) h
  obtain ⟨_, _, e, _⟩ := RowAt.form hl
  injection e with _ e
  exact ⟨l, e, cap, hl⟩
end Go.Proofs.YtdchlnffbiooaaaGreatDoor

namespace Go.Proofs.YtdchlnffbiooaaaGreatDoor
open Go.RowKit Go.Sort
set_option linter.unusedVariables false

/-- What the device has: the head, the order. -/
structure Hd where
  h : Int
  o : Ord
def encH (d : Hd) : List Value := [.int .i64 d.h, .int .i64 d.o.kind, .int .i64 d.o.sec, .string d.o.data]
theorem encH_len (d : Hd) : (encH d).length = 4 := rfl
theorem encH_one (d : Hd) : ∀ u ∈ encH d, u.oneCell' = true := by
  intro u hu
  simp only [encH, List.mem_cons, List.not_mem_nil, or_false] at hu
  rcases hu with rfl | rfl | rfl | rfl <;> rfl
abbrev HdRow (w : World) (v : Value) (l : List Hd) : Prop := RowA 4 encH 46 w v l
/-- An order of the statement's. -/
def OrdOK (o : Ord) : Prop := mayOrd 8 o = true ∧ 1 ≤ o.kind ∧ o.kind ≤ 3
/-- What is out, what is asked, what the device has: they tell the same. -/
structure HR (ts : List (Int × Tkn)) (es : List En) (ms : List (Int × Value)) (hl : List Hd) : Prop where
  ids : ms.Perm (es.map fun e => (e.y.id, e.o.val))
  hds : hl.map Hd.h = ts.map (·.1)
  ok : ∀ d ∈ hl, ∃ en ∈ es, en.hd = d.h ∧ en.o = d.o
  ord : ∀ e ∈ es, OrdOK e.o
section
variable {ts : List (Int × Tkn)} {es : List En} {ms : List (Int × Value)} {hl : List Hd} {M : List UInt8} {off taken : Int} {hs : List Int}
theorem HR.nothing : HR [] [] [] [] := ⟨List.Perm.refl _, rfl, (fun d hd => by cases hd), (fun e he => by cases he)⟩
theorem HR.submit (x : HR ts es ms hl) (en : En) (o : Ord) (h : en.o = o) (ho : OrdOK o) (id : Int) (hi : en.y.id = id) : HR ts (es ++ [en]) (ms ++ [(id, o.val)]) hl :=
  ⟨by rw [List.map_append, List.map_singleton, h, hi]; exact x.ids.append_right _, x.hds, fun d hd => by
    obtain ⟨e, h1, h2⟩ := x.ok d hd
    exact ⟨e, List.mem_append_left _ h1, h2⟩, fun e he => by
    rcases List.mem_append.1 he with he | he
    · exact x.ord e he
    · rw [List.mem_singleton.1 he, h]; exact ho⟩
theorem HR.next (x : HR ts es ms hl) (en : En) (he : en ∈ es) (h : Int) (hh : en.hd = h) (t : Tkn) : HR (ts ++ [(h, t)]) es ms (hl ++ [⟨h, en.o⟩]) :=
  ⟨x.ids, by rw [List.map_append, List.map_append, x.hds]; rfl, fun d hd => by
    rcases List.mem_append.1 hd with hd | hd
    · exact x.ok d hd
    · rw [List.mem_singleton.1 hd]; exact ⟨en, he, hh, rfl⟩, x.ord⟩
theorem HR.len (x : HR ts es ms hl) : ms.length = es.length := by rw [x.ids.length_eq, List.length_map]
theorem HR.fresh (x : HR ts es ms hl) (id : Int) (h : ∀ e ∈ es, e.y.id ≠ id) : ∀ c ∈ ms, c.1 ≠ id := fun c hc e => by
  obtain ⟨en, h1, h2⟩ := List.mem_map.1 (x.ids.mem_iff.1 hc)
  exact h en h1 (by rw [← h2] at e; exact e)
theorem eraseIdx_map' {α β : Type} (f : α → β) : ∀ (l : List α) (i : Nat), (l.eraseIdx i).map f = (l.map f).eraseIdx i
  | [], i => by simp
  | a :: l, 0 => rfl
  | a :: l, i + 1 => by rw [List.eraseIdx_cons_succ, List.map_cons, List.map_cons, List.eraseIdx_cons_succ, eraseIdx_map' f l i]
theorem erase_headD : ∀ {l : List Int} (_ : l.Nodup) {j : Nat} {x : Int} (_ : l[j]? = some x), l.eraseIdx j = l.filter fun c => c != x
  | [], _, j, x, h => by simp at h
  | c :: l, hn, 0, x, h => by
    simp at h
    subst h
    simp only [List.nodup_cons] at hn
    simp only [List.eraseIdx_zero, List.tail_cons, bne_self_eq_false, Bool.false_eq_true, not_false_eq_true, List.filter_cons_of_neg]
    refine (List.filter_eq_self.2 fun d hd => ?_).symm
    have : d ≠ c := fun e => hn.1 (e ▸ hd)
    simpa using this
  | c :: l, hn, j + 1, x, h => by
    simp only [List.nodup_cons] at hn
    simp at h
    have hc : c ≠ x := fun e => hn.1 (e ▸ List.mem_of_getElem? h)
    rw [List.eraseIdx_cons_succ, List.filter_cons_of_pos (by simpa using hc), erase_headD hn.2 h]
/-- An order is answered: it is struck out everywhere. -/
theorem HR.done (x : HR ts es ms hl) (nt : (ts.map (·.1)).Nodup) (nh : (es.map En.hd).Nodup) (ni : (es.map fun e => e.y.id).Nodup) {k : Nat} {d : Hd} (hk : hl[k]? = some d) {en : En} (he : en ∈ es) (h1 : en.hd = d.h) :
    HR (ts.filter fun t => t.1 != en.hd) (es.filter fun z => z.hd != en.hd) (ms.filter fun c => c.1 != en.y.id) (hl.eraseIdx k) := by
  have inj : ∀ {f : En → Int} (_ : (es.map f).Nodup) {a b : En}, a ∈ es → b ∈ es → f a = f b → a = b := fun {f} hn {a b} ha hb e => by
    obtain ⟨i, hi, rfl⟩ := List.getElem_of_mem ha
    obtain ⟨j, hj, rfl⟩ := List.getElem_of_mem hb
    have := (List.getElem_inj (h₀ := by rw [List.length_map]; exact hi) (h₁ := by rw [List.length_map]; exact hj) hn).1 (by simpa using e)
    subst this
    rfl
  refine ⟨?_, ?_, ?_, fun e he => x.ord e (List.mem_filter.1 he).1⟩
  · have h2 := x.ids.filter (fun c => c.1 != en.y.id)
    rw [List.filter_map] at h2
    have e3 : (es.filter ((fun c : Int × Value => c.1 != en.y.id) ∘ fun e => (e.y.id, e.o.val))) = es.filter fun z => z.hd != en.hd := by
      refine List.filter_congr fun z hz => ?_
      show (z.y.id != en.y.id) = (z.hd != en.hd)
      by_cases e : z = en
      · subst e; simp
      · have n1 : z.y.id ≠ en.y.id := fun q => e (inj ni hz he q)
        have n2 : z.hd ≠ en.hd := fun q => e (inj nh hz he q)
        rw [bne_iff_ne.2 n1, bne_iff_ne.2 n2]
    rw [e3] at h2
    exact h2
  · have h2 : (hl.map Hd.h)[k]? = some en.hd := by rw [List.getElem?_map, hk, h1]; rfl
    rw [eraseIdx_map', erase_headD (by rw [x.hds]; exact nt) h2, x.hds, List.filter_map]
    rfl
  · intro z hz
    obtain ⟨i, hi, hzi⟩ := List.mem_eraseIdx_iff_getElem?.1 hz
    obtain ⟨e2, g1, g2, g3⟩ := x.ok z (List.mem_of_getElem? hzi)
    refine ⟨e2, List.mem_filter.2 ⟨g1, ?_⟩, g2, g3⟩
    rw [bne_iff_ne]
    intro q
    have a1 : (ts.map (·.1))[i]? = some en.hd := by rw [← x.hds, List.getElem?_map, hzi]; exact congrArg some (g2.symm.trans q)
    have a2 : (ts.map (·.1))[k]? = some en.hd := by rw [← x.hds, List.getElem?_map, hk]; exact congrArg some h1.symm
    have hil := (List.getElem?_eq_some_iff.1 a1).1
    have hkl := (List.getElem?_eq_some_iff.1 a2).1
    exact hi ((List.getElem_inj (h₀ := hil) (h₁ := hkl) nt).1 (by rw [(List.getElem?_eq_some_iff.1 a1).2, (List.getElem?_eq_some_iff.1 a2).2]))
/-- Where nothing is offered the device has all that is out. -/
theorem HR.all (x : HR ts es ms hl) (d : DL M 16 off taken ts es []) : hl.length = es.length ∧ (ts.map (·.1)).Nodup := by
  have h := d.split
  rw [List.nil_append] at h
  refine ⟨?_, h.nodup_iff.2 d.nd⟩
  have := congrArg List.length x.hds
  have h2 := h.length_eq
  rw [List.length_map, List.length_map] at this h2
  omega
/-- The order of what the device has, and its token. -/
theorem HR.entry (x : HR ts es ms hl) (d : DL M 16 off taken ts es []) {k : Nat} {z : Hd} (hk : hl[k]? = some z) : ∃ en ∈ es, en.hd = z.h ∧ en.o = z.o ∧ (en.hd, en.tkn 16) ∈ ts := by
  obtain ⟨en, h1, h2, h3⟩ := x.ok z (List.mem_of_getElem? hk)
  have hm : z.h ∈ ts.map (·.1) := by rw [← x.hds]; exact List.mem_map.2 ⟨z, List.mem_of_getElem? hk, rfl⟩
  obtain ⟨t, ht, ht1⟩ := List.mem_map.1 hm
  obtain ⟨e2, g1, g2, g3⟩ := d.tk t ht
  have : e2 = en := by
    obtain ⟨i, hi, rfl⟩ := List.getElem_of_mem g1
    obtain ⟨j, hj, rfl⟩ := List.getElem_of_mem h1
    have := (List.getElem_inj (h₀ := by rw [List.length_map]; exact hi) (h₁ := by rw [List.length_map]; exact hj) d.nd).1 (by rw [List.getElem_map, List.getElem_map, g2, h2]; exact ht1)
    subst this
    rfl
  subst this
  refine ⟨e2, h1, h2, h3, ?_⟩
  rw [← g3, g2]
  exact ht
end
theorem ids_nodupD {w : World} {b g h q u mb : Nat} {lm : List UInt8} {base sectors limit : Int} {es : List En} {cs : List Oc} {off back : Int} {broken : Bool} {last now : Int} {dead : Bool} (s : KS w b g h q u mb lm base sectors limit (es.map En.y) cs off back broken last now dead) : (es.map fun e => e.y.id).Nodup := by
  have := s.ids
  rw [List.map_map] at this
  exact this.imp (fun h => Int.ne_of_lt h)
/-- Driver and device, and beside them the statement's map, disk and row. -/
structure HC (w0 w : World) (K : OBl) (M : List UInt8) (off back taken : Int) (ts : List (Int × Tkn)) (es : List En) (hs : List Int) (last : Int) (ms : List (Int × Value)) (va : Value) (hl : List Hd) (kd : Nat) (dk : List UInt8) : Prop where
  dx : DX w0 w K M off back taken ts es hs last
  map : IsTab w K.o ms
  dsk : w.heap[kd]? = some (.cells (dk.map eb).toArray 34 (0, 0))
  row : HdRow w va hl
  hb : ∀ j, DB K j ∨ j = K.g ∨ j = K.r → j < kd
  ne : kd < K.o
  own : ∀ k, va.ownBlock = some k → K.o < k
  lo2 : w0.heap.size ≤ kd
  dkl : dk.length = 8
  bk : ∀ k, va.ownBlock = some k → ∀ e ∈ es, e.x.blk ≠ k
  emp : hl = [] → ∀ k, va.ownBlock = some k → w.heap[k]? = some (.cells #[] 46 (0, 0))
section
variable {w0 w w' : World} {K : OBl} {M M' : List UInt8} {off back taken off' back' taken' : Int} {ts ts' : List (Int × Tkn)} {es es' : List En} {hs hs' : List Int} {last last' : Int} {ms ms' : List (Int × Value)} {va va' : Value} {hl hl' : List Hd} {kd : Nat} {dk dk' : List UInt8}
theorem HC.lt (x : HC w0 w K M off back taken ts es hs last ms va hl kd dk) : kd < w.heap.size := (Array.getElem?_eq_some_iff.1 x.dsk).1
theorem HC.nob (x : HC w0 w K M off back taken ts es hs last ms va hl kd dk) {k : Nat} (hk : va.ownBlock = some k) : ¬ DB K k := fun e => by
  have := x.hb _ (.inl e)
  have := x.own k hk
  have := x.ne
  omega
theorem HC.calls (x : HC w0 w K M off back taken ts es hs last ms va hl kd dk) (d : DX w0 w' K M' off' back' taken' ts' es' hs' last') (t : Turned (DB K) w w') (sub : ∀ e ∈ es', e ∈ es) : HC w0 w' K M' off' back' taken' ts' es' hs' last' ms va hl kd dk :=
  ⟨d, x.map.kept (t.block _ x.map.lt (fun e => by have := x.hb _ (.inl e); have := x.ne; omega)), (t.block _ x.lt (fun e => by have := x.hb _ (.inl e); omega)).trans x.dsk,
    x.row.kept t.size (fun k hk => t.block k (x.row.lt k hk).2 (x.nob hk)), x.hb, x.ne, x.own, x.lo2, x.dkl, fun k hk e he => x.bk k hk e (sub e he), fun h k hk => (t.block k (x.row.lt k hk).2 (x.nob hk)).trans (x.emp h k hk)⟩
theorem HC.below (x : HC w0 w K M off back taken ts es hs last ms va hl kd dk) (b : Below w.heap.size w w') : HC w0 w' K M off back taken ts es hs last ms va hl kd dk :=
  ⟨x.dx.below b, x.map.kept (b.block _ x.map.lt), (b.block _ x.lt).trans x.dsk, x.row.kept b.size (fun k hk => b.block k (x.row.lt k hk).2), x.hb, x.ne, x.own, x.lo2, x.dkl, x.bk, fun h k hk => (b.block k (x.row.lt k hk).2).trans (x.emp h k hk)⟩
/-- A chain's numbers: what its block's first cell holds. -/
theorem DX.num0 (x : DX w0 w K M off back taken ts es hs last) {e : En} (he : e ∈ es) : w.cell? ⟨e.x.blk, 0, none⟩ = some (.int .i64 e.hd) := by
  have r := x.dl.rd e he
  obtain ⟨a1, a2, a3⟩ := x.ks.qs.nums e.x (List.mem_map.2 ⟨e, he, rfl⟩)
  have hm := x.ks.qs.heads e.x (List.mem_map.2 ⟨e, he, rfl⟩)
  have h0 : 0 < e.x.c.of.length := List.length_pos_of_mem hm
  rw [a2 0 h0]
  have h1 := r.hd
  have h2 : e.x.c.of.headD 0 = e.x.c.of[0] := by
    rw [List.headD_eq_head?_getD, List.head?_eq_getElem?, List.getElem?_eq_getElem h0]
    rfl
  rw [← h2, ← h1]
  exact congrArg (fun z => some (Value.int .i64 z)) r.yh.symm
theorem QS.asideB {q g h : Nat} {lm : List UInt8} {base : Int} {n mb : Nat} {cs : List Oc} {broken : Bool} (s : QS w q g h lm base n mb cs off back broken) {b : Nat} (k : w.grownBy w' (some b)) (n1 : b ≠ g) (n2 : b ≠ h) (n3 : b ≠ q) (n4 : b ≠ mb) (n5 : ∀ x ∈ cs, x.blk ≠ b) :
    QS w' q g h lm base n mb cs off back broken := by
  have keep : ∀ x, x < w.heap.size → x ≠ b → w'.heap[x]? = w.heap[x]? := fun x hx hn => k.block x hx (fun e => hn (by injection e with e))
  have m : Mem w' g h lm := ⟨(keep _ s.mem.lt1 (fun e => n1 e.symm)).trans s.mem.1, (keep _ s.mem.lt2 (fun e => n2 e.symm)).trans s.mem.2⟩
  refine { s with mem := m, at_ := s.at_.kept (keep _ s.lts.1 (fun e => n3 e.symm)), tab := s.tab.kept (keep _ s.lts.2.2.2 (fun e => n4 e.symm)), nums := fun x hx => ?_ }
  obtain ⟨a1, a2, a3⟩ := s.nums x hx
  refine ⟨a1, fun i hi => ?_, a3⟩
  have hc := a2 i hi
  rw [World.cell?_of_block (w := w) (a := ⟨x.blk, i, none⟩) (keep _ (World.block_lt_of_cell? w _ hc) (n5 x hx))]
  exact hc
/-- A block that is none of theirs is written: driver and device stay. -/
theorem DX.aside (x : DX w0 w K M off back taken ts es hs last) {b : Nat} (k : w.grownBy w' (some b)) (n : ∀ j, DB K j ∨ j = K.g ∨ j = K.r → j < b) (n5 : ∀ e ∈ es, e.x.blk ≠ b) (lo : w0.heap.size ≤ b) : DX w0 w' K M off back taken ts es hs last := by
  have e1 : K.h < b := n _ (.inl (.inl (.inl rfl)))
  have e2 : K.q < b := n _ (.inl (.inl (.inr (.inl rfl))))
  have e3 : K.mb < b := n _ (.inl (.inl (.inr (.inr (.inl rfl)))))
  have e4 : K.b < b := n _ (.inl (.inl (.inr (.inr (.inr (.inl rfl))))))
  have e5 : K.u < b := n _ (.inl (.inl (.inr (.inr (.inr (.inr rfl))))))
  have e6 : K.p < b := n _ (.inl (.inr (.inr (.inl rfl))))
  have e7 : K.v < b := n _ (.inl (.inr (.inr (.inr rfl))))
  have e8 : K.g < b := n _ (.inr (.inl rfl))
  have e9 : K.r < b := n _ (.inr (.inr rfl))
  have keep : ∀ j, j < w.heap.size → j ≠ b → w'.heap[j]? = w.heap[j]? := fun j hj hn => k.block j hj (fun e => hn (by injection e with e))
  have n6 : ∀ z ∈ es.map En.x, z.blk ≠ b := fun z hz => by
    obtain ⟨e, he, rfl⟩ := List.mem_map.1 hz
    exact n5 e he
  have k1 : KS w' K.b K.g K.h K.q K.u K.mb M 16 8 1000 (es.map En.y) (es.map En.x) off back false last 0 false :=
    { x.ks with kat := x.ks.kat.kept (keep _ (lt_of_block x.ks.kat) (by omega)), qs := x.ks.qs.asideB k (by omega) (by omega) (by omega) (by omega) n6, tab := x.ks.tab.kept (keep _ x.ks.tab.lt (by omega)) }
  have k2 : RS w' K.r K.g K.h K.p K.v M 16 taken back ts := x.rs.aside k ⟨by omega, by omega, by omega, by omega, by omega⟩
  exact { x with ks := k1, rs := k2, bel := x.bel.grown k x.bel.size (fun j e => by injection e with e; omega) }
theorem HC.numso (x : HC w0 w K M off back taken ts es hs last ms va hl kd dk) : ∀ e ∈ es, e.x.blk ≠ K.o := fun e he q => by
  have h := x.dx.num0 he
  rw [q] at h
  obtain ⟨es, clock, h0, _⟩ := x.map
  simp [World.cell?, h0] at h
theorem HC.numsd (x : HC w0 w K M off back taken ts es hs last ms va hl kd dk) : ∀ e ∈ es, e.x.blk ≠ kd := fun e he q => by
  have h := x.dx.num0 he
  rw [q, cell_of_block x.dsk, List.getElem?_toArray, List.getElem?_map] at h
  have h0 : 0 < dk.length := by rw [x.dkl]; decide
  rw [List.getElem?_eq_getElem h0] at h
  injection h with h
  injection h with h
  cases h
/-- The map is written. -/
theorem HC.setmap (x : HC w0 w K M off back taken ts es hs last ms va hl kd dk) (k : w.grownBy w' (some K.o)) (t : IsTab w' K.o ms') : HC w0 w' K M off back taken ts es hs last ms' va hl kd dk := by
  have keep : ∀ j, j < w.heap.size → j ≠ K.o → w'.heap[j]? = w.heap[j]? := fun j hj hn => k.block j hj (fun e => hn (by injection e with e))
  have no : ∀ j, va.ownBlock = some j → j ≠ K.o := fun j hj e => by have := x.own j hj; omega
  exact ⟨x.dx.aside k (fun j hj => by have := x.hb j hj; have := x.ne; omega) x.numso (by have := x.lo2; have := x.ne; omega), t, (keep _ x.lt (by have := x.ne; omega)).trans x.dsk,
    x.row.kept k.size (fun j hj => keep j (x.row.lt j hj).2 (no j hj)), x.hb, x.ne, x.own, x.lo2, x.dkl, x.bk, fun h j hj => (keep j (x.row.lt j hj).2 (no j hj)).trans (x.emp h j hj)⟩
/-- A byte of the disk is written. -/
theorem HC.setdisk (x : HC w0 w K M off back taken ts es hs last ms va hl kd dk) (i : Nat) (hi : i < 8) (y : UInt8) : HC w0 (w.setCell ⟨kd, i, none⟩ (.int .u8 (y.toNat : Int))) K M off back taken ts es hs last ms va hl kd (dk.set i y) := by
  have k : w.grownBy (w.setCell ⟨kd, i, none⟩ (.int .u8 (y.toNat : Int))) (some kd) := ⟨rfl, rfl, rfl, by simp [World.setCell], fun j _ hn => heap_setCell_other w ⟨kd, i, none⟩ j _ (fun e => hn (by rw [e]))⟩
  have keep : ∀ j, j < w.heap.size → j ≠ kd → (w.setCell ⟨kd, i, none⟩ (.int .u8 (y.toNat : Int))).heap[j]? = w.heap[j]? := fun j hj hn => k.block j hj (fun e => hn (by injection e with e))
  have no : ∀ j, va.ownBlock = some j → j ≠ kd := fun j hj e => by have := x.own j hj; have := x.ne; omega
  refine ⟨x.dx.aside k (fun j hj => x.hb j hj) x.numsd x.lo2, x.map.kept (keep _ x.map.lt (by have := x.ne; omega)), ?_,
    x.row.kept k.size (fun j hj => keep j (x.row.lt j hj).2 (no j hj)), x.hb, x.ne, x.own, x.lo2, by rw [List.length_set]; exact x.dkl, x.bk, fun h j hj => (keep j (x.row.lt j hj).2 (no j hj)).trans (x.emp h j hj)⟩
  rw [setCell_eq_setRow w kd i (dk.map eb).toArray 34 (0, 0) _ x.dsk, setRow_heap _ _ _ _ _ _ x.dsk, List.setIfInBounds_toArray, List.map_set]
  rfl
/-- An order is submitted: its chain's numbers lie in no block of the row. -/
theorem HC.submit (x : HC w0 w K M off back taken ts es hs last ms va hl kd dk) (r : HR ts es ms hl) {en : En} (d : DX w0 w' K M' off' back' taken ts (es ++ [en]) hs' last') (t : Turned (DB K) w w') : HC w0 w' K M' off' back' taken ts (es ++ [en]) hs' last' ms va hl kd dk := by
  have rw' : HdRow w' va hl := x.row.kept t.size (fun k hk => t.block k (x.row.lt k hk).2 (x.nob hk))
  have em' : hl = [] → ∀ k, va.ownBlock = some k → w'.heap[k]? = some (.cells #[] 46 (0, 0)) := fun h k hk => (t.block k (x.row.lt k hk).2 (x.nob hk)).trans (x.emp h k hk)
  refine ⟨d, x.map.kept (t.block _ x.map.lt (fun e => by have := x.hb _ (.inl e); have := x.ne; omega)), (t.block _ x.lt (fun e => by have := x.hb _ (.inl e); omega)).trans x.dsk, rw', x.hb, x.ne, x.own, x.lo2, x.dkl, fun k hk e he => ?_, em'⟩
  rcases List.mem_append.1 he with he | he
  · exact x.bk k hk e he
  · rw [List.mem_singleton.1 he]
    intro q
    have h := d.num0 (e := en) (by simp)
    rw [q] at h
    cases hl with
    | nil => rw [cell_of_block (em' rfl k hk)] at h; simp at h
    | cons z hl =>
      obtain ⟨b, cap, hv, _, _, _, _, hE⟩ := RowA.elem encH_len rw' (by simp)
      rw [hv] at hk
      have hbk : b = k := by simpa [Value.ownBlock] using hk
      subst hbk
      have h2 : w'.cell? ⟨b, 0, none⟩ = some (.int .i64 z.h) := hE 0 (by simp) 0 _ rfl
      rw [h2] at h
      injection h with h
      injection h with _ h
      obtain ⟨e2, g1, g2, _⟩ := r.ok z (by simp)
      have hn := d.dl.nd
      rw [List.map_append, List.nodup_append] at hn
      exact hn.2.2 e2.hd (List.mem_map.2 ⟨e2, g1, rfl⟩) en.hd (by simp) (g2.trans h)
/-- The row is another one, in a block that is new. -/
theorem HC.swap (x : HC w0 w K M off back taken ts es hs last ms va hl kd dk) (b : Below w.heap.size w w') (r : HdRow w' va' hl') (o : ∀ k, va'.ownBlock = some k → w.heap.size ≤ k) (e : hl' = [] → ∀ k, va'.ownBlock = some k → w'.heap[k]? = some (.cells #[] 46 (0, 0))) : HC w0 w' K M off back taken ts es hs last ms va' hl' kd dk := by
  have o1 : ∀ k, va'.ownBlock = some k → K.o < k := fun k hk => by have := o k hk; have := x.map.lt; omega
  have o2 : ∀ k, va'.ownBlock = some k → ∀ z ∈ es, z.x.blk ≠ k := fun k hk z hz q => by
    have h4 : z.x.blk < w.heap.size := World.block_lt_of_cell? w _ (x.dx.num0 hz)
    have h3 := o k hk
    omega
  exact { x.below b with row := r, own := o1, emp := e, bk := o2 }
/-- The row is appended to. -/
theorem HC.app (x : HC w0 w K M off back taken ts es hs last ms va hl kd dk) (k : w.grownBy w' va.ownBlock) (r : HdRow w' va' hl') (b : va'.ownBlock = va.ownBlock ∨ va'.ownBlock = some w.heap.size) (ne : hl' ≠ []) : HC w0 w' K M off back taken ts es hs last ms va' hl' kd dk := by
  have ho : ∀ j, va'.ownBlock = some j → K.o < j ∧ ∀ e ∈ es, e.x.blk ≠ j := fun j hj => by
    rcases b with h | h
    · rw [h] at hj
      exact ⟨x.own j hj, x.bk j hj⟩
    · rw [h] at hj
      injection hj with hj
      subst hj
      exact ⟨x.map.lt, fun z hz q => by
        have h2 : z.x.blk < w.heap.size := World.block_lt_of_cell? w _ (x.dx.num0 hz)
        omega⟩
  cases hv : va.ownBlock with
  | none =>
    rw [hv] at k
    have bl : Below w.heap.size w w' := ⟨k.os, k.tape, k.output, k.size, fun j hj => k.block j hj (by simp)⟩
    exact { x.below bl with row := r, own := fun j hj => (ho j hj).1, emp := fun h => absurd h ne, bk := fun j hj => (ho j hj).2 }
  | some c =>
    rw [hv] at k
    have hc := x.own c hv
    have keep : ∀ j, j < w.heap.size → j ≠ c → w'.heap[j]? = w.heap[j]? := fun j hj hn => k.block j hj (fun e => hn (by injection e with e))
    exact ⟨x.dx.aside k (fun j hj => by have := x.hb j hj; have := x.ne; omega) (x.bk c hv) (by have := x.lo2; have := x.ne; omega), x.map.kept (keep _ x.map.lt (by omega)), (keep _ x.lt (by have := x.ne; omega)).trans x.dsk, r, x.hb, x.ne, fun j hj => (ho j hj).1, x.lo2, x.dkl, fun j hj => (ho j hj).2, fun h => absurd h ne⟩
end
end Go.Proofs.YtdchlnffbiooaaaGreatDoor

namespace Go.Proofs.YtdchlnffbiooaaaGreatDoor
open Go.RowKit Go.Sort Go.Deep
set_option linter.unusedVariables false

theorem PU16s.below {w w' : World} {p : Option Addr} {len : Nat} {l : List Int} (h : PU16s w p len l) (k : Below w.heap.size w w') : PU16s w' p len l := by
  obtain ⟨h1, cap, h2⟩ := h
  exact ⟨h1, cap, h2.below k⟩
theorem set_cellsD {w : World} {b i : Nat} {cs : Array Value} {t : TypeId} (h : w.heap[b]? = some (.cells cs t (0, 0))) (v : Value) : (w.setCell ⟨b, i, none⟩ v).heap[b]? = some (.cells (cs.setIfInBounds i v) t (0, 0)) := by
  rw [setCell_eq_setRow w b i cs t (0, 0) v h]
  exact setRow_heap _ _ _ _ _ _ h
theorem cells3D {w : World} {n : Nat} {x y z : Value} {t : TypeId} (h : w.heap[n]? = some (.cells #[x, y, z] t (0, 0))) : w.cell? ⟨n, 0, none⟩ = some x ∧ w.cell? ⟨n, 1, none⟩ = some y ∧ w.cell? ⟨n, 2, none⟩ = some z ∧ ∀ i, w.frozen? ⟨n, i, none⟩ = false :=
  ⟨by rw [cell_of_block h]; rfl, by rw [cell_of_block h]; rfl, by rw [cell_of_block h]; rfl, fun i => by simp [World.frozen?, h]⟩
theorem range3D {w : World} {n : Nat} {x y z : Value} {t : TypeId} (h : w.heap[n]? = some (.cells #[x, y, z] t (0, 0))) : w.rangeAt n 0 [x, y, z] := fun j u hu => by
  rw [Nat.zero_add, cell_of_block h]
  exact (List.getElem?_toArray (xs := [x, y, z])).trans hu
theorem cells4D {w : World} {n : Nat} {x y z v : Value} {t : TypeId} (h : w.heap[n]? = some (.cells #[x, y, z, v] t (0, 0))) : w.cell? ⟨n, 0, none⟩ = some x ∧ w.cell? ⟨n, 1, none⟩ = some y ∧ w.cell? ⟨n, 2, none⟩ = some z ∧ w.cell? ⟨n, 3, none⟩ = some v :=
  ⟨by rw [cell_of_block h]; rfl, by rw [cell_of_block h]; rfl, by rw [cell_of_block h]; rfl, by rw [cell_of_block h]; rfl⟩
theorem range4D {w : World} {n : Nat} {x y z v : Value} {t : TypeId} (h : w.heap[n]? = some (.cells #[x, y, z, v] t (0, 0))) : w.rangeAt n 0 [x, y, z, v] := fun j u hu => by
  rw [Nat.zero_add, cell_of_block h]
  exact (List.getElem?_toArray (xs := [x, y, z, v])).trans hu
/-- The order in what the device has. -/
theorem range4o {w : World} {n : Nat} {x y z v : Value} {t : TypeId} (h : w.heap[n]? = some (.cells #[x, y, z, v] t (0, 0))) : w.rangeAt n 1 [y, z, v] := fun j u hu => by
  rw [cell_of_block h]
  match j, hu with
  | 0, hu => exact hu
  | 1, hu => exact hu
  | 2, hu => exact hu
theorem rdy_app {P : Program} {ops : Array Oper} {Q : Exit → Act → World → Prop} {md : Region.Mode} {S : World → Prop} {fuel : Nat} {listed : Array Bool} {a : Act} {w w' : World} {n : Nat} {o : Oper} (ho : ops[n]? = some o) (hgd : o.guard = none) (s x : Operand) (t t' : TypeId) (hop : o.op = Op.call { callee := Callee.builtin Builtin.append, args := #[s, x], argTypes := #[t, t'] }) (vs vx v : Value) (hs : a.eval s = vs) (hx : a.eval x = vx)
    (hr : ∀ ty, (Builtin.append_ #[t, t'] ty #[vs, vx]).run P w = .ok v w') (hS : S w') (h : wpAnyH P md ops Q S fuel (listed.setIfInBounds n true) (a.put o.dst v) w') : AllReadyH P md ops Q S fuel listed a w [n] :=
  AllReadyH.cons ho (fun K hK => by
    have hw : Region.wanted o (yielded ops a.tmps) = true := by simp [Region.wanted, hgd]
    rw [if_pos hw]
    unfold Oper.wp
    simp only [execOp, hop, resolve, invoke, builtin, Sem.run_bind, Sem.run_pure, Result.andThen_ok, List.map_toArray, List.map_cons, List.map_nil, hs, hx, hr]
    exact hK.out _ _ hS (fun _ => h)) AllReadyH.nil

def EDrD (w w' : World) : Prop := w' = w.drew
theorem region_heldD {P : Program} {id : Nat} {ops : Array Oper} {Q : Exit → Act → World → Prop} {S : World → Prop} {a : Act} {w : World} (hm : P.follows .mixedOrders = true) (hS : ∀ w', EDrD w w' → S w')
    (h : ∀ w', EDrD w w' → S w' → wpAnyH P .any ops Q S ops.size (Array.replicate ops.size false) a w') : (Code.region id ops true).wp P Q a w :=
  wp_region_held hm (h _ rfl (hS _ rfl))
theorem region_tailD {P : Program} {id : Nat} {Q : Exit → Act → World → Prop} {a : Act} {w : World} {l : List Oper} (n : Nat) (hm : P.follows .mixedOrders = true) (hB : Region.lexTailB .any l.toArray n = true)
    (h : ∀ w', Below w.heap.size w w' → wpStill P l.toArray w' (fun a' => wpList P l.toArray Q (l.drop n) a' w') (l.take n) a) : (Code.region id l.toArray true).wp P Q a w :=
  wp_region_still_tail n hm hB (h _ (Below.refl _ _).drew)
theorem info_hd : ∃ i z, Tryz.prog.info? 46 = some i ∧ i.zero = some z ∧ i.size = 4 ∧ i.bytes = 40 ∧ z.cells.size = 4 := by
  have h : (Tryz.prog.info? 46).map (fun i => (i.zero.map (fun z => z.cells.size), i.size, i.bytes)) = some (some 4, 4, 40) := by kernel_rfl
  cases hi : Tryz.prog.info? 46 with
  | none => rw [hi] at h; cases h
  | some i =>
    rw [hi] at h
    simp only [Option.map_some, Option.some.injEq, Prod.mk.injEq] at h
    obtain ⟨h1, h2, h3⟩ := h
    cases hz : i.zero with
    | none => rw [hz] at h1; cases h1
    | some z => rw [hz] at h1; exact ⟨i, z, rfl, hz, h2, h3, by simpa using h1⟩
/-- append of some of them: of none it changes nothing. -/
theorem app_rowE (w : World) (v : Value) (l : List Hd) (hown : HdRow w v l) (p : Option Addr) (m c : Nat) (ys : List Hd) (hm : ys.length = m) (hc : 0 < m → ∃ a, p = some a ∧ ∀ j u, (encA encH ys)[j]? = some u → w.cell? (a.add j) = some u) (hl : l.length + ys.length ≤ 1000) :
    ∃ v' w', (∀ ty, (Builtin.append_ #[35, 35] ty #[v, .slice p m c]).run Tryz.prog w = .ok v' w') ∧ HdRow w' v' (l ++ ys) ∧ w.grownBy w' v.ownBlock ∧ (v'.ownBlock = v.ownBlock ∨ v'.ownBlock = some w.heap.size) ∧ (ys = [] → v' = v ∧ w' = w) := by
  subst hm
  obtain ⟨i, z, hi, hz, h1, h2, h3⟩ := info_hd
  by_cases h0 : ys.length = 0
  · obtain rfl : ys = [] := List.length_eq_zero_iff.1 h0
    obtain ⟨q, cc, hv, hle⟩ : ∃ q cc, v = .slice q l.length cc ∧ l.length ≤ cc := by
      rcases hown.2 with ⟨rfl, h0⟩ | ⟨b, cap, cur, rfl, _, _, h3, _⟩
      · exact ⟨none, 0, by rw [h0], by omega⟩
      · exact ⟨_, _, rfl, h3⟩
    subst hv
    refine ⟨_, w, fun ty => run_append_nothing (P := Tryz.prog) w _ _ ty 46 i Tryz.underlying35 hi q l.length cc hle (.slice p ([] : List Hd).length c) ?_, by rw [List.append_nil]; exact hown, World.grownBy.refl _ _, .inl rfl, fun _ => ⟨rfl, rfl⟩⟩
    cases p with
    | none => exact Src.ofNil w Tryz.underlying35 c
    | some ad => exact Src.ofSlice w Tryz.underlying35 ad 0 c [] (by simp) (fun j u hu => by simp at hu) (fun u hu => by cases hu)
  · obtain ⟨ad, rfl, hcell⟩ := hc (by omega)
    obtain ⟨v', w', hr, g2, g3, _, g5⟩ := run_append_own_at (P := Tryz.prog) w 0 35 35 46 i z 4 40 Tryz.underlying35 hi hz h1 h2 h3 (by decide) v l.length (encA encH l) hown ad ys.length c (encA encH ys) (encA_length encH_len ys) hcell
      (fun u hu => by
        obtain ⟨tm, _, hu⟩ := List.mem_flatMap.1 hu
        exact encH_one tm u hu) (by unfold maxLen; omega) (by omega) (Nat.zero_le _)
    refine ⟨v', w', fun ty => ?_, ?_, g3, g5, fun h => absurd (by rw [h]; rfl) h0⟩
    · exact (show (Builtin.append_ #[35, 35] ty #[v, .slice (some ad) ys.length c]) = (Builtin.append_ #[35, 35] 35 #[v, .slice (some ad) ys.length c]) from rfl) ▸ hr
    · unfold HdRow RowA
      rw [List.length_append, encA_append]
      exact g2
/-- The k-th is left out: a new row, in a block that is new. -/
theorem cut_row {w : World} {b c m k : Nat} {l : List Hd} (h : HdRow w (.slice (some ⟨b, 0, none⟩) m c) l) (hm : m = l.length) (hk : k < m) (hl : l.length ≤ 100) (A : Option Addr) (hA : (if c = k + 1 then (some ⟨b, 0, none⟩ : Option Addr) else some ⟨b, (k + 1) * 4, none⟩) = A) :
    ∃ v1 w1 v2 w2, (∀ ty, (Builtin.append_ #[35, 35] ty #[.slice (some ⟨w.heap.size, 0, none⟩) 0 0, .slice (some ⟨b, 0, none⟩) k c]).run Tryz.prog (w.drew.alloc (.cells #[] 46)) = .ok v1 w1) ∧
      (∀ ty, (Builtin.append_ #[35, 35] ty #[v1, .slice A (m - (k + 1)) (c - (k + 1))]).run Tryz.prog w1 = .ok v2 w2) ∧
      HdRow w2 v2 (l.eraseIdx k) ∧ (∀ j, v2.ownBlock = some j → w.heap.size ≤ j) ∧ Below w.heap.size w w2 ∧ (l.eraseIdx k = [] → ∀ j, v2.ownBlock = some j → w2.heap[j]? = some (.cells #[] 46 (0, 0))) := by
  subst hm
  obtain ⟨cap, hb, hcap, hmx, hlt, hat⟩ : ∃ cap, cap = c ∧ l.length ≤ c ∧ c ≤ maxLen ∧ b < w.heap.size ∧ ∀ j u, (encA encH l)[j]? = some u → w.cell? ⟨b, j, none⟩ = some u := by
    rcases h.2 with ⟨h1, _⟩ | ⟨g, cap', cur, h1, _, h2, h3, h4, h5, h6⟩
    · cases h1
    · injection h1 with h1 _ hc; injection h1 with h1; injection h1 with h1
      subst h1 hc
      refine ⟨_, rfl, h3, h4, (Array.getElem?_eq_some_iff.1 h2).1, fun j u hu => ?_⟩
      have := h.cells (g := b) rfl j u hu
      rw [add_off, Nat.zero_add] at this
      exact this
  have hn : (w.drew.alloc (.cells #[] 46)).heap[w.heap.size]? = some (.cells #[] 46 (0, 0)) := heap_alloc_new w.drew _
  have b0 : Below w.heap.size w (w.drew.alloc (.cells #[] 46)) := ((Below.refl _ _).drew).alloc (by show w.heap.size ≤ w.drew.heap.size; exact Nat.le_refl _) _
  have r0 : HdRow (w.drew.alloc (.cells #[] 46)) (.slice (some ⟨w.heap.size, 0, none⟩) 0 0) [] := ⟨rfl, .inr ⟨w.heap.size, 0, #[], rfl, Nat.zero_le _, hn, Nat.le_refl _, Nat.zero_le _, rfl, rfl⟩⟩
  generalize w.drew.alloc _ = w0 at hn b0 r0 ⊢
  have keep : ∀ {V : World}, Below w.heap.size w V → ∀ j u, (encA encH l)[j]? = some u → V.cell? ⟨b, j, none⟩ = some u := fun {V} hV j u hu => by
    rw [World.cell?_of_block (a := ⟨b, j, none⟩) (hV.block b hlt)]
    exact hat j u hu
  obtain ⟨v1, w1, run1, row1, g1, o1, e1⟩ := app_rowE w0 _ [] r0 (some ⟨b, 0, none⟩) k c (l.take k) (by rw [List.length_take]; omega) (fun _ => ⟨_, rfl, fun j u hu => by
    rw [add_off, Nat.zero_add]
    refine keep b0 j u ?_
    have e := encA_append encH (l.take k) (l.drop k)
    rw [List.take_append_drop] at e
    rw [e, List.getElem?_append_left (List.getElem?_eq_some_iff.1 hu).1]
    exact hu⟩) (by rw [List.length_take]; simp; omega)
  rw [List.nil_append] at row1
  have ow1 : ∀ j, v1.ownBlock = some j → w.heap.size ≤ j := fun j hj => by
    rcases o1 with h | h
    · rw [h] at hj
      have : w.heap.size = j := by simpa [Value.ownBlock] using hj
      omega
    · rw [h] at hj
      have : w0.heap.size = j := by injection hj
      have := b0.size
      omega
  have b1 : Below w.heap.size w w1 := b0.trans ⟨g1.os, g1.tape, g1.output, by have := g1.size; exact this, fun j hj => g1.block j (by have := b0.size; omega) (fun e => by
    have : j = w.heap.size := by simpa [Value.ownBlock] using e
    omega)⟩
  obtain ⟨v2, w2, run2, row2, g2, o2, e2⟩ := app_rowE w1 v1 (l.take k) row1 A (l.length - (k + 1)) (c - (k + 1)) (l.drop (k + 1)) (by rw [List.length_drop]) (fun h0 => ⟨⟨b, (k + 1) * 4, none⟩, by rw [← hA, if_neg (by omega)], fun j u hu => by
    rw [add_off]
    refine keep b1 _ u ?_
    have e := encA_append encH (l.take (k + 1)) (l.drop (k + 1))
    rw [List.take_append_drop] at e
    have e2 := encA_length encH_len (l.take (k + 1))
    rw [List.length_take, Nat.min_eq_left (by omega)] at e2
    rw [e, List.getElem?_append_right (by omega), e2, Nat.add_sub_cancel_left]
    exact hu⟩) (by rw [List.length_take, List.length_drop]; omega)
  rw [← List.eraseIdx_eq_take_drop_succ] at row2
  refine ⟨v1, w1, v2, w2, run1, run2, row2, fun j hj => ?_, b1.trans ⟨g2.os, g2.tape, g2.output, g2.size, fun j hj => g2.block j (by have := b1.size; omega) (fun e => by have := ow1 j e.symm; omega)⟩, fun he j hj => ?_⟩
  · rcases o2 with h | h
    · exact ow1 j (by rw [← h]; exact hj)
    · rw [h] at hj
      have : w1.heap.size = j := by injection hj
      have := b1.size
      omega
  · rw [List.eraseIdx_eq_take_drop_succ, List.append_eq_nil_iff] at he
    obtain ⟨q1, q2⟩ := e1 he.1
    obtain ⟨q3, q4⟩ := e2 he.2
    subst q4 q3 q2 q1
    have : w.heap.size = j := by simpa [Value.ownBlock] using hj
    rw [← this]
    exact hn
theorem ord_keyD : Tryz.prog.keyTypeAt 2 39 = true := by kernel_rfl
theorem o_cellsD : Tryz.prog.cellsOf 39 = 3 := by kernel_rfl
theorem o_intD : Tryz.prog.cellsOf 3 = 1 := by kernel_rfl
theorem o_strD : Tryz.prog.cellsOf 9 = 1 := by kernel_rfl
theorem ord_litsD (c : Ord) (h : (Lit.int .i64 c.kind).wf = true ∧ (Lit.int .i64 c.sec).wf = true ∧ c.data.size ≤ maxLen) (d : Nat) : Tryz.prog.keyLits (d + 2) 39 [.int .i64 c.kind, .int .i64 c.sec, .string c.data] = some [.int .i64 c.kind, .int .i64 c.sec, .string c.data.data.toList] := by
  have l1 : ∀ (x : Int), (Lit.int .i64 x).wf = true → Tryz.prog.keyLits (d + 1) 3 [.int .i64 x] = some [.int .i64 x] := fun x hx => by simp [Program.keyLits, Tryz.underlying3, hx]
  have l2 : Tryz.prog.keyLits (d + 1) 9 [.string c.data] = some [.string c.data.data.toList] := by simp [Program.keyLits, Tryz.underlying9, h.2.2]
  unfold Program.keyLits
  simp only [Tryz.underlying39, o_cellsD]
  simp [o_intD, o_strD, l1 _ h.1, l1 _ h.2.1, l2]
theorem run_eql_ordD (w : World) (c : Ord) (h : (Lit.int .i64 c.kind).wf = true ∧ (Lit.int .i64 c.sec).wf = true ∧ c.data.size ≤ maxLen) : (Op.equalIn 10000 39 (.agg #[.int .i64 c.kind, .int .i64 c.sec, .string c.data]) (.agg #[.int .i64 c.kind, .int .i64 c.sec, .string c.data])).run Tryz.prog w = .ok true w := by
  obtain ⟨r, hr, hi⟩ := run_equalIn_deep (P := Tryz.prog) 9998 2 39 ord_keyD w 2 2 (.agg #[.int .i64 c.kind, .int .i64 c.sec, .string c.data]) (.agg #[.int .i64 c.kind, .int .i64 c.sec, .string c.data]) _ _ (by kernel_rfl) (by kernel_rfl) (ord_litsD c h 0) (ord_litsD c h 0)
  rw [hr, hi.2 rfl]
theorem OrdOK.all {o : Ord} (h : OrdOK o) : (0 ≤ o.sec ∧ o.sec < 8) ∧ (o.kind = 3 → o.sec = 0) ∧ (o.kind = 2 → o.data.size = 64) ∧ (o.kind ≠ 2 → o.data.size = 0) := by
  obtain ⟨h1, h2, h3⟩ := h
  unfold mayOrd at h1
  simp only [Bool.and_eq_true, decide_eq_true_eq] at h1
  obtain ⟨⟨a, b⟩, c⟩ := h1
  split at b <;> split at c <;> omega
theorem OrdOK.fits {o : Ord} (h : OrdOK o) : (Lit.int .i64 o.kind).wf = true ∧ (Lit.int .i64 o.sec).wf = true ∧ o.data.size ≤ maxLen := by
  obtain ⟨a, b, c, d⟩ := h.all
  have h2 := h.2
  refine ⟨WalkArith.wf_i64 (by omega), WalkArith.wf_i64 (by omega), ?_⟩
  by_cases e : o.kind = 2
  · rw [c e]; unfold maxLen; omega
  · rw [d e]; unfold maxLen; omega
theorem OrdOK.shape {o : Ord} (h : OrdOK o) : ∃ k, k < 5 ∧ o.kind = (shpAt k).kind := by
  have h2 := h.2
  rcases (show o.kind = 1 ∨ o.kind = 2 ∨ o.kind = 3 by omega) with e | e | e
  · exact ⟨0, by decide, e.trans (by decide)⟩
  · exact ⟨1, by decide, e.trans (by decide)⟩
  · exact ⟨2, by decide, e.trans (by decide)⟩
theorem OrdOK.read (s : Int) (h : 0 ≤ s ∧ s < 8) : OrdOK ⟨1, s, ⟨#[]⟩⟩ := by
  refine ⟨?_, by show (1 : Int) ≤ 1; decide, by show (1 : Int) ≤ 3; decide⟩
  unfold mayOrd
  simp only [Bool.and_eq_true, decide_eq_true_eq]
  refine ⟨⟨h.1, ?_⟩, rfl⟩
  rw [if_neg (by decide)]
  exact h.2
theorem OrdOK.flush : OrdOK ⟨3, 0, ⟨#[]⟩⟩ := ⟨by decide, by decide, by decide⟩
theorem OrdOK.write (s : Int) (h : 0 ≤ s ∧ s < 8) (b : UInt8) : OrdOK ⟨2, s, fullS b⟩ := by
  refine ⟨?_, by show (1 : Int) ≤ 2; decide, by show (2 : Int) ≤ 3; decide⟩
  unfold mayOrd
  simp only [Bool.and_eq_true, decide_eq_true_eq]
  refine ⟨⟨h.1, ?_⟩, ?_⟩
  · rw [if_neg (by decide)]
    exact h.2
  · rw [fullS_size]
    simp
/-- The number of a slice's elements. -/
def sliceLen : Value → Nat
  | .slice _ n _ => n
  | _ => 0
end Go.Proofs.YtdchlnffbiooaaaGreatDoor
