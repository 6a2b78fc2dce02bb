/-
  Layer 3, VblkOnce: driver, device and the statement's map side by side, whatever the memory; the contract of each call. Conditions: the memory is of 4096 bytes.
-/
import Derived.Test.YtnbponaldffbiaaGreatDoorOpA
import Derived.Test.YtnbponaldffbiaaGreatDoorOpB
import Derived.Deep.AppendSrc
import Derived.Deep.Upon
import Derived.ProofKit
import Derived.Deep.Slices
import Derived.Deep.Fields
import Derived.ChangeSame
namespace Go.Proofs.YtnbponaldffbiaaGreatDoor
open Go.RowKit Go.Sort Go.ChangeMaps Go.MapKept

section
variable {P : Program} {k t e : TypeId} {w : World} {b : Nat} {cs : List (Int × Value)}
/-- An entry with another value. -/
theorem IsTab.put_at {x : Int} {v0 : Value} (h : IsTab w b cs) (hm : (x, v0) ∈ cs) (ht : P.underlying t = some (.map k e)) (hk : P.underlying k = some (.int .i64)) (v : Value) :
    ∃ (w' : World) (j : Nat), cs[j]? = some (x, v0) ∧ (Instr.mapUpdate t (.map (some b)) (.int .i64 x) v).run P w = .ok () w' ∧ IsTab w' b (cs.set j (x, v)) ∧ w.grownBy w' (some b) := by
  obtain ⟨es, clock, hb, F⟩ := h
  have hx := F.wf _ hm
  rcases F.find hk w hx with ⟨_, h1⟩ | ⟨j, v', h1, h2⟩
  · exact absurd rfl (h1 _ hm)
  have hv0 : v' = v0 := key_one F.keys (List.mem_of_getElem? h2) hm
  subst hv0
  have hjl : j < cs.length := (List.getElem?_eq_some_iff.1 h2).1
  have hes : es.size = cs.length := by have := F.length; simpa using this
  have hkey : ((es[j]?).map (·.key)).getD (.int .i64 x) = .int .i64 x := by
    have hl : j < es.toList.length := by simp; omega
    obtain ⟨c, hc, h4, _⟩ := F.at_ (List.getElem?_eq_getElem hl)
    rw [h2] at hc
    cases hc
    have e1 : es[j]? = some (es.toList[j]'hl) := by simp
    rw [e1]
    simpa using h4
  obtain ⟨W2, hW2⟩ : ∃ W2, W2 = setBlock w b (.map (es.modify j fun e => { e with key := .int .i64 x, val := v }) clock) := ⟨_, rfl⟩
  refine ⟨W2, j, h2, ?_, ?_, ?_⟩
  · rw [hW2]
    have hks : (Instr.keyThatStays (.int .i64 x) (.int .i64 x)).run P w = .ok (.int .i64 x) w := by simp [Instr.keyThatStays, Instr.sameBits]
    simp [Instr.mapUpdate, run_underlying ht, MapKept.run_getObj_map hb, tab_check hk w _ hx, h1, hkey, hks, MapKept.run_setObj_map _ hb, Result.andThen, setBlock]
  · rw [hW2]
    refine ⟨_, _, heap_setBlock_same hb _, ?_⟩
    have hl : (es.modify j fun e => { e with key := .int .i64 x, val := v }).toList = es.toList.modify j fun e => { e with key := .int .i64 x, val := v } := Array.toList_modify
    have hb2 : (es.modify j fun e => { e with key := .int .i64 x, val := v }).toList.map (·.born) = es.toList.map (·.born) := by
      rw [hl]
      apply List.ext_getElem?
      intro i
      rw [List.getElem?_map, List.getElem?_map, List.getElem?_modify]
      cases es.toList[i]? with
      | none => rfl
      | some e0 => by_cases hi : j = i <;> simp [hi]
    refine ⟨?_, ?_, ?_, ?_, ?_⟩
    · rw [hl]
      apply List.ext_getElem?
      intro i
      have h5 := congrArg (fun l => l[i]?) F.ents
      simp only [List.getElem?_map] at h5 ⊢
      rw [List.getElem?_modify]
      by_cases hi : j = i
      · subst hi
        have hl2 : j < es.toList.length := by simp; omega
        have h8 : (cs.set j (x, v))[j]? = some (x, v) := List.getElem?_set_self hjl
        rw [List.getElem?_eq_getElem hl2, h8]
        simp
      · have h9 : (cs.set j (x, v))[i]? = cs[i]? := List.getElem?_set_ne hi
        rw [h9, ← h5]
        cases es.toList[i]? with
        | none => rfl
        | some e0 => simp [hi]
    · rw [hb2]; exact F.born
    · intro e0 he0
      have h6 : e0.born ∈ es.toList.map (·.born) := by rw [← hb2]; exact List.mem_map.2 ⟨e0, he0, rfl⟩
      obtain ⟨e1, he1, h7⟩ := List.mem_map.1 h6
      rw [← h7]
      exact F.old e1 he1
    · have hk2 : (cs.set j (x, v)).map (·.1) = cs.map (·.1) := by
        rw [List.map_set]
        apply List.ext_getElem?
        intro i
        by_cases hi : j = i
        · subst hi
          rw [List.getElem?_set_self (by simpa using hjl), List.getElem?_map, h2]
          rfl
        · rw [List.getElem?_set_ne hi]
      rw [hk2]; exact F.keys
    · intro c hc
      rcases List.mem_or_eq_of_mem_set hc with hc | rfl
      · exact F.wf c hc
      · exact hx
  · rw [hW2]
    exact ⟨rfl, rfl, rfl, by simp [setBlock], fun i _ hi => heap_setBlock_other hb _ (fun e => hi (by rw [e]))⟩
end
/-- What Next comes to, where the chain's head is with the device already. -/
def RNextAg (w : World) (r g h p u : Nat) (lm : List UInt8) (base taken told : Int) (ts : List (Int × Tkn)) (k : Int) (l : List Bf) (o : Ord) (e : Ending) (w' : World) : Prop :=
  e = .returned (.tuple #[.int .i64 k, o.val, .int .i64 0]) ∧ ∃ j : Nat, ts[j]?.map Prod.fst = some k ∧ RS w' r g h p u lm base ((taken + 1) % 65536) told (ts.set j (k, tknOf o l)) ∧ Turned (RB h p u) w w'
set_option maxRecDepth 100000 in
set_option maxHeartbeats 4000000 in
theorem RNext_again (w : World) (r g h p u : Nat) (lm : List UInt8) (base taken told : Int) (ts : List (Int × Tkn)) (hS : Shapes w) (hp0 : p ≠ 0) (s : RS w r g h p u lm base taken told ts) (k : Int) (l : List Bf) (o : Ord)
    (h0 : offI lm base 32 ≠ taken) (h1 : (offI lm base 32 - taken) % 65536 ≤ 32) (hh : Hid (offHead lm base 32 taken = k)) (hF : Hid (followF lm base 32 32 k [] = some l)) (ho : Hid (askL lm l = some o)) (x0 : Tkn) (hn : (k, x0) ∈ ts) :
    Calls Tryz.prog 11 #[.pointer (some ⟨r, 0, none⟩)] w (RNextAg w r g h p u lm base taken told ts k l o) := by
  have ka := World.grownBy_alloc w (.cells #[.int .i64 0, .int .i64 0, .string ⟨#[]⟩] 39) none
  have hrb := heap_alloc_new w (.cells #[.int .i64 0, .int .i64 0, .string ⟨#[]⟩] 39)
  have S1 := Lib.hid (s.grown ka)
  have SH := Lib.hid (hS.grown ka)
  have hll := ask_len ho.out
  have hFo := hF.out
  have hl0 : 0 < l.length := by omega
  have hbd := follow_bd hFo s.ps.len
  obtain ⟨lr, lg, lh, lp, lu⟩ := s.lts
  have LU := Lib.hid lu
  have hk01 := offHead_bd lm base 32 taken
  rw [hh.out] at hk01
  have HK01 := Lib.hid hk01
  have HZ : Hid (p ≠ 0) := Lib.hid hp0
  have H0 := Lib.hid h0
  have H1 := Lib.hid h1
  have HN := Lib.hid hn
  have HBD := Lib.hid hbd
  have RB1 := Lib.hid hrb
  have KA := Lib.hid ka
  clear hS s h0 h1 hn hFo hbd hrb ka
  go_enter Tryz.func11, Tryz.ntmps11
  go_upto_region 1 with fail
  generalize w.alloc _ = W1 at S1 SH RB1 KA ⊢
  have c3 := S1.out.ra.c3
  have c1 := S1.out.ra.c1
  go_wp2_with (go_at_call 33; refine (rnone_no _ _ c3).mono ?_; rintro e w' ⟨rfl, rfl⟩)
--@1
  refine (vNext_any W1 p g h lm base 32 taken told S1.out.ps).mono ?_
  rintro e w2 hpost
  rcases hpost with ⟨a, _, _⟩ | ⟨_, a, _, _⟩ | ⟨l', v, _, _, e3, rfl, bv, ps2, k2⟩
  · exact absurd a H0.out
  · rcases a with a | a
    · exact absurd H1.out (by omega)
    · rw [hh.out, hF.out] at a; cases a
  rw [hh.out, hF.out] at e3
  injection e3 with e3
  subst e3
  rw [hh.out]
  obtain ⟨n1, n2, n3, n4, n5, n6, n7⟩ := S1.out.ne
  have s2 : RS w2 r g h p u lm base ((taken + 1) % 65536) told ts :=
    ⟨S1.out.ra.kept (k2.block _ S1.out.lts.1 (fun e => n3 (by injection e))), ps2, S1.out.tab.kept (k2.block _ S1.out.tab.lt (fun e => n7 (by injection e)))⟩
  have S2 := Lib.hid s2
  have SH2 := Lib.hid (SH.out.kept (k2.block 0 SH.out.pos (fun e => HZ.out (by injection e with e; exact e.symm))))
  have RB2 : Hid (w2.heap[w.heap.size]? = some (.cells #[.int .i64 0, .int .i64 0, .string ⟨#[]⟩] 39 (0, 0))) := Lib.hid ((k2.block _ (lt_of_block RB1.out) (fun e => by injection e with e; omega)).trans RB1.out)
  have T2 : Hid (Turned (RB h p u) w w2) := Lib.hid ((Turned.of KA.out (fun j e => by cases e)).step k2 (fun j e => .inl (.inr (.inl (by injection e with e; exact e.symm)))))
  have BV := Lib.hid bv
  clear c1 c3 k2 ps2 bv s2 S1 SH RB1 KA n1 n2 n3 n4 n5 n6 n7
  obtain ⟨pp, cap, rfl, hle⟩ := BV.out.form
  go_wp2_with fail
--@2
  refine (order_any w2 r g p u h lm SH2.out S2.out.ra S2.out.ps.mem S2.out.ps.len _ l BV.out hl0 (fun x hx => by have := HBD.out x hx; omega)).mono ?_
  rintro e w3 hpost
  obtain ⟨o', e4, rfl, k3⟩ : ∃ o, askL lm l = some o ∧ e = .returned (.tuple #[o.val, .bool true]) ∧ w2.grownBy w3 none := by
    rcases hpost with h | ⟨e4, _⟩
    · exact h
    · rw [ho.out] at e4; cases e4
  rw [ho.out] at e4
  injection e4 with e4
  subst e4
  obtain ⟨ok, os_, od⟩ := o
  unfold Ord.val
  simp only
  have K3 := Lib.hid (k3.trans (World.grownBy_alloc w3 (.cells #[.int .i64 ok, .int .i64 os_, .string od] 39) none))
  have hob3 := heap_alloc_new w3 (.cells #[.int .i64 ok, .int .i64 os_, .string od] 39)
  have z3 := k3.size
  have zb := lt_of_block RB2.out
  obtain ⟨ob, hob⟩ : ∃ ob, ob = w3.heap.size := ⟨_, rfl⟩
  have hobn : ob ≠ w.heap.size := by omega
  have huo : u ≠ ob := by have := LU.out; omega
  rw [← hob] at hob3
  have HOB := Lib.hid hob
  clear k3 hob
  go_upto_region 7 with fail
  rw [← HOB.out]
  generalize w3.alloc _ = W3 at K3 hob3 ⊢
  have S3 := Lib.hid (S2.out.grown K3.out)
  have T3 := Lib.hid (T2.out.step K3.out (fun j e => by cases e))
  have RB3 : Hid (W3.heap[w.heap.size]? = some (.cells #[.int .i64 0, .int .i64 0, .string ⟨#[]⟩] 39 (0, 0))) := Lib.hid ((K3.out.block _ (lt_of_block RB2.out) (by simp)).trans RB2.out)
  have BV3 := Lib.hid (BV.out.grown K3.out)
  have OB3 := Lib.hid hob3
  clear hob3 S2 T2 RB2 BV SH2 K3
  go_wp2_with fail
--@3
  have hwa : IntKind.i64.wrap 1 = 1 := IntWalk.i64_in _ (by omega)
  have hwb : IntKind.i64.wrap 2 = 2 := IntWalk.i64_in _ (by omega)
  rcases (show l.length = 2 ∨ l.length = 3 by omega) with hl2 | hl2
  all_goals rw [hl2]
  all_goals (
  refine region_tail 20 (by kernel_rfl) (by kernel_rfl) (fun V d => ?_)
  have sV := S3.out.grown d.grown
  have bV := BV3.out.grown d.grown
  obtain ⟨b1, o1, y1, rfl, hy1, g0, g1, g2⟩ := bV.at_ 1 (by omega)
  obtain ⟨b2, o2, y2, hb2, hy2, i0, i1, i2⟩ := bV.at_ (l.length - 1) (by omega)
  injection hb2 with hb2
  injection hb2 with hb2a hb2b
  subst hb2a hb2b
  have obV := (d.block ob).trans OB3.out
  have j0 : V.cell? ⟨ob, 0, none⟩ = some (.int .i64 ok) := cell_of_block obV
  have c2 := sV.ra.c2
  have ht : tknOf ⟨ok, os_, od⟩ l = ⟨ok == 1, y1.a, y2.a⟩ := by
    unfold tknOf
    rw [List.getD_eq_getElem?_getD, List.getD_eq_getElem?_getD, hy1, hy2]
    rfl
  obtain ⟨w5, jt, hjt, hrun, t5, k5⟩ := sV.tab.put_at (P := Tryz.prog) (x := k) (List.mem_map.2 ⟨(k, x0), HN.out, rfl⟩) Tryz.underlying77 Tryz.underlying3 (Tkn.val ⟨ok == 1, y1.a, y2.a⟩)
  have HJT : Hid (ts[jt]?.map Prod.fst = some k) := Lib.hid (by rw [List.getElem?_map] at hjt; cases hq : ts[jt]? with | none => rw [hq] at hjt; cases hjt | some q => rw [hq] at hjt; simp at hjt; simp [hjt.1])
  clear hjt
  unfold Tkn.val at hrun
  simp only at hrun
  obtain ⟨n1, n2, n3, n4, n5, n6, n7⟩ := sV.ne
  have s5 : RS w5 r g h p u lm base ((taken + 1) % 65536) told (ts.set jt (k, tknOf ⟨ok, os_, od⟩ l)) := by
    have keep : ∀ x, x < V.heap.size → u ≠ x → w5.heap[x]? = V.heap[x]? := fun x hx hn => k5.block x hx (fun e => hn (by injection e with e; exact e.symm))
    obtain ⟨l1, l2, l3, l4, l5⟩ := sV.lts
    refine ⟨sV.ra.kept (keep _ l1 n4), { sV.ps with mem := ⟨(keep _ l2 n5).trans sV.ps.mem.1, (keep _ l3 n6).trans sV.ps.mem.2⟩, at_ := sV.ps.at_.kept (keep _ l4 n7) }, ?_⟩
    rw [List.map_set, ht]
    exact t5
  have zV : W3.heap.size = V.heap.size := d.size.symm
  have T5 := Lib.hid ((T3.out.step d.grown (fun j e => by cases e)).step k5 (fun j e => .inl (.inr (.inr (by injection e with e; exact e.symm)))))
  have zob := lt_of_block obV
  have rbV := (d.block w.heap.size).trans RB3.out
  have OB5 := Lib.hid ((k5.block ob zob (fun e => by injection e with e; exact huo e.symm)).trans obV)
  have RB5 : Hid (w5.heap[w.heap.size]? = some (.cells #[.int .i64 0, .int .i64 0, .string ⟨#[]⟩] 39 (0, 0))) := Lib.hid ((k5.block _ (lt_of_block rbV) (fun e => by injection e with e; have := LU.out; omega)).trans rbV)
  have S6 := Lib.hid s5
  have T6 := T5
  have OB6 := OB5
  have RB6 := RB5
  obtain ⟨ya, yn, yw⟩ := y1
  obtain ⟨za, zn, zw⟩ := y2
  simp only [Nat.one_mul] at g0 i0 hrun
  rw [hl2] at i0
  simp only [Nat.reduceSub, Nat.reduceMul, Nat.one_mul] at i0
  have HL2 := Lib.hid hl2
  try (rw [g0] at i0; injection i0 with i0; injection i0 with _ i0; subst i0)
  clear sV bV hy1 hy2 g1 g2 i1 i2 obV t5 k5 n1 n2 n3 n4 n5 n6 n7 s5 T5 OB5 RB5 S3 BV3 d T3 zob rbV OB3 RB3 zV hl2 hll hl0
  simp only [List.take_succ_cons, List.take_zero, List.drop_succ_cons, List.drop_zero]
  repeat still_step
  refine wpStill_nil ?_
  go_wp2_with fail
--@4
  refine wp_region_noPanic ?_
  refine region_held (S := fun w' => w'.heap[ob]? = some (.cells #[.int .i64 ok, .int .i64 os_, .string od] 39 (0, 0))) (by kernel_rfl) (fun V d => (d.block _).trans OB6.out) (fun V d hS => ?_)
  have S7 := Lib.hid (S6.out.grown d.grown)
  have T7 : Turned (RB h p u) w V := T6.out.step d.grown (fun j e => by cases e)
  refine wpAnyH_take (i := 0) (v := (.int .i64 k)) rfl (by kernel_rfl) (by kernel_rfl) (by kernel_rfl) (fun _ _ _ h => h) (Or.inl ⟨by rfl, fun w' h' => ?_⟩) hS ?_
  · clear h'
    go_simp
  simp only [Act.put]
  refine wpAnyH_take (i := 1) (v := (.agg #[.int .i64 ok, .int .i64 os_, .string od])) rfl (by kernel_rfl) (by kernel_rfl) (by kernel_rfl) (fun _ _ _ h => h) (Or.inl ⟨by rfl, fun w' h' => ?_⟩) hS ?_
  · have c0 := (cell_of_block h' : w'.cell? ⟨ob, 0, none⟩ = some (.int .i64 ok))
    have c1 := (cell_of_block h' : w'.cell? ⟨ob, 1, none⟩ = some (.int .i64 os_))
    have c2 := (cell_of_block h' : w'.cell? ⟨ob, 2, none⟩ = some (.string od))
    clear h'
    go_simp
  simp only [Act.put]
  refine wpAnyH_take (i := 2) (oi := ⟨some 2, Op.assign (Operand.tmp 55), _, _, _, none⟩) (v := (.int .i64 k)) rfl (by kernel_rfl) (by kernel_rfl) (by kernel_rfl) (fun _ _ _ h => h) (Or.inl ⟨by rfl, fun w' h' => ?_⟩) hS ?_
  · clear h'
    go_simp
  simp only [Act.put]
  have rb := (d.block _).trans RB6.out
  have f0 := frozen_of_block (i := 0) rb
  have f1 := frozen_of_block (i := 1) rb
  have f2 := frozen_of_block (i := 2) rb
  have d0 : V.cell? ⟨w.heap.size, 0, none⟩ = some (.int .i64 0) := cell_of_block rb
  have d1 : V.cell? ⟨w.heap.size, 1, none⟩ = some (.int .i64 0) := cell_of_block rb
  have d2 : V.cell? ⟨w.heap.size, 2, none⟩ = some (.string ⟨#[]⟩) := cell_of_block rb
  have RB7 := Lib.hid rb
  have jE : (((V.setCell ⟨w.heap.size, 0, none⟩ (.int .i64 ok)).setCell ⟨w.heap.size, 1, none⟩ (.int .i64 os_)).setCell ⟨w.heap.size, 2, none⟩ (.string od)).heap[ob]? = some (.cells #[.int .i64 ok, .int .i64 os_, .string od] 39 (0, 0)) := by
    rw [Below.heap_setCell _ _ _ _ hobn, Below.heap_setCell _ _ _ _ hobn, Below.heap_setCell _ _ _ _ hobn]
    exact hS
  clear rb
  refine wpAnyH_ready (rs := [3]) (by kernel_rfl) (by simp) ?_
  refine AllReadyH.cons rfl (fun K hK => ?_) AllReadyH.nil
  go_simp
  refine hK.out _ _ jE (fun _ => ?_)
  clear hK K
  refine wpAnyH_take (i := 4) (oi := ⟨some 4, Op.assign (Operand.const (Value.int IntKind.i64 0)), _, _, _, none⟩) (v := (.int .i64 0)) rfl (by kernel_rfl) (by kernel_rfl) (by kernel_rfl) (fun _ _ _ h => h) (Or.inl ⟨by rfl, fun w' h' => ?_⟩) jE ?_
  · clear h'
    go_simp
  simp only [Act.put]
  refine wpAnyH_done (by kernel_rfl) (NoPanic.normal ?_) _
  have S8 := Lib.hid (S7.out.setThree (b := w.heap.size) (.int .i64 ok) (.int .i64 os_) (.string od) (by omega))
  have T8 := Lib.hid (T7.setThree (.int .i64 ok) (.int .i64 os_) (.string od))
  clear d0 d1 d2 f0 f1 f2 jE d hS hrun T7
  go_wp2_with fail
  have b9 := three_block RB7.out (.int .i64 ok) (.int .i64 os_) (.string od)
  have q0 : ((((V.setCell ⟨w.heap.size, 0, none⟩ (.int .i64 ok)).setCell ⟨w.heap.size, 1, none⟩ (.int .i64 os_)).setCell ⟨w.heap.size, 2, none⟩ (.string od))).cell? ⟨w.heap.size, 0, none⟩ = some (.int .i64 ok) := cell_of_block b9
  have q1 : ((((V.setCell ⟨w.heap.size, 0, none⟩ (.int .i64 ok)).setCell ⟨w.heap.size, 1, none⟩ (.int .i64 os_)).setCell ⟨w.heap.size, 2, none⟩ (.string od))).cell? ⟨w.heap.size, 1, none⟩ = some (.int .i64 os_) := cell_of_block b9
  have q2 : ((((V.setCell ⟨w.heap.size, 0, none⟩ (.int .i64 ok)).setCell ⟨w.heap.size, 1, none⟩ (.int .i64 os_)).setCell ⟨w.heap.size, 2, none⟩ (.string od))).cell? ⟨w.heap.size, 2, none⟩ = some (.string od) := cell_of_block b9
  exact bodyPost_ret (v := .tuple #[.int .i64 k, .agg #[.int .i64 ok, .int .i64 os_, .string od], .int .i64 0]) (by simp [results, Tryz.results11, go_sem, q0, q1, q2]) rfl ⟨rfl, jt, HJT.out, S8.out, T8.out⟩)

end Go.Proofs.YtnbponaldffbiaaGreatDoor

namespace Go.Proofs.YtnbponaldffbiaaGreatDoor
open Go.RowKit Go.Sort
set_option linter.unusedVariables false

theorem follow_len (lm : List UInt8) (base : Int) (n : Nat) : ∀ (f : Nat) (i : Int) (acc l : List Bf), followF lm base n f i acc = some l → acc.length < l.length
  | 0, _, _, _, h => by cases h
  | f + 1, i, acc, l, h => by
    rw [followF_succ] at h
    split at h
    · split at h
      · split at h
        · split at h
          · injection h with h; subst h; simp
          · cases h
        · have := follow_len lm base n f _ _ l h
          simp at this
          omega
      · cases h
    · cases h
/-- What Next comes to, where there is no order. -/
def RNextNo (w : World) (r g h p u : Nat) (lm : List UInt8) (base told : Int) (ts : List (Int × Tkn)) (e : Ending) (w' : World) : Prop :=
  ∃ (v : Value) (taken' : Int), e = .returned v ∧ RS w' r g h p u lm base taken' told ts ∧ Turned (RB h p u) w w'
set_option maxRecDepth 100000 in
set_option maxHeartbeats 4000000 in
theorem RNext_bad (w : World) (r g h p u : Nat) (lm : List UInt8) (base taken told : Int) (ts : List (Int × Tkn)) (hS : Shapes w) (hp0 : p ≠ 0) (s : RS w r g h p u lm base taken told ts)
    (hb : Hid (∀ l, offI lm base 32 ≠ taken → (offI lm base 32 - taken) % 65536 ≤ 32 → followF lm base 32 32 (offHead lm base 32 taken) [] = some l → askL lm l = none ∨ l = [])) :
    Calls Tryz.prog 11 #[.pointer (some ⟨r, 0, none⟩)] w (RNextNo w r g h p u lm base told ts) := by
  have ka := World.grownBy_alloc w (.cells #[.int .i64 0, .int .i64 0, .string ⟨#[]⟩] 39) none
  have hrb := heap_alloc_new w (.cells #[.int .i64 0, .int .i64 0, .string ⟨#[]⟩] 39)
  have S1 := Lib.hid (s.grown ka)
  have SH := Lib.hid (hS.grown ka)
  obtain ⟨lr, lg, lh, lp, lu⟩ := s.lts
  have LT := Lib.hid (show r ≠ w.heap.size ∧ g ≠ w.heap.size ∧ h ≠ w.heap.size ∧ p ≠ w.heap.size ∧ u ≠ w.heap.size from ⟨by omega, by omega, by omega, by omega, by omega⟩)
  have HZ : Hid (p ≠ 0) := Lib.hid hp0
  have RB1 := Lib.hid hrb
  have KA := Lib.hid ka
  clear hS s hrb ka lr lg lh lp lu hp0
  go_enter Tryz.func11, Tryz.ntmps11
  go_upto_region 1 with fail
  generalize w.alloc _ = W1 at S1 SH RB1 KA ⊢
  have c3 := S1.out.ra.c3
  have c1 := S1.out.ra.c1
  go_wp2_with (go_at_call 33; refine (rnone_no _ _ c3).mono ?_; rintro e w' ⟨rfl, rfl⟩)
  refine (vNext_any W1 p g h lm base 32 taken told S1.out.ps).mono ?_
  rintro e w2 hpost
  have fin : ∀ (W : World) (E tk : Int), W.heap[w.heap.size]? = some (.cells #[.int .i64 0, .int .i64 0, .string ⟨#[]⟩] 39 (0, 0)) → RS W r g h p u lm base tk told ts → Turned (RB h p u) w W →
      Hid (RNextNo w r g h p u lm base told ts (.returned (.tuple #[.int .i64 0, .agg #[.int .i64 0, .int .i64 0, .string ⟨#[]⟩], .int .i64 E])) (((W.setCell ⟨w.heap.size, 0, none⟩ (.int .i64 0)).setCell ⟨w.heap.size, 1, none⟩ (.int .i64 0)).setCell ⟨w.heap.size, 2, none⟩ (.string ⟨#[]⟩))) :=
    fun W E tk hb hr ht => ⟨_, tk, rfl, hr.setThree _ _ _ ⟨fun e => LT.out.1 e.symm, fun e => LT.out.2.1 e.symm, fun e => LT.out.2.2.1 e.symm, fun e => LT.out.2.2.2.1 e.symm, fun e => LT.out.2.2.2.2 e.symm⟩, ht.setThree _ _ _⟩
  have FIN := Lib.hid fin
  clear fin
  rcases hpost with ⟨_, rfl, k2⟩ | ⟨_, _, rfl, k2⟩ | ⟨l, v, q1, q2, q3, rfl, bv, ps2, k2⟩
  · have hb2 := (k2.block _ (lt_of_block RB1.out) (by simp)).trans RB1.out
    have FF := FIN.out w2 4 taken hb2 (S1.out.grown k2) ((Turned.of KA.out (fun j e => by cases e)).step k2 (fun j e => by cases e))
    have f0 := frozen_of_block (i := 0) hb2
    have f1 := frozen_of_block (i := 1) hb2
    have f2 := frozen_of_block (i := 2) hb2
    have d0 : w2.cell? ⟨w.heap.size, 0, none⟩ = some (.int .i64 0) := cell_of_block hb2
    have d1 : w2.cell? ⟨w.heap.size, 1, none⟩ = some (.int .i64 0) := cell_of_block hb2
    have d2 : w2.cell? ⟨w.heap.size, 2, none⟩ = some (.string ⟨#[]⟩) := cell_of_block hb2
    have RB2 := Lib.hid hb2
    have K2 := Lib.hid (KA.out.trans k2)
    clear c1 c3 k2 hb2 S1 SH RB1 KA FIN
    go_wp2_with fail
    exact ord_out RB2.out K2.out ⟨0, 0, ⟨#[]⟩⟩ (fun q0 q1 q2 => bodyPost_ret (v := .tuple #[.int .i64 0, .agg #[.int .i64 0, .int .i64 0, .string ⟨#[]⟩], .int .i64 4]) (by simp [results, Tryz.results11, go_sem, q0, q1, q2]) rfl FF.out)
  · have hb2 := (k2.block _ (lt_of_block RB1.out) (by simp)).trans RB1.out
    have FF := FIN.out w2 8 taken hb2 (S1.out.grown k2) ((Turned.of KA.out (fun j e => by cases e)).step k2 (fun j e => by cases e))
    have f0 := frozen_of_block (i := 0) hb2
    have f1 := frozen_of_block (i := 1) hb2
    have f2 := frozen_of_block (i := 2) hb2
    have d0 : w2.cell? ⟨w.heap.size, 0, none⟩ = some (.int .i64 0) := cell_of_block hb2
    have d1 : w2.cell? ⟨w.heap.size, 1, none⟩ = some (.int .i64 0) := cell_of_block hb2
    have d2 : w2.cell? ⟨w.heap.size, 2, none⟩ = some (.string ⟨#[]⟩) := cell_of_block hb2
    have RB2 := Lib.hid hb2
    have K2 := Lib.hid (KA.out.trans k2)
    clear c1 c3 k2 hb2 S1 SH RB1 KA FIN
    go_wp2_with fail
    exact ord_out RB2.out K2.out ⟨0, 0, ⟨#[]⟩⟩ (fun q0 q1 q2 => bodyPost_ret (v := .tuple #[.int .i64 0, .agg #[.int .i64 0, .int .i64 0, .string ⟨#[]⟩], .int .i64 8]) (by simp [results, Tryz.results11, go_sem, q0, q1, q2]) rfl FF.out)
  · have hlN : 0 < l.length := follow_len _ _ _ _ _ _ _ q3
    have hask : askL lm l = none := by
      rcases hb.out l q1 q2 q3 with h | h
      · exact h
      · rw [h] at hlN; simp at hlN
    have hbd := follow_bd q3 S1.out.ps.len
    obtain ⟨n1, n2, n3, n4, n5, n6, n7⟩ := S1.out.ne
    have s2 : RS w2 r g h p u lm base ((taken + 1) % 65536) told ts :=
      ⟨S1.out.ra.kept (k2.block _ S1.out.lts.1 (fun e => n3 (by injection e))), ps2, S1.out.tab.kept (k2.block _ S1.out.tab.lt (fun e => n7 (by injection e)))⟩
    have S2 := Lib.hid s2
    have SH2 := Lib.hid (SH.out.kept (k2.block 0 SH.out.pos (fun e => HZ.out (by injection e with e; exact e.symm))))
    have RB2 : Hid (w2.heap[w.heap.size]? = some (.cells #[.int .i64 0, .int .i64 0, .string ⟨#[]⟩] 39 (0, 0))) := Lib.hid ((k2.block _ (lt_of_block RB1.out) (fun e => LT.out.2.2.2.1 (by injection e with e; exact e.symm))).trans RB1.out)
    have T2 : Hid (Turned (RB h p u) w w2) := Lib.hid ((Turned.of KA.out (fun j e => by cases e)).step k2 (fun j e => .inl (.inr (.inl (by injection e with e; exact e.symm)))))
    have BV := Lib.hid bv
    have HBD := Lib.hid hbd
    have HASK := Lib.hid hask
    generalize offHead lm base 32 taken = k
    clear c1 c3 k2 ps2 bv s2 S1 SH RB1 KA n1 n2 n3 n4 n5 n6 n7 q1 q2 q3 hbd hask
    obtain ⟨pp, cap, rfl, hle⟩ := BV.out.form
    go_wp2_with fail
    refine (order_any w2 r g p u h lm SH2.out S2.out.ra S2.out.ps.mem S2.out.ps.len _ l BV.out hlN (fun x hx => by have := HBD.out x hx; omega)).mono ?_
    rintro e w3 hpost
    obtain ⟨⟨ok, os_, od⟩, rfl, k3⟩ : ∃ o : Ord, e = .returned (.tuple #[o.val, .bool false]) ∧ w2.grownBy w3 none := by
      rcases hpost with ⟨o, e4, _⟩ | ⟨_, h⟩
      · rw [HASK.out] at e4; cases e4
      · exact h
    unfold Ord.val
    simp only
    have K3 := Lib.hid (k3.trans (World.grownBy_alloc w3 (.cells #[.int .i64 ok, .int .i64 os_, .string od] 39) none))
    clear k3
    go_upto_region 7 with fail
    generalize w3.alloc _ = W3 at K3 ⊢
    have hb3 := (K3.out.block _ (lt_of_block RB2.out) (by simp)).trans RB2.out
    have FF := FIN.out W3 8 _ hb3 (S2.out.grown K3.out) (T2.out.step K3.out (fun j e => by cases e))
    have f0 := frozen_of_block (i := 0) hb3
    have f1 := frozen_of_block (i := 1) hb3
    have f2 := frozen_of_block (i := 2) hb3
    have d0 : W3.cell? ⟨w.heap.size, 0, none⟩ = some (.int .i64 0) := cell_of_block hb3
    have d1 : W3.cell? ⟨w.heap.size, 1, none⟩ = some (.int .i64 0) := cell_of_block hb3
    have d2 : W3.cell? ⟨w.heap.size, 2, none⟩ = some (.string ⟨#[]⟩) := cell_of_block hb3
    have RB3 := Lib.hid hb3
    clear hb3 S2 SH2 RB2 T2 BV K3 FIN
    go_wp2_with fail
    exact ord_out RB3.out (World.grownBy.refl _ none) ⟨0, 0, ⟨#[]⟩⟩ (fun q0 q1 q2 => bodyPost_ret (v := .tuple #[.int .i64 0, .agg #[.int .i64 0, .int .i64 0, .string ⟨#[]⟩], .int .i64 8]) (by simp [results, Tryz.results11, go_sem, q0, q1, q2]) rfl FF.out)
end Go.Proofs.YtnbponaldffbiaaGreatDoor

namespace Go.Proofs.YtnbponaldffbiaaGreatDoor
open Go.RowKit Go.Sort
set_option linter.unusedVariables false

set_option maxRecDepth 100000 in
set_option maxHeartbeats 1000000 in
theorem RDone_bad (w : World) (r g h p u : Nat) (lm : List UInt8) (base taken told : Int) (ts : List (Int × Tkn)) (s : RS w r g h p u lm base taken told ts) (k : Int) (x : Tkn) (hx : (k, x) ∈ ts) (ok : Bool) (d : ByteArray) (hm : mayAns x ok d = false) :
    Calls Tryz.prog 12 #[.pointer (some ⟨r, 0, none⟩), .int .i64 k, .bool ok, .string d] w fun e w' => e = .returned (.int .i64 1) ∧ w.grownBy w' none := by
  have c3 := s.ra.c3
  have c2 := s.ra.c2
  have hrun := s.tab.look_yes (P := Tryz.prog) Tryz.underlying77 Tryz.underlying3 (x := k) (v := x.val) (List.mem_map.2 ⟨(k, x), hx, rfl⟩)
  obtain ⟨xr, xd, xs⟩ := x
  unfold Tkn.val at hrun
  simp only at hrun
  have ka := World.grownBy_alloc w (.cells #[.bool xr, .int .i64 xd, .int .i64 xs] 100) none
  have KA := Lib.hid ka
  have HM := Lib.hid hm
  clear s hx ka hm
  go_enter Tryz.func12, Tryz.ntmps12
  go_wp2_with (first | (go_at_call 33; refine (rnone_no _ _ c3).mono ?_; rintro e w' ⟨rfl, rfl⟩) | (at_lookup; refine wpList_lookup_tab _ rfl _ _ 77 rfl u k (.agg #[.bool xr, .int .i64 xd, .int .i64 xs]) true rfl rfl hrun ?_; clear hrun c2 c3))
  generalize w.alloc _ = W1 at KA ⊢
  have MC := rmayAnswer_any W1 ⟨xr, xd, xs⟩ ok d
  rw [HM.out] at MC
  refine MC.mono ?_
  clear MC
  rintro e w2 ⟨rfl, k2⟩
  have K2 := Lib.hid (KA.out.trans k2)
  clear k2 KA
  go_wp2_with fail
  go_ret
  exact ⟨rfl, K2.out⟩

/-- The heads of what is with the device are numbers of descriptors. -/
def TKeys (ts : List (Int × Tkn)) : Prop := ∀ t ∈ ts, 0 ≤ t.1 ∧ t.1 ≤ 65535
/-- What a call of the device comes to. -/
def DevPost (w : World) (r g h p u : Nat) (lm : List UInt8) (base : Int) (e : Ending) (w' : World) : Prop :=
  ∃ (v : Value) (lm' : List UInt8) (taken' told' : Int) (ts' : List (Int × Tkn)), e = .returned v ∧ RS w' r g h p u lm' base taken' told' ts' ∧ lm'.length = lm.length ∧ TKeys ts' ∧ Turned (RB h p u) w w'
theorem RNext_any (w : World) (r g h p u : Nat) (lm : List UInt8) (base taken told : Int) (ts : List (Int × Tkn)) (hS : Shapes w) (hp0 : p ≠ 0) (s : RS w r g h p u lm base taken told ts) (hk : TKeys ts) :
    Calls Tryz.prog 11 #[.pointer (some ⟨r, 0, none⟩)] w (DevPost w r g h p u lm base) := by
  by_cases hb : ∃ l o, offI lm base 32 ≠ taken ∧ (offI lm base 32 - taken) % 65536 ≤ 32 ∧ followF lm base 32 32 (offHead lm base 32 taken) [] = some l ∧ askL lm l = some o
  · obtain ⟨l, o, q1, q2, q3, q4⟩ := hb
    have hbd := offHead_bd lm base 32 taken
    by_cases hm : ∃ x0, (offHead lm base 32 taken, x0) ∈ ts
    · obtain ⟨x0, hx0⟩ := hm
      refine (RNext_again w r g h p u lm base taken told ts hS hp0 s _ l o q1 q2 (Lib.hid rfl) (Lib.hid q3) (Lib.hid q4) x0 hx0).mono ?_
      rintro e w' ⟨rfl, j, hj, s', t'⟩
      refine ⟨_, lm, _, _, _, rfl, s', rfl, ?_, t'⟩
      intro t ht
      rcases List.mem_or_eq_of_mem_set ht with ht | rfl
      · exact hk t ht
      · exact hbd
    · refine (RNext_ok w r g h p u lm base taken told ts hS hp0 s _ l o q1 q2 (Lib.hid rfl) (Lib.hid q3) (Lib.hid q4) (fun t ht e => hm ⟨t.2, by rw [← e]; exact ht⟩)).mono ?_
      rintro e w' ⟨rfl, s', t'⟩
      refine ⟨_, lm, _, _, _, rfl, s', rfl, ?_, t'⟩
      intro t ht
      rcases List.mem_append.1 ht with ht | ht
      · exact hk t ht
      · rw [List.mem_singleton] at ht; subst ht; exact hbd
  · refine (RNext_bad w r g h p u lm base taken told ts hS hp0 s (Lib.hid fun l q1 q2 q3 => ?_)).mono ?_
    · cases hq : askL lm l with
      | none => exact .inl rfl
      | some o => exact absurd ⟨l, o, q1, q2, q3, hq⟩ hb
    · rintro e w' ⟨v, taken', rfl, s', t'⟩
      exact ⟨v, lm, taken', told, ts, rfl, s', rfl, hk, t'⟩
theorem RDone_any (w : World) (r g h p u : Nat) (lm : List UInt8) (base taken told : Int) (ts : List (Int × Tkn)) (s : RS w r g h p u lm base taken told ts) (hk : TKeys ts) (k : Int) (hw : (Lit.int .i64 k).wf = true) (ok : Bool) (d : ByteArray) :
    Calls Tryz.prog 12 #[.pointer (some ⟨r, 0, none⟩), .int .i64 k, .bool ok, .string d] w (DevPost w r g h p u lm base) := by
  by_cases hm : ∃ x, (k, x) ∈ ts
  · obtain ⟨x, hx⟩ := hm
    have hb := hk _ hx
    cases hy : mayAns x ok d with
    | true =>
      refine (RDone_ok w r g h p u lm base taken told ts s k hb.1 hb.2 x hx ok d hy).mono ?_
      rintro e w' ⟨rfl, s', t'⟩
      exact ⟨_, _, _, _, _, rfl, s', answerL_length _ _ _ _ _ _ _, fun t ht => hk t (List.mem_filter.1 ht).1, t'⟩
    | false =>
      refine (RDone_bad w r g h p u lm base taken told ts s k x hx ok d hy).mono ?_
      rintro e w' ⟨rfl, k'⟩
      exact ⟨_, lm, _, _, _, rfl, s.grown k', rfl, hk, Turned.of k' (fun j e => by cases e)⟩
  · refine (RDone_absent w r g h p u lm base taken told ts s k hw (fun t ht e => hm ⟨t.2, by rw [← e]; exact ht⟩) ok d).mono ?_
    rintro e w' ⟨rfl, k'⟩
    exact ⟨_, lm, _, _, _, rfl, s.grown k', rfl, hk, Turned.of k' (fun j e => by cases e)⟩
end Go.Proofs.YtnbponaldffbiaaGreatDoor

namespace Go.Proofs.YtnbponaldffbiaaGreatDoor
open Go.RowKit Go.Sort
set_option linter.unusedVariables false

theorem perm_strike {α : Type} {f : α → Int} : ∀ {os : List α} {y : α}, (os.map f).Nodup → y ∈ os → os.Perm (y :: os.filter fun z => f z != f y)
  | [], y, _, h => by cases h
  | z :: os, y, hn, h => by
    rw [List.map_cons, List.nodup_cons] at hn
    rcases List.mem_cons.1 h with rfl | h
    · rw [List.filter_cons_of_neg (by simp)]
      have e : os.filter (fun z => f z != f y) = os := List.filter_eq_self.2 (fun t ht => by
        have : f t ≠ f y := fun e => hn.1 (List.mem_map.2 ⟨t, ht, e⟩)
        simpa using this)
      rw [e]
    · have hne : f z ≠ f y := fun e => hn.1 (List.mem_map.2 ⟨y, h, e.symm⟩)
      rw [List.filter_cons_of_pos (by simpa using hne)]
      exact ((perm_strike hn.2 h).cons z).trans (List.Perm.swap _ _ _)
theorem told_perm {lm : List UInt8} {base : Int} {os os' : List Snt} {cs cs' : List Oc} {back back' : Int} {l : List Dn} {d : Bool} (h : Told lm base os cs back l os' cs' back' d) :
    (os.map Snt.hd).Nodup → (l.map Dn.id ++ os'.map Snt.id).Perm (os.map Snt.id) ∧ (os'.map Snt.hd).Nodup ∧ (∀ x ∈ l, x.ok = false → x.data = ⟨#[]⟩) ∧ (∀ y ∈ os', y ∈ os) := by
  induction h with
  | stop os cs back h => exact fun hn => ⟨List.Perm.refl _, hn, (fun x hx => by cases hx), fun y hy => hy⟩
  | brk os cs back h hb => exact fun hn => ⟨List.Perm.refl _, hn, (fun x hx => by cases hx), fun y hy => hy⟩
  | step os cs back x hx y hy h hc hk hyk hl l os' cs' back' d r ih =>
    intro hn
    rw [← hyk] at ih
    have hn2 : ((os.filter fun z => z.hd != y.hd).map Snt.hd).Nodup := hn.sublist (List.filter_sublist.map _)
    obtain ⟨i1, i2, i3, i4⟩ := ih hn2
    have hp := perm_strike (f := Snt.hd) hn hy
    refine ⟨?_, i2, ?_, fun z hz => (List.mem_filter.1 (i4 z hz)).1⟩
    · rw [List.map_cons, List.cons_append]
      have e : (ansF lm base y (usedLen lm base 32 back)).id = y.id := by unfold ansF; split <;> first | rfl | (split <;> rfl)
      rw [e]
      exact (i1.cons y.id).trans (hp.map Snt.id).symm
    · intro z hz hok
      rcases List.mem_cons.1 hz with rfl | hz
      · revert hok
        unfold ansF
        split <;> simp
      · exact i3 z hz hok
theorem told_len {lm : List UInt8} {base : Int} {os os' : List Snt} {cs cs' : List Oc} {back back' : Int} {l : List Dn} {d : Bool} (h : Told lm base os cs back l os' cs' back' d) (hn : (os.map Snt.hd).Nodup) : l.length + os'.length = os.length := by
  have := (told_perm h hn).1.length_eq
  simpa using this
end Go.Proofs.YtnbponaldffbiaaGreatDoor

namespace Go.Proofs.YtnbponaldffbiaaGreatDoor
open Go.RowKit Go.Sort Go.Shelf
set_option linter.unusedVariables false

set_option maxHeartbeats 400000 in
theorem Submit_d (w : World) (b g : Nat) (base sectors limit : Int) (q u : Nat) (last now : Int) (hK : KAt w b g base sectors limit q u last now true) (o : Ord) :
    Calls Tryz.prog 10 #[.pointer (some ⟨b, 0, none⟩), o.val] w fun e w' => e = .returned (.tuple #[.int .i64 0, .int .i64 14]) ∧ w.grownBy w' none := by
  obtain ⟨ok, os_, od⟩ := o
  unfold Ord.val
  have ka := World.grownBy_alloc w (.cells #[.int .i64 ok, .int .i64 os_, .string od] 39) none
  have s1 := hK.kept (ka.block _ (lt_of_block hK) (by simp))
  have h8 := s1.c8
  have h9 := s1.c9
  clear hK s1
  simp only
  go_enter Tryz.func10, Tryz.ntmps10
  go_wp2_with (go_at_call 25; refine (knone_no _ _ h9).mono ?_; rintro e w' ⟨rfl, rfl⟩)
  go_ret2
  exact ⟨rfl, ka⟩

set_option maxRecDepth 100000 in
set_option maxHeartbeats 4000000 in
theorem Tick_d (w : World) (b g : Nat) (base sectors limit : Int) (q u : Nat) (last now : Int) (hK0 : KAt w b g base sectors limit q u last now true) (hT00 : IsTab w u []) (hub : u ≠ b) (n0 : 0 ≤ now) (hnow : now ≤ 1000000) :
    Calls Tryz.prog 18 #[.pointer (some ⟨b, 0, none⟩)] w fun e w' => e = .returned (.tuple #[]) ∧ KAt w' b g base sectors limit q u last (now + 1) true ∧ IsTab w' u [] ∧ Turned (fun k => k = b) w w' := by
  obtain ⟨cs0, hcs0⟩ : ∃ cs0 : List (Int × Value), cs0 = [] := ⟨_, rfl⟩
  have hT0 : IsTab w u cs0 := by rw [hcs0]; exact hT00
  have HC0 := Lib.hid hcs0
  clear hT00 hcs0
  have c9 := hK0.c9
  have c7 := hK0.c7
  have f7 := hK0.fz 7
  have hw1 : IntKind.i64.wrap (now + 1) = now + 1 := IntWalk.i64_in _ (by omega)
  have lb := lt_of_block hK0
  have lu := hT0.lt
  have k1 := grown_setCell w b 7 (.int .i64 (now + 1))
  have kat1 : KAt (w.setCell ⟨b, 7, none⟩ (.int .i64 (now + 1))) b g base sectors limit q u last (now + 1) true := set_block hK0 7 (.int .i64 (now + 1))
  have tab1 := hT0.kept (k1.block _ hT0.lt (fun e => hub (by injection e)))
  have T1 := Lib.hid (Turned.of (S := fun k => k = b) k1 (fun j e => by injection e with e; exact e.symm))
  clear hK0 hT0 k1
  go_enter Tryz.func18, Tryz.ntmps18
  go_upto_region 2 with (go_at_call 25; refine (knone_no _ _ c9).mono ?_; rintro e w' ⟨rfl, rfl⟩)
  clear c7 f7 c9
  generalize w.setCell _ _ = W1 at kat1 tab1 T1 ⊢
  have c5 := kat1.c5
  go_wp2_with (at_range; refine wpList_range_tab _ rfl _ 71 rfl 3 92 Tryz.underlying71 u cs0 tab1 rfl ?_; intro w2 hit hg0 hs0)
  go_frame
  have kat2 := kat1.kept (hg0.block _ (lt_of_block kat1) (by simp))
  have T2 := Lib.hid (T1.out.step hg0 (fun j e => by cases e))
  obtain ⟨it, hite⟩ : ∃ it, it = W1.heap.size := ⟨_, rfl⟩
  rw [← hite] at hit ⊢
  clear c5 tab1 kat1 hg0 hs0 hite T1
  go_loopw [18] (fun _ wr => KAt wr b g base sectors limit q u last (now + 1) true ∧ (∃ left, TabIter wr u it cs0 left) ∧ Turned (fun k => k = b) w wr) (fun _ wr => wr.rangeLeft u it)
  case atStart => exact ⟨kat2, ⟨_, hit⟩, T2.out⟩
  case round =>
    obtain ⟨hK, ⟨left, hI⟩, hT⟩ := hrel
    clear kat2 hit T2
    go_wp2_with (at_next; refine wpList_next_tab _ Snt.val rfl _ rfl u it cs0 left rfl hI (fun c hc => by rw [HC0.out] at hc; cases hc) ?_ ?_)
    · intro hl0
      have FIN := Lib.hid (And.intro hK (And.intro (HC0.out ▸ hI.tab) hT))
      clear hI hK hT
      go_wp2_with fail
      go_end0
      exact ⟨rfl, FIN.out⟩
    · intro x y left' w' hp hm2 hlt2 hI' hG' hsz' hen
      rw [HC0.out] at hm2
      cases hm2
/-- 'append' of a whole row, be it none. -/
theorem wpList_append_row {P : Program} {ops : Array Oper} {rest : List Oper} {o : Oper} {a : Act} {w : World} {Q : Exit → Act → World → Prop} {α : Type} {k : Nat} {enc : α → List Value} {TE : TypeId}
    (hk : ∀ x, (enc x).length = k) (h1e : ∀ x, ∀ u ∈ enc x, u.oneCell' = true) (hk0 : 0 < k) (hg : o.guard = none) (s x : Operand) (t : TypeId) (hop : o.op = Op.call { callee := Callee.builtin Builtin.append, args := #[s, x], argTypes := #[t, t] })
    (i : TypeInfo) (z : Value) (bytes : Nat) (ht : P.underlying t = some (.slice TE)) (hi : P.info? TE = some i) (hz : i.zero = some z) (hsize : i.size = k) (hby : i.bytes = bytes) (hb2 : bytes ≤ 100) (hzs : z.cells.size = k)
    (v : Value) (l : List α) (hs : a.eval s = v) (hown : RowA k enc TE w v l) (v2 : Value) (ys : List α) (hx : a.eval x = v2) (hown2 : RowA k enc TE w v2 ys) (hl : l.length + ys.length ≤ 100000000)
    (hK : ∀ v' w', RowA k enc TE w' v' (l ++ ys) → w.grownBy w' v.ownBlock → (v'.ownBlock = v.ownBlock ∨ v'.ownBlock = some w.heap.size) → wpList P ops Q rest (a.put o.dst v') w') : wpList P ops Q (o :: rest) a w := by
  rcases hown2.2 with ⟨rfl, h0⟩ | ⟨gb, cap, cur, rfl, _⟩
  · obtain rfl : ys = [] := List.length_eq_zero_iff.1 h0
    refine wpList_plain hg fun K hKK => ?_
    obtain ⟨p, c, hv, hle⟩ : ∃ p c, v = .slice p l.length c ∧ l.length ≤ c := by
      rcases hown.2 with ⟨rfl, h0⟩ | ⟨b, cap, cur, rfl, _, _, h3, _⟩
      · exact ⟨none, 0, by rw [h0], by omega⟩
      · exact ⟨_, _, rfl, h3⟩
    subst hv
    have hr := run_append_nothing (P := P) w t t o.type TE i ht hi p l.length c hle (.slice none 0 0) (Src.ofNil w ht 0)
    unfold Oper.wp
    simp only [execOp, hop, resolve, invoke, builtin, Sem.run_bind, Sem.run_pure, Result.andThen_ok, List.map_toArray, List.map_cons, List.map_nil, hs, hx, hr]
    exact hKK _ _ (hK _ _ (by rw [List.append_nil]; exact hown) (World.grownBy.refl _ _) (.inl rfl))
  · exact wpList_append_many hk h1e hk0 hg s x t hop i z bytes ht hi hz hsize hby hb2 hzs v l hs hown ys hl ⟨gb, 0, none⟩ ys.length cap rfl hx (fun j u hu => hown2.cells (g := gb) rfl j u hu) hK
/-- What told has told, and what Poll tells then. -/
def PollG (w : World) (b g h q u mb : Nat) (base sectors limit last now : Int) (Φ : World → List Dn → List Snt → Bool → Prop) (e : Ending) (w' : World) : Prop :=
  ∃ (v : Value) (l1 : List Dn) (os1 : List Snt) (l2 : List Dn) (d : Bool) (w1 : World), e = .returned v ∧ OwnDns w.heap.size w' v (l1 ++ l2) ∧ Φ w1 l1 os1 d ∧ Turned (KB b q h mb u) w w1 ∧ (d = false → l2 = [] ∧ w' = w1) ∧
    (d = true → l2.Perm (os1.map fun x => ⟨x.id, false, ⟨#[]⟩⟩) ∧ KAt w' b g base sectors limit q u last now true ∧ IsTab w' u [] ∧ (∀ k, k < w.heap.size → k ≠ u → w'.heap[k]? = w1.heap[k]?) ∧ Turned (KB b q h mb u) w w')
set_option maxRecDepth 100000 in
set_option maxHeartbeats 2000000 in
theorem Poll_gen (w : World) (b g h q u mb : Nat) (base sectors limit last now : Int) (Φ : World → List Dn → List Snt → Bool → Prop) (c9 : w.cell? ⟨b, 9, none⟩ = some (.pointer (some ⟨b, 0, none⟩))) (hu : u ≠ b) (hlu : u < w.heap.size) (hlb : b < w.heap.size)
    (TC : Calls Tryz.prog 38 #[.pointer (some ⟨b, 0, none⟩)] w fun e w1 => ∃ (v : Value) (l1 : List Dn) (os1 : List Snt) (d : Bool), e = .returned v ∧ OwnDns w.heap.size w1 v l1 ∧ KAt w1 b g base sectors limit q u last now d ∧ IsTab w1 u (os1.map Snt.ent) ∧ os1.length ≤ 8 ∧ l1.length ≤ 8 ∧ Φ w1 l1 os1 d ∧ Turned (KB b q h mb u) w w1) :
    Calls Tryz.prog 13 #[.pointer (some ⟨b, 0, none⟩)] w (PollG w b g h q u mb base sectors limit last now Φ) := by
  have HTC := Lib.hid TC
  clear TC
  go_enter Tryz.func13, Tryz.ntmps13
  go_wp2_with (go_at_call 25; refine (knone_no _ _ c9).mono ?_; rintro e w' ⟨rfl, rfl⟩)
  refine HTC.out.mono ?_
  rintro e w1 ⟨v, l1, os1, d, rfl, o1, hK, hT, h8, h9, hΦ, t1⟩
  have c8 := hK.c8
  cases d with
  | false =>
    have F : Hid (PollG w b g h q u mb base sectors limit last now Φ (.returned v) w1) := Lib.hid ⟨v, l1, os1, [], false, w1, rfl, by rw [List.append_nil]; exact o1, hΦ, t1, fun _ => ⟨rfl, rfl⟩, fun e => by cases e⟩
    clear o1 hK hT hΦ t1
    go_wp2_with fail
    go_ret
    exact F.out
  | true =>
    have LC := Lib.hid (lost_any w1 b g base sectors limit q u last now os1 hK hT hu h8)
    have O1 := Lib.hid o1
    have HΦ := Lib.hid hΦ
    have T1 := Lib.hid t1
    clear o1 hK hT hΦ t1 c9
    go_wp2_with fail
    refine LC.out.mono ?_
    rintro e w2 ⟨v2, l2, rfl, o2, hp, hpw, k2, t2, T2⟩
    have hlen : l2.length ≤ 8 := by rw [hp.length_eq, List.length_map]; exact h8
    have r1 : OwnDns w.heap.size w2 v l1 := O1.out.turned T2 (fun k hk => by rw [hk]; exact hlu)
    have R1 := Lib.hid r1.rowA
    have R2 := Lib.hid o2.rowA
    obtain ⟨ii, zz, y1, y2, y3, y4, y5⟩ := info_dn
    have HL8 := Lib.hid hlen
    have HQ := Lib.hid (And.intro hp (And.intro k2 (And.intro t2 T2)))
    have HR1 := Lib.hid r1
    have hown2 : ∀ k, v2.ownBlock = some k → w1.heap.size ≤ k := fun k hk => own_ge o2.1 _ hk
    have HO2 := Lib.hid hown2
    clear o2 hp hpw k2 t2 T2 hlen r1 LC c8 hown2
    obtain ⟨p1, c1, hv1⟩ := RowA.shape R1.out
    obtain ⟨p2, c2, hv2⟩ := RowA.shape R2.out
    have HV1 := Lib.hid hv1
    have HV2 := Lib.hid hv2
    clear hv1 hv2
    go_wp2_with (refine wpList_append_row dn_len dn_one (by decide) rfl _ _ 48 rfl ii zz 32 Tryz.underlying48 y1 y2 y3 y4 (by decide) y5 v l1 (by first | rfl | kernel_rfl) R1.out v2 l2 (by first | rfl | kernel_rfl) R2.out (by have := HL8.out; omega) ?_; intro v3 w3 r3 g3 b3)
    go_ret
    obtain ⟨hp, k2, t2, T2⟩ := HQ.out
    have hw1 : w.heap.size ≤ w1.heap.size := T1.out.size
    have hw2 : w1.heap.size ≤ w2.heap.size := T2.size
    have hno : ∀ k, k < w.heap.size → some k ≠ v.ownBlock := fun k hk e => by have := own_ge HR1.out.1 _ e.symm; omega
    refine ⟨v3, l1, os1, l2, true, w1, rfl, ⟨?_, by have := HL8.out; rw [List.length_append]; omega⟩, HΦ.out, T1.out, (fun e => by cases e), fun _ => ⟨hp, k2.kept (g3.block b (by omega) (hno b hlb)), t2.kept (g3.block u (by omega) (hno u hlu)), ?_, ?_⟩⟩
    · refine ⟨r3.1, ?_⟩
      rcases r3.2 with h9 | ⟨g9, cap9, cur9, e9, _, r9⟩
      · exact .inl h9
      · refine .inr ⟨g9, cap9, cur9, e9, ?_, r9⟩
        rcases b3 with e | e
        · rw [e9] at e
          exact own_ge HR1.out.1 _ e.symm
        · rw [e9] at e
          injection e with e
          have e' : g9 = w2.heap.size := e
          omega
    · intro k hk hku
      exact (g3.block k (by omega) (hno k hk)).trans (T2.block k (by omega) hku)
    · refine (T1.out.trans (T2.mono (fun j _ hj => .inr (.inr (.inr (.inr hj)))))).step g3 (fun j e => .inr (own_ge HR1.out.1 _ e))
/-- A dead driver's Poll. -/
theorem Poll_d (w : World) (b g h q u mb : Nat) (base sectors limit : Int) (last now : Int) (os : List Snt) (hK : KAt w b g base sectors limit q u last now true) (hT : IsTab w u (os.map Snt.ent)) (h8 : os.length ≤ 8) (hu : u ≠ b) :
    Calls Tryz.prog 13 #[.pointer (some ⟨b, 0, none⟩)] w (PollG w b g h q u mb base sectors limit last now fun w1 l1 os1 d => l1 = [] ∧ os1 = os ∧ d = true ∧ w1 = w.alloc (.cells #[] 51)) := by
  have ka := World.grownBy_alloc w (.cells #[] 51) none
  refine Poll_gen w b g h q u mb base sectors limit last now _ hK.c9 hu hT.lt (lt_of_block hK) ((told_dead w b g base sectors limit q u last now hK).mono fun e w1 ⟨h1, h2⟩ => ?_)
  subst h2
  exact ⟨_, [], os, true, h1, OwnDns.zero w (Nat.le_refl _), hK.kept (ka.block _ (lt_of_block hK) (by simp)), hT.kept (ka.block _ hT.lt (by simp)), h8, by simp, ⟨rfl, rfl, rfl, rfl⟩, Turned.of ka (fun j e => by cases e)⟩
theorem os_nodup {w : World} {b g h q u mb : Nat} {lm : List UInt8} {base sectors limit : Int} {os : List Snt} {cs : List Oc} {off back : Int} {broken : Bool} {last now : Int} {dead : Bool} (s : KS w b g h q u mb lm base sectors limit os cs off back broken last now dead) : (os.map Snt.hd).Nodup := by
  obtain ⟨es, clock, h1, h2⟩ := s.tab
  have h := h2.keys
  rw [List.map_map] at h
  exact h
/-- A living driver's Poll, whatever the memory. -/
theorem Poll_l (w : World) (b g h q u mb : Nat) (lm : List UInt8) (base sectors limit : Int) (os : List Snt) (cs : List Oc) (off back last now : Int) (s : KS w b g h q u mb lm base sectors limit os cs off back false last now false) :
    Calls Tryz.prog 13 #[.pointer (some ⟨b, 0, none⟩)] w (PollG w b g h q u mb base sectors limit last now fun w1 l1 os1 d => ∃ cs1 back1, Told lm base os cs back l1 os1 cs1 back1 d ∧ KS w1 b g h q u mb lm base sectors limit os1 cs1 off back1 d last now d) := by
  refine Poll_gen w b g h q u mb base sectors limit last now _ s.kat.c9 s.ub.1 s.tab.lt (lt_of_block s.kat) ((told_any w b g h q u mb lm base sectors limit os cs off back last now s).mono fun e w1 hp => ?_)
  obtain ⟨v, l, os', cs', back', d, h1, ho, ht, hk, hT⟩ := hp
  exact ⟨v, l, os', d, h1, ho, hk.kat, hk.tab, hk.few, by have := told_len ht (os_nodup s); have := s.few; omega, ⟨cs', back', ht, hk⟩, hT⟩
end Go.Proofs.YtnbponaldffbiaaGreatDoor

namespace Go.Proofs.YtnbponaldffbiaaGreatDoor
open Go.RowKit Go.ChangeShapes Go.WideShapes Go.Deep Go.Sort
set_option linter.unusedVariables false

/-- An act: what is done, an order, a byte, two heads, whether, where, in how many bytes, the number. -/
structure Act3 where
  d : Int
  o : Ord
  y : UInt8
  hd : Int
  ow : Int
  k : Bool
  a : Int
  n : Int
  x : Int
def Act3.cells (c : Act3) : List Value := [.int .i64 c.d, .int .i64 c.o.kind, .int .i64 c.o.sec, .string c.o.data, .int .u8 (c.y.toNat : Int), .int .i64 c.hd, .int .i64 c.ow, .bool c.k, .int .i64 c.a, .int .i64 c.n, .int .u64 c.x]
def Act3.val (c : Act3) : Value := .agg #[.int .i64 c.d, .int .i64 c.o.kind, .int .i64 c.o.sec, .string c.o.data, .int .u8 (c.y.toNat : Int), .int .i64 c.hd, .int .i64 c.ow, .bool c.k, .int .i64 c.a, .int .i64 c.n, .int .u64 c.x]
def Act3.fits (c : Act3) : Prop := (Lit.int .i64 c.d).wf = true ∧ c.o.data.size ≤ maxLen ∧ (Lit.int .i64 c.hd).wf = true ∧ (Lit.int .i64 c.a).wf = true ∧ (Lit.int .i64 c.n).wf = true ∧ (Lit.int .u64 c.x).wf = true
def IsActs3 (w : World) (p : Option Addr) (len : Nat) (l : List Act3) : Prop :=
  l.length = len ∧ len ≤ maxLen ∧ (∀ c ∈ l, c.fits) ∧ (0 < len → ∃ b o, p = some ⟨b, o, none⟩ ∧ ∀ (i : Nat) (h : i < l.length), w.rangeAt b (o + i * 11) l[i].cells)
theorem IsActs3.below {w w' : World} {p : Option Addr} {len : Nat} {l : List Act3} (h : IsActs3 w p len l) (t : Below w.heap.size w w') : IsActs3 w' p len l := by
  obtain ⟨h1, h2, h3, h4⟩ := h
  refine ⟨h1, h2, h3, fun hp => ?_⟩
  obtain ⟨b, o, e, hc⟩ := h4 hp
  refine ⟨b, o, e, fun i hi j u hu => ?_⟩
  have hb : b < w.heap.size := World.block_lt_of_cell? w _ (hc i hi 0 _ rfl)
  exact (t.cell (p := ⟨b, o + i * 11 + j, none⟩) hb).trans (hc i hi j u hu)
theorem IsActs3.at_ {w : World} {p : Option Addr} {len : Nat} {l : List Act3} (h : IsActs3 w p len l) (i : Nat) (hi : i < len) :
    ∃ b o c, p = some ⟨b, o, none⟩ ∧ l[i]? = some c ∧ b < w.heap.size ∧ c.fits ∧ w.rangeAt b (o + i * 11) c.cells := by
  obtain ⟨h1, h2, h3, h4⟩ := h
  obtain ⟨b, o, e, hc⟩ := h4 (by omega)
  have hi' : i < l.length := by omega
  exact ⟨b, o, l[i], e, List.getElem?_eq_getElem hi', World.block_lt_of_cell? w _ (hc i hi' 0 _ rfl), h3 _ (List.getElem_mem _), hc i hi'⟩
theorem add_plain3 (b o i : Nat) : (⟨b, o, none⟩ : Addr).add i = ⟨b, o + i, none⟩ := by
  unfold Addr.add
  by_cases hi : i = 0 <;> simp [hi]
theorem cells_act3 : Tryz.prog.cellsOf 59 = 11 := by kernel_rfl
theorem u8_of {y : Int} (h : (Lit.int .u8 y).wf = true) : ∃ b : UInt8, y = (b.toNat : Int) := by
  have h2 : 0 ≤ y ∧ y ≤ 255 := by simpa [Lit.wf, IntKind.min, IntKind.max, IntKind.signed, IntKind.bits] using h
  exact ⟨UInt8.ofNat y.toNat, by rw [UInt8.toNat_ofNat']; omega⟩
set_option maxRecDepth 100000 in
theorem open_act3 {H : Type} {enc : TypeId × Value → H} {w : World} {a : Addr} {fuel : Nat} {cs : List Value} {x : DataW H × List MemPlace}
    (hc : w.cells? 0 a (Tryz.prog.cellsOf 59) = some cs) (ht : DataW.trod enc Tryz.prog w 0 (fun _ => true) true fuel 59 cs = some x) :
    ∃ c : Act3, c.fits ∧ a.spot = none ∧ w.rangeAt a.block a.off c.cells := by
  obtain ⟨xs, n, _, _, hl, hlen, hg⟩ := DataW.trod_struct Tryz.underlying59 ht
  have hx : ∀ i, i < 9 → ∃ y, xs[i]? = some y := fun i hi => ⟨xs[i]'(by rw [hlen]; exact hi), List.getElem?_eq_getElem _⟩
  obtain ⟨y0, e0⟩ := hx 0 (by decide)
  obtain ⟨y1, e1⟩ := hx 1 (by decide)
  obtain ⟨y2, e2⟩ := hx 2 (by decide)
  obtain ⟨y3, e3⟩ := hx 3 (by decide)
  obtain ⟨y4, e4⟩ := hx 4 (by decide)
  obtain ⟨y5, e5⟩ := hx 5 (by decide)
  obtain ⟨y6, e6⟩ := hx 6 (by decide)
  obtain ⟨y7, e7⟩ := hx 7 (by decide)
  obtain ⟨y8, e8⟩ := hx 8 (by decide)
  have g0 : DataW.trod enc Tryz.prog w 0 (fun _ => true) true n 3 ((cs.drop 0).take (Tryz.prog.cellsOf 3)) = some y0 := (hg 0 _ rfl).trans e0
  have g1 : DataW.trod enc Tryz.prog w 0 (fun _ => true) true n 39 ((cs.drop 1).take (Tryz.prog.cellsOf 39)) = some y1 := (hg 1 _ rfl).trans e1
  have g2 : DataW.trod enc Tryz.prog w 0 (fun _ => true) true n 5 ((cs.drop 4).take (Tryz.prog.cellsOf 5)) = some y2 := (hg 2 _ rfl).trans e2
  have g3 : DataW.trod enc Tryz.prog w 0 (fun _ => true) true n 3 ((cs.drop 5).take (Tryz.prog.cellsOf 3)) = some y3 := (hg 3 _ rfl).trans e3
  have g4 : DataW.trod enc Tryz.prog w 0 (fun _ => true) true n 3 ((cs.drop 6).take (Tryz.prog.cellsOf 3)) = some y4 := (hg 4 _ rfl).trans e4
  have g5 : DataW.trod enc Tryz.prog w 0 (fun _ => true) true n 4 ((cs.drop 7).take (Tryz.prog.cellsOf 4)) = some y5 := (hg 5 _ rfl).trans e5
  have g6 : DataW.trod enc Tryz.prog w 0 (fun _ => true) true n 3 ((cs.drop 8).take (Tryz.prog.cellsOf 3)) = some y6 := (hg 6 _ rfl).trans e6
  have g7 : DataW.trod enc Tryz.prog w 0 (fun _ => true) true n 3 ((cs.drop 9).take (Tryz.prog.cellsOf 3)) = some y7 := (hg 7 _ rfl).trans e7
  have g8 : DataW.trod enc Tryz.prog w 0 (fun _ => true) true n 57 ((cs.drop 10).take (Tryz.prog.cellsOf 57)) = some y8 := (hg 8 _ rfl).trans e8
  rw [show Tryz.prog.cellsOf 3 = 1 by kernel_rfl] at g0 g3 g4 g6 g7
  rw [show Tryz.prog.cellsOf 39 = 3 by kernel_rfl] at g1
  rw [show Tryz.prog.cellsOf 5 = 1 by kernel_rfl] at g2
  rw [show Tryz.prog.cellsOf 4 = 1 by kernel_rfl] at g5
  rw [show Tryz.prog.cellsOf 57 = 1 by kernel_rfl] at g8
  obtain ⟨hcl, _, hcell⟩ := World.cells?_some hc
  rw [cells_act3] at hcell
  have hsz : cs.length = 11 := by
    have := cells_act3
    omega
  match cs, hsz with
  | [c0, c1, c2, c3, c4, c5, c6, c7, c8, c9, c10], _ =>
    obtain ⟨z0, h0, _, w0⟩ := DataW.trod_int (cs := [c0]) Tryz.underlying3 g0
    obtain ⟨xs', n', _, _, hl', hlen', hg'⟩ := DataW.trod_struct (cs := [c1, c2, c3]) Tryz.underlying39 g1
    have hx' : ∀ i, i < 3 → ∃ y, xs'[i]? = some y := fun i hi => ⟨xs'[i]'(by rw [hlen']; exact hi), List.getElem?_eq_getElem _⟩
    obtain ⟨r0, f0⟩ := hx' 0 (by decide)
    obtain ⟨r1, f1⟩ := hx' 1 (by decide)
    obtain ⟨r2, f2⟩ := hx' 2 (by decide)
    have s0 : DataW.trod enc Tryz.prog w 0 (fun _ => true) true n' 3 (([c1, c2, c3].drop 0).take (Tryz.prog.cellsOf 3)) = some r0 := (hg' 0 _ rfl).trans f0
    have s1 : DataW.trod enc Tryz.prog w 0 (fun _ => true) true n' 3 (([c1, c2, c3].drop 1).take (Tryz.prog.cellsOf 3)) = some r1 := (hg' 1 _ rfl).trans f1
    have s2 : DataW.trod enc Tryz.prog w 0 (fun _ => true) true n' 9 (([c1, c2, c3].drop 2).take (Tryz.prog.cellsOf 9)) = some r2 := (hg' 2 _ rfl).trans f2
    rw [show Tryz.prog.cellsOf 3 = 1 by kernel_rfl] at s0 s1
    rw [show Tryz.prog.cellsOf 9 = 1 by kernel_rfl] at s2
    obtain ⟨zk, h10, _, w10⟩ := DataW.trod_int (cs := [c1]) Tryz.underlying3 s0
    obtain ⟨zs, h11, _, w11⟩ := DataW.trod_int (cs := [c2]) Tryz.underlying3 s1
    obtain ⟨zd, h12, _, w12⟩ := DataW.trod_string (cs := [c3]) Tryz.underlying9 s2
    obtain ⟨z2, h2, _, w2⟩ := DataW.trod_int (cs := [c4]) Tryz.underlying5 g2
    obtain ⟨z3, h3, _, w3⟩ := DataW.trod_int (cs := [c5]) Tryz.underlying3 g3
    obtain ⟨z4, h4, _, w4⟩ := DataW.trod_int (cs := [c6]) Tryz.underlying3 g4
    obtain ⟨z5, h5, _⟩ := DataW.trod_bool (cs := [c7]) Tryz.underlying4 g5
    obtain ⟨z6, h6, _, w6⟩ := DataW.trod_int (cs := [c8]) Tryz.underlying3 g6
    obtain ⟨z7, h7, _, w7⟩ := DataW.trod_int (cs := [c9]) Tryz.underlying3 g7
    obtain ⟨z8, h8, _, w8⟩ := DataW.trod_int (cs := [c10]) Tryz.underlying57 g8
    simp only [List.cons.injEq, and_true] at h0 h10 h11 h12 h2 h3 h4 h5 h6 h7 h8
    subst h0 h10 h11 h12 h2 h3 h4 h5 h6 h7 h8
    obtain ⟨yb, rfl⟩ := u8_of w2
    obtain ⟨b, o, sp⟩ := a
    have c0 := hcell 0 (by decide)
    have hs : sp = none := by simpa [Addr.add] using World.cell?_spot c0
    subst hs
    refine ⟨⟨z0, ⟨zk, zs, zd⟩, yb, z3, z4, z5, z6, z7, z8⟩, ⟨w0, w12, w3, w6, w7, w8⟩, rfl, fun j u hu => ?_⟩
    have hj : j < 11 := (List.getElem?_eq_some_iff.1 hu).1
    have := hcell j hj
    rw [add_plain3] at this
    rw [this]
    exact hu
theorem open_acts3 {H : Type} {enc : TypeId × Value → H} {w : World} {p : Option Addr} {len cap fuel : Nat} {x : DataW H × List MemPlace}
    (h : DataW.trod enc Tryz.prog w 0 (fun _ => true) true fuel 54 (Value.slice p len cap).cells.toList = some x) : ∃ l, IsActs3 w p len l := by
  rcases open_slice Tryz.underlying54 h with ⟨hcs, _⟩ | ⟨a, len', cap', m, n, D, Pl, hcs, _, hl, hm, hmm, _, hi⟩
  · simp [Value.cells] at hcs
    obtain ⟨rfl, rfl, rfl⟩ := hcs
    exact ⟨[], rfl, Nat.zero_le _, by simp, fun h => absurd h (by omega)⟩
  · simp [Value.cells] at hcs
    obtain ⟨rfl, rfl, rfl⟩ := hcs
    have hm' : m = cap := by simpa using hmm
    have hi' : ∀ i, i < len → ∃ c : Act3, c.fits ∧ (a.add (i * 11)).spot = none ∧ w.rangeAt (a.add (i * 11)).block (a.add (i * 11)).off c.cells := by
      intro i hlt
      obtain ⟨cs', hc, ht⟩ := hi i (by omega)
      have h5 : i * Tryz.prog.cellsOf 59 = i * 11 := by rw [cells_act3]
      rw [h5] at hc
      exact open_act3 hc ht
    have hch := fun i : Fin len => hi' i.1 i.2
    obtain ⟨f, hf⟩ := Classical.axiomOfChoice hch
    refine ⟨List.ofFn f, by simp, by omega, ?_, ?_⟩
    · intro c hc
      obtain ⟨i, rfl⟩ := (List.mem_ofFn).1 hc
      exact (hf i).1
    · intro hpos
      obtain ⟨b, o, sp⟩ := a
      have h0 := (hf ⟨0, hpos⟩).2.1
      have hs : sp = none := by simpa [Addr.add] using h0
      subst hs
      refine ⟨b, o, rfl, fun i hlt => ?_⟩
      have hlt' : i < len := by simpa using hlt
      have h1 := (hf ⟨i, hlt'⟩).2.2
      rw [add_plain3] at h1
      simpa using h1
/-- What Great answers. -/
def greatB (l : List Act3) : Bool := decide (80 < l.length) || (l.take 81).any fun c => decide (300 < c.o.data.size)

theorem greatB_no {l : List Act3} (h : greatB l = false) : l.length ≤ 80 ∧ ∀ c ∈ l, c.o.data.size ≤ 300 := by
  unfold greatB at h
  simp only [Bool.or_eq_false_iff, decide_eq_false_iff_not, List.any_eq_false, decide_eq_true_eq] at h
  refine ⟨by omega, fun c hc => ?_⟩
  have := h.2 c (by rw [List.take_of_length_le (by omega)]; exact hc)
  omega

/-- Up to place k nothing was found. -/
def SmallB (l : List Act3) (k : Nat) : Prop := ∀ c ∈ l.take k, c.o.data.size ≤ 300
theorem SmallB.zero (l : List Act3) : SmallB l 0 := by simp [SmallB]
theorem SmallB.succ {l : List Act3} {k : Nat} {c : Act3} (h : SmallB l k) (hc : l[k]? = some c) (hs : c.o.data.size ≤ 300) : SmallB l (k + 1) := by
  intro d hd
  rw [List.take_add_one, hc] at hd
  simp only [Option.toList_some, List.mem_append, List.mem_singleton] at hd
  rcases hd with hd | rfl
  · exact h d hd
  · exact hs
theorem greatB_hit {l : List Act3} {k : Nat} {c : Act3} (hk : k ≤ 80) (hc : l[k]? = some c) (hs : 300 < c.o.data.size) : greatB l = true := by
  unfold greatB
  simp only [Bool.or_eq_true, decide_eq_true_eq, List.any_eq_true]
  refine Or.inr ⟨c, ?_, hs⟩
  rw [List.mem_take_iff_getElem]
  obtain ⟨hlt, he⟩ := List.getElem?_eq_some_iff.1 hc
  exact ⟨k, by omega, he⟩
theorem greatB_end {l : List Act3} {k : Nat} (h : SmallB l k) (hk : l.length ≤ k ∨ 81 ≤ k) : greatB l = decide (80 < l.length) := by
  unfold greatB
  have h2 : ((l.take 81).any fun c => decide (300 < c.o.data.size)) = false := by
    simp only [List.any_eq_false, decide_eq_true_eq]
    intro c hc
    have h3 : c ∈ l.take k := by
      rcases hk with hk | hk
      · rw [List.take_of_length_le hk]; exact List.mem_of_mem_take hc
      · exact (List.take_subset_take_left l hk) hc
    have := h c h3
    omega
  rw [h2, Bool.or_false]

set_option maxHeartbeats 400000 in
theorem Great_any (w : World) (p : Option Addr) (len cap : Nat) (l : List Act3) (ha : IsActs3 w p len l) :
    Calls Tryz.prog 16 #[.slice p len cap] w fun e w' => e = .returned (.bool (greatB l)) ∧ w = w' := by
  have hlen := ha.1
  have hmax := ha.2.1
  unfold maxLen at hmax
  go_enter Tryz.func16, Tryz.ntmps16
  go_wp2
  go_loop [3] (fun i => ∃ k : Nat, k ≤ len ∧ k ≤ 81 ∧ i = .int .i64 k ∧ SmallB l k) (fun i => len - (intOf i).toNat)
  case atStart => exact ⟨0, Nat.zero_le _, by omega, rfl, SmallB.zero l⟩
  case round =>
    obtain ⟨k, hk, hk2, rfl, hs⟩ := hrel
    by_cases hlt : k < len
    · by_cases hlt2 : k ≤ 80
      · obtain ⟨b, o, c, rfl, hck, _, hfit, hat⟩ := ha.at_ k hlt
        have hcell : w.cell? ⟨b, o + k * 11 + 3, none⟩ = some (.string c.o.data) := hat 3 _ rfl
        have hsz := hfit.2.1
        unfold maxLen at hsz
        by_cases hbig : (300 : Int) < c.o.data.size
        · have G := Lib.hid (greatB_hit hlt2 hck (by omega))
          clear ha hat hfit hs hck
          go_wp2
          go_ret
          exact ⟨by rw [G.out]; rfl, rfl⟩
        · have G := Lib.hid (hs.succ hck (by omega))
          clear ha hat hfit hs hck
          go_wp2
          go_round
          case rel => exact ⟨k + 1, by omega, by omega, by go_num, G.out⟩
          case measure => simp [intOf]; omega
      · have hd : decide ((k : Int) ≤ 80) = false := decide_eq_false (by omega)
        have G := Lib.hid (greatB_end hs (.inr (by omega)))
        clear ha hs
        go_wp2
        go_ret
        exact ⟨by rw [G.out, hlen]; simp; omega, rfl⟩
    · have G := Lib.hid (greatB_end hs (.inl (by omega)))
      have hd : decide ((k : Int) < len) = false := decide_eq_false (by omega)
      clear ha hs
      go_wp2
      go_ret
      exact ⟨by rw [G.out, hlen]; simp; omega, rfl⟩


def ordOf (c : Act3) : Ord := if c.y = 0 then c.o else ⟨c.o.kind, c.o.sec, fullS c.y⟩
set_option maxRecDepth 100000 in
set_option maxHeartbeats 1000000 in
theorem order3_any (w : World) (c : Act3) :
    Calls Tryz.prog 17 #[c.val] w fun e w' => e = .returned (ordOf c).val ∧ w.grownBy w' none := by
  have kA := World.grownBy_alloc w (.cells c.cells.toArray 59) none
  have hA := heap_alloc_new w (.cells c.cells.toArray 59)
  obtain ⟨W1, hW1⟩ : ∃ W1, W1 = w.alloc (.cells c.cells.toArray 59) := ⟨_, rfl⟩
  have s1 : W1.heap.size = w.heap.size + 1 := by rw [hW1]; simp
  rw [← hW1] at kA hA
  have kR := World.grownBy_alloc W1 (.cells #[.int .i64 0, .int .i64 0, .string ⟨#[]⟩] 39) none
  have hR := heap_alloc_new W1 (.cells #[.int .i64 0, .int .i64 0, .string ⟨#[]⟩] 39)
  obtain ⟨W2, hW2⟩ : ∃ W2, W2 = W1.alloc (.cells #[.int .i64 0, .int .i64 0, .string ⟨#[]⟩] 39) := ⟨_, rfl⟩
  have s2 : W2.heap.size = w.heap.size + 2 := by rw [hW2]; simp [s1]
  rw [← hW2] at kR hR
  have kO := World.grownBy_alloc W2 (.cells #[.int .i64 c.o.kind, .int .i64 c.o.sec, .string c.o.data] 39) none
  have hO := heap_alloc_new W2 (.cells #[.int .i64 c.o.kind, .int .i64 c.o.sec, .string c.o.data] 39)
  obtain ⟨W3, hW3⟩ : ∃ W3, W3 = W2.alloc (.cells #[.int .i64 c.o.kind, .int .i64 c.o.sec, .string c.o.data] 39) := ⟨_, rfl⟩
  have s3 : W3.heap.size = w.heap.size + 3 := by rw [hW3]; simp [s2]
  rw [← hW3] at kO hO
  rw [s1] at hR
  rw [s2] at hO
  have HO := Lib.hid hO
  have HR := Lib.hid ((kO.block _ (by omega) (by simp)).trans hR)
  have HA := Lib.hid ((kO.block _ (by omega) (by simp)).trans ((kR.block _ (by omega) (by simp)).trans hA))
  have HK := Lib.hid ((kA.trans kR).trans kO)
  have HS := Lib.hid s3
  have HW : Hid (((w.alloc (.cells c.cells.toArray 59)).alloc (.cells #[.int .i64 0, .int .i64 0, .string ⟨#[]⟩] 39)).alloc (.cells #[.int .i64 c.o.kind, .int .i64 c.o.sec, .string c.o.data] 39) = W3) := Lib.hid (by rw [hW3, hW2, hW1])
  clear kA hA kR hR kO hO s1 s2 s3 hW1 hW2 hW3
  unfold Act3.val
  unfold Act3.cells at HA HW
  go_enter Tryz.func17, Tryz.ntmps17
  go_upto_region 2 with fail
  rw [HW.out]
  obtain ⟨ab, hab⟩ : ∃ ab, ab = w.heap.size := ⟨_, rfl⟩
  obtain ⟨rb, hrb⟩ : ∃ rb, rb = w.heap.size + 1 := ⟨_, rfl⟩
  obtain ⟨ob, hob⟩ : ∃ ob, ob = w.heap.size + 1 + 1 := ⟨_, rfl⟩
  rw [← hab] at HA
  rw [← hrb] at HR
  rw [← hob, ← hrb, ← hab]
  have HB := Lib.hid (And.intro hab (And.intro hrb hob))
  have HO2 : Hid (W3.heap[ob]? = some (.cells #[.int .i64 c.o.kind, .int .i64 c.o.sec, .string c.o.data] 39 (0, 0))) := Lib.hid (by rw [hob]; exact HO.out)
  clear hab hrb hob HO
  have a4 : W3.cell? ⟨ab, 4, none⟩ = some (.int .u8 (c.y.toNat : Int)) := cell_of_block HA.out
  by_cases hy : c.y = 0
  · have e0 : (c.y.toNat : Int) = 0 := by rw [hy]; rfl
    have FIN : Hid (ordOf c = c.o) := Lib.hid (if_pos hy)
    rw [e0] at a4 ⊢
    have d0 : W3.cell? ⟨ob, 0, none⟩ = some (.int .i64 c.o.kind) := cell_of_block HO2.out
    have d1 : W3.cell? ⟨ob, 1, none⟩ = some (.int .i64 c.o.sec) := cell_of_block HO2.out
    have d2 : W3.cell? ⟨ob, 2, none⟩ = some (.string c.o.data) := cell_of_block HO2.out
    have f0 := frozen_of_block (i := 0) HR.out
    have f1 := frozen_of_block (i := 1) HR.out
    have f2 := frozen_of_block (i := 2) HR.out
    have r0 : W3.cell? ⟨rb, 0, none⟩ = some (.int .i64 0) := cell_of_block HR.out
    have r1 : W3.cell? ⟨rb, 1, none⟩ = some (.int .i64 0) := cell_of_block HR.out
    have r2 : W3.cell? ⟨rb, 2, none⟩ = some (.string ⟨#[]⟩) := cell_of_block HR.out
    clear hy e0
    go_wp2_with fail
    exact ord_out HR.out HK.out c.o (fun q0 q1 q2 => bodyPost_ret (v := .agg #[.int .i64 c.o.kind, .int .i64 c.o.sec, .string c.o.data]) (by simp [results, Tryz.results17, go_sem, q0, q1, q2]) rfl ⟨by rw [FIN.out]; rfl, ord_grown HK.out (by have := HB.out; omega) _ _ _⟩)
  · have e0 : (c.y.toNat : Int) ≠ 0 := fun e => hy (UInt8.toNat_inj.1 (by simpa using e))
    have FIN : Hid (ordOf c = ⟨c.o.kind, c.o.sec, fullS c.y⟩) := Lib.hid (if_neg hy)
    clear hy
    go_wp2_with fail
    refine (full_any W3 c.y _ rfl).mono ?_
    rintro e w4 ⟨rfl, b4⟩
    have hO4 := (b4.block ob (by have := HS.out; have := HB.out; omega)).trans HO2.out
    have hR4 := (b4.block rb (by have := HS.out; have := HB.out; omega)).trans HR.out
    have HK4 := Lib.hid (HK.out.trans (⟨b4.os, b4.tape, b4.output, b4.size, fun j hj _ => b4.block j hj⟩ : W3.grownBy w4 none))
    have d0 : w4.cell? ⟨ob, 0, none⟩ = some (.int .i64 c.o.kind) := cell_of_block hO4
    have d1 : w4.cell? ⟨ob, 1, none⟩ = some (.int .i64 c.o.sec) := cell_of_block hO4
    have d2 : w4.cell? ⟨ob, 2, none⟩ = some (.string c.o.data) := cell_of_block hO4
    have g2 := frozen_of_block (i := 2) hO4
    clear a4 e0 b4
    obtain ⟨sd, hsd⟩ : ∃ sd, sd = fullS c.y := ⟨_, rfl⟩
    rw [← hsd]
    rw [← hsd] at FIN
    clear hsd
    go_upto_region 4 with fail
    have hRn : rb ≠ ob := by have := HB.out; omega
    have hO5 := set_block hO4 2 (.string sd)
    have hR5 : (w4.setCell ⟨ob, 2, none⟩ (.string sd)).heap[rb]? = some (.cells #[.int .i64 0, .int .i64 0, .string ⟨#[]⟩] 39 (0, 0)) := by
      rw [Below.heap_setCell _ _ _ _ hRn]; exact hR4
    have k5 : w.grownBy (w4.setCell ⟨ob, 2, none⟩ (.string sd)) none := by
      have b : Below w.heap.size w w4 := ⟨HK4.out.os, HK4.out.tape, HK4.out.output, HK4.out.size, fun k hk => HK4.out.block k hk (by simp)⟩
      have c := b.setCell (p := ⟨ob, 2, none⟩) (by have := HB.out; show w.heap.size ≤ ob; omega) (.string sd)
      exact ⟨c.os, c.tape, c.output, c.size, fun k hk _ => c.block k hk⟩
    have HK5 := Lib.hid k5
    have HR5 := Lib.hid hR5
    have HO5 : Hid ((w4.setCell ⟨ob, 2, none⟩ (.string sd)).heap[ob]? = some (.cells #[.int .i64 c.o.kind, .int .i64 c.o.sec, .string sd] 39 (0, 0))) := Lib.hid hO5
    clear d0 d1 d2 g2 hO5 hR5 k5 hO4 hR4 HK4 hRn
    generalize w4.setCell _ _ = W5 at HK5 HR5 HO5 ⊢
    have d0 : W5.cell? ⟨ob, 0, none⟩ = some (.int .i64 c.o.kind) := cell_of_block HO5.out
    have d1 : W5.cell? ⟨ob, 1, none⟩ = some (.int .i64 c.o.sec) := cell_of_block HO5.out
    have d2 : W5.cell? ⟨ob, 2, none⟩ = some (.string sd) := cell_of_block HO5.out
    have f0 := frozen_of_block (i := 0) HR5.out
    have f1 := frozen_of_block (i := 1) HR5.out
    have f2 := frozen_of_block (i := 2) HR5.out
    have r0 : W5.cell? ⟨rb, 0, none⟩ = some (.int .i64 0) := cell_of_block HR5.out
    have r1 : W5.cell? ⟨rb, 1, none⟩ = some (.int .i64 0) := cell_of_block HR5.out
    have r2 : W5.cell? ⟨rb, 2, none⟩ = some (.string ⟨#[]⟩) := cell_of_block HR5.out
    go_wp2_with fail
    exact ord_out HR5.out HK5.out ⟨c.o.kind, c.o.sec, sd⟩ (fun q0 q1 q2 => bodyPost_ret (v := .agg #[.int .i64 c.o.kind, .int .i64 c.o.sec, .string sd]) (by simp [results, Tryz.results17, go_sem, q0, q1, q2]) rfl ⟨by rw [FIN.out]; rfl, ord_grown HK5.out (by have := HB.out; omega) _ _ _⟩)
end Go.Proofs.YtnbponaldffbiaaGreatDoor

namespace Go.Proofs.YtnbponaldffbiaaGreatDoor
open Go.RowKit Go.Sort
set_option linter.unusedVariables false

/-- The blocks. -/
structure OBl where
  b : Nat
  g : Nat
  h : Nat
  q : Nat
  u : Nat
  mb : Nat
  r : Nat
  p : Nat
  v : Nat
  z : Nat
  o : Nat
/-- The driver, living or dead. -/
def DrvAt (w : World) (K : OBl) (many : Int) (lm : List UInt8) (os : List Snt) (last now : Int) (D : Bool) : Prop :=
  (D = false ∧ ∃ cs off back, KS w K.b K.g K.h K.q K.u K.mb lm 0 8 many os cs off back false last now false) ∨ (D = true ∧ KAt w K.b K.g 0 8 many K.q K.u last now true ∧ IsTab w K.u (os.map Snt.ent) ∧ os.length ≤ 8)
structure OX (w0 w : World) (K : OBl) (many : Int) (os : List Snt) (last now : Int) (D : Bool) (ms : List (Int × Value)) : Prop where
  core : ∃ (lm : List UInt8) (taken told : Int) (ts : List (Int × Tkn)), lm.length = 4096 ∧ RS w K.r K.g K.h K.p K.v lm 0 taken told ts ∧ TKeys ts ∧ DrvAt w K many lm os last now D
  lo : w0.heap.size ≤ K.b ∧ w0.heap.size ≤ K.g ∧ w0.heap.size ≤ K.h ∧ w0.heap.size ≤ K.q ∧ w0.heap.size ≤ K.u ∧ w0.heap.size ≤ K.mb
  mid : K.b < K.z ∧ K.g < K.z ∧ K.h < K.z ∧ K.q < K.z ∧ K.u < K.z ∧ K.mb < K.z
  hi : K.z ≤ K.r ∧ K.z ≤ K.p ∧ K.z ≤ K.v
  ho : K.r < K.o ∧ K.p < K.o ∧ K.v < K.o
  bh : K.b ≠ K.h ∧ K.u ≠ K.h ∧ K.u ≠ K.b ∧ K.u ≠ K.g ∧ K.b ≠ K.g
  map : IsTab w K.o ms
  bel : Below w0.heap.size w0 w
  sh : Shapes w0
  n0 : 0 ≤ now
section
variable {w0 w w' : World} {K : OBl} {many : Int} {os os' : List Snt} {last now last' now' : Int} {D D' : Bool} {ms ms' : List (Int × Value)} {lm lm' : List UInt8} {taken told taken' told' : Int} {ts ts' : List (Int × Tkn)}
theorem OX.shp (x : OX w0 w K many os last now D ms) : Shapes w := x.sh.kept (x.bel.block 0 x.sh.pos)
theorem DrvAt.kat (d : DrvAt w K many lm os last now D) : KAt w K.b K.g 0 8 many K.q K.u last now D := by
  rcases d with ⟨rfl, cs, off, back, s⟩ | ⟨rfl, k, _⟩
  · exact s.kat
  · exact k
theorem DrvAt.tab (d : DrvAt w K many lm os last now D) : IsTab w K.u (os.map Snt.ent) := by
  rcases d with ⟨rfl, cs, off, back, s⟩ | ⟨rfl, k, t, _⟩
  · exact s.tab
  · exact t
theorem DrvAt.few (d : DrvAt w K many lm os last now D) : os.length ≤ 8 := by
  rcases d with ⟨rfl, cs, off, back, s⟩ | ⟨rfl, k, t, h⟩
  · exact s.few
  · exact h
theorem OX.grown (x : OX w0 w K many os last now D ms) (k : w.grownBy w' none) : OX w0 w' K many os last now D ms := by
  obtain ⟨lm, taken, told, ts, h1, h2, h3, h4⟩ := x.core
  refine { x with core := ⟨lm, taken, told, ts, h1, h2.grown k, h3, ?_⟩, map := x.map.kept (k.block _ x.map.lt (by simp)), bel := x.bel.grown k x.bel.size (fun j e => by cases e) }
  rcases h4 with ⟨hd, cs, off, back, s⟩ | ⟨hd, k1, t1, f1⟩
  · exact .inl ⟨hd, cs, off, back, s.grown k⟩
  · exact .inr ⟨hd, k1.kept (k.block _ (lt_of_block k1) (by simp)), t1.kept (k.block _ t1.lt (by simp)), f1⟩
/-- The driver turns. -/
theorem OX.drv (x : OX w0 w K many os last now D ms) (t : Turned (KB K.b K.q K.h K.mb K.u) w w') (rs : RS w K.r K.g K.h K.p K.v lm 0 taken told ts) (hk : TKeys ts) (m' : Mem w' K.g K.h lm') (hl : lm.length = 4096) (hl' : lm'.length = lm.length) (d : DrvAt w' K many lm' os' last' now' D') (n0 : 0 ≤ now') :
    OX w0 w' K many os' last' now' D' ms := by
  obtain ⟨l1, l2, l3, l4, l5, l6⟩ := x.lo
  obtain ⟨m1, m2, m3, m4, m5, m6⟩ := x.mid
  obtain ⟨h1, h2, h3⟩ := x.hi
  obtain ⟨o1, o2, o3⟩ := x.ho
  have nk : ∀ j, K.z ≤ j → ¬ KB K.b K.q K.h K.mb K.u j := by
    rintro j hj (e | e | e | e | e) <;> omega
  exact { x with core := ⟨lm', taken, told, ts, hl'.trans hl, rs.other t (nk _ h1) (nk _ h2) (nk _ h3) m' hl', hk, d⟩, map := x.map.kept (t.block _ x.map.lt (nk _ (by omega))), bel := x.bel.trans (t.below x.bel.size (by rintro j (e | e | e | e | e) <;> omega)), n0 := n0 }
/-- The device turns. -/
theorem OX.dev (x : OX w0 w K many os last now D ms) (e : Ending) (h : DevPost w K.r K.g K.h K.p K.v lm 0 e w') (rs : RS w K.r K.g K.h K.p K.v lm 0 taken told ts) (hl : lm.length = 4096) (d : DrvAt w K many lm os last now D) :
    (∃ v, e = .returned v) ∧ (∀ j, j < w.heap.size → K.o < j → w'.heap[j]? = w.heap[j]?) ∧ OX w0 w' K many os last now D ms := by
  obtain ⟨l1, l2, l3, l4, l5, l6⟩ := x.lo
  obtain ⟨m1, m2, m3, m4, m5, m6⟩ := x.mid
  obtain ⟨h1, h2, h3⟩ := x.hi
  obtain ⟨o1, o2, o3⟩ := x.ho
  obtain ⟨b1, b2, b3, b4⟩ := x.bh
  obtain ⟨v, lm', taken', told', ts', rfl, rs', hl', hk', t⟩ := h
  refine ⟨⟨v, rfl⟩, fun j hj hz => t.block j hj (by rintro (e | e | e) <;> omega), { x with core := ⟨lm', taken', told', ts', hl'.trans hl, rs', hk', ?_⟩, map := x.map.kept (t.block _ x.map.lt (by rintro (e | e | e) <;> omega)), bel := x.bel.trans (t.below x.bel.size (by rintro j (e | e | e) <;> omega)) }⟩
  rcases d with ⟨hd, cs, off, back, s⟩ | ⟨hd, k1, t1, f1⟩
  · exact .inl ⟨hd, cs, off, back, s.device rs t rs'.ps.mem hl' (by omega) (by omega)⟩
  · exact .inr ⟨hd, k1.kept (t.block _ (lt_of_block k1) (by rintro (e | e | e) <;> omega)), t1.kept (t.block _ t1.lt (by rintro (e | e | e) <;> omega)), f1⟩
/-- The memory is written. -/
theorem OX.wrote (x : OX w0 w K many os last now D ms) (rs : RS w K.r K.g K.h K.p K.v lm 0 taken told ts) (hk : TKeys ts) (hl : lm.length = 4096) (d : DrvAt w K many lm os last now D) (m' : Mem w' K.g K.h lm') (hl' : lm'.length = lm.length) (k : w.grownBy w' (some K.h)) :
    OX w0 w' K many os last now D ms := by
  obtain ⟨l1, l2, l3, l4, l5, l6⟩ := x.lo
  obtain ⟨m1, m2, m3, m4, m5, m6⟩ := x.mid
  obtain ⟨h1, h2, h3⟩ := x.hi
  obtain ⟨o1, o2, o3⟩ := x.ho
  obtain ⟨b1, b2, b3, b4⟩ := x.bh
  refine { x with core := ⟨lm', taken, told, ts, hl'.trans hl, rs.wrote m' k hl', hk, ?_⟩, map := x.map.kept (k.block _ x.map.lt (fun e => by injection e with e; omega)), bel := x.bel.grown k x.bel.size (fun j e => by injection e with e; omega) }
  rcases d with ⟨hd, cs, off, back, s⟩ | ⟨hd, k1, t1, f1⟩
  · exact .inl ⟨hd, cs, off, back, s.wrote m' k hl'⟩
  · exact .inr ⟨hd, k1.kept (k.block _ (lt_of_block k1) (fun e => by injection e with e; omega)), t1.kept (k.block _ t1.lt (fun e => by injection e with e; omega)), f1⟩
/-- The statement's map is written. -/
theorem OX.setmap (x : OX w0 w K many os last now D ms) (k : w.grownBy w' (some K.o)) (t : IsTab w' K.o ms') : OX w0 w' K many os last now D ms' := by
  obtain ⟨l1, l2, l3, l4, l5, l6⟩ := x.lo
  obtain ⟨m1, m2, m3, m4, m5, m6⟩ := x.mid
  obtain ⟨h1, h2, h3⟩ := x.hi
  obtain ⟨o1, o2, o3⟩ := x.ho
  obtain ⟨lm, taken, told, ts, c1, c2, c3, c4⟩ := x.core
  refine { x with core := ⟨lm, taken, told, ts, c1, c2.aside k ⟨by omega, by omega, by omega, by omega, by omega⟩, c3, ?_⟩, map := t, bel := x.bel.grown k x.bel.size (fun j e => by injection e with e; omega) }
  have keep : ∀ j, j < w.heap.size → j < K.z → w'.heap[j]? = w.heap[j]? := fun j hj hz => k.block j hj (fun e => by injection e with e; omega)
  rcases c4 with ⟨hd, cs, off, back, s⟩ | ⟨hd, k1, t1, f1⟩
  · exact .inl ⟨hd, cs, off, back, { s with kat := s.kat.kept (keep _ (lt_of_block s.kat) m1), qs := s.qs.keep9 k x.map (by omega), tab := s.tab.kept (keep _ s.tab.lt m5) }⟩
  · exact .inr ⟨hd, k1.kept (keep _ (lt_of_block k1) m1), t1.kept (keep _ t1.lt m5), f1⟩
theorem ox_next (x : OX w0 w K many os last now D ms) : Calls Tryz.prog 11 #[.pointer (some ⟨K.r, 0, none⟩)] w fun e w' => (∃ v, e = .returned v) ∧ (∀ j, j < w.heap.size → K.o < j → w'.heap[j]? = w.heap[j]?) ∧ OX w0 w' K many os last now D ms := by
  obtain ⟨lm, taken, told, ts, c1, c2, c3, c4⟩ := x.core
  exact (RNext_any w K.r K.g K.h K.p K.v lm 0 taken told ts x.shp (by have := x.sh.pos; have := x.lo; have := x.mid; have := x.hi; omega) c2 c3).mono fun e w' h => x.dev e h c2 c1 c4
theorem ox_done (x : OX w0 w K many os last now D ms) (k : Int) (hw : (Lit.int .i64 k).wf = true) (ok : Bool) (d : ByteArray) : Calls Tryz.prog 12 #[.pointer (some ⟨K.r, 0, none⟩), .int .i64 k, .bool ok, .string d] w fun e w' => (∃ v, e = .returned v) ∧ (∀ j, j < w.heap.size → K.o < j → w'.heap[j]? = w.heap[j]?) ∧ OX w0 w' K many os last now D ms := by
  obtain ⟨lm, taken, told, ts, c1, c2, c3, c4⟩ := x.core
  exact (RDone_any w K.r K.g K.h K.p K.v lm 0 taken told ts c2 c3 k hw ok d).mono fun e w' h => x.dev e h c2 c1 c4
theorem ox_put (x : OX w0 w K many os last now D ms) (a n y : Int) (hy : 0 ≤ y) : Calls Tryz.prog 19 #[.pointer (some ⟨K.g, 0, none⟩), .int .i64 a, .int .i64 n, .int .u64 y] w fun e w' => (∃ v, e = .returned v) ∧ OX w0 w' K many os last now D ms := by
  obtain ⟨lm, taken, told, ts, c1, c2, c3, c4⟩ := x.core
  exact (Put_all w K.g K.h lm c2.ps.mem (by omega) a n y hy).mono fun e w' ⟨h1, h2, h3⟩ => ⟨⟨_, h1⟩, x.wrote c2 c3 c1 c4 h2 (putL_length _ _ _ _) h3⟩
theorem ox_flight (x : OX w0 w K many os last now D ms) : Calls Tryz.prog 14 #[.pointer (some ⟨K.b, 0, none⟩)] w fun e w' => e = .returned (.int .i64 os.length) ∧ w = w' := by
  obtain ⟨lm, taken, told, ts, c1, c2, c3, c4⟩ := x.core
  have h := kflight_any w K.b K.g 0 8 many K.q K.u last now D c4.kat _ c4.tab
  rw [List.length_map] at h
  exact h
theorem ox_dead (x : OX w0 w K many os last now D ms) : Calls Tryz.prog 15 #[.pointer (some ⟨K.b, 0, none⟩)] w fun e w' => e = .returned (.bool D) ∧ w = w' := by
  obtain ⟨lm, taken, told, ts, c1, c2, c3, c4⟩ := x.core
  exact kdead_any w K.b K.g 0 8 many K.q K.u last now D c4.kat
/-- What Submit comes to. -/
def SubOX (w0 : World) (K : OBl) (many : Int) (os : List Snt) (last now : Int) (D : Bool) (ms : List (Int × Value)) (e : Ending) (w' : World) : Prop :=
  (∃ code : Int, code ≠ 0 ∧ e = .returned (.tuple #[.int .i64 0, .int .i64 code]) ∧ OX w0 w' K many os last now D ms) ∨
  (D = false ∧ e = .returned (.tuple #[.int .i64 (last + 1), .int .i64 0]) ∧ ∃ y : Snt, y.id = last + 1 ∧ y.since = now ∧ OX w0 w' K many (os ++ [y]) (last + 1) now D ms)
theorem ox_submit (x : OX w0 w K many os last now D ms) (o : Ord) (hlast : last ≤ 1000000) : Calls Tryz.prog 10 #[.pointer (some ⟨K.b, 0, none⟩), o.val] w (SubOX w0 K many os last now D ms) := by
  obtain ⟨lm, taken, told, ts, c1, c2, c3, c4⟩ := x.core
  rcases c4 with ⟨hd, cs, off, back, s⟩ | ⟨hd, k1, t1, f1⟩
  · by_cases hk : ∃ k, k < 5 ∧ o.kind = (shpAt k).kind
    · obtain ⟨k, hk5, hk⟩ := hk
      cases hm : mayOrd 8 o with
      | false => exact (Submit_arg w _ _ _ _ _ _ lm 0 8 many os cs off back false last now false s o rfl x.shp k hk5 hk hm).mono fun e w' ⟨h1, h2⟩ => .inl ⟨1, by decide, h1, x.grown h2⟩
      | true =>
        by_cases hf : os.length < 8
        · refine (Submit_ok w _ _ _ _ _ _ lm 0 8 many os cs off back false last now false s o rfl x.shp k hk5 hk hm hf rfl (by omega) hlast).mono fun e w' h => .inr ?_
          obtain ⟨y, xc, h1, h2, _, h3, _, _, _, _, h4, h5⟩ := h
          exact ⟨hd, h1, y, h2, h3, x.drv h5 c2 c3 h4.qs.mem c1 (by rw [addL_length, slotL_length]) (.inl ⟨hd, _, _, _, h4⟩) x.n0⟩
        · exact (Submit_full w _ _ _ _ _ _ lm 0 8 many os cs off back false last now false s o rfl x.shp k hk5 hk hm (by omega)).mono fun e w' ⟨h1, h2⟩ => .inl ⟨6, by decide, h1, x.grown h2⟩
    · exact (Submit_kind w _ _ _ _ _ _ lm 0 8 many os cs off back false last now false s o rfl x.shp (fun k h5 e => hk ⟨k, h5, e⟩)).mono fun e w' ⟨h1, h2⟩ => .inl ⟨10, by decide, h1, x.grown h2⟩
  · exact (Submit_d w _ _ 0 8 many _ _ last now k1 o).mono fun e w' ⟨h1, h2⟩ => .inl ⟨14, by decide, h1, x.grown h2⟩
theorem ox_tick (x : OX w0 w K many os last now D ms) (hD : D = true → os = []) (hnow : now ≤ 1000000) : Calls Tryz.prog 18 #[.pointer (some ⟨K.b, 0, none⟩)] w fun e w' => e = .returned (.tuple #[]) ∧ OX w0 w' K many os last (now + 1) (D || os.any fun x => decide (many ≤ now + 1 - x.since)) ms := by
  obtain ⟨lm, taken, told, ts, c1, c2, c3, c4⟩ := x.core
  have hn := x.n0
  obtain ⟨b1, b2, b3, b4⟩ := x.bh
  rcases c4 with ⟨hd, cs, off, back, s⟩ | ⟨hd, k1, t1, f1⟩
  · subst hd
    refine (Tick_any w _ _ _ _ _ _ lm 0 8 many os cs off back false last now false s hnow).mono fun e w' ⟨h1, h2, h3⟩ => ⟨h1, ?_⟩
    have t := h3.mono (S' := KB K.b K.q K.h K.mb K.u) (fun j _ e => .inr (.inr (.inr (.inl e))))
    refine x.drv t c2 c3 h2.qs.mem c1 rfl ?_ (by omega)
    rw [Bool.false_or] at h2 ⊢
    cases hq : os.any fun x => decide (many ≤ now + 1 - x.since) with
    | false => rw [hq] at h2; exact .inl ⟨rfl, _, _, _, h2⟩
    | true => rw [hq] at h2; exact .inr ⟨rfl, h2.kat, h2.tab, h2.few⟩
  · subst hd
    have ho := hD rfl
    subst ho
    refine (Tick_d w _ _ 0 8 many _ _ last now k1 t1 b3 hn hnow).mono fun e w' ⟨h1, h2, h3, h4⟩ => ⟨h1, ?_⟩
    have t := h4.mono (S' := KB K.b K.q K.h K.mb K.u) (fun j _ e => .inr (.inr (.inr (.inl e))))
    have m' := h4.mem c2.ps.mem (fun e => b4.2 e.symm) (fun e => b1 e.symm)
    exact x.drv t c2 c3 m' c1 rfl (.inr ⟨rfl, h2, h3, by simp⟩) (by omega)
/-- What Poll comes to. -/
def PollOX (w0 w : World) (K : OBl) (many : Int) (os : List Snt) (last now : Int) (D : Bool) (ms : List (Int × Value)) (e : Ending) (w' : World) : Prop :=
  ∃ (v : Value) (l : List Dn) (os' : List Snt) (D' : Bool), e = .returned v ∧ OwnDns w.heap.size w' v l ∧ OX w0 w' K many os' last now D' ms ∧ (l.map Dn.id ++ os'.map Snt.id).Perm (os.map Snt.id) ∧ (∀ y ∈ l, y.ok = false → y.data = ⟨#[]⟩) ∧ (D' = true → os' = []) ∧ (D' = false → D = false ∧ ∀ y ∈ os', y ∈ os)
theorem lost_ids {l2 : List Dn} {os : List Snt} (hp : l2.Perm (os.map fun x => ⟨x.id, false, ⟨#[]⟩⟩)) : (l2.map Dn.id).Perm (os.map Snt.id) := by
  have h := hp.map Dn.id
  rw [List.map_map] at h
  exact h
theorem lost_none {l2 : List Dn} {os : List Snt} (hp : l2.Perm (os.map fun x => ⟨x.id, false, ⟨#[]⟩⟩)) : ∀ y ∈ l2, y.data = ⟨#[]⟩ := by
  intro y hy
  obtain ⟨z, _, rfl⟩ := List.mem_map.1 (hp.mem_iff.1 hy)
  rfl
theorem ox_poll (x : OX w0 w K many os last now D ms) : Calls Tryz.prog 13 #[.pointer (some ⟨K.b, 0, none⟩)] w (PollOX w0 w K many os last now D ms) := by
  obtain ⟨lm, taken, told, ts, c1, c2, c3, c4⟩ := x.core
  obtain ⟨b1, b2, b3, b4, b5⟩ := x.bh
  rcases c4 with ⟨hd, cs, off, back, s⟩ | ⟨hd, k1, t1, f1⟩
  · subst hd
    refine (Poll_l w _ _ _ _ _ _ lm 0 8 many os cs off back last now s).mono ?_
    rintro e w' ⟨v, l1, os1, l2, d, w1, he, hown, ⟨cs1, back1, ht, hks⟩, t1, hf, htr⟩
    obtain ⟨p1, p2, p3, p4⟩ := told_perm ht (os_nodup s)
    cases d with
    | false =>
      obtain ⟨rfl, rfl⟩ := hf rfl
      rw [List.append_nil] at hown
      exact ⟨v, l1, os1, false, he, hown, x.drv t1 c2 c3 hks.qs.mem c1 rfl (.inl ⟨rfl, _, _, _, hks⟩) x.n0, p1, p3, (fun e => by cases e), fun _ => ⟨rfl, p4⟩⟩
    | true =>
      obtain ⟨hp, k2, t2, hfr, T⟩ := htr rfl
      have m' : Mem w' K.g K.h lm := ⟨(hfr _ s.qs.mem.lt1 (fun e => b4 e.symm)).trans hks.qs.mem.1, (hfr _ s.qs.mem.lt2 (fun e => b2 e.symm)).trans hks.qs.mem.2⟩
      refine ⟨v, l1 ++ l2, [], true, he, hown, x.drv T c2 c3 m' c1 rfl (.inr ⟨rfl, k2, t2, by simp⟩) x.n0, ?_, ?_, fun _ => rfl, fun e => by cases e⟩
      · rw [List.map_nil, List.append_nil, List.map_append]
        exact ((lost_ids hp).append_left _).trans p1
      · intro y hy hok
        rcases List.mem_append.1 hy with hy | hy
        · exact p3 y hy hok
        · exact lost_none hp y hy
  · subst hd
    refine (Poll_d w K.b K.g K.h K.q K.u K.mb 0 8 many last now os k1 t1 f1 b3).mono ?_
    rintro e w' ⟨v, l1, os1, l2, d, w1, he, hown, ⟨rfl, rfl, rfl, rfl⟩, tt, hf, htr⟩
    obtain ⟨hp, k2, t2, hfr, T⟩ := htr rfl
    have ka := World.grownBy_alloc w (.cells #[] 51) none
    have m' : Mem w' K.g K.h lm := ⟨((hfr _ c2.ps.mem.lt1 (fun e => b4 e.symm)).trans (ka.block _ c2.ps.mem.lt1 (by simp))).trans c2.ps.mem.1, ((hfr _ c2.ps.mem.lt2 (fun e => b2 e.symm)).trans (ka.block _ c2.ps.mem.lt2 (by simp))).trans c2.ps.mem.2⟩
    refine ⟨v, l2, [], true, he, hown, x.drv T c2 c3 m' c1 rfl (.inr ⟨rfl, k2, t2, by simp⟩) x.n0, ?_, ?_, fun _ => rfl, fun e => by cases e⟩
    · rw [List.map_nil, List.append_nil]
      exact lost_ids hp
    · intro y hy _
      exact lost_none hp y hy
/-- The newest order has the greatest number. -/
theorem OX.ids_lt {y : Snt} (x : OX w0 w K many (os ++ [y]) last now false ms) : ∀ z ∈ os, z.id < y.id := by
  obtain ⟨lm, taken, told, ts, c1, c2, c3, c4⟩ := x.core
  rcases c4 with ⟨_, cs, off, back, s⟩ | ⟨hd, _⟩
  · have h := s.ids
    rw [List.map_append, List.pairwise_append] at h
    intro z hz
    exact h.2.2 z.id (List.mem_map.2 ⟨z, hz, rfl⟩) y.id (by simp)
  · cases hd
end
/-- What stands at the beginning of a round. -/
structure Inv (k : Nat) (len : Nat) (many : Int) (os : List Snt) (last now : Int) (D : Bool) (ms : List (Int × Value)) : Prop where
  l0 : 0 ≤ last
  lk : last ≤ k
  nk : now ≤ k
  dd : D = true → os = []
  al : D = false → ∀ y ∈ os, 0 ≤ now - y.since ∧ (k : Int) - len ≤ now - y.since ∧ now - y.since < many
  ids : (ms.map (·.1)).Perm (os.map Snt.id)
  one : ∀ c ∈ ms, c.2 = .int .i64 1
/-- .. behind the act, ahead of Poll. -/
structure Mid (k : Nat) (len : Nat) (many : Int) (os : List Snt) (last now : Int) (D : Bool) (ms : List (Int × Value)) : Prop where
  l0 : 0 ≤ last
  lk : last ≤ (k : Int) + 1
  nk : now ≤ (k : Int) + 1
  al : D = false → ∀ y ∈ os, 0 ≤ now - y.since ∧ (k : Int) + 1 - len ≤ now - y.since ∧ now - y.since < many
  ids : (ms.map (·.1)).Perm (os.map Snt.id)
  one : ∀ c ∈ ms, c.2 = .int .i64 1
section
variable {k len : Nat} {many last now : Int} {os os' : List Snt} {D D' : Bool} {ms ms' : List (Int × Value)}
theorem Inv.same (h : Inv k len many os last now D ms) (hk : k < len) : Mid k len many os last now D ms :=
  ⟨h.l0, by have := h.lk; omega, by have := h.nk; omega, fun hd y hy => by have := h.al hd y hy; omega, h.ids, h.one⟩
theorem Inv.tick (h : Inv k len many os last now D ms) : Mid k len many os last (now + 1) (D || os.any fun x => decide (many ≤ now + 1 - x.since)) ms :=
  ⟨h.l0, by have := h.lk; omega, by have := h.nk; omega, fun hd y hy => by
    rw [Bool.or_eq_false_iff] at hd
    have h1 := h.al hd.1 y hy
    have h2 := List.any_eq_false.1 hd.2 y hy
    simp only [decide_eq_true_eq] at h2
    omega, h.ids, h.one⟩
theorem Inv.sub (h : Inv k len many os last now D ms) (hk : k < len) (hm : 1 ≤ many) {y : Snt} (y1 : y.id = last + 1) (y2 : y.since = now) (hD : D = false) : Mid k len many (os ++ [y]) (last + 1) now D (ms ++ [(last + 1, .int .i64 1)]) :=
  ⟨by have := h.l0; omega, by have := h.lk; omega, by have := h.nk; omega, fun hd z hz => by
    rcases List.mem_append.1 hz with hz | hz
    · have := h.al hd z hz; omega
    · rw [List.mem_singleton] at hz; subst hz; omega, by
    rw [List.map_append, List.map_append]
    have e : [y].map Snt.id = [((last + 1, .int .i64 1) : Int × Value)].map (·.1) := by simp [y1]
    rw [e]
    exact h.ids.append_right _, fun c hc => by
    rcases List.mem_append.1 hc with hc | hc
    · exact h.one c hc
    · rw [List.mem_singleton] at hc; subst hc; rfl⟩
theorem Mid.after (h : Mid k len many os last now D ms) (h1 : D' = true → os' = []) (h2 : D' = false → D = false ∧ ∀ y ∈ os', y ∈ os) (ids : (ms'.map (·.1)).Perm (os'.map Snt.id)) (one : ∀ c ∈ ms', c.2 = .int .i64 1) : Inv (k + 1) len many os' last now D' ms' :=
  ⟨h.l0, by have := h.lk; omega, by have := h.nk; omega, h1, fun hd y hy => by have := h.al (h2 hd).1 y ((h2 hd).2 y hy); omega, ids, one⟩
/-- One's entry is struck out. -/
theorem strike_ids {ms : List (Int × Value)} {x : Int} {r : List Int} (hn : (ms.map (·.1)).Nodup) (h : (ms.map (·.1)).Perm (x :: r)) : ((ms.filter fun c => c.1 != x).map (·.1)).Perm r := by
  have e : (ms.filter fun c => c.1 != x).map (·.1) = (ms.map (·.1)).filter (fun y => y != x) := by rw [List.filter_map]; rfl
  rw [e]
  have h2 := h.filter (fun y => y != x)
  have hn2 : (x :: r).Nodup := h.nodup_iff.1 hn
  rw [List.nodup_cons] at hn2
  rw [List.filter_cons_of_neg (by simp)] at h2
  have e3 : r.filter (fun y => y != x) = r := List.filter_eq_self.2 (fun t ht => by
    have : t ≠ x := fun e => hn2.1 (e ▸ ht)
    simpa using this)
  rw [e3] at h2
  exact h2
theorem tab_nodup {w : World} {o : Nat} (h : IsTab w o ms) : (ms.map (·.1)).Nodup := by obtain ⟨es, clock, _, F⟩ := h; exact F.keys
theorem tab_wf {w : World} {o : Nat} (h : IsTab w o ms) : ∀ c ∈ ms, (Lit.int .i64 c.1).wf = true := by obtain ⟨es, clock, _, F⟩ := h; exact F.wf
end
theorem cells11 {w : World} {b : Nat} {t : TypeId} {x0 x1 x2 x3 x4 x5 x6 x7 x8 x9 x10 : Value} (h : w.heap[b]? = some (.cells #[x0, x1, x2, x3, x4, x5, x6, x7, x8, x9, x10] t (0, 0))) :
    w.cell? ⟨b, 0, none⟩ = some x0 ∧ w.cell? ⟨b, 1, none⟩ = some x1 ∧ w.cell? ⟨b, 2, none⟩ = some x2 ∧ w.cell? ⟨b, 3, none⟩ = some x3 ∧ w.cell? ⟨b, 4, none⟩ = some x4 ∧ w.cell? ⟨b, 5, none⟩ = some x5 ∧ w.cell? ⟨b, 6, none⟩ = some x6 ∧ w.cell? ⟨b, 7, none⟩ = some x7 ∧ w.cell? ⟨b, 8, none⟩ = some x8 ∧ w.cell? ⟨b, 9, none⟩ = some x9 ∧ w.cell? ⟨b, 10, none⟩ = some x10 :=
  ⟨by rw [cell_of_block h]; rfl, by rw [cell_of_block h]; rfl, by rw [cell_of_block h]; rfl, by rw [cell_of_block h]; rfl, by rw [cell_of_block h]; rfl, by rw [cell_of_block h]; rfl, by rw [cell_of_block h]; rfl, by rw [cell_of_block h]; rfl, by rw [cell_of_block h]; rfl, by rw [cell_of_block h]; rfl, by rw [cell_of_block h]; rfl⟩
end Go.Proofs.YtnbponaldffbiaaGreatDoor
