/-
  Layer 8: the document's Put where a piece of a datagram comes. Conditions: as said.
-/
import Derived.Test.YtbjoibgkhooljaaJqC
import Derived.Deep.CutBlock
import Derived.Deep.CutRange
namespace Go.Proofs.Ytbjoibgkhooljaa
open Go.RowKit Go.Sort Go.Shelf
set_option linter.unusedVariables false

theorem dd_nil_new (w : World) : ∀ (j : Nat) (u : Value), (encA ddE [(⟨none, 0, 0, 0⟩ : Dd)])[j]? = some u → (w.alloc (.cells #[.slice none 0 0, .int .i64 0] 78)).cell? ((⟨w.heap.size, 0, none⟩ : Addr).add j) = some u := fun j u hu => dd_new w ⟨none, 0, 0, 0⟩ j u (by simpa [encA] using hu)
theorem ddok_nil (W : World) : DdOk W ⟨none, 0, 0, 0⟩ ⟨[], 0⟩ := ⟨World.ownsRow_nil _ _ _ _, rfl⟩
theorem findIdx_at {α : Type} {p : α → Bool} : ∀ (l : List α) (j : Nat) (hj : j < l.length), (∀ i, (hi : i < j) → p (l[i]'(by omega)) = false) → p l[j] = true → l.findIdx p = j
  | a :: l, 0, _, _, h => by rw [List.findIdx_cons]; simp only [List.getElem_cons_zero] at h; rw [h]; rfl
  | a :: l, j + 1, hj, hb, h => by
    have h0 := hb 0 (by omega)
    simp only [List.getElem_cons_zero] at h0
    rw [List.findIdx_cons, h0]
    simp only [cond_false]
    rw [findIdx_at l j (by simpa using hj) (fun i hi => by have := hb (i + 1) (by omega); simpa using this) (by simpa using h)]
theorem findIdx_end {α : Type} {p : α → Bool} (l : List α) (h : ∀ i, (hi : i < l.length) → p l[i] = false) : l.findIdx p = l.length := by
  rw [List.findIdx_eq_length]
  intro x hx
  obtain ⟨i, hi, rfl⟩ := List.mem_iff_getElem.1 hx
  exact h i hi

theorem da_list (a b : ByteArray) : (a.toList == b.toList) = decide (a = b) := by
  rw [ByteArray.toList_eq, ByteArray.toList_eq, Bool.eq_iff_iff, beq_iff_eq, decide_eq_true_iff, Array.toList_inj]
  exact ⟨fun h => by cases a; cases b; simp only at h; rw [h], fun h => by rw [h]⟩
theorem ov_step (a b e : Int) (i : Nat) : decide (max a b < min (a + ((i + 1 : Nat) : Int)) e) = (decide (max a b < min (a + (i : Int)) e) || (decide (b ≤ a + (i : Int)) && decide (a + (i : Int) < e))) := by
  rw [Bool.eq_iff_iff]
  simp only [decide_eq_true_iff, Bool.or_eq_true, Bool.and_eq_true]
  omega
theorem may_step {f x : Pd} {L : List Pc} {k : Nat} (htk : L.take (k + 1) = L.take k ++ [pcOf x]) {E XE : Int} (hE : E = pEnd (pcOf f)) (hXE : XE = pEnd (pcOf x)) {F0 G1 xm fm : Bool} (hF : F0 = (decide (E ≤ 1200) && !(L.take k).any (clashP (pcOf f)))) (hG : G1 = (F0 && !decide (max f.ps x.ps < min E XE))) (hx : xm = x.mo) (hf : fm = f.mo) :
    (if ((!xm && decide (XE < E)) || (!fm && (decide (E < XE) || !xm))) = true then false else G1) = (decide (E ≤ 1200) && !(L.take (k + 1)).any (clashP (pcOf f))) := by
  have hc : clashP (pcOf f) (pcOf x) = (decide (max f.ps x.ps < min E XE) || (!fm && !xm) || (!xm && decide (XE < E)) || (!fm && decide (E < XE))) := by rw [hE, hXE, hx, hf]; rfl
  rw [htk, List.any_append, List.any_cons, List.any_nil, Bool.or_false, hc, hG, hF]
  generalize decide (E ≤ 1200) = a
  generalize (L.take k).any (clashP (pcOf f)) = b
  generalize decide (max f.ps x.ps < min E XE) = c
  generalize decide (XE < E) = d
  generalize decide (E < XE) = e
  clear hc hG hF hx hf
  revert a b c d e xm fm
  decide
theorem val_shape {w : World} {v : Value} {l : List Dd} (h : RowA 2 ddE 78 w v l) : ∃ q m k, v = .slice q m k := by
  obtain ⟨a, b, e⟩ := h.shape
  exact ⟨a, _, b, e⟩
theorem pd_range {w : World} {n : Nat} {f : Pd} (h : PdAt w n f) : w.rangeAt n 0 ([.int .i64 f.id, .int .u8 (f.sr.a.toNat : Int), .int .u8 (f.sr.b.toNat : Int), .int .u8 (f.sr.c.toNat : Int), .int .u8 (f.sr.d.toNat : Int), .int .u8 (f.ds.a.toNat : Int), .int .u8 (f.ds.b.toNat : Int), .int .u8 (f.ds.c.toNat : Int), .int .u8 (f.ds.d.toNat : Int), .int .i64 f.pr, .int .i64 f.tl, .int .i64 f.ps, .bool f.mo, .string f.da] : List Value) := fun i u hu => by
  rw [Nat.zero_add, cell_of_block h]
  exact (List.getElem?_toArray (xs := ([.int .i64 f.id, .int .u8 (f.sr.a.toNat : Int), .int .u8 (f.sr.b.toNat : Int), .int .u8 (f.sr.c.toNat : Int), .int .u8 (f.sr.d.toNat : Int), .int .u8 (f.ds.a.toNat : Int), .int .u8 (f.ds.b.toNat : Int), .int .u8 (f.ds.c.toNat : Int), .int .u8 (f.ds.d.toNat : Int), .int .i64 f.pr, .int .i64 f.tl, .int .i64 f.ps, .bool f.mo, .string f.da] : List Value))).trans hu
set_option maxRecDepth 100000 in
set_option maxHeartbeats 16000000 in
theorem rjput_z (w : World) (lim : Int) (p : Option Addr) (n c : Nat) (zs : List (Dd × Dq)) (hz0 : DJz w (.slice p n c) zs) (K : Nat) (hI : IQ K (zs.map (·.2))) (hK : K ≤ 10000) (f : Pd) (hz : f.da.size ≤ 140737488355328) (hm : mayB f = true) (hn : ¬ (f.ps = 0 ∧ f.mo = false)) (hf : f.ok) :
    Calls Try.prog 13 #[.agg #[.int .i64 lim, .slice p n c], .agg (pdC f)] w fun e w' => ∃ v', e = .returned (.tuple #[.agg #[.int .i64 lim, v'], .agg (pdC (putD f (zs.map (·.2))).1), .bool (putD f (zs.map (·.2))).2.1]) ∧ DJs w (.slice p n c) zs w' v' (putD f (zs.map (·.2))).2.2 ∧ Below w.heap.size w w' := by
  have kM := Lib.hid (fun w => rMay_any w f hz)
  rw [hm] at kM
  have HZ := Lib.hid hz0
  have HI := Lib.hid hI
  have hnl : n = zs.length := by
    obtain ⟨p', c', e⟩ := hz0.row.shape
    injection e with _ e _
    rw [e, List.length_map]
  have hle : zs.length ≤ 4 := by have := hI.le; rw [List.length_map] at this; exact this
  have HNL := Lib.hid hnl
  have HLE := Lib.hid hle
  have HM := Lib.hid hm
  have HN := Lib.hid hn
  clear hz0 hI hnl hle hm
  have S0 := Lib.hid (pus_new w lim (.slice p n c) f)
  have hst := pd_storeZ ((((w.alloc (.cells #[.int .i64 lim, .slice p n c] 31)).alloc (.cells (pdC f) 35)).alloc (.cells #[.int .i64 0, .slice none 0 0] 31)).alloc (.cells #[.int .i64 0, .int .u8 0, .int .u8 0, .int .u8 0, .int .u8 0, .int .u8 0, .int .u8 0, .int .u8 0, .int .u8 0, .int .i64 0, .int .i64 0, .int .i64 0, .bool false, .string ⟨#[]⟩] 35)) pdZ
  rw [al_size, al_size, al_size, al_size] at hst
  go_enter Try.func13, Try.ntmps13
  go_upto_region 1 with fail
  go_upto_region 2 with (refine wpList_storeW 35 (.tmp 7) (.tmp 20) rfl rfl (.agg (pdC pdZ)) (w.heap.size + 1 + 1 + 1 + 1) rfl rfl hst ?_)
  try simp only [Act.put]
  clear hst
  generalize World.alloc _ _ = W1 at S0 ⊢
  have hp := S0.out.p
  go_wp2_with (refine pd_ld (by rfl) (.tmp 3) rfl (w.heap.size + 1) rfl _ hp ?_)
  refine (kM.out _).mono ?_
  rintro e w2 ⟨rfl, b2⟩
  have S2 := Lib.hid (S0.out.grow b2)
  clear b2 hp S0
  have c11 := S2.out.p.ps
  have c12 := S2.out.p.mo
  have hcond : ((f.ps == 0) = false) ∨ ((f.ps == 0) = true ∧ f.mo = true) := by
    by_cases h : f.ps = 0
    · refine .inr ⟨by simpa using h, ?_⟩
      cases hmo : f.mo with
      | true => rfl
      | false => exact absurd ⟨h, hmo⟩ hn
    · exact .inl (by simpa using h)
  clear hn
  obtain ⟨i1, z1, u1, u2, u3, u4, u5⟩ := info_dd
  have U1 := Lib.hid u1
  have U2 := Lib.hid u2
  have U3 := Lib.hid u3
  have U4 := Lib.hid u4
  have U5 := Lib.hid u5
  obtain ⟨i2, z2, v1, v2, v3, v4, v5⟩ := info_pk2
  have V1 := Lib.hid v1
  have V2 := Lib.hid v2
  have V3 := Lib.hid v3
  have V4 := Lib.hid v4
  have V5 := Lib.hid v5
  clear u1 u2 u3 u4 u5 v1 v2 v3 v4 v5
  go_upto_region 4 with fail
  go_cut [33] from 26 to 33 (fun b wx => b = .bool false ∧ Hid (PuS w wx lim (.slice p n c) f))
  case first =>
    rcases hcond with hc | ⟨hc, hc2⟩
    · go_wp2_with fail
      go_meet
      case rel => exact ⟨rfl, S2⟩
    · rw [hc2] at c12
      go_wp2_with fail
      go_meet
      case rel => exact ⟨rfl, S2⟩
  case rest =>
  obtain ⟨rfl, S3⟩ := hcut
  clear hcond S2 c11 c12
  rename World => w3
  obtain ⟨b0, b1, -, -⟩ := cells2j S3.out.j
  have hrow := (HZ.out.grow S3.out.bl).row
  have HROW := Lib.hid hrow
  have hzl : (zs.map (·.1)).length ≤ 1000000 := by rw [List.length_map]; have := HLE.out; omega
  have HZL := Lib.hid hzl
  clear hrow hzl
  go_upto_region 8 with (refine wpList_copy_row ddE_len ddE_one (by decide) rfl (.tmp 36) (.tmp 38) 29 rfl i1 z1 Try.underlying29 U1.out U2.out U3.out (by have := U4.out; omega) U5.out rfl (.slice p n c) (zs.map (·.1)) rfl HROW.out HZL.out ?_; intro vl w4 g1 g2 g3; have R4 := Lib.hid g1; have G4 := Lib.hid g2; have O4 := Lib.hid g3; clear g1 g2 g3)
  have R5 : Hid (RaG 2 ddE 78 w w4 (F5 w.heap.size lim (.slice p n c) f) vl (zs.map (·.1))) := Lib.hid (by
    have bx := Below.of_none G4.out
    have hmm := S3.out.m
    refine ⟨R4.out, fun k hk => ?_, S3.out.bl.trans (bx.mono S3.out.bl.size), fun q hq => ⟨(bx.block q.1 (blkLt (S3.out.fx q hq))).trans (S3.out.fx q hq), fun k hk => ?_⟩⟩
    · rcases O4.out with e | e
      · rw [e] at hk; cases hk
      · rw [e] at hk; injection hk with hk; omega
    · rcases O4.out with e | e
      · rw [e] at hk; cases hk
      · rw [e] at hk; injection hk with hk
        have := blkLt (S3.out.fx q hq)
        omega)
  obtain ⟨pl, cl, hvl⟩ := R4.out.shape
  rw [List.length_map] at hvl
  subst hvl
  clear R4 G4 O4 S3 b0 b1 HROW HZL
  go_upto_block 0 with fail
  go_cut [9] from 40 to 57 (fun iv wx => ∃ j : Nat, ∃ hj : j ≤ zs.length, iv = .int .i64 j ∧ (∀ i, (hi : i < j) → sameB ((zs[i]'(by omega)).2.ps.headD pdZ) f = false) ∧ ((h : j < zs.length) → sameB (zs[j].2.ps.headD pdZ) f = true) ∧ Hid (RaG 2 ddE 78 w wx (F5 w.heap.size lim (.slice p n c) f) (.slice pl zs.length cl) (zs.map (·.1))))
  case first =>
    go_wp2
    go_loopw [9] (fun iv wr => ∃ j : Nat, ∃ hj : j ≤ zs.length, iv = .int .i64 j ∧ (∀ i, (hi : i < j) → sameB ((zs[i]'(by omega)).2.ps.headD pdZ) f = false) ∧ Hid (RaG 2 ddE 78 w wr (F5 w.heap.size lim (.slice p n c) f) (.slice pl zs.length cl) (zs.map (·.1)))) (fun iv _ => zs.length - (intOf iv).toNat)
    case atStart => exact ⟨0, Nat.zero_le _, rfl, fun i hi => by omega, R5⟩
    case round =>
      obtain ⟨j, hj, rfl, hno, RJ⟩ := hrel
      clear R5
      have HNO := Lib.hid hno
      clear hno
      by_cases hlt : j < zs.length
      · have DZ : DJz wr (.slice pl zs.length cl) zs := ⟨RJ.out.acc, fun z hz => (HZ.out.ok z hz).grow RJ.out.bl⟩
        obtain ⟨b, hp, -, hnc, hbl, c0, c1⟩ := DZ.elem hlt
        have hne : zs[j].2.ps ≠ [] := HI.out.ne _ (List.mem_map_of_mem (List.getElem_mem hlt))
        obtain ⟨pb, hpp, hpn0, hpnc, hrg⟩ := (DZ.ok _ (List.getElem_mem hlt)).head hne
        rw [hpp] at c0
        subst hp
        obtain ⟨r, hr⟩ : ∃ r, r = sameB (zs[j].2.ps.headD pdZ) f := ⟨_, rfl⟩
        have HRB := Lib.hid hr
        have HRG := Lib.hid hrg
        have C0 := Lib.hid c0
        have kS := Lib.hid (fun w => rsame_any w (zs[j].2.ps.headD pdZ) f)
        rw [← hr] at kS
        have PF : Hid (PdAt wr (w.heap.size + 1) f) := Lib.hid (RJ.out.fx _ (.tail _ (.head _))).1
        generalize zs[j].2.ps.headD pdZ = hd at HRG kS
        generalize zs[j].1.pn = pn at C0 hpn0 hpnc
        generalize zs[j].1.pc = pc at C0 hpnc
        have hj1 : decide ((j : Int) < (zs.length : Int)) = true := by simp; omega
        have q1 : (0 : Int) ≤ (j : Int) := by omega
        have q2 : (j : Int) < (zs.length : Int) := by omega
        have q3 : (0 : Int) < (pn : Int) := by omega
        have hwj : IntKind.i64.wrap ((j : Int) + 1) = (j : Int) + 1 := IntWalk.i64_in _ (by have := HLE.out; omega)
        clear hr hrg c0 c1 DZ hpp hne hbl
        go_upto_region 9 with fail
        refine wp_region_noPanic ?_
        refine region_heldE (S := fun W => Below wr.heap.size wr W) (by kernel_rfl) (fun V d => d.below) (fun V d hS => ?_)
        refine wpAnyH_take (i := 0) (oi := ⟨some 40, Op.move (Operand.tmp 9), _, _, _, none⟩) (v := (.int .i64 (j : Int))) rfl (by kernel_rfl) (by kernel_rfl) (by kernel_rfl) (fun _ _ _ h => h) (Or.inl ⟨by rfl, fun w' h' => ?_⟩) hS ?_
        · clear h'
          go_simp
        simp only [Act.put]
        refine wpAnyH_take (i := 1) (oi := ⟨some 41, Op.move (Operand.tmp 8), _, _, _, none⟩) (v := (.slice (some ⟨b, 0, none⟩) zs.length cl)) rfl (by kernel_rfl) (by kernel_rfl) (by kernel_rfl) (fun _ _ _ h => h) (Or.inl ⟨by rfl, fun w' h' => ?_⟩) hS ?_
        · clear h'
          go_simp
        simp only [Act.put]
        refine wpAnyH_take (i := 2) (oi := ⟨some 42, Op.call { callee := Callee.builtin Builtin.len, args := #[(Operand.tmp 41)], argTypes := #[29] }, _, _, _, none⟩) (v := (.int .i64 (zs.length : Int))) rfl (by kernel_rfl) (by kernel_rfl) (by kernel_rfl) (fun _ _ _ h => h) (Or.inl ⟨by rfl, fun w' h' => ?_⟩) hS ?_
        · clear h'
          go_simp
        simp only [Act.put]
        refine wpAnyH_take (i := 3) (oi := ⟨some 43, Op.binOp BinOp.lss 3 (Operand.tmp 40) (Operand.tmp 42) 3, _, _, _, none⟩) (v := (.bool true)) rfl (by kernel_rfl) (by kernel_rfl) (by kernel_rfl) (fun _ _ _ h => h) (Or.inl ⟨by rfl, fun w' h' => ?_⟩) hS ?_
        · have c0 := hj1
          clear h'
          go_simp
        simp only [Act.put]
        refine wpAnyH_take (i := 4) (oi := ⟨some 44, Op.move (Operand.tmp 43), _, _, _, none⟩) (v := (.bool true)) rfl (by kernel_rfl) (by kernel_rfl) (by kernel_rfl) (fun _ _ _ h => h) (Or.inl ⟨by rfl, fun w' h' => ?_⟩) hS ?_
        · clear h'
          go_simp
        simp only [Act.put]
        refine wpAnyH_take (i := 5) (oi := ⟨some 45, Op.move (Operand.tmp 8), _, _, _, some (4, true)⟩) (v := (.slice (some ⟨b, 0, none⟩) zs.length cl)) rfl (by kernel_rfl) (by kernel_rfl) (by kernel_rfl) (fun _ _ _ h => h) (Or.inl ⟨by kernel_rfl, fun w' h' => ?_⟩) hS ?_
        · clear h'
          go_simp
        simp only [Act.put]
        refine wpAnyH_take (i := 6) (oi := ⟨some 46, Op.move (Operand.tmp 9), _, _, _, some (4, true)⟩) (v := (.int .i64 (j : Int))) rfl (by kernel_rfl) (by kernel_rfl) (by kernel_rfl) (fun _ _ _ h => h) (Or.inl ⟨by kernel_rfl, fun w' h' => ?_⟩) hS ?_
        · clear h'
          go_simp
        simp only [Act.put]
        refine wpAnyH_take (i := 7) (oi := ⟨some 47, Op.indexAddr 29 (Operand.tmp 45) (Operand.tmp 46), _, _, _, some (4, true)⟩) (v := (.pointer (some ⟨b, j * 2, none⟩))) rfl (by kernel_rfl) (by kernel_rfl) (by kernel_rfl) (fun _ _ _ h => h) (Or.inl ⟨by kernel_rfl, fun w' h' => ?_⟩) hS ?_
        · clear h'
          go_simp
        simp only [Act.put]
        refine wpAnyH_take (i := 8) (oi := ⟨some 48, Op.fieldAddr 78 (Operand.tmp 47) 0, _, _, _, some (4, true)⟩) (v := (.pointer (some ⟨b, j * 2, none⟩))) rfl (by kernel_rfl) (by kernel_rfl) (by kernel_rfl) (fun _ _ _ h => h) (Or.inl ⟨by kernel_rfl, fun w' h' => ?_⟩) hS ?_
        · clear h'
          go_simp
        simp only [Act.put]
        refine wpAnyH_take (i := 9) (oi := ⟨some 49, Op.load 76 (Operand.tmp 48), _, _, _, some (4, true)⟩) (v := (.slice (some ⟨pb, 0, none⟩) pn pc)) rfl (by kernel_rfl) (by kernel_rfl) (by kernel_rfl) (fun _ _ _ h => h) (Or.inl ⟨by kernel_rfl, fun w' h' => ?_⟩) hS ?_
        · have c0 := cell_grow C0.out h'
          clear h'
          go_simp
        simp only [Act.put]
        refine wpAnyH_take (i := 10) (oi := ⟨some 50, Op.indexAddr 76 (Operand.tmp 49) (Operand.const (Value.int IntKind.i64 0)), _, _, _, some (4, true)⟩) (v := (.pointer (some ⟨pb, 0, none⟩))) rfl (by kernel_rfl) (by kernel_rfl) (by kernel_rfl) (fun _ _ _ h => h) (Or.inl ⟨by kernel_rfl, fun w' h' => ?_⟩) hS ?_
        · clear h'
          go_simp
        simp only [Act.put]
        refine wpAnyH_take (i := 11) (oi := ⟨some 51, Op.load 35 (Operand.tmp 50), _, _, _, some (4, true)⟩) (v := (.agg (pdC hd))) rfl (by kernel_rfl) (by kernel_rfl) (by kernel_rfl) (fun _ _ _ h => h) (yields_mid (by kernel_rfl) 35 (Operand.tmp 50) (by kernel_rfl) pb 0 (by kernel_rfl) (pdC hd) _ (fun W h => rangeAt_below HRG.out h) Try.underlying35 rfl (by kernel_rfl)) hS ?_
        simp only [Act.put]
        refine wpAnyH_take (i := 12) (oi := ⟨some 52, Op.load 35 (Operand.tmp 3), _, _, _, some (4, true)⟩) (v := (.agg (pdC f))) rfl (by kernel_rfl) (by kernel_rfl) (by kernel_rfl) (fun _ _ _ h => h) (yields_pd (by kernel_rfl) (Operand.tmp 3) (by kernel_rfl) (w.heap.size + 1) (by kernel_rfl) f (fun W h => PF.out.grow h)) hS ?_
        simp only [Act.put]
        refine wpAnyH_ready (rs := [13]) (by kernel_rfl) (by simp) ?_
        refine AllReadyH.cons rfl (fun K hK => ?_) AllReadyH.nil
        go_simp
        refine (kS.out _).mono ?_
        rintro e v1 ⟨rfl, bb1⟩
        have S1 : Below wr.heap.size wr v1 := hS.trans (bb1.mono hS.size)
        clear bb1
        go_simp
        refine hK.out _ _ S1 (fun _ => ?_)
        clear hK K
        refine wpAnyH_take (i := 14) (oi := ⟨some 54, Op.unOp UnOp.not 4 (Operand.tmp 53), _, _, _, some (4, true)⟩) (v := (.bool (!r))) rfl (by kernel_rfl) (by kernel_rfl) (by kernel_rfl) (fun _ _ _ h => h) (Or.inl ⟨by kernel_rfl, fun w' h' => ?_⟩) S1 ?_
        · clear h'
          go_simp
        simp only [Act.put]
        refine wpAnyH_take (i := 15) (oi := ⟨some 55, Op.pick (Operand.tmp 44) (Operand.tmp 54) (Operand.const (Value.bool false)), _, _, _, none⟩) (v := (.bool (!r))) rfl (by kernel_rfl) (by kernel_rfl) (by kernel_rfl) (fun _ _ _ h => h) (Or.inl ⟨by rfl, fun w' h' => ?_⟩) S1 ?_
        · clear h'
          go_simp
        simp only [Act.put]
        refine wpAnyH_done (by kernel_rfl) (NoPanic.normal ?_) _
        simp only [List.setIfInBounds_toArray, List.set_cons_zero, List.set_cons_succ]
        have BX := Lib.hid S1
        cases r
        · go_wp2_with fail
          go_roundw
          case rel => exact ⟨j + 1, by omega, by go_num, fun i hi => by
            by_cases e : i = j
            · subst e; exact HRB.out.symm
            · exact HNO.out i (by omega), Lib.hid (RJ.out.grow BX.out)⟩
          case measure => simp [intOf]; omega
        · go_wp2_with fail
          go_meet
          case rel => exact ⟨j, hj, rfl, HNO.out, fun _ => HRB.out.symm, Lib.hid (RJ.out.grow BX.out)⟩
      · obtain rfl : j = zs.length := by omega
        have hj1 : decide ((zs.length : Int) < (zs.length : Int)) = false := by simp
        go_upto_region 9 with fail
        refine wp_region_noPanic ?_
        refine region_heldE (S := fun W => Below wr.heap.size wr W) (by kernel_rfl) (fun V d => d.below) (fun V d hS => ?_)
        refine wpAnyH_take (i := 0) (oi := ⟨some 40, Op.move (Operand.tmp 9), _, _, _, none⟩) (v := (.int .i64 (zs.length : Int))) rfl (by kernel_rfl) (by kernel_rfl) (by kernel_rfl) (fun _ _ _ h => h) (Or.inl ⟨by rfl, fun w' h' => ?_⟩) hS ?_
        · clear h'
          go_simp
        simp only [Act.put]
        refine wpAnyH_take (i := 1) (oi := ⟨some 41, Op.move (Operand.tmp 8), _, _, _, none⟩) (v := (.slice pl zs.length cl)) rfl (by kernel_rfl) (by kernel_rfl) (by kernel_rfl) (fun _ _ _ h => h) (Or.inl ⟨by rfl, fun w' h' => ?_⟩) hS ?_
        · clear h'
          go_simp
        simp only [Act.put]
        refine wpAnyH_take (i := 2) (oi := ⟨some 42, Op.call { callee := Callee.builtin Builtin.len, args := #[(Operand.tmp 41)], argTypes := #[29] }, _, _, _, none⟩) (v := (.int .i64 (zs.length : Int))) rfl (by kernel_rfl) (by kernel_rfl) (by kernel_rfl) (fun _ _ _ h => h) (Or.inl ⟨by rfl, fun w' h' => ?_⟩) hS ?_
        · clear h'
          go_simp
        simp only [Act.put]
        refine wpAnyH_take (i := 3) (oi := ⟨some 43, Op.binOp BinOp.lss 3 (Operand.tmp 40) (Operand.tmp 42) 3, _, _, _, none⟩) (v := (.bool false)) rfl (by kernel_rfl) (by kernel_rfl) (by kernel_rfl) (fun _ _ _ h => h) (Or.inl ⟨by rfl, fun w' h' => ?_⟩) hS ?_
        · have c0 := hj1
          clear h'
          go_simp
        simp only [Act.put]
        refine wpAnyH_take (i := 4) (oi := ⟨some 44, Op.move (Operand.tmp 43), _, _, _, none⟩) (v := (.bool false)) rfl (by kernel_rfl) (by kernel_rfl) (by kernel_rfl) (fun _ _ _ h => h) (Or.inl ⟨by rfl, fun w' h' => ?_⟩) hS ?_
        · clear h'
          go_simp
        simp only [Act.put]
        refine wpAnyH_take (i := 5) (oi := ⟨some 45, Op.move (Operand.tmp 8), _, _, _, some (4, true)⟩) (v := undef) rfl (by kernel_rfl) (by kernel_rfl) (by kernel_rfl) (fun _ _ _ h => h) (Or.inr ⟨by kernel_rfl, rfl⟩) hS ?_
        simp only [Act.put]
        refine wpAnyH_take (i := 6) (oi := ⟨some 46, Op.move (Operand.tmp 9), _, _, _, some (4, true)⟩) (v := undef) rfl (by kernel_rfl) (by kernel_rfl) (by kernel_rfl) (fun _ _ _ h => h) (Or.inr ⟨by kernel_rfl, rfl⟩) hS ?_
        simp only [Act.put]
        refine wpAnyH_take (i := 7) (oi := ⟨some 47, Op.indexAddr 29 (Operand.tmp 45) (Operand.tmp 46), _, _, _, some (4, true)⟩) (v := undef) rfl (by kernel_rfl) (by kernel_rfl) (by kernel_rfl) (fun _ _ _ h => h) (Or.inr ⟨by kernel_rfl, rfl⟩) hS ?_
        simp only [Act.put]
        refine wpAnyH_take (i := 8) (oi := ⟨some 48, Op.fieldAddr 78 (Operand.tmp 47) 0, _, _, _, some (4, true)⟩) (v := undef) rfl (by kernel_rfl) (by kernel_rfl) (by kernel_rfl) (fun _ _ _ h => h) (Or.inr ⟨by kernel_rfl, rfl⟩) hS ?_
        simp only [Act.put]
        refine wpAnyH_take (i := 9) (oi := ⟨some 49, Op.load 76 (Operand.tmp 48), _, _, _, some (4, true)⟩) (v := undef) rfl (by kernel_rfl) (by kernel_rfl) (by kernel_rfl) (fun _ _ _ h => h) (Or.inr ⟨by kernel_rfl, rfl⟩) hS ?_
        simp only [Act.put]
        refine wpAnyH_take (i := 10) (oi := ⟨some 50, Op.indexAddr 76 (Operand.tmp 49) (Operand.const (Value.int IntKind.i64 0)), _, _, _, some (4, true)⟩) (v := undef) rfl (by kernel_rfl) (by kernel_rfl) (by kernel_rfl) (fun _ _ _ h => h) (Or.inr ⟨by kernel_rfl, rfl⟩) hS ?_
        simp only [Act.put]
        refine wpAnyH_take (i := 11) (oi := ⟨some 51, Op.load 35 (Operand.tmp 50), _, _, _, some (4, true)⟩) (v := undef) rfl (by kernel_rfl) (by kernel_rfl) (by kernel_rfl) (fun _ _ _ h => h) (Or.inr ⟨by kernel_rfl, rfl⟩) hS ?_
        simp only [Act.put]
        refine wpAnyH_take (i := 12) (oi := ⟨some 52, Op.load 35 (Operand.tmp 3), _, _, _, some (4, true)⟩) (v := undef) rfl (by kernel_rfl) (by kernel_rfl) (by kernel_rfl) (fun _ _ _ h => h) (Or.inr ⟨by kernel_rfl, rfl⟩) hS ?_
        simp only [Act.put]
        refine wpAnyH_take (i := 13) (oi := ⟨some 53, Op.call { callee := Callee.value (Operand.func 33), args := #[(Operand.tmp 51), (Operand.tmp 52)], argTypes := #[35, 35] }, _, _, _, some (4, true)⟩) (v := undef) rfl (by kernel_rfl) (by kernel_rfl) (by kernel_rfl) (fun _ _ _ h => h) (Or.inr ⟨by kernel_rfl, rfl⟩) hS ?_
        simp only [Act.put]
        refine wpAnyH_take (i := 14) (oi := ⟨some 54, Op.unOp UnOp.not 4 (Operand.tmp 53), _, _, _, some (4, true)⟩) (v := undef) rfl (by kernel_rfl) (by kernel_rfl) (by kernel_rfl) (fun _ _ _ h => h) (Or.inr ⟨by kernel_rfl, rfl⟩) hS ?_
        simp only [Act.put]
        refine wpAnyH_take (i := 15) (oi := ⟨some 55, Op.pick (Operand.tmp 44) (Operand.tmp 54) (Operand.const (Value.bool false)), _, _, _, none⟩) (v := (.bool false)) rfl (by kernel_rfl) (by kernel_rfl) (by kernel_rfl) (fun _ _ _ h => h) (Or.inl ⟨by rfl, fun w' h' => ?_⟩) hS ?_
        · clear h'
          go_simp
        simp only [Act.put]
        refine wpAnyH_done (by kernel_rfl) (NoPanic.normal ?_) _
        simp only [List.setIfInBounds_toArray, List.set_cons_zero, List.set_cons_succ]
        have BX := Lib.hid hS
        go_wp2_with fail
        go_meet
        case rel => exact ⟨zs.length, hj, rfl, HNO.out, fun h => absurd h (Nat.lt_irrefl _), Lib.hid (RJ.out.grow BX.out)⟩
  case rest =>
  obtain ⟨j, hj, rfl, hno, hyes, R6⟩ := hcut
  clear R5
  have HNO := Lib.hid hno
  have HYES := Lib.hid hyes
  clear hno hyes
  rename World => w6
  have hj0 : (0 : Int) ≤ (j : Int) := by omega
  go_upto_if 61 with fail
  go_cut [8, 9, 10, 11] from 61 to 84 (fun vl iv vp av wx => ∃ (bl capl : Nat) (cur : Array Value) (ys : List (Dd × Dq)) (pp : Option Addr) (pc : Nat) (I : Nat) (d : Dq), vl = .slice (some ⟨bl, 0, none⟩) ys.length capl ∧ iv = .int .i64 (I : Int) ∧ vp = .slice pp d.ps.length pc ∧ av = .int .i64 d.age ∧ ys.map (·.2) = (begD f (zs.map (·.2))).1 ∧ I = (begD f (zs.map (·.2))).2 ∧ I < ys.length ∧ (begD f (zs.map (·.2))).1.getD I ⟨[], 0⟩ = d ∧ ys.length ≤ 5 ∧ (∀ z ∈ ys, z ∈ zs ∨ z.1.pp = none) ∧ Hid (CsS w wx lim (.slice p n c) f bl capl cur ys (.slice pp d.ps.length pc) d.ps))
  case first =>
    by_cases hlt : j < zs.length
    · have hj1 : decide ((j : Int) < (zs.length : Int)) = true := by simp; omega
      have hj2 : decide (j < zs.length) = true := by simp; omega
      have hlm : (zs.map (·.2)).length = zs.length := List.length_map _
      have hidx : idxD f (zs.map (·.2)) = j := by
        unfold idxD
        refine findIdx_at _ j (by omega) (fun i hi => ?_) ?_
        · rw [List.getElem_map]; exact HNO.out i hi
        · rw [List.getElem_map]; exact HYES.out hlt
      have hbeg : begD f (zs.map (·.2)) = (zs.map (·.2), j) := by unfold begD; rw [hidx, if_pos (by omega)]
      have HBEG := Lib.hid hbeg
      clear hbeg hidx hlm
      have DZ : DJz w6 (.slice pl zs.length cl) zs := ⟨R6.out.acc, fun z hz => (HZ.out.ok z hz).grow R6.out.bl⟩
      obtain ⟨bl, capl, cur, hv, hb, -⟩ := R6.out.acc.block (by rw [List.length_map]; omega)
      injection hv with hv hv2 hc
      subst hv hc
      have hbz := R6.out.own bl rfl
      have hb0 := (R6.out.fx _ (.head _)).2 bl rfl
      have hb1 := (R6.out.fx _ (.tail _ (.head _))).2 bl rfl
      have hb2 := (R6.out.fx _ (.tail _ (.tail _ (.head _)))).2 bl rfl
      have hb3 := (R6.out.fx _ (.tail _ (.tail _ (.tail _ (.head _))))).2 bl rfl
      have hb4 := (R6.out.fx _ (.tail _ (.tail _ (.tail _ (.tail _ (.head _)))))).2 bl rfl
      have HBL : Hid (w.heap.size + 1 + 1 + 1 + 1 < bl) := Lib.hid (by dsimp only at hb0 hb1 hb2 hb3 hb4; omega)
      obtain ⟨b', hp', -, hnc, -, c0, c1⟩ := DZ.elem hlt
      injection hp' with hp'
      injection hp' with hp'
      subst hp'
      have zok := DZ.ok _ (List.getElem_mem hlt)
      have hpn := zok.pn
      have hrw := zok.row
      rw [hpn] at hrw c0
      have HRW := Lib.hid hrw
      have HDZ := Lib.hid DZ
      have hag := zok.age
      have hps : (zs[j].2.ps).length ≤ 1000000 := by have := HI.out.pn _ (List.mem_map_of_mem (List.getElem_mem hlt)); omega
      have HPS := Lib.hid hps
      have R7 := Lib.hid (R6.out.fresh hb 14 pdL 35)
      have q2 : (j : Int) < (zs.length : Int) := by omega
      rw [hag] at c1
      have C1 := Lib.hid c1
      clear DZ hv2 hbz hb0 hb1 hb2 hb3 hb4 zok hrw hps hag hb c1 hpn
      go_upto_region 15 with (refine wpList_copy_row pdL_len pdL_one (by decide) rfl (.tmp 62) (.tmp 67) 76 rfl i2 z2 Try.underlying76 V1.out V2.out V3.out (by have := V4.out; omega) V5.out rfl (.slice zs[j].1.pp zs[j].2.ps.length zs[j].1.pc) zs[j].2.ps rfl HRW.out HPS.out ?_; intro vp w7 g1 g2 g3; have R8 := Lib.hid (R7.out.app g2 g1 g3); have B8 := Lib.hid (Below.of_none g2); clear g1 g2 g3)
      have c1 : w7.cell? ⟨bl, j * 2 + 1, none⟩ = some (.int .i64 zs[j].2.age) := cell_grow C1.out B8.out
      obtain ⟨pp, pc, hvp⟩ := R8.out.acc.shape
      subst hvp
      go_wp2_with fail
      go_meet
      case rel =>
        have e2 : (begD f (zs.map (·.2))).2 = j := by rw [HBEG.out]
        have e1 : (begD f (zs.map (·.2))).1 = zs.map (·.2) := by rw [HBEG.out]
        refine ⟨bl, cl, cur, zs, pp, pc, j, zs[j].2, rfl, rfl, rfl, rfl, e1.symm, e2.symm, hlt, ?_, by have := HLE.out; omega, fun z hz => .inl hz, Lib.hid ⟨R8.out, HDZ.out.grow B8.out, HBL.out, fun z hz => HZ.out.ok z hz⟩⟩
        rw [e1, List.getD_eq_getElem?_getD, List.getElem?_map, List.getElem?_eq_getElem hlt]
        rfl
    · have hje : j = zs.length := by omega
      have hj1 : decide ((j : Int) < (zs.length : Int)) = false := by simp; omega
      have hj2 : decide (j < zs.length) = false := by simp; omega
      subst hje
      have hlm : (zs.map (·.2)).length = zs.length := List.length_map _
      have hidx : idxD f (zs.map (·.2)) = zs.length := by
        unfold idxD
        rw [findIdx_end _ (fun i hi => by rw [List.getElem_map]; exact HNO.out i (by omega)), hlm]
      have hbeg : begD f (zs.map (·.2)) = (drop4 (zs.map (·.2)) ++ [⟨[], 0⟩], (drop4 (zs.map (·.2))).length) := by unfold begD; rw [hidx, if_neg (by omega)]
      have HBEG := Lib.hid hbeg
      clear hbeg hidx hlm HNO HYES hj2 hj0
      have hsub : zs.length = 4 ∨ zs.length ≠ 4 := by omega
      rcases hsub with h4 | h4
      · have e4 : ((zs.length : Int) == 4) = true := by simp; omega
        have H4 := Lib.hid h4
        obtain ⟨bl, capl, cur, hv, hb, -⟩ := R6.out.acc.block (by rw [List.length_map]; omega)
        injection hv with hv hv2 hc
        subst hv hc
        have kW := Lib.hid (rwithout_any w6 bl cl 0 (zs.map (·.1)) (by have := R6.out.acc; rw [← List.length_map (f := fun z : Dd × Dq => z.1)] at this; exact this) (by rw [List.length_map]; omega) (by rw [List.length_map]; omega))
        rw [List.length_map] at kW
        have HD4 : Hid (drop4 (zs.map (·.2)) = (zs.eraseIdx 0).map (·.2)) := Lib.hid (by unfold drop4; rw [if_pos (by rw [List.length_map]; exact h4), map_erase])
        clear hv2 hb h4
        go_upto_region 18 with (go_at_call 34; refine kW.out.mono ?_; rintro e w7 ⟨v7, rfl, g1, g2, g3⟩; have G1 := Lib.hid g1; have G2 := Lib.hid g2; have G3 := Lib.hid g3; clear g1 g2 g3)
        have R7 : Hid (RaG 2 ddE 78 w w7 (F5 w.heap.size lim (.slice p n c) f) v7 ((zs.eraseIdx 0).map (·.1))) := Lib.hid (by
          have hs := R6.out.bl.size
          refine ⟨by rw [map_erase]; exact G1.out, fun k hk => Nat.le_trans hs (G3.out k hk), R6.out.bl.trans (G2.out.mono hs), fun q hq => ?_⟩
          have e := (R6.out.fx q hq).1
          exact ⟨(G2.out.block q.1 (blkLt e)).trans e, fun k hk e2 => by have := G3.out k hk; have := blkLt e; omega⟩)
        have HSUB : Hid (∀ z ∈ zs.eraseIdx 0, z ∈ zs) := Lib.hid (fun z hz => List.mem_of_mem_eraseIdx hz)
        have HZ7 : Hid (∀ z ∈ zs.eraseIdx 0, DdOk w z.1 z.2) := Lib.hid (fun z hz => HZ.out.ok z (List.mem_of_mem_eraseIdx hz))
        obtain ⟨p7, c7, hv7⟩ := R7.out.acc.shape
        rw [List.length_map] at hv7
        subst hv7
        have HL7 : Hid ((zs.eraseIdx 0).length ≤ 4) := Lib.hid (Nat.le_trans (List.length_eraseIdx_le _ _) HLE.out)
        clear G1 G2 G3 kW
        generalize zs.eraseIdx 0 = ys0 at R7 HZ7 HD4 HL7 HSUB ⊢
        have A8 := Lib.hid (R7.out.alloc (.cells #[.slice none 0 0, .int .i64 0] 78))
        have HNW := Lib.hid (dd_nil_new w7)
        have hl8 : (ys0.map (·.1)).length + ([(⟨none, 0, 0, 0⟩ : Dd)]).length ≤ 100000000 := by rw [List.length_map]; have := HL7.out; simp; omega
        have hpe : Value.slice p7 ys0.length c7 = Value.slice p7 ys0.length c7 := rfl
        have R7a : Hid (RowA 2 ddE 78 (w7.alloc (.cells #[.slice none 0 0, .int .i64 0] 78)) (.slice p7 ys0.length c7) (ys0.map (·.1))) := Lib.hid A8.out.acc
        go_upto_region 19 with fail
        go_wp2_with (refine wpList_append_many ddE_len ddE_one (by decide) rfl (.tmp 81) (.tmp 83) 29 rfl i1 z1 _ Try.underlying29 U1.out U2.out U3.out rfl U4.out U5.out (.slice p7 ys0.length c7) (ys0.map (·.1)) rfl R7a.out [(⟨none, 0, 0, 0⟩ : Dd)] hl8 ⟨w7.heap.size, 0, none⟩ 1 1 rfl rfl HNW.out ?_; intro v8 w8 g1 g2 g3; have R8 := Lib.hid (A8.out.app g2 g1 g3); clear g1 g2 g3)
        have hmap : ys0.map (·.1) ++ [(⟨none, 0, 0, 0⟩ : Dd)] = (ys0 ++ [((⟨none, 0, 0, 0⟩ : Dd), (⟨[], 0⟩ : Dq))]).map (·.1) := by rw [List.map_append]; rfl
        rw [hmap] at R8
        obtain ⟨bl, capl, cur, hv, hb, -⟩ := R8.out.acc.block (by rw [List.length_map, List.length_append]; simp)
        rw [List.length_map] at hv
        subst hv
        have hbz := R8.out.own bl rfl
        have hb0 := (R8.out.fx _ (.head _)).2 bl rfl
        have hb1 := (R8.out.fx _ (.tail _ (.head _))).2 bl rfl
        have hb2 := (R8.out.fx _ (.tail _ (.tail _ (.head _)))).2 bl rfl
        have hb3 := (R8.out.fx _ (.tail _ (.tail _ (.tail _ (.head _))))).2 bl rfl
        have hb4 := (R8.out.fx _ (.tail _ (.tail _ (.tail _ (.tail _ (.head _)))))).2 bl rfl
        have HBL : Hid (w.heap.size + 1 + 1 + 1 + 1 < bl) := Lib.hid (by dsimp only at hb0 hb1 hb2 hb3 hb4; omega)
        have R9 := Lib.hid (R8.out.fresh hb 14 pdL 35)
        have bw := R8.out.bl
        go_meet
        case rel =>
          have e2 : (begD f (zs.map (·.2))).2 = ys0.length := by rw [HBEG.out, HD4.out, List.length_map]
          have e1 : (begD f (zs.map (·.2))).1 = (ys0 ++ [((⟨none, 0, 0, 0⟩ : Dd), (⟨[], 0⟩ : Dq))]).map (·.2) := by rw [HBEG.out, HD4.out, List.map_append]; rfl
          have hlt : ys0.length < (ys0 ++ [((⟨none, 0, 0, 0⟩ : Dd), (⟨[], 0⟩ : Dq))]).length := by simp
          refine ⟨bl, capl, cur, ys0 ++ [((⟨none, 0, 0, 0⟩ : Dd), (⟨[], 0⟩ : Dq))], none, 0, ys0.length, ⟨[], 0⟩, rfl, rfl, rfl, rfl, e1.symm, e2.symm, hlt, ?_, by rw [List.length_append]; have := HL7.out; simp; omega, fun z hz => (List.mem_append.1 hz).elim (fun h => .inl (HSUB.out z h)) (fun h => by rw [List.mem_singleton] at h; subst h; exact .inr rfl), Lib.hid ?_⟩
          · rw [e1]; simp
          · refine ⟨R9.out, ⟨R8.out.acc, fun z hz => ?_⟩, HBL.out, fun z hz => ?_⟩
            · rcases List.mem_append.1 hz with hz | hz
              · exact (HZ7.out z hz).grow R8.out.bl
              · rw [List.mem_singleton] at hz; subst hz; exact ddok_nil _
            · rcases List.mem_append.1 hz with hz | hz
              · exact HZ7.out z hz
              · rw [List.mem_singleton] at hz; subst hz; exact ddok_nil _
      · have e4 : ((zs.length : Int) == 4) = false := by simp; omega
        have HD4 : Hid (drop4 (zs.map (·.2)) = zs.map (·.2)) := Lib.hid (by unfold drop4; rw [if_neg (by rw [List.length_map]; exact h4)])
        have HZ7 : Hid (∀ z ∈ zs, DdOk w z.1 z.2) := Lib.hid (fun z hz => HZ.out.ok z hz)
        clear h4
        go_upto_region 18 with fail
        have R7 := R6
        have HL7 := HLE
        have A8 := Lib.hid (R7.out.alloc (.cells #[.slice none 0 0, .int .i64 0] 78))
        have HNW := Lib.hid (dd_nil_new w6)
        have hl8 : (zs.map (·.1)).length + ([(⟨none, 0, 0, 0⟩ : Dd)]).length ≤ 100000000 := by rw [List.length_map]; have := HL7.out; simp; omega
        have hpe : Value.slice pl zs.length cl = Value.slice pl zs.length cl := rfl
        have R7a : Hid (RowA 2 ddE 78 (w6.alloc (.cells #[.slice none 0 0, .int .i64 0] 78)) (.slice pl zs.length cl) (zs.map (·.1))) := Lib.hid A8.out.acc
        go_upto_region 19 with fail
        go_wp2_with (refine wpList_append_many ddE_len ddE_one (by decide) rfl (.tmp 81) (.tmp 83) 29 rfl i1 z1 _ Try.underlying29 U1.out U2.out U3.out rfl U4.out U5.out (.slice pl zs.length cl) (zs.map (·.1)) rfl R7a.out [(⟨none, 0, 0, 0⟩ : Dd)] hl8 ⟨w6.heap.size, 0, none⟩ 1 1 rfl rfl HNW.out ?_; intro v8 w8 g1 g2 g3; have R8 := Lib.hid (A8.out.app g2 g1 g3); clear g1 g2 g3)
        have hmap : zs.map (·.1) ++ [(⟨none, 0, 0, 0⟩ : Dd)] = (zs ++ [((⟨none, 0, 0, 0⟩ : Dd), (⟨[], 0⟩ : Dq))]).map (·.1) := by rw [List.map_append]; rfl
        rw [hmap] at R8
        obtain ⟨bl, capl, cur, hv, hb, -⟩ := R8.out.acc.block (by rw [List.length_map, List.length_append]; simp)
        rw [List.length_map] at hv
        subst hv
        have hbz := R8.out.own bl rfl
        have hb0 := (R8.out.fx _ (.head _)).2 bl rfl
        have hb1 := (R8.out.fx _ (.tail _ (.head _))).2 bl rfl
        have hb2 := (R8.out.fx _ (.tail _ (.tail _ (.head _)))).2 bl rfl
        have hb3 := (R8.out.fx _ (.tail _ (.tail _ (.tail _ (.head _))))).2 bl rfl
        have hb4 := (R8.out.fx _ (.tail _ (.tail _ (.tail _ (.tail _ (.head _)))))).2 bl rfl
        have HBL : Hid (w.heap.size + 1 + 1 + 1 + 1 < bl) := Lib.hid (by dsimp only at hb0 hb1 hb2 hb3 hb4; omega)
        have R9 := Lib.hid (R8.out.fresh hb 14 pdL 35)
        have bw := R8.out.bl
        go_meet
        case rel =>
          have e2 : (begD f (zs.map (·.2))).2 = zs.length := by rw [HBEG.out, HD4.out, List.length_map]
          have e1 : (begD f (zs.map (·.2))).1 = (zs ++ [((⟨none, 0, 0, 0⟩ : Dd), (⟨[], 0⟩ : Dq))]).map (·.2) := by rw [HBEG.out, HD4.out, List.map_append]; rfl
          have hlt : zs.length < (zs ++ [((⟨none, 0, 0, 0⟩ : Dd), (⟨[], 0⟩ : Dq))]).length := by simp
          refine ⟨bl, capl, cur, zs ++ [((⟨none, 0, 0, 0⟩ : Dd), (⟨[], 0⟩ : Dq))], none, 0, zs.length, ⟨[], 0⟩, rfl, rfl, rfl, rfl, e1.symm, e2.symm, hlt, ?_, by rw [List.length_append]; have := HL7.out; simp; omega, fun z hz => (List.mem_append.1 hz).elim .inl (fun h => by rw [List.mem_singleton] at h; subst h; exact .inr rfl), Lib.hid ?_⟩
          · rw [e1]; simp
          · refine ⟨R9.out, ⟨R8.out.acc, fun z hz => ?_⟩, HBL.out, fun z hz => ?_⟩
            · rcases List.mem_append.1 hz with hz | hz
              · exact (HZ7.out z hz).grow R8.out.bl
              · rw [List.mem_singleton] at hz; subst hz; exact ddok_nil _
            · rcases List.mem_append.1 hz with hz | hz
              · exact HZ7.out z hz
              · rw [List.mem_singleton] at hz; subst hz; exact ddok_nil _
  case rest =>
  obtain ⟨bl, capl, cur, ys, pp, pc, I, d, rfl, rfl, rfl, rfl, hys, hI, hlt, hd, hy5, hsb, C7⟩ := hcut
  clear R6 HNO HYES hj0
  rename World => w7
  have HQ := Lib.hid (begD_ok HI.out HM.out)
  rw [← hI, hd] at HQ
  have HPUT : Hid (putD f (zs.map (·.2)) = putJ f (zs.map (·.2)) (ys.map (·.2)) I d) := Lib.hid (by
    unfold putD
    rw [if_neg (by rw [HM.out]; decide), if_neg HN.out, ← hI, hd, hys])
  have HLT := Lib.hid hlt
  have HY5 := Lib.hid hy5
  have HSB := Lib.hid hsb
  clear hsb
  clear hys hI hd hlt hy5
  have hb := of_decide_eq_true HM.out
  obtain ⟨E, hE⟩ : ∃ E, E = pEnd (pcOf f) := ⟨_, rfl⟩
  have hwe : IntKind.i64.wrap (f.ps + (f.da.size : Int)) = E := by rw [hE]; exact IntWalk.i64_in _ (by omega)
  have hsz : f.da.size ≤ 9223372036854775807 := by omega
  have HE := Lib.hid hE
  clear hE hb
  have c11 := C7.out.pu.p.ps
  have c12 := C7.out.pu.p.mo
  have c13 := C7.out.pu.p.da
  go_upto_region 22 with fail
  clear c11 c12 c13
  go_wp2
  go_loopw [13, 14] (fun fv kv wx => ∃ k : Nat, k ≤ d.ps.length ∧ kv = .int .i64 (k : Int) ∧ fv = .bool (decide (E ≤ 1200) && !((d.ps.map pcOf).take k).any (clashP (pcOf f))) ∧ Hid (pcOf f ∉ (d.ps.map pcOf).take k) ∧ Hid (CsS w wx lim (.slice p n c) f bl capl cur ys (.slice pp d.ps.length pc) d.ps)) (fun _ kv _ => d.ps.length - (intOf kv).toNat)
  case atStart => exact ⟨0, Nat.zero_le _, rfl, by simp, Lib.hid (by simp), C7⟩
  case round =>
    obtain ⟨k, hk, rfl, rfl, hnin, CW⟩ := hrel
    clear C7
    by_cases hlt : k < d.ps.length
    · obtain ⟨b, cap, hv, -, -, -, -, hE0⟩ := RowA.elem pdL_len CW.out.ra.acc (by omega)
      injection hv with hv _ hc
      subst hv hc
      obtain ⟨x, hx⟩ : ∃ x, x = d.ps[k] := ⟨_, rfl⟩
      have HR : Hid (wr.rangeAt b (k * 14) [.int .i64 x.id, .int .u8 (x.sr.a.toNat : Int), .int .u8 (x.sr.b.toNat : Int), .int .u8 (x.sr.c.toNat : Int), .int .u8 (x.sr.d.toNat : Int), .int .u8 (x.ds.a.toNat : Int), .int .u8 (x.ds.b.toNat : Int), .int .u8 (x.ds.c.toNat : Int), .int .u8 (x.ds.d.toNat : Int), .int .i64 x.pr, .int .i64 x.tl, .int .i64 x.ps, .bool x.mo, .string x.da]) := Lib.hid (by rw [hx]; exact hE0 k hlt)
      have hxm : x ∈ d.ps := by rw [hx]; exact List.getElem_mem hlt
      have hbx := of_decide_eq_true (HQ.out.1.may _ hxm)
      have htk : (d.ps.map pcOf).take (k + 1) = (d.ps.map pcOf).take k ++ [pcOf x] := by
        rw [take_one (show k < (d.ps.map pcOf).length by rw [List.length_map]; exact hlt), List.getElem_map, ← hx]
      obtain ⟨XE, hXE⟩ : ∃ e, e = pEnd (pcOf x) := ⟨_, rfl⟩
      have hwx : IntKind.i64.wrap (x.ps + (x.da.size : Int)) = XE := by rw [hXE]; exact IntWalk.i64_in _ (by omega)
      have hzx : x.da.size ≤ 9223372036854775807 := by omega
      have HXE := Lib.hid hXE
      have HTK := Lib.hid htk
      have HXM := Lib.hid hxm
      have hj1 : decide ((k : Int) < (d.ps.length : Int)) = true := by simp; omega
      have q1 : (0 : Int) ≤ (k : Int) := by omega
      have q2 : (k : Int) < (d.ps.length : Int) := by omega
      have hwk : IntKind.i64.wrap ((k : Int) + 1) = (k : Int) + 1 := IntWalk.i64_in _ (by have := HQ.out.2.1; omega)
      have hst := pd_storeZ wr x
      clear hE0 hx hxm hbx htk hXE
      go_upto_region 26 with (first | (refine wpList_load_mid rfl 35 (.tmp 101) rfl b (k * 14) rfl [.int .i64 x.id, .int .u8 (x.sr.a.toNat : Int), .int .u8 (x.sr.b.toNat : Int), .int .u8 (x.sr.c.toNat : Int), .int .u8 (x.sr.d.toNat : Int), .int .u8 (x.ds.a.toNat : Int), .int .u8 (x.ds.b.toNat : Int), .int .u8 (x.ds.c.toNat : Int), .int .u8 (x.ds.d.toNat : Int), .int .i64 x.pr, .int .i64 x.tl, .int .i64 x.ps, .bool x.mo, .string x.da] _ HR.out Try.underlying35 rfl (by kernel_rfl) ?_) | (refine wpList_storeW 35 (.tmp 15) (.tmp 102) rfl rfl (.agg (pdC x)) wr.heap.size rfl rfl hst ?_))
      have C2 := Lib.hid (CW.out.grow ((Below.refl wr.heap.size wr).alloc (Nat.le_refl _) (.cells (pdC x) 35)))
      have X2 : Hid (PdAt (wr.alloc (.cells (pdC x) 35)) wr.heap.size x) := Lib.hid (heap_alloc_new wr _)
      have HS := Lib.hid CW.out.pu.m
      clear hst HR CW
      obtain ⟨m, hm⟩ : ∃ m, m = wr.heap.size := ⟨_, rfl⟩
      generalize wr.alloc _ = W2 at X2 C2 ⊢
      rw [← hm] at X2 HS ⊢
      clear hm
      have x11 := X2.out.ps
      have x12 := X2.out.mo
      have x13 := X2.out.da
      go_upto_region 27 with fail
      have c11 := C2.out.pu.p.ps
      have c12 := C2.out.pu.p.mo
      have c13 := C2.out.pu.p.da
      go_cut [127] from 109 to 127 (fun b wx => b = .bool (decide (pcOf f = pcOf x)) ∧ wx = W2)
      case first =>
        by_cases e1 : x.ps = f.ps
        · by_cases e2 : x.da = f.da
          · have e3 : (x.mo = f.mo) ∨ (x.mo ≠ f.mo) := by by_cases h : x.mo = f.mo <;> simp [h]
            rcases e3 with e3 | e3
            · have b1 : (x.ps == f.ps) = true := by simp [e1]
              have b2 : (x.da.toList == f.da.toList) = true := by rw [da_list]; exact decide_eq_true e2
              have b3 : (x.mo == f.mo) = true := by simp [e3]
              have hr : Hid (decide (pcOf f = pcOf x) = true) := Lib.hid (by simp [pcOf, e1, e2, e3])
              clear e1 e2 e3
              go_wp2_with fail
              go_meet
              case rel => exact ⟨by rw [hr.out], rfl⟩
            · have b1 : (x.ps == f.ps) = true := by simp [e1]
              have b2 : (x.da.toList == f.da.toList) = true := by rw [da_list]; exact decide_eq_true e2
              have b3 : (x.mo == f.mo) = false := by simp [e3]
              have hr : Hid (decide (pcOf f = pcOf x) = false) := Lib.hid (by simp [pcOf, e1, e2, Ne.symm e3])
              clear e1 e2 e3
              go_wp2_with fail
              go_meet
              case rel => exact ⟨by rw [hr.out], rfl⟩
          · have b1 : (x.ps == f.ps) = true := by simp [e1]
            have b2 : (x.da.toList == f.da.toList) = false := by rw [da_list]; exact decide_eq_false e2
            have hr : Hid (decide (pcOf f = pcOf x) = false) := Lib.hid (by simp [pcOf, Ne.symm e2])
            clear e1 e2
            go_wp2_with fail
            go_meet
            case rel => exact ⟨by rw [hr.out], rfl⟩
        · have b1 : (x.ps == f.ps) = false := by simp [e1]
          have hr : Hid (decide (pcOf f = pcOf x) = false) := Lib.hid (by simp [pcOf, Ne.symm e1])
          clear e1
          go_wp2_with fail
          go_meet
          case rel => exact ⟨by rw [hr.out], rfl⟩
      case rest =>
      obtain ⟨rfl, hW⟩ := hcut
      replace hW := hW.symm
      subst hW
      by_cases heq : pcOf f = pcOf x
      · rw [decide_eq_true heq]
        have P3 := Lib.hid C2.out.pu
        have HP : Hid (putD f (zs.map (·.2)) = (pdZ, false, zs.map (·.2))) := Lib.hid (by
          rw [HPUT.out]
          unfold putJ
          rw [if_pos (by rw [heq]; exact List.mem_map_of_mem HXM.out)])
        clear x11 x12 x13 c11 c12 c13 heq hnin
        go_upto_region 28 with fail
        refine wp_region_noPanic ?_
        refine region_heldE (S := RtS w W2 lim p n c (w.heap.size + 1 + 1 + 1 + 1) pdZ) (by kernel_rfl) (rts_new P3.out.j P3.out.rj P3.out.rp P3.out.no P3.out.bl (by constructor <;> omega) rfl) (fun V d hS => ?_)
        clear d
        refine wpAnyH_take (i := 0) (oi := ⟨some 128, Op.load 31 (Operand.tmp 2), _, _, _, none⟩) (v := (.agg #[.int .i64 lim, .slice p n c])) rfl (by kernel_rfl) (by kernel_rfl) (by kernel_rfl) (fun _ _ _ h => h) (yields_jn (by kernel_rfl) (Operand.tmp 2) (by kernel_rfl) w.heap.size (by kernel_rfl) lim (.slice p n c) (fun _ h => h.j)) hS ?_
        simp only [Act.put]
        refine wpAnyH_take (i := 1) (oi := ⟨some 129, Op.load 35 (Operand.tmp 7), _, _, _, none⟩) (v := (.agg (pdC pdZ))) rfl (by kernel_rfl) (by kernel_rfl) (by kernel_rfl) (fun _ _ _ h => h) (yields_pd (by kernel_rfl) (Operand.tmp 7) (by kernel_rfl) (w.heap.size + 1 + 1 + 1 + 1) (by kernel_rfl) pdZ (fun _ h => h.pk)) hS ?_
        simp only [Act.put]
        obtain ⟨st1, T1, k4⟩ := hS.s1
        refine wpAnyH_ready (rs := [2]) (by kernel_rfl) (by simp) ?_
        refine rdy_store9 (n := 2) rfl rfl 31 (Operand.tmp 4) (Operand.tmp 128) rfl rfl (.agg #[.int .i64 lim, .slice p n c]) (w.heap.size + 1 + 1) (by kernel_rfl) (by kernel_rfl) st1 T1 ?_
        obtain ⟨st2, T2, k5, k6⟩ := T1.s2 k4
        refine wpAnyH_ready (rs := [3]) (by kernel_rfl) (by simp) ?_
        refine rdy_store9 (n := 3) rfl rfl 35 (Operand.tmp 5) (Operand.tmp 129) rfl rfl (.agg (pdC pdZ)) (w.heap.size + 1 + 1 + 1) (by kernel_rfl) (by kernel_rfl) st2 T2 ?_
        refine wpAnyH_take (i := 4) (oi := ⟨some 6, Op.assign (Operand.const (Value.bool false)), _, _, _, none⟩) (v := (.bool false)) rfl (by kernel_rfl) (by kernel_rfl) (by kernel_rfl) (fun _ _ _ h => h) (Or.inl ⟨by rfl, fun w' h' => ?_⟩) T2 ?_
        · clear h'
          go_simp
        simp only [Act.put]
        refine wpAnyH_done (by kernel_rfl) (NoPanic.normal ?_) _
        simp only [List.setIfInBounds_toArray, List.set_cons_zero, List.set_cons_succ]
        go_wp2_with fail
        exact bodyPost_ret (v := .tuple #[.agg #[.int .i64 lim, .slice p n c], .agg (pdC pdZ), .bool false]) (results_two _ 4 5 6 31 35 (by kernel_rfl) _ (w.heap.size + 1 + 1) (w.heap.size + 1 + 1 + 1) #[.int .i64 lim, .slice p n c] (pdC pdZ) (.bool false) _ _ _ rfl rfl rfl k5 k6 Try.underlying31 rfl (by kernel_rfl) Try.underlying35 rfl (by kernel_rfl)) rfl ⟨_, by rw [HP.out], ⟨zs, HZ.out.grow T2.bl, by rw [HP.out], fun b e => .inr e, fun z hz b e => .inr hz⟩, T2.bl⟩
      · rw [decide_eq_false heq]
        have hnin2 : Hid (pcOf f ∉ (d.ps.map pcOf).take (k + 1)) := Lib.hid (by
          rw [HTK.out, List.mem_append, List.mem_singleton]
          rintro (h | h)
          · exact hnin.out h
          · exact heq h)
        clear x11 x12 x13 c11 c12 c13 heq hnin
        have hbf := of_decide_eq_true HM.out
        obtain ⟨F0, hF⟩ : ∃ b, b = (decide (E ≤ 1200) && !((d.ps.map pcOf).take k).any (clashP (pcOf f))) := ⟨_, rfl⟩
        rw [← hF]
        have HF := Lib.hid hF
        clear hF
        go_upto_block 0 with fail
        go_wp2
        go_loopw [13, 17] (fun fv iv wy => ∃ i : Nat, i ≤ f.da.size ∧ iv = .int .i64 (i : Int) ∧ fv = .bool (F0 && !decide (max f.ps x.ps < min (f.ps + (i : Int)) XE)) ∧ wy = W2) (fun _ iv _ => f.da.size - (intOf iv).toNat)
        case atStart => exact ⟨0, Nat.zero_le _, rfl, by rw [decide_eq_false (by omega)]; simp, rfl⟩
        case round =>
          obtain ⟨i, hi, rfl, rfl, hW⟩ := hrel
          replace hW := hW.symm
          subst hW
          have x11 := X2.out.ps
          have c11 := C2.out.pu.p.ps
          have c13 := C2.out.pu.p.da
          by_cases hil : i < f.da.size
          · have hj1 : decide ((i : Int) < (f.da.size : Int)) = true := by simp; omega
            have hw1 : IntKind.i64.wrap (f.ps + (i : Int)) = f.ps + (i : Int) := IntWalk.i64_in _ (by omega)
            have hwi : IntKind.i64.wrap ((i : Int) + 1) = (i : Int) + 1 := IntWalk.i64_in _ (by omega)
            have HOV := Lib.hid (ov_step f.ps x.ps XE i)
            by_cases h1 : x.ps ≤ f.ps + (i : Int)
            · have d1 : decide (x.ps ≤ f.ps + (i : Int)) = true := decide_eq_true h1
              by_cases h2 : f.ps + (i : Int) < XE
              · have d2 : decide (f.ps + (i : Int) < XE) = true := decide_eq_true h2
                have hN : Hid (decide (max f.ps x.ps < min (f.ps + ((i + 1 : Nat) : Int)) XE) = true) := Lib.hid (by rw [HOV.out, d1, d2]; simp)
                clear h1 h2 hbf
                go_wp2_with fail
                go_roundw
                case rel => exact ⟨i + 1, by omega, by go_num, by rw [hN.out]; simp, trivial⟩
                case measure => simp [intOf]; omega
              · have d2 : decide (f.ps + (i : Int) < XE) = false := decide_eq_false h2
                have hN : Hid (decide (max f.ps x.ps < min (f.ps + ((i + 1 : Nat) : Int)) XE) = decide (max f.ps x.ps < min (f.ps + (i : Int)) XE)) := Lib.hid (by rw [HOV.out, d1, d2]; simp)
                clear h1 h2 hbf
                go_wp2_with fail
                go_roundw
                case rel => exact ⟨i + 1, by omega, by go_num, by rw [hN.out], trivial⟩
                case measure => simp [intOf]; omega
            · have d1 : decide (x.ps ≤ f.ps + (i : Int)) = false := decide_eq_false h1
              have hN : Hid (decide (max f.ps x.ps < min (f.ps + ((i + 1 : Nat) : Int)) XE) = decide (max f.ps x.ps < min (f.ps + (i : Int)) XE)) := Lib.hid (by rw [HOV.out, d1]; simp)
              clear h1 hbf
              go_wp2_with fail
              go_roundw
              case rel => exact ⟨i + 1, by omega, by go_num, by rw [hN.out], trivial⟩
              case measure => simp [intOf]; omega
          · obtain rfl : i = f.da.size := by omega
            have hj1 : decide ((f.da.size : Int) < (f.da.size : Int)) = false := by simp
            have hEe : f.ps + (f.da.size : Int) = E := HE.out.symm
            rw [hEe]
            obtain ⟨G1, hG⟩ : ∃ b, b = (F0 && !decide (max f.ps x.ps < min E XE)) := ⟨_, rfl⟩
            rw [← hG]
            have HG := Lib.hid hG
            have x12 := X2.out.mo
            have c12 := C2.out.pu.p.mo
            obtain ⟨xm, hxm⟩ : ∃ b, b = x.mo := ⟨_, rfl⟩
            obtain ⟨fm, hfm⟩ : ∃ b, b = f.mo := ⟨_, rfl⟩
            rw [← hxm] at x12
            rw [← hfm] at c12
            have HXMO := Lib.hid hxm
            have HFMO := Lib.hid hfm
            clear hG hEe hxm hfm hbf
            go_upto_region 34 with fail
            go_cut [174] from 152 to 174 (fun b wx => b = .bool ((!xm && decide (XE < E)) || (!fm && (decide (E < XE) || !xm))) ∧ wx = W2)
            case first =>
              cases xm
              · by_cases h1 : XE < E
                · have d1 : decide (XE < E) = true := decide_eq_true h1
                  clear h1
                  have D1 := Lib.hid d1
                  go_wp2_with fail
                  go_meet
                  case rel => exact ⟨by simp [D1.out], rfl⟩
                · have d1 : decide (XE < E) = false := decide_eq_false h1
                  clear h1
                  cases fm
                  · by_cases h2 : E < XE
                    · have d2 : decide (E < XE) = true := decide_eq_true h2
                      clear h2
                      have D1 := Lib.hid d1
                      have D2 := Lib.hid d2
                      go_wp2_with fail
                      go_meet
                      case rel => exact ⟨by simp [D1.out, D2.out], rfl⟩
                    · have d2 : decide (E < XE) = false := decide_eq_false h2
                      clear h2
                      have D1 := Lib.hid d1
                      have D2 := Lib.hid d2
                      go_wp2_with fail
                      go_meet
                      case rel => exact ⟨by simp [D1.out, D2.out], rfl⟩
                  · have D1 := Lib.hid d1
                    go_wp2_with fail
                    go_meet
                    case rel => exact ⟨by simp [D1.out], rfl⟩
              · cases fm
                · by_cases h2 : E < XE
                  · have d2 : decide (E < XE) = true := decide_eq_true h2
                    clear h2
                    have D2 := Lib.hid d2
                    go_wp2_with fail
                    go_meet
                    case rel => exact ⟨by simp [D2.out], rfl⟩
                  · have d2 : decide (E < XE) = false := decide_eq_false h2
                    clear h2
                    have D2 := Lib.hid d2
                    go_wp2_with fail
                    go_meet
                    case rel => exact ⟨by simp [D2.out], rfl⟩
                · go_wp2_with fail
                  go_meet
                  case rel => exact ⟨by simp, rfl⟩
            case rest =>
            obtain ⟨rfl, hW⟩ := hcut
            replace hW := hW.symm
            subst hW
            have HST := Lib.hid (may_step HTK.out HE.out HXE.out HF.out HG.out HXMO.out HFMO.out)
            generalize ((!xm && decide (XE < E)) || (!fm && (decide (E < XE) || !xm))) = R at HST ⊢
            clear x11 x12 c11 c12 c13
            cases R
            · go_wp2_with fail
              go_roundw
              case rel => exact ⟨k + 1, by omega, by go_num, by rw [← HST.out]; rfl, hnin2, C2⟩
              case measure => simp [intOf]; omega
            · go_wp2_with fail
              go_roundw
              case rel => exact ⟨k + 1, by omega, by go_num, by rw [← HST.out]; rfl, hnin2, C2⟩
              case measure => simp [intOf]; omega
    · obtain rfl : k = d.ps.length := by omega
      have hj1 : decide ((d.ps.length : Int) < (d.ps.length : Int)) = false := by simp
      have hfull : (decide (E ≤ 1200) && !((d.ps.map pcOf).take d.ps.length).any (clashP (pcOf f))) = mayP (d.ps.map pcOf) (pcOf f) := by rw [← List.length_map (f := pcOf), List.take_length, HE.out]; rfl
      rw [hfull]
      have hni := hnin.out
      rw [← List.length_map (f := pcOf), List.take_length] at hni
      have HNI := Lib.hid hni
      clear hfull hni hnin
      obtain ⟨M, hM⟩ : ∃ b, b = mayP (d.ps.map pcOf) (pcOf f) := ⟨_, rfl⟩
      rw [← hM]
      have HMP := Lib.hid hM
      clear hM
      cases M
      · have HP : Hid (putD f (zs.map (·.2)) = (pdZ, false, (ys.map (·.2)).eraseIdx I)) := Lib.hid (by rw [HPUT.out]; unfold putJ; rw [if_neg HNI.out, if_pos HMP.out.symm])
        have kW := Lib.hid (rwithout_any wr bl capl I (ys.map (·.1)) CW.out.rowL (by rw [List.length_map]; exact HLT.out) (by rw [List.length_map]; have := HY5.out; omega))
        rw [List.length_map] at kW
        go_upto_region 38 with (go_at_call 34; refine kW.out.mono ?_; rintro e w11 ⟨v8, rfl, g1, g2, g3⟩; obtain ⟨q8, m8, k8, hv8⟩ := val_shape g1; subst hv8; have G1 := Lib.hid g1; have G3 := Lib.hid g3; have P8 := Lib.hid (CW.out.pu.grow g2); clear g1 g2 g3; obtain ⟨b0, b1, f0, f1⟩ := cells2j P8.out.j)
        have P9 := Lib.hid (P8.out.laid (.slice q8 m8 k8))
        have R9 : Hid (RowA 2 ddE 78 (w11.setCell ⟨w.heap.size, 1, none⟩ (.slice q8 m8 k8)) (.slice q8 m8 k8) ((ys.eraseIdx I).map (·.1)) ∧ ∀ b, (Value.slice q8 m8 k8).ownBlock = some b → w.heap.size + 4 < b) := Lib.hid (by
          rw [map_erase]
          have hm9 := CW.out.pu.m
          refine ⟨G1.out.kept (by simp [World.setCell]) (fun b e => Below.heap_setCell _ _ _ _ ?_), fun b e => ?_⟩ <;> have := G3.out b e <;> try dsimp only
          all_goals omega)
        clear b0 b1 f0 f1 P8 G1 G3 kW
        generalize w11.setCell _ _ = W9 at P9 R9 ⊢
        refine wp_region_noPanic ?_
        refine region_heldE (S := RtS w W9 lim q8 m8 k8 (w.heap.size + 1 + 1 + 1 + 1) pdZ) (by kernel_rfl) (rts_new P9.out.j P9.out.rj P9.out.rp P9.out.no P9.out.bl (by constructor <;> omega) rfl) (fun V d hS => ?_)
        clear d
        refine wpAnyH_take (i := 0) (oi := ⟨some 181, Op.load 31 (Operand.tmp 2), _, _, _, none⟩) (v := (.agg #[.int .i64 lim, .slice q8 m8 k8])) rfl (by kernel_rfl) (by kernel_rfl) (by kernel_rfl) (fun _ _ _ h => h) (yields_jn (by kernel_rfl) (Operand.tmp 2) (by kernel_rfl) w.heap.size (by kernel_rfl) lim (.slice q8 m8 k8) (fun _ h => h.j)) hS ?_
        simp only [Act.put]
        refine wpAnyH_take (i := 1) (oi := ⟨some 182, Op.load 35 (Operand.tmp 7), _, _, _, none⟩) (v := (.agg (pdC pdZ))) rfl (by kernel_rfl) (by kernel_rfl) (by kernel_rfl) (fun _ _ _ h => h) (yields_pd (by kernel_rfl) (Operand.tmp 7) (by kernel_rfl) (w.heap.size + 1 + 1 + 1 + 1) (by kernel_rfl) pdZ (fun _ h => h.pk)) hS ?_
        simp only [Act.put]
        obtain ⟨st1, T1, k4⟩ := hS.s1
        refine wpAnyH_ready (rs := [2]) (by kernel_rfl) (by simp) ?_
        refine rdy_store9 (n := 2) rfl rfl 31 (Operand.tmp 4) (Operand.tmp 181) rfl rfl (.agg #[.int .i64 lim, .slice q8 m8 k8]) (w.heap.size + 1 + 1) (by kernel_rfl) (by kernel_rfl) st1 T1 ?_
        obtain ⟨st2, T2, k5, k6⟩ := T1.s2 k4
        refine wpAnyH_ready (rs := [3]) (by kernel_rfl) (by simp) ?_
        refine rdy_store9 (n := 3) rfl rfl 35 (Operand.tmp 5) (Operand.tmp 182) rfl rfl (.agg (pdC pdZ)) (w.heap.size + 1 + 1 + 1) (by kernel_rfl) (by kernel_rfl) st2 T2 ?_
        refine wpAnyH_take (i := 4) (oi := ⟨some 6, Op.assign (Operand.const (Value.bool false)), _, _, _, none⟩) (v := (.bool false)) rfl (by kernel_rfl) (by kernel_rfl) (by kernel_rfl) (fun _ _ _ h => h) (Or.inl ⟨by rfl, fun w' h' => ?_⟩) T2 ?_
        · clear h'
          go_simp
        simp only [Act.put]
        refine wpAnyH_done (by kernel_rfl) (NoPanic.normal ?_) _
        simp only [List.setIfInBounds_toArray, List.set_cons_zero, List.set_cons_succ]
        go_wp2_with fail
        exact bodyPost_ret (v := .tuple #[.agg #[.int .i64 lim, .slice q8 m8 k8], .agg (pdC pdZ), .bool false]) (results_two _ 4 5 6 31 35 (by kernel_rfl) _ (w.heap.size + 1 + 1) (w.heap.size + 1 + 1 + 1) #[.int .i64 lim, .slice q8 m8 k8] (pdC pdZ) (.bool false) _ _ _ rfl rfl rfl k5 k6 Try.underlying31 rfl (by kernel_rfl) Try.underlying35 rfl (by kernel_rfl)) rfl ⟨_, by rw [HP.out], ⟨ys.eraseIdx I, T2.dj R9.out.1 R9.out.2 (fun z hz => .inl (CW.out.ok0 z (List.mem_of_mem_eraseIdx hz))), by rw [HP.out, map_erase], fun b e => .inl (Nat.le_trans (Nat.le_add_right _ 4) (Nat.le_of_lt (R9.out.2 b e))), fun z hz => sub_own (HSB.out z (List.mem_of_mem_eraseIdx hz))⟩, T2.bl⟩
      · have HPQ := Lib.hid (HQ.out.1.snoc HM.out HN.out HQ.out.2.2 HMP.out.symm)
        have A8 := Lib.hid (CW.out.ra.alloc (.cells (pdC f) 35))
        have HNW := Lib.hid (pd_newA wr f)
        have hl8 : d.ps.length + ([f] : List Pd).length ≤ 100000000 := by have := HQ.out.2.1; simp; omega
        have R7a : Hid (RowA 14 pdL 35 (wr.alloc (.cells (pdC f) 35)) (.slice pp d.ps.length pc) d.ps) := Lib.hid A8.out.acc
        have HPF := Lib.hid (pd_range CW.out.pu.p)
        go_upto_region 40 with (first | (refine wpList_load_mid rfl 35 (.tmp 3) rfl (w.heap.size + 1) 0 rfl [.int .i64 f.id, .int .u8 (f.sr.a.toNat : Int), .int .u8 (f.sr.b.toNat : Int), .int .u8 (f.sr.c.toNat : Int), .int .u8 (f.sr.d.toNat : Int), .int .u8 (f.ds.a.toNat : Int), .int .u8 (f.ds.b.toNat : Int), .int .u8 (f.ds.c.toNat : Int), .int .u8 (f.ds.d.toNat : Int), .int .i64 f.pr, .int .i64 f.tl, .int .i64 f.ps, .bool f.mo, .string f.da] _ HPF.out Try.underlying35 rfl (by kernel_rfl) ?_) | (refine wpList_append_many pdL_len pdL_one (by decide) rfl (.tmp 183) (.tmp 185) 76 rfl i2 z2 _ Try.underlying76 V1.out V2.out V3.out rfl V4.out V5.out (.slice pp d.ps.length pc) d.ps rfl R7a.out [f] hl8 ⟨wr.heap.size, 0, none⟩ 1 1 rfl rfl HNW.out ?_; intro v8 w8 g1 g2 g3; have R8 := Lib.hid (A8.out.app g2 g1 g3); have HSZ := Lib.hid g2.size; clear g1 g2 g3))
        obtain ⟨p8, c8, hv8⟩ := R8.out.acc.shape
        subst hv8
        have C8 := Lib.hid (CW.out.app R8.out (Nat.le_trans (by simp) HSZ.out))
        obtain ⟨⟨R, F⟩, hJ⟩ : ∃ x, joinedD (d.ps ++ [f]) = x := ⟨_, rfl⟩
        have kJ := Lib.hid (rjoined_any w8 p8 c8 (d.ps ++ [f]) C8.out.ra.acc (by have := HQ.out.2.1; simp; omega) HPQ.out R F hJ)
        have HJ := Lib.hid hJ
        clear hJ hl8 R7a HPF R8 HSZ A8 HNW
        generalize (d.ps ++ [f]).length = n8 at kJ C8 ⊢
        go_upto_region 41 with (first | (go_at_call 35; refine kJ.out.mono ?_; rintro e w9 ⟨rfl, g2⟩; have C9 := Lib.hid (C8.out.grow g2); have hst := pd_storeZ w9 R; clear g2) | (refine wpList_storeW 35 (.tmp 18) (.tmp 190) rfl rfl (.agg (pdC R)) w9.heap.size rfl rfl hst ?_))
        have C10 := Lib.hid (C9.out.grow ((Below.refl w9.heap.size w9).alloc (Nat.le_refl _) (.cells (pdC R) 35)))
        have X10 : Hid (PdAt (w9.alloc (.cells (pdC R) 35)) w9.heap.size R) := Lib.hid (heap_alloc_new w9 _)
        have HS10 := Lib.hid C9.out.pu.m
        clear hst C9 C8 kJ
        obtain ⟨m, hm⟩ : ∃ m, m = w9.heap.size := ⟨_, rfl⟩
        generalize w9.alloc _ = W10 at X10 C10 ⊢
        rw [← hm] at X10 HS10 ⊢
        clear hm
        have hm4 := HS10.out
        cases F
        · have HP : Hid (putD f (zs.map (·.2)) = (pdZ, false, (ys.map (·.2)).set I ⟨d.ps ++ [f], d.age⟩)) := Lib.hid (by rw [HPUT.out]; unfold putJ; rw [if_neg HNI.out, if_neg (by rw [← HMP.out]; decide), HJ.out, if_neg (by simp)])
          obtain ⟨W11, hst2, r11, k11, z11, l11⟩ := dd_put C10.out.rowL (j := I) (by rw [List.length_map]; exact HLT.out) ⟨p8, n8, c8, d.age⟩
          rw [List.length_map] at r11
          have hbl := C10.out.hb
          have P11 : Hid (PuS w W11 lim (.slice p n c) f) := Lib.hid ⟨fun q hq => (k11 q.1 (by have := f5_le hq; omega)).trans (C10.out.pu.fx q hq), l11 w (by omega) C10.out.pu.bl⟩
          have P12 := Lib.hid (P11.out.laid (.slice (some ⟨bl, 0, none⟩) ys.length capl))
          have R12 : Hid (RowA 2 ddE 78 (W11.setCell ⟨w.heap.size, 1, none⟩ (.slice (some ⟨bl, 0, none⟩) ys.length capl)) (.slice (some ⟨bl, 0, none⟩) ys.length capl) ((ys.set I ((⟨p8, n8, c8, d.age⟩ : Dd), (⟨d.ps ++ [f], d.age⟩ : Dq))).map (·.1)) ∧ ∀ b, (Value.slice (some ⟨bl, 0, none⟩) ys.length capl).ownBlock = some b → w.heap.size + 4 < b) := Lib.hid (by
            rw [List.map_set]
            refine ⟨r11.kept (by simp [World.setCell]) (fun b e => Below.heap_setCell _ _ _ _ ?_), fun b e => ?_⟩ <;> injection e with e <;> subst e <;> dsimp only <;> omega)
          have hown : ∀ b, (Value.slice p8 n8 c8).ownBlock = some b → w.heap.size + 4 < b ∧ b ≠ bl := fun b e => by
            have a1 := C10.out.ra.own b e
            have q0 := (C10.out.ra.fx _ (.head _)).2 b e
            have q1 := (C10.out.ra.fx _ (.tail _ (.head _))).2 b e
            have q2 := (C10.out.ra.fx _ (.tail _ (.tail _ (.head _)))).2 b e
            have q3 := (C10.out.ra.fx _ (.tail _ (.tail _ (.tail _ (.head _))))).2 b e
            have q4 := (C10.out.ra.fx _ (.tail _ (.tail _ (.tail _ (.tail _ (.head _)))))).2 b e
            have q5 := (C10.out.ra.fx _ (.tail _ (.tail _ (.tail _ (.tail _ (.tail _ (.head _))))))).2 b e
            dsimp only at q0 q1 q2 q3 q4 q5
            omega
          have E12 : Hid (DdOk (W11.setCell ⟨w.heap.size, 1, none⟩ (.slice (some ⟨bl, 0, none⟩) ys.length capl)) ⟨p8, n8, c8, d.age⟩ ⟨d.ps ++ [f], d.age⟩ ∧ ∀ b, (Value.slice p8 n8 c8).ownBlock = some b → w.heap.size + 4 < b) := Lib.hid ⟨⟨C10.out.ra.acc.kept (Nat.le_trans z11 (by simp [World.setCell])) (fun b e => (Below.heap_setCell _ _ _ _ (by have := hown b e; dsimp only; omega)).trans (k11 b (hown b e).2)), rfl⟩, fun b e => (hown b e).1⟩
          have q1 : (0 : Int) ≤ (I : Int) := by omega
          have q2 : (I : Int) < (ys.length : Int) := by have := HLT.out; omega
          clear hown r11 k11 z11 l11
          go_upto_region 45 with (refine wpList_storeAt 78 (.tmp 204) (.tmp 203) rfl rfl rfl (.agg #[.slice p8 n8 c8, .int .i64 d.age]) bl (I * 2) rfl rfl hst2 ?_)
          obtain ⟨b0, b1, f0, f1⟩ := cells2j P11.out.j
          go_upto_region 46 with fail
          clear b0 b1 f0 f1 P11 hst2 q1 q2
          generalize W11.setCell _ _ = W12 at P12 R12 E12 ⊢
          refine wp_region_noPanic ?_
          refine region_heldE (S := RtS w W12 lim (some ⟨bl, 0, none⟩) ys.length capl (w.heap.size + 1 + 1 + 1 + 1) pdZ) (by kernel_rfl) (rts_new P12.out.j P12.out.rj P12.out.rp P12.out.no P12.out.bl (by constructor <;> omega) rfl) (fun V d hS => ?_)
          clear d
          refine wpAnyH_take (i := 0) (oi := ⟨some 207, Op.load 31 (Operand.tmp 2), _, _, _, none⟩) (v := (.agg #[.int .i64 lim, .slice (some ⟨bl, 0, none⟩) ys.length capl])) rfl (by kernel_rfl) (by kernel_rfl) (by kernel_rfl) (fun _ _ _ h => h) (yields_jn (by kernel_rfl) (Operand.tmp 2) (by kernel_rfl) w.heap.size (by kernel_rfl) lim (.slice (some ⟨bl, 0, none⟩) ys.length capl) (fun _ h => h.j)) hS ?_
          simp only [Act.put]
          refine wpAnyH_take (i := 1) (oi := ⟨some 208, Op.load 35 (Operand.tmp 7), _, _, _, none⟩) (v := (.agg (pdC pdZ))) rfl (by kernel_rfl) (by kernel_rfl) (by kernel_rfl) (fun _ _ _ h => h) (yields_pd (by kernel_rfl) (Operand.tmp 7) (by kernel_rfl) (w.heap.size + 1 + 1 + 1 + 1) (by kernel_rfl) pdZ (fun _ h => h.pk)) hS ?_
          simp only [Act.put]
          obtain ⟨st1, T1, k4⟩ := hS.s1
          refine wpAnyH_ready (rs := [2]) (by kernel_rfl) (by simp) ?_
          refine rdy_store9 (n := 2) rfl rfl 31 (Operand.tmp 4) (Operand.tmp 207) rfl rfl (.agg #[.int .i64 lim, .slice (some ⟨bl, 0, none⟩) ys.length capl]) (w.heap.size + 1 + 1) (by kernel_rfl) (by kernel_rfl) st1 T1 ?_
          obtain ⟨st2, T2, k5, k6⟩ := T1.s2 k4
          refine wpAnyH_ready (rs := [3]) (by kernel_rfl) (by simp) ?_
          refine rdy_store9 (n := 3) rfl rfl 35 (Operand.tmp 5) (Operand.tmp 208) rfl rfl (.agg (pdC pdZ)) (w.heap.size + 1 + 1 + 1) (by kernel_rfl) (by kernel_rfl) st2 T2 ?_
          refine wpAnyH_take (i := 4) (oi := ⟨some 6, Op.assign (Operand.const (Value.bool false)), _, _, _, none⟩) (v := (.bool false)) rfl (by kernel_rfl) (by kernel_rfl) (by kernel_rfl) (fun _ _ _ h => h) (Or.inl ⟨by rfl, fun w' h' => ?_⟩) T2 ?_
          · clear h'
            go_simp
          simp only [Act.put]
          refine wpAnyH_done (by kernel_rfl) (NoPanic.normal ?_) _
          simp only [List.setIfInBounds_toArray, List.set_cons_zero, List.set_cons_succ]
          go_wp2_with fail
          exact bodyPost_ret (v := .tuple #[.agg #[.int .i64 lim, .slice (some ⟨bl, 0, none⟩) ys.length capl], .agg (pdC pdZ), .bool false]) (results_two _ 4 5 6 31 35 (by kernel_rfl) _ (w.heap.size + 1 + 1) (w.heap.size + 1 + 1 + 1) #[.int .i64 lim, .slice (some ⟨bl, 0, none⟩) ys.length capl] (pdC pdZ) (.bool false) _ _ _ rfl rfl rfl k5 k6 Try.underlying31 rfl (by kernel_rfl) Try.underlying35 rfl (by kernel_rfl)) rfl ⟨_, by rw [HP.out], ⟨ys.set I ((⟨p8, n8, c8, d.age⟩ : Dd), (⟨d.ps ++ [f], d.age⟩ : Dq)), T2.dj R12.out.1 R12.out.2 (fun z hz => (List.mem_or_eq_of_mem_set hz).elim (fun h => .inl (C10.out.ok0 z h)) (fun h => by subst h; exact .inr E12.out)), by rw [HP.out, List.map_set], fun b e => .inl (Nat.le_trans (Nat.le_add_right _ 4) (Nat.le_of_lt (R12.out.2 b e))), fun z hz => (List.mem_or_eq_of_mem_set hz).elim (fun h => sub_own (HSB.out z h)) (fun h => by subst h; exact fun b e => .inl (Nat.le_trans (Nat.le_add_right _ 4) (Nat.le_of_lt (E12.out.2 b e))))⟩, T2.bl⟩
        · have HP : Hid (putD f (zs.map (·.2)) = (R, true, (ys.map (·.2)).eraseIdx I)) := Lib.hid (by rw [HPUT.out]; unfold putJ; rw [if_neg HNI.out, if_neg (by rw [← HMP.out]; decide), HJ.out, if_pos rfl])
          have kW := Lib.hid (rwithout_any W10 bl capl I (ys.map (·.1)) C10.out.rowL (by rw [List.length_map]; exact HLT.out) (by rw [List.length_map]; have := HY5.out; omega))
          rw [List.length_map] at kW
          go_upto_region 43 with (go_at_call 34; refine kW.out.mono ?_; rintro e w11 ⟨v8, rfl, g1, g2, g3⟩; obtain ⟨q8, m8, k8, hv8⟩ := val_shape g1; subst hv8; have G1 := Lib.hid g1; have G3 := Lib.hid g3; have P8 := Lib.hid (C10.out.pu.grow g2); have X11 := Lib.hid (X10.out.grow g2); clear g1 g2 g3; obtain ⟨b0, b1, f0, f1⟩ := cells2j P8.out.j)
          have P9 := Lib.hid (P8.out.laid (.slice q8 m8 k8))
          have R9 : Hid (RowA 2 ddE 78 (w11.setCell ⟨w.heap.size, 1, none⟩ (.slice q8 m8 k8)) (.slice q8 m8 k8) ((ys.eraseIdx I).map (·.1)) ∧ ∀ b, (Value.slice q8 m8 k8).ownBlock = some b → w.heap.size + 4 < b) := Lib.hid (by
            rw [map_erase]
            have hm9 := C10.out.pu.m
            refine ⟨G1.out.kept (by simp [World.setCell]) (fun b e => Below.heap_setCell _ _ _ _ ?_), fun b e => ?_⟩ <;> have := G3.out b e <;> try dsimp only
            all_goals omega)
          have X12 : Hid (PdAt (w11.setCell ⟨w.heap.size, 1, none⟩ (.slice q8 m8 k8)) m R) := Lib.hid (X11.out.kept (Below.heap_setCell _ _ _ _ (by dsimp only; omega)))
          clear b0 b1 f0 f1 P8 G1 G3 kW
          generalize w11.setCell _ _ = W9 at P9 R9 X12 ⊢
          refine wp_region_noPanic ?_
          refine region_heldE (S := RtS w W9 lim q8 m8 k8 (m) R) (by kernel_rfl) (rts_new P9.out.j P9.out.rj P9.out.rp X12.out P9.out.bl (by constructor <;> omega) rfl) (fun V d hS => ?_)
          clear d
          refine wpAnyH_take (i := 0) (oi := ⟨some 197, Op.load 31 (Operand.tmp 2), _, _, _, none⟩) (v := (.agg #[.int .i64 lim, .slice q8 m8 k8])) rfl (by kernel_rfl) (by kernel_rfl) (by kernel_rfl) (fun _ _ _ h => h) (yields_jn (by kernel_rfl) (Operand.tmp 2) (by kernel_rfl) w.heap.size (by kernel_rfl) lim (.slice q8 m8 k8) (fun _ h => h.j)) hS ?_
          simp only [Act.put]
          refine wpAnyH_take (i := 1) (oi := ⟨some 198, Op.load 35 (Operand.tmp 18), _, _, _, none⟩) (v := (.agg (pdC R))) rfl (by kernel_rfl) (by kernel_rfl) (by kernel_rfl) (fun _ _ _ h => h) (yields_pd (by kernel_rfl) (Operand.tmp 18) (by kernel_rfl) (m) (by kernel_rfl) R (fun _ h => h.pk)) hS ?_
          simp only [Act.put]
          obtain ⟨st1, T1, k4⟩ := hS.s1
          refine wpAnyH_ready (rs := [2]) (by kernel_rfl) (by simp) ?_
          refine rdy_store9 (n := 2) rfl rfl 31 (Operand.tmp 4) (Operand.tmp 197) rfl rfl (.agg #[.int .i64 lim, .slice q8 m8 k8]) (w.heap.size + 1 + 1) (by kernel_rfl) (by kernel_rfl) st1 T1 ?_
          obtain ⟨st2, T2, k5, k6⟩ := T1.s2 k4
          refine wpAnyH_ready (rs := [3]) (by kernel_rfl) (by simp) ?_
          refine rdy_store9 (n := 3) rfl rfl 35 (Operand.tmp 5) (Operand.tmp 198) rfl rfl (.agg (pdC R)) (w.heap.size + 1 + 1 + 1) (by kernel_rfl) (by kernel_rfl) st2 T2 ?_
          refine wpAnyH_take (i := 4) (oi := ⟨some 6, Op.assign (Operand.const (Value.bool true)), _, _, _, none⟩) (v := (.bool true)) rfl (by kernel_rfl) (by kernel_rfl) (by kernel_rfl) (fun _ _ _ h => h) (Or.inl ⟨by rfl, fun w' h' => ?_⟩) T2 ?_
          · clear h'
            go_simp
          simp only [Act.put]
          refine wpAnyH_done (by kernel_rfl) (NoPanic.normal ?_) _
          simp only [List.setIfInBounds_toArray, List.set_cons_zero, List.set_cons_succ]
          go_wp2_with fail
          exact bodyPost_ret (v := .tuple #[.agg #[.int .i64 lim, .slice q8 m8 k8], .agg (pdC R), .bool true]) (results_two _ 4 5 6 31 35 (by kernel_rfl) _ (w.heap.size + 1 + 1) (w.heap.size + 1 + 1 + 1) #[.int .i64 lim, .slice q8 m8 k8] (pdC R) (.bool true) _ _ _ rfl rfl rfl k5 k6 Try.underlying31 rfl (by kernel_rfl) Try.underlying35 rfl (by kernel_rfl)) rfl ⟨_, by rw [HP.out], ⟨ys.eraseIdx I, T2.dj R9.out.1 R9.out.2 (fun z hz => .inl (C10.out.ok0 z (List.mem_of_mem_eraseIdx hz))), by rw [HP.out, map_erase], fun b e => .inl (Nat.le_trans (Nat.le_add_right _ 4) (Nat.le_of_lt (R9.out.2 b e))), fun z hz => sub_own (HSB.out z (List.mem_of_mem_eraseIdx hz))⟩, T2.bl⟩

end Go.Proofs.Ytbjoibgkhooljaa
