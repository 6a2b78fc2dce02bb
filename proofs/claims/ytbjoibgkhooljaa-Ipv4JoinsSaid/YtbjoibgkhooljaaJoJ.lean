/-
  Layer 8: Put of a piece that has no bytes ahead of it. Conditions: as said.
-/
import Derived.Test.YtbjoibgkhooljaaJoI
namespace Go.Proofs.Ytbjoibgkhooljaa
open Go.RowKit Go.Sort Go.Shelf
set_option linter.unusedVariables false

set_option maxRecDepth 100000 in
set_option maxHeartbeats 4000000 in
theorem jput_at0 {w : World} {g : Nat} {lim : Int} {v : Value} {l : List Dg} (h : Jo w g lim v l) (hl : l.length ≤ 4) (hf : ∀ x ∈ l, x.ps.length ≤ 100000 ∧ ∀ y ∈ x.ps, y.fine ∧ pEnd y ≤ 1200) (f : Pd) (hz : f.da.size ≤ 140737488355328) (hm : mayB f = true) (h0 : f.ps = 0) (h1 : f.mo = true) :
    Calls Try.prog 14 #[.pointer (some ⟨g, 0, none⟩), .agg (pdC f)] w fun e w' => ∃ v' l', e = .returned (.tuple #[.agg (pdC (putA f (l.map Dg.da)).1), .bool (putA f (l.map Dg.da)).2.1]) ∧ JoT w w' g lim v l v' l' ∧ l'.map Dg.da = (putA f (l.map Dg.da)).2.2 := by
  have HX := Lib.hid (pcOf_fine hm)
  have HF := Lib.hid hf
  have HM := Lib.hid hm
  have H0 := Lib.hid h0
  have H1 := Lib.hid h1
  clear hf
  have hk := Lib.hid (fun w => pMay_any w f hz)
  rw [hm] at hk
  have F1 := Lib.hid (PF.start h f)
  clear h
  go_enter Try.func14, Try.ntmps14
  go_upto_region 1 with fail
  obtain ⟨n4, hn4⟩ : ∃ n, n = w.heap.size + 1 := ⟨_, rfl⟩
  generalize (w.alloc _).alloc _ = W1 at F1 ⊢
  rw [← hn4] at F1 ⊢
  clear hn4
  obtain ⟨n3, hn3⟩ : ∃ n, n = w.heap.size := ⟨_, rfl⟩
  rw [← hn3] at F1 ⊢
  clear hn3
  have hp := F1.out.fa
  go_wp2_with fail
  refine (jnone_no F1.out.jt.jo).mono ?_
  rintro e w' ⟨rfl, rfl⟩
  go_wp2_with (refine pd_ld (by rfl) _ rfl n3 rfl _ hp ?_)
  refine (hk.out _).mono ?_
  rintro e w2 ⟨rfl, b2⟩
  have F2 := Lib.hid (F1.out.grow b2)
  clear b2 hp F1 hk
  have c11 := F2.out.fa.ps
  have c12 := F2.out.fa.mo
  rw [h0] at c11
  rw [h1] at c12
  obtain ⟨s, hs⟩ : ∃ s, s = nmOf f := ⟨_, rfl⟩
  obtain ⟨c0, ⟨c1, c2, c3, c4⟩, ⟨c5, c6, c7, c8⟩, c9⟩ := F2.out.fa.nmc hm s hs
  have HS := Lib.hid hs
  clear hm hs
  clear h0 h1
  go_upto_region 5 with fail
  clear c11 c12
  go_wp2_with fail
  refine (begun_any F2.out.jt.jo hl s).mono ?_
  rintro e w3 ⟨i, v1, l1, rfl, hbg, hT⟩
  have F3 := Lib.hid (F2.out.step hT)
  have hbA := begA_of hbg
  have hi := hbA.2
  have hl1 := hbg.len hl
  have HF1 : Hid (∀ x ∈ l1, x.ps.length ≤ 100000 ∧ ∀ y ∈ x.ps, y.fine ∧ pEnd y ≤ 1200) := Lib.hid (hbg.all _ HF.out ⟨Nat.zero_le _, fun y hy => (by cases hy)⟩)
  have HPA : Hid (putA f (l.map Dg.da) = putI f (l1.map Dg.da) i l1[i].da) := Lib.hid (by
    unfold putA
    rw [if_neg (by rw [HM.out]; decide), if_neg (fun h => by rw [H1.out] at h; exact absurd h.2 (by decide)), ← HS.out, hbA.1]
    simp [hi])
  clear hT hbg hbA c0 c1 c2 c3 c4 c5 c6 c7 c8 c9 F2 HF hl
  obtain ⟨b, cap, cur, hv1, hvx⟩ := F3.out.jt.jo.row.block (by omega)
  have HV := Lib.hid hv1
  clear hv1 hvx cur
  have d1 : w3.cell? ⟨g, 1, none⟩ = some (.slice (some ⟨b, 0, none⟩) l1.length cap) := by rw [← HV.out]; exact F3.out.jt.jo.c1
  have q0 : (0 : Int) ≤ (i : Int) := by omega
  have q1 : (i : Int) < (l1.length : Int) := by omega
  have c11 := F3.out.fa.ps
  have c12 := F3.out.fa.mo
  have c13 := F3.out.fa.da
  have hst := pc_storeZ w3 (pcOf f)
  dsimp only [pcOf] at hst
  have bal := (Below.refl w3.heap.size w3).alloc (Nat.le_refl _) (.cells #[.int .i64 f.ps, .string f.da, .bool f.mo] 89)
  have F4 := Lib.hid (F3.out.grow bal)
  have P4 : Hid (PcAt (w3.alloc (.cells #[.int .i64 f.ps, .string f.da, .bool f.mo] 89)) w3.heap.size (pcOf f)) := Lib.hid (heap_alloc_new w3 _)
  have X8 : Hid (¬ JoO g v1 l1 w3.heap.size) := Lib.hid (fun ho => by have := F3.out.jt.jo.inn ho; omega)
  clear bal
  go_upto_region 8 with (refine wpList_storeW 89 (.tmp 8) (.tmp 50) rfl rfl (.agg #[.int .i64 f.ps, .string f.da, .bool f.mo]) w3.heap.size rfl rfl hst ?_)
  clear hst c11 c12 c13 d1
  simp only [Act.put]
  obtain ⟨n8, hn8⟩ : ∃ n, n = w3.heap.size := ⟨_, rfl⟩
  generalize w3.alloc _ = W4 at F4 P4 ⊢
  rw [← hn8] at P4 X8 ⊢
  clear hn8 F3
  obtain ⟨B, hB⟩ : ∃ B, B = decide (pcOf f ∈ l1[i].ps) := ⟨_, rfl⟩
  have HB := Lib.hid hB
  clear hB
  go_cut [56] from 51 to 56 (fun v56 wx => v56 = .bool B ∧ Hid (PF w wx g lim v l n3 n4 f v1 l1) ∧ Hid (PcAt wx n8 (pcOf f)))
  case first =>
    obtain ⟨r1, r2, r3⟩ := F4.out.jt.jo.at (i := i) hi HV.out
    obtain ⟨x0, x1, x2⟩ := P4.out.cells
    dsimp only [pcOf] at x0 x1 x2
    have HRW := Lib.hid r2
    clear r2 r3
    go_region_with ((go_at_call 39; refine (pcontains_any W4.drew (.slice l1[i].pp l1[i].ps.length l1[i].pc) l1[i].ps (pcOf f) (row_grow HRW.out (Below.refl _ _).drew) (by have := (HF1.out _ (List.getElem_mem hi)).1; omega) HX.out.ok (fun y hy => ((HF1.out _ (List.getElem_mem hi)).2 y hy).1.ok)).mono ?_; rintro e w5 ⟨rfl, b5⟩; have b5 : Below W4.heap.size W4 w5 := (Below.refl _ _).drew.trans b5; have F5 := Lib.hid (F4.out.grow b5); have P5 := Lib.hid (P4.out.grow b5); clear b5))
    all_goals
      go_wp2_with fail
      go_meet
      case rel => exact ⟨by rw [HB.out], F5, P5⟩
  case rest =>
    obtain ⟨rfl, F5, P5⟩ := hcut
    rename World => wx
    clear F4 P4
    cases B
    case true =>
      have HR0 : Hid (putA f (l.map Dg.da) = (pdZ, false, l1.map Dg.da)) := Lib.hid (by
        rw [HPA.out, putI, if_pos (show pcOf f ∈ l1[i].da.ps from of_decide_eq_true HB.out.symm)])
      obtain ⟨hst, S6, TJ⟩ := F5.out.put pdZ
      have S6 := Lib.hid S6
      have TJ := Lib.hid TJ
      go_wp2_with (refine wpList_storeW 35 _ _ rfl rfl _ n4 rfl rfl hst ?_)
      exact bodyPost_ret (v := .tuple #[.agg (pdC pdZ), .bool false]) (results_row _ 4 5 35 (by kernel_rfl) _ n4 _ _ _ _ rfl rfl S6.out Try.underlying35 rfl (by kernel_rfl)) rfl ⟨v1, l1, by rw [HR0.out], TJ.out, by rw [HR0.out]⟩
    case false =>
      have HNC : Hid (¬ pcOf f ∈ l1[i].da.ps) := Lib.hid (show ¬ pcOf f ∈ l1[i].da.ps from of_decide_eq_false HB.out.symm)
      obtain ⟨r1, r2, r3⟩ := F5.out.jt.jo.at (i := i) hi HV.out
      obtain ⟨x0, x1, x2⟩ := P5.out.cells
      dsimp only [pcOf] at x0 x1 x2
      have HK := Lib.hid (pmay_any wx b (i * 13) l1[i].pp l1[i].pc l1[i].ps (pcOf f) r1 r2 (by have := (HF1.out _ (List.getElem_mem hi)).1; omega) HX.out (fun y hy => ((HF1.out _ (List.getElem_mem hi)).2 y hy).1))
      clear r1 r2 r3 HB
      obtain ⟨M, hM⟩ : ∃ M, M = mayP l1[i].ps (pcOf f) := ⟨_, rfl⟩
      rw [← hM] at HK
      have HMM := Lib.hid hM
      clear hM
      go_wp2_with fail
      refine HK.out.mono ?_
      rintro e w6 ⟨rfl, b6⟩
      have F6 := Lib.hid (F5.out.grow b6)
      have P6 := Lib.hid (P5.out.grow b6)
      clear b6 F5 P5 x0 x1 x2 HK
      cases M
      case false =>
        have HR0 : Hid (putA f (l.map Dg.da) = (pdZ, false, (l1.map Dg.da).eraseIdx i)) := Lib.hid (by
          rw [HPA.out, putI, if_neg HNC.out, if_pos (show mayP l1[i].da.ps (pcOf f) = false from HMM.out.symm)])
        go_wp2_with fail
        refine (drop_ok F6.out.jt.jo (by omega) i hi).mono ?_
        rintro e w7 ⟨rfl, v7, hT7⟩
        have F7 := Lib.hid (F6.out.step hT7)
        clear hT7 F6 P6
        obtain ⟨hst, S6, TJ⟩ := F7.out.put pdZ
        have S6 := Lib.hid S6
        have TJ := Lib.hid TJ
        go_wp2_with (refine wpList_storeW 35 _ _ rfl rfl _ n4 rfl rfl hst ?_)
        exact bodyPost_ret (v := .tuple #[.agg (pdC pdZ), .bool false]) (results_row _ 4 5 35 (by kernel_rfl) _ n4 _ _ _ _ rfl rfl S6.out Try.underlying35 rfl (by kernel_rfl)) rfl ⟨v7, l1.eraseIdx i, by rw [HR0.out], TJ.out, by rw [HR0.out, map_erase]⟩
      case true =>
        have hml : pEnd (pcOf f) ≤ 1200 := by
          have h1 : mayP l1[i].ps (pcOf f) = true := HMM.out.symm
          unfold mayP at h1
          rw [Bool.and_eq_true] at h1
          simpa using h1.1
        have HML := Lib.hid hml
        clear hml
        obtain ⟨y0, y1, y2⟩ := P6.out.cells
        dsimp only [pcOf] at y0 y1 y2
        go_upto_region 13 with fail
        go_cut [] from 66 to 76 (fun wx => ∃ p' c', Hid (PF w wx g lim v l n3 n4 f v1 (l1.set i ⟨l1[i].nm, l1[i].age, l1[i].ttl, p', c', l1[i].ps ++ [pcOf f]⟩)) ∧ Hid (PcAt wx n8 (pcOf f)))
        case first =>
          obtain ⟨r1, r2, r3⟩ := F6.out.jt.jo.at (i := i) hi HV.out
          have HR2 := Lib.hid r2
          have f1 := r3
          have HRW : Hid (PcRow ((w6.alloc (.cells #[.int .i64 f.ps, .string f.da, .bool f.mo] 89)).drew) (.slice l1[i].pp l1[i].ps.length l1[i].pc) l1[i].ps) := Lib.hid (row_grow HR2.out (((Below.refl _ _).drew).alloc (Nat.le_refl _) _))
          have hl3 : l1[i].ps.length ≤ 1000000 := by have := (HF1.out _ (List.getElem_mem hi)).1; omega
          have HNW : Hid (∀ (j : Nat) (u : Value), (pcE (pcOf f))[j]? = some u → ((w6.alloc (.cells #[.int .i64 f.ps, .string f.da, .bool f.mo] 89)).drew).cell? ((⟨w6.heap.size, 0, none⟩ : Addr).add j) = some u) := Lib.hid (pc_new2 w6.drew (pcOf f))
          have s0 : (w6.alloc (.cells #[.int .i64 f.ps, .string f.da, .bool f.mo] 89)).cell? ⟨b, i * 13 + 12, none⟩ = some (.slice l1[i].pp l1[i].ps.length l1[i].pc) := cell_grow r1 ((Below.refl w6.heap.size w6).alloc (Nat.le_refl _) _)
          have HJ6 := Lib.hid F6.out.jt.jo
          clear r2 r3
          go_region_law (refine step_append_pc rfl (.tmp 70) (.tmp 72) rfl (.slice l1[i].pp l1[i].ps.length l1[i].pc) l1[i].ps rfl HRW.out hl3 ⟨w6.heap.size, 0, none⟩ 1 (pcOf f) rfl HNW.out ?_; intro v' w7 hrow hgr hbl; obtain ⟨p', c', hv'⟩ := RowA.shape hrow; subst hv'; have A1 := Jo.pieced HJ6.out hi HV.out hgr hrow rfl hbl; have k1 := A1.1; have k2 := A1.2.1; have A2 := Lib.hid A1.2.2; clear A1 hrow hgr hbl)
          all_goals
            go_wp2_with fail
            go_meet
            case rel =>
              have A3 := A2.out
              try simp only [List.length_append, List.length_cons, List.length_nil, Nat.zero_add] at A3
              exact ⟨p', c', Lib.hid (F6.out.step A3), Lib.hid (P6.out.kept8 (A3.tn.block n8 (Array.getElem?_eq_some_iff.1 P6.out).1 X8.out))⟩
        case rest =>
          obtain ⟨p', c', F7, P7⟩ := hcut
          rename World => wy
          clear F6 P6 y0 y1 y2
          obtain ⟨z0, z1, z2⟩ := P7.out.cells
          dsimp only [pcOf] at z0 z1 z2
          generalize hd1 : (⟨l1[i].nm, l1[i].age, l1[i].ttl, p', c', l1[i].ps ++ [pcOf f]⟩ : Dg) = d1 at F7
          have HL1 : Hid (i < (l1.set i d1).length) := Lib.hid (by rw [List.length_set]; exact hi)
          have hdd : (l1.set i d1)[i]'(HL1.out) = d1 := by simp
          have hvv : v1 = .slice (some ⟨b, 0, none⟩) (l1.set i d1).length cap := by rw [List.length_set]; exact HV.out
          obtain ⟨u1, u2, u3⟩ := F7.out.jt.jo.ttled HL1.out hvv f.tl
          have c10 := F7.out.fa.tl
          have F8 := Lib.hid (F7.out.step u3)
          obtain ⟨d2, hd2⟩ : ∃ d2 : Dg, d2 = ⟨l1[i].nm, l1[i].age, f.tl, p', c', l1[i].ps ++ [pcOf f]⟩ := ⟨_, rfl⟩
          obtain ⟨l2, hl2⟩ : ∃ l2, l2 = l1.set i d2 := ⟨_, rfl⟩
          have e2 : (l1.set i d1).set i ⟨((l1.set i d1)[i]'(HL1.out)).nm, ((l1.set i d1)[i]'(HL1.out)).age, f.tl, ((l1.set i d1)[i]'(HL1.out)).pp, ((l1.set i d1)[i]'(HL1.out)).pc, ((l1.set i d1)[i]'(HL1.out)).ps⟩ = l2 := by
            rw [List.set_set, hl2, hd2, hdd, ← hd1]
          rw [e2] at F8
          have HL2 := Lib.hid hl2
          have HDP : Hid (d2.ps = l1[i].ps ++ [pcOf f]) := Lib.hid (by rw [hd2])
          have HDA : Hid (d2.da = ⟨l1[i].da.nm, l1[i].da.age, if f.ps = 0 then f.tl else l1[i].da.ttl, l1[i].da.ps ++ [pcOf f]⟩) := Lib.hid (by rw [hd2, if_pos H0.out]; rfl)
          have HV2 : Hid (v1 = .slice (some ⟨b, 0, none⟩) l2.length cap) := Lib.hid (by rw [hl2, List.length_set]; exact HV.out)
          rw [H0.out] at z0
          clear u3 e2 hdd hvv hd2 hl2 hd1 F7
          go_upto_region 16 with fail
          clear u1 u2 z0 z1 z2 c10
          generalize wy.setCell _ _ = w8 at F8 ⊢
          have hid2 : i < l2.length := by rw [HL2.out, List.length_set]; exact hi
          have hd2i : l2[i] = d2 := by simp [HL2.out]
          have HD2 := Lib.hid hd2i
          obtain ⟨t1, t2, t3⟩ := F8.out.jt.jo.at2 (i := i) hid2 HV2.out
          rw [hd2i] at t1 t2
          have hfy : ∀ y ∈ d2.ps, y.fine ∧ pEnd y ≤ 1200 := fun y hy => by
            rw [HDP.out] at hy
            rcases List.mem_append.1 hy with hy | hy
            · exact (HF1.out _ (List.getElem_mem hi)).2 y hy
            · rw [List.mem_singleton] at hy; subst hy; exact ⟨HX.out, HML.out⟩
          have hpl : d2.ps.length ≤ 1000000 := by rw [HDP.out, List.length_append]; have := (HF1.out _ (List.getElem_mem hi)).1; simp; omega
          have HW := Lib.hid (whole_any w8 b (i * 13) d2 t1 t2 hpl (fun y hy => (hfy y hy).1))
          have HFY := Lib.hid hfy
          clear t1 t2 t3 hfy hd2i
          obtain ⟨C, hC⟩ : ∃ C, C = wholeP d2.ps := ⟨_, rfl⟩
          rw [← hC] at HW
          have HC := Lib.hid hC
          clear hC
          go_wp2_with fail
          refine HW.out.mono ?_
          rintro e w9 ⟨rfl, b9⟩
          have F9 := Lib.hid (F8.out.grow b9)
          clear b9 F8 HW
          cases C
          case false =>
            have HR0 : Hid (putA f (l.map Dg.da) = (pdZ, false, l2.map Dg.da)) := Lib.hid (by
              rw [HPA.out, putI, if_neg HNC.out, if_neg (by rw [← show true = mayP l1[i].da.ps (pcOf f) from HMM.out]; decide), if_neg (by rw [show l1[i].da.ps ++ [pcOf f] = d2.ps from HDP.out.symm, ← HC.out]; decide), HL2.out, List.map_set]
              rw [← HDA.out])
            obtain ⟨hst, S6, TJ⟩ := F9.out.put pdZ
            have S6 := Lib.hid S6
            have TJ := Lib.hid TJ
            go_wp2_with (refine wpList_storeW 35 _ _ rfl rfl _ n4 rfl rfl hst ?_)
            exact bodyPost_ret (v := .tuple #[.agg (pdC pdZ), .bool false]) (results_row _ 4 5 35 (by kernel_rfl) _ n4 _ _ _ _ rfl rfl S6.out Try.underlying35 rfl (by kernel_rfl)) rfl ⟨v1, l2, by rw [HR0.out], TJ.out, by rw [HR0.out]⟩
          case true =>
            obtain ⟨PK, hPK⟩ : ∃ PK, PK = wholeD d2.da := ⟨_, rfl⟩
            have HR0 : Hid (putA f (l.map Dg.da) = (PK, true, (l2.eraseIdx i).map Dg.da)) := Lib.hid (by
              rw [HPA.out, putI, if_neg HNC.out, if_neg (by rw [← show true = mayP l1[i].da.ps (pcOf f) from HMM.out]; decide), if_pos (by rw [show l1[i].da.ps ++ [pcOf f] = d2.ps from HDP.out.symm, ← HC.out]), HL2.out, erase_set, map_erase, hPK]
              rw [← HDA.out])
            obtain ⟨t1, t2, t3⟩ := F9.out.jt.jo.at2 (i := i) hid2 HV2.out
            rw [HD2.out] at t1 t2
            have HPKT := Lib.hid (packet_any w9 b (i * 13) d2 t1 t2 hpl HFY.out (whole_le HC.out.symm (fun y hy => (HFY.out y hy).2)) PK hPK)
            clear t1 t2 t3 hPK
            go_wp2_with fail
            refine HPKT.out.mono ?_
            rintro e w10 ⟨rfl, b10⟩
            have F10 := Lib.hid (F9.out.grow b10)
            clear b10 F9 HPKT
            have hst := pd_storeZ w10 PK
            have bal := (Below.refl w10.heap.size w10).alloc (Nat.le_refl _) (.cells (pdC PK) 35)
            have F11 := Lib.hid (F10.out.grow bal)
            have Q11 : Hid (PdAt (w10.alloc (.cells (pdC PK) 35)) w10.heap.size PK) := Lib.hid (pd_new _ _ _ rfl)
            have X9 : Hid (¬ JoO g v1 l2 w10.heap.size) := Lib.hid (fun ho => by have := F10.out.jt.jo.inn ho; omega)
            clear bal
            go_upto_region 19 with (refine wpList_storeW 35 (.tmp 9) (.tmp 89) rfl rfl (.agg (pdC PK)) w10.heap.size rfl rfl hst ?_)
            clear hst F10
            try simp only [Act.put]
            obtain ⟨n9, hn9⟩ : ∃ n, n = w10.heap.size := ⟨_, rfl⟩
            generalize w10.alloc _ = W11 at F11 Q11 ⊢
            rw [← hn9] at Q11 X9 ⊢
            clear hn9
            go_wp2_with fail
            refine (drop_ok F11.out.jt.jo (by rw [HL2.out, List.length_set]; omega) i hid2).mono ?_
            rintro e w12 ⟨rfl, v12, hT12⟩
            have F12 := Lib.hid (F11.out.step hT12)
            have hq := Q11.out.kept (hT12.tn.block n9 Q11.out.lt X9.out)
            clear hT12 F11 Q11
            obtain ⟨hst, S6, TJ⟩ := F12.out.put PK
            have S6 := Lib.hid S6
            have TJ := Lib.hid TJ
            go_wp2_with (first | (refine pd_ld (by rfl) _ rfl n9 rfl _ hq ?_) | (refine wpList_storeW 35 _ _ rfl rfl _ n4 rfl rfl hst ?_))
            exact bodyPost_ret (v := .tuple #[.agg (pdC PK), .bool true]) (results_row _ 4 5 35 (by kernel_rfl) _ n4 _ _ _ _ rfl rfl S6.out Try.underlying35 rfl (by kernel_rfl)) rfl ⟨v12, l2.eraseIdx i, by rw [HR0.out], TJ.out, by rw [HR0.out]⟩

end Go.Proofs.Ytbjoibgkhooljaa
