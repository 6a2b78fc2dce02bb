/-
  Layer 8: what a datagram with all its bytes is as a packet. Conditions: as said.
-/
import Derived.Test.YtbjoibgkhooljaaJoD
import Derived.StillTailTactics
namespace Go.Proofs.Ytbjoibgkhooljaa
open Go.RowKit Go.Sort Go.Shelf
set_option linter.unusedVariables false

set_option maxHeartbeats 1000000 in
theorem exec_pk (a : Act) (o : Oper) (w : World) (x0 x1 x2 x3 x4 x7 : Operand) (ho : o.op = .build 35 #[(0, x0), (1, x1), (2, x2), (3, x3), (4, x4), (7, x7)]) (K : Pd) (h0 : a.eval x0 = .int .i64 K.id) (h1 : a.eval x1 = .agg #[.int .u8 (K.sr.a.toNat : Int), .int .u8 (K.sr.b.toNat : Int), .int .u8 (K.sr.c.toNat : Int), .int .u8 (K.sr.d.toNat : Int)]) (h2 : a.eval x2 = .agg #[.int .u8 (K.ds.a.toNat : Int), .int .u8 (K.ds.b.toNat : Int), .int .u8 (K.ds.c.toNat : Int), .int .u8 (K.ds.d.toNat : Int)]) (h3 : a.eval x3 = .int .i64 K.pr) (h4 : a.eval x4 = .int .i64 K.tl) (h7 : a.eval x7 = .string K.da) (hp : K.ps = 0) (hm : K.mo = false) :
    (execOp a.eval o).run Try.prog w = .ok (.value (.agg (pdC K))) w := by
  have hpc : pdC K = #[.int .i64 K.id, .int .u8 (K.sr.a.toNat : Int), .int .u8 (K.sr.b.toNat : Int), .int .u8 (K.sr.c.toNat : Int), .int .u8 (K.sr.d.toNat : Int), .int .u8 (K.ds.a.toNat : Int), .int .u8 (K.ds.b.toNat : Int), .int .u8 (K.ds.c.toNat : Int), .int .u8 (K.ds.d.toNat : Int), .int .i64 K.pr, .int .i64 K.tl, .int .i64 0, .bool false, .string K.da] := by unfold pdC; rw [hp, hm]
  rw [hpc]
  generalize hE : a.eval = E at h0 h1 h2 h3 h4 h7
  unfold execOp
  rw [ho]
  clear hpc hE ho
  go_simp
theorem region_tail8 {P : Program} {id : Nat} {Q : Exit → Act → World → Prop} {a : Act} {w : World} {l : List Oper} (n : Nat) (hm : P.follows .mixedOrders = true) (hB : Region.lexTailB .any l.toArray n = true)
    (h : ∀ w', Below w.heap.size w w' → wpStill P l.toArray w' (fun a' => wpList P l.toArray Q (l.drop n) a' w') (l.take n) a) : (Code.region id l.toArray true).wp P Q a w :=
  wp_region_still_tail n hm hB (h _ (Below.refl _ _).drew)
theorem pk_build {ops : Array Oper} {rest : List Oper} {o : Oper} {a : Act} {w : World} {Q : Exit → Act → World → Prop} (hw : Region.wanted o (yielded ops a.tmps) = true) (x0 x1 x2 x3 x4 x7 : Operand) (ho : o.op = .build 35 #[(0, x0), (1, x1), (2, x2), (3, x3), (4, x4), (7, x7)]) (K : Pd) (h0 : a.eval x0 = .int .i64 K.id) (h1 : a.eval x1 = .agg #[.int .u8 (K.sr.a.toNat : Int), .int .u8 (K.sr.b.toNat : Int), .int .u8 (K.sr.c.toNat : Int), .int .u8 (K.sr.d.toNat : Int)]) (h2 : a.eval x2 = .agg #[.int .u8 (K.ds.a.toNat : Int), .int .u8 (K.ds.b.toNat : Int), .int .u8 (K.ds.c.toNat : Int), .int .u8 (K.ds.d.toNat : Int)]) (h3 : a.eval x3 = .int .i64 K.pr) (h4 : a.eval x4 = .int .i64 K.tl) (h7 : a.eval x7 = .string K.da) (hp : K.ps = 0) (hm : K.mo = false)
    (h : wpList Try.prog ops Q rest (a.put o.dst (.agg (pdC K))) w) : wpList Try.prog ops Q (o :: rest) a w := wpList_value hw _ (exec_pk a o w x0 x1 x2 x3 x4 x7 ho K h0 h1 h2 h3 h4 h7 hp hm) h
theorem PkF.pk {w W : World} {b0 o : Nat} {x : Dg} {K : Pd} (h : PkF w W b0 o x) (hP : K = wholeD x.da) : W.cell? ⟨b0, o + 9, none⟩ = some (.int .i64 K.id) ∧ (W.cell? ⟨b0, o, none⟩ = some (.int .u8 (K.sr.a.toNat : Int)) ∧ W.cell? ⟨b0, o + 1, none⟩ = some (.int .u8 (K.sr.b.toNat : Int)) ∧ W.cell? ⟨b0, o + 2, none⟩ = some (.int .u8 (K.sr.c.toNat : Int)) ∧ W.cell? ⟨b0, o + 3, none⟩ = some (.int .u8 (K.sr.d.toNat : Int))) ∧
    (W.cell? ⟨b0, o + 4, none⟩ = some (.int .u8 (K.ds.a.toNat : Int)) ∧ W.cell? ⟨b0, o + 5, none⟩ = some (.int .u8 (K.ds.b.toNat : Int)) ∧ W.cell? ⟨b0, o + 6, none⟩ = some (.int .u8 (K.ds.c.toNat : Int)) ∧ W.cell? ⟨b0, o + 7, none⟩ = some (.int .u8 (K.ds.d.toNat : Int))) ∧ W.cell? ⟨b0, o + 8, none⟩ = some (.int .i64 K.pr) ∧ W.cell? ⟨b0, o + 11, none⟩ = some (.int .i64 K.tl) := by
  subst hP
  exact ⟨h.rg 9 _ rfl, ⟨h.rg 0 _ rfl, h.rg 1 _ rfl, h.rg 2 _ rfl, h.rg 3 _ rfl⟩, ⟨h.rg 4 _ rfl, h.rg 5 _ rfl, h.rg 6 _ rfl, h.rg 7 _ rfl⟩, h.rg 8 _ rfl, h.rg 11 _ rfl⟩
set_option maxRecDepth 100000 in
set_option maxHeartbeats 4000000 in
theorem packet_any (w : World) (b0 o : Nat) (x : Dg) (hr : w.rangeAt b0 o (dgE x)) (h : PcRow w x.pv x.ps) (hl : x.ps.length ≤ 1000000) (hy : ∀ y ∈ x.ps, y.fine ∧ pEnd y ≤ 1200) (hs : sumP x.ps ≤ 1200) (PK : Pd) (hPK : PK = wholeD x.da) :
    Calls Try.prog 43 #[.pointer (some ⟨b0, o, none⟩)] w fun e w' => e = .returned (.agg (pdC PK)) ∧ Below w.heap.size w w' := by
  have hlt : b0 < w.heap.size := World.block_lt_of_cell? w _ (hr 12 _ rfl)
  have bl : Below w.heap.size w ((w.alloc (.cells #[.int .i64 0, .int .u8 0, .int .u8 0, .int .u8 0, .int .u8 0, .int .u8 0, .int .u8 0, .int .u8 0, .int .u8 0, .int .i64 0, .int .i64 0, .int .i64 0, .bool false, .string ⟨#[]⟩] 35)).alloc (.cells (zeros 1200) 5)) := ((Below.refl _ _).alloc (Nat.le_refl _) _).alloc (by simp) _
  have RM : Hid (PdRoom ((w.alloc (.cells #[.int .i64 0, .int .u8 0, .int .u8 0, .int .u8 0, .int .u8 0, .int .u8 0, .int .u8 0, .int .u8 0, .int .u8 0, .int .i64 0, .int .i64 0, .int .i64 0, .bool false, .string ⟨#[]⟩] 35)).alloc (.cells (zeros 1200) 5)) w.heap.size) := Lib.hid ((pdroom_new w _ #[.int .i64 0, .int .u8 0, .int .u8 0, .int .u8 0, .int .u8 0, .int .u8 0, .int .u8 0, .int .u8 0, .int .u8 0, .int .i64 0, .int .i64 0, .int .i64 0, .bool false, .string ⟨#[]⟩] rfl rfl).grow ((Below.refl _ _).alloc (Nat.le_refl _) _))
  have BY : Hid (BytesAt ((w.alloc (.cells #[.int .i64 0, .int .u8 0, .int .u8 0, .int .u8 0, .int .u8 0, .int .u8 0, .int .u8 0, .int .u8 0, .int .u8 0, .int .i64 0, .int .i64 0, .int .i64 0, .bool false, .string ⟨#[]⟩] 35)).alloc (.cells (zeros 1200) 5)) (w.heap.size + 1) (fillP (x.ps.take 0))) := Lib.hid (by
    have := bytes_new (w.alloc (.cells #[.int .i64 0, .int .u8 0, .int .u8 0, .int .u8 0, .int .u8 0, .int .u8 0, .int .u8 0, .int .u8 0, .int .u8 0, .int .i64 0, .int .i64 0, .int .i64 0, .bool false, .string ⟨#[]⟩] 35))
    simpa [BytesAt, fillP] using this)
  have RG := Lib.hid (rangeAt_grow hr bl)
  have RW := Lib.hid (row_grow h bl)
  have BL := Lib.hid bl
  have HYS := Lib.hid hy
  have HLT := Lib.hid hlt
  have HPK := Lib.hid hPK
  have HSM := Lib.hid hs
  have hsz : (w.alloc (.cells #[.int .i64 0, .int .u8 0, .int .u8 0, .int .u8 0, .int .u8 0, .int .u8 0, .int .u8 0, .int .u8 0, .int .u8 0, .int .i64 0, .int .i64 0, .int .i64 0, .bool false, .string ⟨#[]⟩] 35)).heap.size = w.heap.size + 1 := by simp
  have mk : (Instr.makeSlice 61 (.int .i64 1200) (.int .i64 1200)).run Try.prog (w.alloc (.cells #[.int .i64 0, .int .u8 0, .int .u8 0, .int .u8 0, .int .u8 0, .int .u8 0, .int .u8 0, .int .u8 0, .int .u8 0, .int .i64 0, .int .i64 0, .int .i64 0, .bool false, .string ⟨#[]⟩] 35)) = .ok (.slice (some ⟨w.heap.size + 1, 0, none⟩) 1200 1200) ((w.alloc (.cells #[.int .i64 0, .int .u8 0, .int .u8 0, .int .u8 0, .int .u8 0, .int .u8 0, .int .u8 0, .int .u8 0, .int .u8 0, .int .i64 0, .int .i64 0, .int .i64 0, .bool false, .string ⟨#[]⟩] 35)).alloc (.cells (zeros 1200) 5)) := by
    have := make_bytes 1200 (by decide) (w.alloc (.cells #[.int .i64 0, .int .u8 0, .int .u8 0, .int .u8 0, .int .u8 0, .int .u8 0, .int .u8 0, .int .u8 0, .int .u8 0, .int .i64 0, .int .i64 0, .int .i64 0, .bool false, .string ⟨#[]⟩] 35))
    rw [hsz] at this
    exact this
  have HOB : Hid (∀ k, x.pv.ownBlock = some k → k < w.heap.size) := Lib.hid (fun k hk => (h.lt k hk).2)
  clear hr h hy bl hlt hPK hs
  go_enter Try.func43, Try.ntmps43
  go_upto_region 3 with fail
  clear mk
  generalize (w.alloc _).alloc _ = W1 at RM BY RG RW BL ⊢
  obtain ⟨B, hB⟩ : ∃ n, n = w.heap.size + 1 := ⟨_, rfl⟩
  rw [← hB] at BY ⊢
  have HB : Hid (w.heap.size < B) := Lib.hid (by omega)
  clear hB
  have FR : Hid (PkF w W1 b0 o x) := Lib.hid ⟨RM.out, RG.out, RW.out, BL.out⟩
  clear RM RG RW BL hsz
  obtain ⟨nm, age, ttl, p, c, l⟩ := x
  dsimp only at BY FR HYS HPK HSM HOB hl ⊢
  have d0 : W1.cell? ⟨b0, o + 12, none⟩ = some (.slice p l.length c) := FR.out.rg 12 _ rfl
  go_wp2_with fail
  clear d0
  go_loopw [4, 13] (fun n i wr => ∃ k : Nat, k ≤ l.length ∧ n = .int .i64 (sumP (l.take k) : Nat) ∧ i = .int .i64 k ∧ Hid (BytesAt wr B (fillP (l.take k))) ∧ Hid (PkF w wr b0 o ⟨nm, age, ttl, p, c, l⟩)) (fun _ i _ => l.length - (intOf i).toNat)
  case atStart => exact ⟨0, by omega, rfl, rfl, BY, FR⟩
  case round =>
    obtain ⟨k, hk, rfl, rfl, BK, FK⟩ := hrel
    clear BY FR
    by_cases hlt : k < l.length
    · obtain ⟨b, cap, hv, hcap, hcm, hbl, hfz, hE0⟩ := RowA.elem pcE_len FK.out.rw_ (by show 0 < l.length; omega)
      have hv : Value.slice p l.length c = .slice (some ⟨b, 0, none⟩) l.length cap := hv
      injection hv with hv _ hc
      subst hv hc
      have hE := Lib.hid (hE0 k hlt)
      have hE : Hid (wr.rangeAt b (k * 3) (pcE l[k])) := hE
      have hf := HYS.out _ (List.getElem_mem hlt)
      have hs := sumP_take hlt
      have hfl := fillP_take hlt
      have hle := sumP_le (l.take k) (fun y hy => (HYS.out y (List.mem_of_mem_take hy)).1.sz)
      rw [List.length_take, Nat.min_eq_left (by omega)] at hle
      have hfz2 : (fillP (l.take k)).length = 1200 := fillP_len _ _ (by simp) (fun y hy => by
        have h1 := HYS.out y (List.mem_of_mem_take hy)
        have h2 := h1.2
        have h3 := h1.1.lo
        unfold pEnd at h2
        omega)
      generalize l[k] = y at hE hf hs hfl
      obtain ⟨yo, yd, ym⟩ := y
      obtain ⟨hf1, hf2⟩ := hf
      have hlo : 0 ≤ yo := hf1.lo
      have hsz := hf1.sz
      dsimp only at hs hfl hsz
      obtain ⟨a, rfl⟩ : ∃ a : Nat, yo = (a : Int) := ⟨yo.toNat, by omega⟩
      rw [Int.toNat_natCast] at hfl
      have haz : a + yd.size ≤ 1200 := by
        have : (a : Int) + (yd.size : Int) ≤ 1200 := hf2
        omega
      have hwn : IntKind.i64.wrap ((sumP (l.take k) : Nat) + (yd.size : Int)) = (sumP (l.take (k + 1)) : Nat) := by rw [hs, IntWalk.i64_in _ (by omega)]; omega
      have hE : Hid (wr.rangeAt b (k * 3) [.int .i64 (a : Int), .string yd, .bool ym]) := hE
      have hst := pc_storeZ wr ⟨(a : Int), yd, ym⟩
      dsimp only at hst
      have hj1 : decide ((k : Int) < (l.length : Int)) = true := by simp; omega
      have q1 : (0 : Int) ≤ (k : Int) := by omega
      have q2 : (k : Int) < (l.length : Int) := by omega
      have hwk : IntKind.i64.wrap ((k : Int) + 1) = (k : Int) + 1 := IntWalk.i64_in _ (by omega)
      have PN : Hid (PcAt (wr.alloc (.cells #[.int .i64 (a : Int), .string yd, .bool ym] 89)) wr.heap.size ⟨(a : Int), yd, ym⟩) := Lib.hid (heap_alloc_new wr _)
      have bal := (Below.refl wr.heap.size wr).alloc (Nat.le_refl _) (.cells #[.int .i64 (a : Int), .string yd, .bool ym] 89)
      have FK1 := Lib.hid (FK.out.grow bal)
      have BK1 := Lib.hid (BK.out.kept (bal.block B (Array.getElem?_eq_some_iff.1 BK.out).1))
      obtain ⟨S1, hS1⟩ : ∃ S1, S1 = sumP (l.take (k + 1)) := ⟨_, rfl⟩
      rw [← hS1] at hwn
      have HS1 := Lib.hid hS1
      have HFL := Lib.hid hfl
      have HFZ := Lib.hid hfz2
      clear hE0 hfz hcap hcm hbl hs hfl hfz2 hle hsz hf1 hf2 hlo bal hS1 FK BK
      go_upto_region 6 with (first | (refine wpList_load_mid rfl 89 _ rfl b (k * 3) rfl [.int .i64 (a : Int), .string yd, .bool ym] _ hE.out Try.underlying89 rfl (by kernel_rfl) ?_) | (refine wpList_storeW 89 _ _ rfl rfl _ wr.heap.size rfl rfl hst ?_))
      obtain ⟨n6, hn6⟩ : ∃ n, n = wr.heap.size := ⟨_, rfl⟩
      generalize wr.alloc _ = W3 at PN BK1 FK1 ⊢
      rw [← hn6] at PN ⊢
      clear hn6 hst hE
      have bdr : Below W3.heap.size W3 W3.drew := (Below.refl _ _).drew
      obtain ⟨AA, hA, W4, hcp, hb4, ht4⟩ := copy_in W3.drew B _ HFZ.out (BK1.out.kept rfl) a yd haz
      rw [← HFL.out] at hb4
      have HB4 := Lib.hid hb4
      have FK4 := Lib.hid ((FK1.out.grow bdr).turn ht4 HB.out HLT.out HOB.out)
      have HCP := Lib.hid hcp
      have haz1 : (a : Int) ≤ 1200 := by omega
      have haz0 : (0 : Int) ≤ (a : Int) := by omega
      have hm : yd.size ≤ 9223372036854775807 := by omega
      clear hb4 ht4 hcp bdr
      obtain ⟨y0, y1, y2⟩ := PN.out.cells
      dsimp only at y0 y1 y2
      generalize sumP (l.take k) = S0 at hwn ⊢
      go_region_law (refine step_copy rfl (.tmp 21) (.tmp 23) 61 9 rfl _ _ rfl rfl HCP.out ?_)
      all_goals
        go_wp2_with fail
        go_roundw
        case rel => exact ⟨k + 1, by omega, by rw [HS1.out], by go_num, HB4, FK4⟩
        case measure => simp [intOf]; omega
    · obtain rfl : k = l.length := by omega
      have hj1 : decide ((l.length : Int) < (l.length : Int)) = false := by simp
      rw [List.take_length] at BK ⊢
      obtain ⟨L, hL⟩ : ∃ L, L = fillP l := ⟨_, rfl⟩
      obtain ⟨SM, hSM⟩ : ∃ SM, SM = sumP l := ⟨_, rfl⟩
      have hSL : SM ≤ 1200 := by rw [hSM]; exact HSM.out
      have hLL : L.length = 1200 := by
        rw [hL]
        exact fillP_len _ _ (by simp) (fun y hy => by
          have h1 := HYS.out y hy
          have h2 := h1.2
          have h3 := h1.1.lo
          unfold pEnd at h2
          omega)
      have HDA : Hid (PK.da = ⟨(L.take SM).toArray⟩) := Lib.hid (by rw [HPK.out, hL, hSM]; rfl)
      have hps : PK.ps = 0 := by rw [HPK.out]; rfl
      have hmo : PK.mo = false := by rw [HPK.out]; rfl
      have HPS := Lib.hid hps
      have HMO := Lib.hid hmo
      rw [← hL] at BK
      rw [← hSM]
      have q1 : (0 : Int) ≤ (SM : Int) := by omega
      have q2 : (SM : Int) ≤ 1200 := by omega
      have hlen : (L.take SM).length = SM := by rw [List.length_take]; omega
      have hle : SM ≤ L.length := by omega
      have HLEN := Lib.hid hlen
      have HLE := Lib.hid hle
      clear hL hSM hSL hLL hlen hle hps hmo
      go_upto_region 8 with fail
      refine region_tail8 28 (by kernel_rfl) (by kernel_rfl) (fun V d => ?_)
      have FV := Lib.hid (FK.out.grow d)
      have hcv : (convert 61 9 (.slice (some ⟨B, 0, none⟩) SM 1200)).run Try.prog V = .ok (.string PK.da) V := by
        rw [HDA.out]
        exact conv_text V B 0 SM 1200 (L.take SM) HLEN.out (BytesAt.holds (BK.out.kept (d.block B (Array.getElem?_eq_some_iff.1 BK.out).1)) SM HLE.out)
      obtain ⟨c9, ⟨c0, c1, c2, c3⟩, ⟨c4, c5, c6, c7⟩, c8, c11⟩ := FV.out.pk HPK.out
      clear d FK BK
      simp only [List.take_succ_cons, List.take_zero, List.drop_succ_cons, List.drop_zero]
      repeat still_step
      refine wpStill_nil ?_
      obtain ⟨hst, S9⟩ := FV.out.rm.put PK
      have BV := below_setRow FV.out.bl (Nat.le_refl _) (pdC PK)
      refine pk_build (by kernel_rfl) (.tmp 31) (.tmp 36) (.tmp 41) (.tmp 46) (.tmp 50) (.tmp 54) rfl PK (by kernel_rfl) (by kernel_rfl) (by kernel_rfl) (by kernel_rfl) (by kernel_rfl) (by kernel_rfl) HPS.out HMO.out ?_
      refine wpList_storeW 35 (.tmp 2) (.tmp 55) rfl rfl (.agg (pdC PK)) w.heap.size (by kernel_rfl) (by kernel_rfl) hst ?_
      go_wp2_with fail
      exact bodyPost_ret (v := .agg (pdC PK)) (results_one _ 2 35 (by kernel_rfl) _ w.heap.size _ _ _ rfl S9 Try.underlying35 rfl (by kernel_rfl)) rfl ⟨rfl, BV⟩

end Go.Proofs.Ytbjoibgkhooljaa
