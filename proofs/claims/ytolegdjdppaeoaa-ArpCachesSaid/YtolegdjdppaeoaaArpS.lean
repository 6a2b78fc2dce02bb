/-
  Layer 7: the document's own cache: Find, Tick. Conditions: as said.
-/
import Derived.Test.YtolegdjdppaeoaaArpR
namespace Go.Proofs.Ytolegdjdppaeoaa
open Go.RowKit Go.Sort Go.Shelf
set_option linter.unusedVariables false

theorem info_rn : ∃ i z, Try.prog.info? 58 = some i ∧ i.zero = some z ∧ i.size = 11 ∧ i.bytes = 24 ∧ z.cells.size = 11 := by
  have h : (Try.prog.info? 58).map (fun i => (i.zero.map (fun z => z.cells.size), i.size, i.bytes)) = some (some 11, 11, 24) := by kernel_rfl
  cases hi : Try.prog.info? 58 with
  | none => rw [hi] at h; cases h
  | some i =>
    rw [hi] at h
    simp only [Option.map_some, Option.some.injEq, Prod.mk.injEq] at h
    obtain ⟨h1, h2, h3⟩ := h
    cases hz : i.zero with
    | none => rw [hz] at h1; cases h1
    | some z => rw [hz] at h1; exact ⟨i, z, rfl, hz, h2, h3, by simpa using h1⟩
/-- The entries of the document's cache. -/
abbrev RnRow (w : World) (v : Value) (l : List En) : Prop := RowA 11 enE 58 w v l
/-- The document's cache, as a value. -/
abbrev rcV (p : Option Addr) (n c : Nat) (lim : Int) : Value := .agg #[.slice p n c, .int .i64 lim]
theorem wpList_append_rn {ops : Array Oper} {rest : List Oper} {o : Oper} {a : Act} {w : World} {Q : Exit → Act → World → Prop}
    (hg : o.guard = none) (s x : Operand) (hop : o.op = Op.call { callee := Callee.builtin Builtin.append, args := #[s, x], argTypes := #[50, 50] })
    (v : Value) (l : List En) (hs : a.eval s = v) (hown : RnRow w v l) (hl : l.length ≤ 1000000) (ad : Addr) (c : Nat) (y : En) (hx : a.eval x = .slice (some ad) 1 c) (hc : ∀ j u, (enE y)[j]? = some u → w.cell? (ad.add j) = some u)
    (hK : ∀ v' w', RnRow w' v' (l ++ [y]) → w.grownBy w' v.ownBlock → (v'.ownBlock = v.ownBlock ∨ v'.ownBlock = some w.heap.size) → wpList Try.prog ops Q rest (a.put o.dst v') w') : wpList Try.prog ops Q (o :: rest) a w := by
  refine wpList_plain hg fun K hKK => ?_
  obtain ⟨i, z, h1, h2, h3, h4, h5⟩ := info_rn
  obtain ⟨v', w', hr, g1, g2, g3⟩ := run_append_A (P := Try.prog) (w := w) enE_len enE_one (by decide) 50 58 i z 24 o.type Try.underlying50 h1 h2 h3 h4 (by decide) h5 v l hown (by omega) ad c y hc
  unfold Oper.wp
  simp only [execOp, hop, resolve, invoke, builtin, Sem.run_bind, Sem.run_pure, Result.andThen_ok, List.map_toArray, List.map_cons, List.map_nil, hs, hx, hr]
  exact hKK _ _ (hK v' w' g1 g2 g3)
theorem rn_new (w : World) (y : En) : ∀ (j : Nat) (u : Value), (enE y)[j]? = some u → (w.alloc (.cells #[.int .u8 (y.ip.a.toNat : Int), .int .u8 (y.ip.b.toNat : Int), .int .u8 (y.ip.c.toNat : Int), .int .u8 (y.ip.d.toNat : Int), .int .u8 (y.ma.a.toNat : Int), .int .u8 (y.ma.b.toNat : Int), .int .u8 (y.ma.c.toNat : Int), .int .u8 (y.ma.d.toNat : Int), .int .u8 (y.ma.e.toNat : Int), .int .u8 (y.ma.f.toNat : Int), .int .i64 y.age] 58)).cell? ((⟨w.heap.size, 0, none⟩ : Addr).add j) = some u := by
  intro j u hu
  rw [add_off, Nat.zero_add, cell_of_block (heap_alloc_new w _)]
  exact (List.getElem?_toArray (xs := enE y)).trans hu

/-- A row that is built, beside blocks that stay. -/
structure RaS (w wr : World) (F : List (Nat × Obj)) (va : Value) (la : List En) : Prop where
  acc : RnRow wr va la
  own : ∀ k, va.ownBlock = some k → w.heap.size ≤ k
  bl : Below w.heap.size w wr
  fx : ∀ p ∈ F, wr.heap[p.1]? = some p.2 ∧ ∀ k, va.ownBlock = some k → k ≠ p.1
section
variable {w wr wr' : World} {F : List (Nat × Obj)} {va va' : Value} {la la' : List En}
theorem RaS.grow (h : RaS w wr F va la) (b : Below wr.heap.size wr wr') : RaS w wr' F va la :=
  ⟨h.acc.kept b.size (fun k hk => b.block k (h.acc.lt k hk).2), h.own, h.bl.trans (b.mono h.bl.size), fun p hp => ⟨(b.block p.1 (blk_lt (h.fx p hp).1)).trans (h.fx p hp).1, (h.fx p hp).2⟩⟩
theorem RaS.alloc (h : RaS w wr F va la) (o : Obj) : RaS w (wr.alloc o) F va la := h.grow ((Below.refl _ _).alloc (Nat.le_refl _) o)
theorem RaS.get (h : RaS w wr F va la) {n : Nat} {o : Obj} (hp : (n, o) ∈ F) : wr.heap[n]? = some o := (h.fx _ hp).1
theorem RaS.app (h : RaS w wr F va la) (hg : wr.grownBy wr' va.ownBlock) (hr : RnRow wr' va' la') (hb : va'.ownBlock = va.ownBlock ∨ va'.ownBlock = some wr.heap.size) : RaS w wr' F va' la' := by
  have hno : ∀ k, k < w.heap.size → some k ≠ va.ownBlock := fun k hk e => by
    have := h.own k e.symm; omega
  refine ⟨hr, fun k hk => ?_, ⟨hg.os.trans h.bl.os, hg.tape.trans h.bl.tape, hg.output.trans h.bl.output, Nat.le_trans h.bl.size hg.size, fun k hk => (hg.block k (Nat.lt_of_lt_of_le hk h.bl.size) (hno k hk)).trans (h.bl.block k hk)⟩, fun p hp => ?_⟩
  · rcases hb with e | e
    · exact h.own k (by rw [← e]; exact hk)
    · rw [e] at hk; injection hk with hk; rw [← hk]; exact h.bl.size
  · obtain ⟨f1, f2⟩ := h.fx p hp
    refine ⟨(hg.block p.1 (blk_lt f1) (fun e => f2 _ e.symm rfl)).trans f1, fun k hk e2 => ?_⟩
    rcases hb with e | e
    · exact f2 k (by rw [← e]; exact hk) e2
    · rw [e] at hk; injection hk with hk
      have := blk_lt f1
      omega
end

/-- An entry's cells, as addresses. -/
theorem en_cells {w : World} {b j : Nat} {x : En} (h : w.rangeAt b (j * 11) (enE x)) :
    w.cell? ⟨b, j * 11, none⟩ = some (.int .u8 (x.ip.a.toNat : Int)) ∧ w.cell? ⟨b, j * 11 + 1, none⟩ = some (.int .u8 (x.ip.b.toNat : Int)) ∧ w.cell? ⟨b, j * 11 + 2, none⟩ = some (.int .u8 (x.ip.c.toNat : Int)) ∧ w.cell? ⟨b, j * 11 + 3, none⟩ = some (.int .u8 (x.ip.d.toNat : Int)) :=
  ⟨h 0 _ rfl, h 1 _ rfl, h 2 _ rfl, h 3 _ rfl⟩

set_option maxRecDepth 100000 in
set_option maxHeartbeats 4000000 in
/-- The document's Find. -/
theorem rFind {w : World} {p : Option Addr} {c : Nat} {lim : Int} {l : List En} (h : RnRow w (.slice p l.length c) l) (hl : l.length ≤ 1000000) (i : Ip4) (M : Mac6) (r : Bool) (hM : M = macO (findL i l)) (hr : r = (findL i l).isSome) :
    Calls Try.prog 23 #[rcV p l.length c lim, .agg #[.int .u8 (i.a.toNat : Int), .int .u8 (i.b.toNat : Int), .int .u8 (i.c.toNat : Int), .int .u8 (i.d.toNat : Int)]] w fun e w' => e = .returned (.tuple #[.agg #[.int .u8 (M.a.toNat : Int), .int .u8 (M.b.toNat : Int), .int .u8 (M.c.toNat : Int), .int .u8 (M.d.toNat : Int), .int .u8 (M.e.toNat : Int), .int .u8 (M.f.toNat : Int)], .bool r]) ∧ Below w.heap.size w w' := by
  have bl : Below w.heap.size w (((w.alloc (.cells #[.slice p l.length c, .int .i64 lim] 52)).alloc (.cells #[.int .u8 (i.a.toNat : Int), .int .u8 (i.b.toNat : Int), .int .u8 (i.c.toNat : Int), .int .u8 (i.d.toNat : Int)] 25)).alloc (.cells #[.int .u8 0, .int .u8 0, .int .u8 0, .int .u8 0, .int .u8 0, .int .u8 0] 23)) := (((Below.refl _ _).alloc (Nat.le_refl _) _).alloc (by simp) _).alloc (by simp <;> omega) _
  have HC : Hid ((((w.alloc (.cells #[.slice p l.length c, .int .i64 lim] 52)).alloc (.cells #[.int .u8 (i.a.toNat : Int), .int .u8 (i.b.toNat : Int), .int .u8 (i.c.toNat : Int), .int .u8 (i.d.toNat : Int)] 25)).alloc (.cells #[.int .u8 0, .int .u8 0, .int .u8 0, .int .u8 0, .int .u8 0, .int .u8 0] 23)).heap[w.heap.size]? = some (.cells #[.slice p l.length c, .int .i64 lim] 52 (0, 0))) :=
    Lib.hid ((((Below.refl _ _).alloc (Nat.le_refl _) _).block w.heap.size (by simp <;> omega)).trans ((((Below.refl _ _).alloc (Nat.le_refl _) _).block w.heap.size (by simp)).trans (heap_alloc_new w _)))
  have HI : Hid (IpAt (((w.alloc (.cells #[.slice p l.length c, .int .i64 lim] 52)).alloc (.cells #[.int .u8 (i.a.toNat : Int), .int .u8 (i.b.toNat : Int), .int .u8 (i.c.toNat : Int), .int .u8 (i.d.toNat : Int)] 25)).alloc (.cells #[.int .u8 0, .int .u8 0, .int .u8 0, .int .u8 0, .int .u8 0, .int .u8 0] 23)) (w.heap.size + 1) i) := Lib.hid ((ip_new _ (w.heap.size + 1) i (by simp)).grow ((Below.refl _ _).alloc (Nat.le_refl _) _))
  have HZ : Hid (MacAt (((w.alloc (.cells #[.slice p l.length c, .int .i64 lim] 52)).alloc (.cells #[.int .u8 (i.a.toNat : Int), .int .u8 (i.b.toNat : Int), .int .u8 (i.c.toNat : Int), .int .u8 (i.d.toNat : Int)] 25)).alloc (.cells #[.int .u8 0, .int .u8 0, .int .u8 0, .int .u8 0, .int .u8 0, .int .u8 0] 23)) (w.heap.size + 1 + 1) ⟨0, 0, 0, 0, 0, 0⟩) := Lib.hid (mac_new _ _ ⟨0, 0, 0, 0, 0, 0⟩ (by simp))
  have HR := Lib.hid (h.kept bl.size (fun k hk => bl.block k (h.lt k hk).2))
  have HO := Lib.hid h
  have BL := Lib.hid bl
  have HM := Lib.hid hM
  have HB := Lib.hid hr
  clear h bl hM hr
  go_enter Try.func23, Try.ntmps23
  go_upto_region 1 with fail
  generalize ((w.alloc _).alloc _).alloc _ = W1 at HC HI HZ HR BL ⊢
  obtain ⟨n3, hn⟩ : ∃ n, n = w.heap.size + 1 + 1 := ⟨_, rfl⟩
  rw [← hn] at HZ ⊢
  have hn3 : w.heap.size ≤ n3 := by omega
  clear hn
  obtain ⟨n2, hn⟩ : ∃ n, n = w.heap.size + 1 := ⟨_, rfl⟩
  rw [← hn] at HI ⊢
  clear hn
  obtain ⟨n1, hn⟩ : ∃ n, n = w.heap.size := ⟨_, rfl⟩
  rw [← hn] at HC ⊢
  have HN1 := Lib.hid hn
  clear hn
  go_wp2_with fail
  go_loopw [6] (fun iv wr => ∃ j : Nat, j ≤ l.length ∧ iv = .int .i64 j ∧ Hid (∀ x ∈ l.take j, x.ip ≠ i) ∧ Hid (Below W1.heap.size W1 wr)) (fun iv _ => l.length - (intOf iv).toNat)
  case atStart => exact ⟨0, Nat.zero_le _, rfl, Lib.hid (fun x hx => by simp at hx), Lib.hid (Below.refl _ _)⟩
  case round =>
    obtain ⟨j, hj, rfl, hf, B⟩ := hrel
    have C := Lib.hid ((B.out.block n1 (lt_of_block HC.out)).trans HC.out)
    have b0 : wr.cell? ⟨n1, 0, none⟩ = some (.slice p l.length c) := by rw [cell_of_block C.out]; rfl
    by_cases hlt : j < l.length
    · have hj1 : decide ((j : Int) < (l.length : Int)) = true := by simp; omega
      have R := Lib.hid (HR.out.kept B.out.size (fun k hk => B.out.block k (HR.out.lt k hk).2))
      obtain ⟨b, cap, hv, hcap, hcm, hbl, hfz, hE0⟩ := RowA.elem enE_len R.out (by omega)
      injection hv with hv _ hc
      subst hv hc
      have hE := hE0 j hlt
      have hT : Hid (l.take (j + 1) = l.take j ++ [l[j]]) := Lib.hid (take_succ_get hlt)
      have HJ : Hid (∀ x, l[j] = x → x.ip = i → findL i l = some x.ma) := Lib.hid (fun x hx hi => by rw [← hx]; rw [← hx] at hi; exact findL_some hlt hi hf.out)
      generalize hxx : l[j] = x at hE hT
      have HX := Lib.hid hxx
      clear hxx
      obtain ⟨e0, e1, e2, e3⟩ := en_cells hE
      have HE : Hid (wr.rangeAt b (j * 11 + 4) [.int .u8 (x.ma.a.toNat : Int), .int .u8 (x.ma.b.toNat : Int), .int .u8 (x.ma.c.toNat : Int), .int .u8 (x.ma.d.toNat : Int), .int .u8 (x.ma.e.toNat : Int), .int .u8 (x.ma.f.toNat : Int)]) := Lib.hid (rangeAt_take (n := 6) (rangeAt_drop (n := 4) hE))
      obtain ⟨d0, d1, d2, d3⟩ := (HI.out.grow B.out).all
      have he : ∀ w, (Op.equalIn 10000 25 (.agg #[.int .u8 (x.ip.a.toNat : Int), .int .u8 (x.ip.b.toNat : Int), .int .u8 (x.ip.c.toNat : Int), .int .u8 (x.ip.d.toNat : Int)]) (.agg #[.int .u8 (i.a.toNat : Int), .int .u8 (i.b.toNat : Int), .int .u8 (i.c.toNat : Int), .int .u8 (i.d.toNat : Int)])).run Try.prog w = .ok (decide (x.ip = i)) w := fun w => run_eql_ip w x.ip i
      have q1 : (0 : Int) ≤ (j : Int) := by omega
      have q2 : (j : Int) < (l.length : Int) := by omega
      have hwj : IntKind.i64.wrap ((j : Int) + 1) = (j : Int) + 1 := IntWalk.i64_in _ (by omega)
      have B2 := Lib.hid (below_drewN B.out 1)
      have Z := Lib.hid (HZ.out.grow B.out)
      have BA := Lib.hid (BL.out.trans (B.out.mono BL.out.size))
      clear hE hE0 hfz
      by_cases hii : x.ip = i
      · have hd1 : decide (x.ip = i) = true := by simpa using hii
        rw [hd1] at he
        have hM := HM.out
        have hr := HB.out
        rw [HJ.out x HX.out hii] at hM hr
        have HM2 : Hid (M = x.ma) := Lib.hid hM
        subst hr
        clear hM HJ HB HM hwj hii
        go_upto_region 4 with fail
        go_quiet (fail)
        all_goals
          generalize hV : wr.drewN _ = V
          have dV : Below wr.heap.size wr V := by rw [← hV]; exact below_drewN (Below.refl _ _) _
          have BV := Lib.hid (BA.out.trans (dV.mono BA.out.size))
          have ZV := Lib.hid (Z.out.grow dV)
          have EV : Hid (V.rangeAt b (j * 11 + 4) [.int .u8 (x.ma.a.toNat : Int), .int .u8 (x.ma.b.toNat : Int), .int .u8 (x.ma.c.toNat : Int), .int .u8 (x.ma.d.toNat : Int), .int .u8 (x.ma.e.toNat : Int), .int .u8 (x.ma.f.toNat : Int)]) := Lib.hid (fun k u hu => (dV.cell (p := ⟨b, j * 11 + 4 + k, none⟩) hbl).trans (HE.out k u hu))
          have hrm : (storeVar 23 ⟨n3, 0, none⟩ (.agg #[.int .u8 (x.ma.a.toNat : Int), .int .u8 (x.ma.b.toNat : Int), .int .u8 (x.ma.c.toNat : Int), .int .u8 (x.ma.d.toNat : Int), .int .u8 (x.ma.e.toNat : Int), .int .u8 (x.ma.f.toNat : Int)])).run Try.prog V = .ok () (V.setRow n3 #[.int .u8 (x.ma.a.toNat : Int), .int .u8 (x.ma.b.toNat : Int), .int .u8 (x.ma.c.toNat : Int), .int .u8 (x.ma.d.toNat : Int), .int .u8 (x.ma.e.toNat : Int), .int .u8 (x.ma.f.toNat : Int)]) := run_storeVar_row (P := Try.prog) V n3 23 23 _ #[.int .u8 (x.ma.a.toNat : Int), .int .u8 (x.ma.b.toNat : Int), .int .u8 (x.ma.c.toNat : Int), .int .u8 (x.ma.d.toNat : Int), .int .u8 (x.ma.e.toNat : Int), .int .u8 (x.ma.f.toNat : Int)] ZV.out (by kernel_rfl) rfl (by simp [Value.oneCell'])
          have R2 : Hid (MacAt (V.setRow n3 #[.int .u8 (x.ma.a.toNat : Int), .int .u8 (x.ma.b.toNat : Int), .int .u8 (x.ma.c.toNat : Int), .int .u8 (x.ma.d.toNat : Int), .int .u8 (x.ma.e.toNat : Int), .int .u8 (x.ma.f.toNat : Int)]) n3 x.ma) := Lib.hid (setRow_heap V n3 _ _ _ _ ZV.out)
          have B3 := Lib.hid (below_setRow BV.out hn3 #[.int .u8 (x.ma.a.toNat : Int), .int .u8 (x.ma.b.toNat : Int), .int .u8 (x.ma.c.toNat : Int), .int .u8 (x.ma.d.toNat : Int), .int .u8 (x.ma.e.toNat : Int), .int .u8 (x.ma.f.toNat : Int)])
          have b1 : V.cell? ⟨n1, 0, none⟩ = some (.slice (some ⟨b, 0, none⟩) l.length c) := (dV.cell (p := ⟨n1, 0, none⟩) (lt_of_block C.out)).trans b0
          clear hV b0
          go_wp2_with (first | (refine wpList_load_mid rfl 23 _ rfl b (j * 11 + 4) rfl [.int .u8 (x.ma.a.toNat : Int), .int .u8 (x.ma.b.toNat : Int), .int .u8 (x.ma.c.toNat : Int), .int .u8 (x.ma.d.toNat : Int), .int .u8 (x.ma.e.toNat : Int), .int .u8 (x.ma.f.toNat : Int)] _ EV.out Try.underlying23 rfl (by kernel_rfl) ?_) | (refine wpList_storeW 23 _ _ rfl rfl _ n3 rfl rfl hrm ?_))
          have hm := HM2.out
          subst hm
          exact bodyPost_ret (v := .tuple #[.agg #[.int .u8 (x.ma.a.toNat : Int), .int .u8 (x.ma.b.toNat : Int), .int .u8 (x.ma.c.toNat : Int), .int .u8 (x.ma.d.toNat : Int), .int .u8 (x.ma.e.toNat : Int), .int .u8 (x.ma.f.toNat : Int)], .bool true]) (results_row _ 4 5 23 (by kernel_rfl) _ n3 _ _ _ _ rfl rfl R2.out Try.underlying23 rfl (by kernel_rfl)) rfl ⟨rfl, B3.out⟩
      · have hd1 : decide (x.ip = i) = false := by simpa using hii
        rw [hd1] at he
        have HF : Hid (∀ y ∈ l.take (j + 1), y.ip ≠ i) := Lib.hid (fun y hy => by
          rw [hT.out] at hy
          rcases List.mem_append.1 hy with h | h
          · exact hf.out y h
          · rw [List.mem_singleton.1 h]; exact hii)
        clear HJ hii
        go_upto_region 4 with fail
        go_quiet (fail)
        all_goals
          go_wp2
          go_roundw
          case rel => exact ⟨j + 1, by omega, by go_num, HF, Lib.hid (below_drewN B.out _)⟩
          case measure => simp [intOf]; omega
    · obtain rfl : j = l.length := by omega
      have hj1 : decide ((l.length : Int) < (l.length : Int)) = false := by simp
      have hno := hf.out
      rw [List.take_length] at hno
      have e1 := findL_none hno
      have hM := HM.out
      have hr := HB.out
      rw [e1] at hM hr
      subst hM
      subst hr
      clear hno e1
      have Z := Lib.hid (HZ.out.grow B.out)
      have BA := Lib.hid (BL.out.trans (B.out.mono BL.out.size))
      obtain ⟨d0, d1, d2, d3, d4, d5⟩ := Z.out.all
      have f0 : ∀ k, wr.frozen? ⟨n3, k, none⟩ = false := fun k => by simp [World.frozen?, show wr.heap[n3]? = _ from Z.out]
      have f1 := f0 0
      have f2 := f0 1
      have f3 := f0 2
      have f4 := f0 3
      have f5 := f0 4
      have f6 := f0 5
      go_wp2
      exact bodyPost_ret (v := .tuple #[.agg #[.int .u8 0, .int .u8 0, .int .u8 0, .int .u8 0, .int .u8 0, .int .u8 0], .bool false]) (by simp [results, Try.results23, go_sem, d0, d1, d2, d3, d4, d5]) rfl ⟨rfl, (((((BA.out.setCell hn3 _).setCell hn3 _).setCell hn3 _).setCell hn3 _).setCell hn3 _).setCell hn3 _⟩

end Go.Proofs.Ytolegdjdppaeoaa
