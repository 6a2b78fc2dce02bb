/-
  Layer 7: Learn. Conditions: as said.
-/
import Derived.Test.YtolegdjdppaeoaaArpM
import Derived.Test.YtolegdjdppaeoaaEthG
namespace Go.Proofs.Ytolegdjdppaeoaa
open Go.RowKit Go.Sort Go.Shelf
set_option linter.unusedVariables false

def idxL (i : Ip4) (l : List En) : Nat := l.findIdx fun x => decide (x.ip = i)
/-- What Learn leaves. -/
def learnL (i : Ip4) (m : Mac6) (l : List En) : List En := if idxL i l < l.length then l.set (idxL i l) ⟨i, m, 0⟩ else (if l.length = 8 then l.eraseIdx (oldU l 8) else l) ++ [⟨i, m, 0⟩]
theorem idxL_some {i : Ip4} {l : List En} {j : Nat} (hj : j < l.length) (h : l[j].ip = i) (h2 : ∀ x ∈ l.take j, x.ip ≠ i) : idxL i l = j := by
  unfold idxL
  rw [List.findIdx_eq hj]
  refine ⟨by simpa using h, fun k hk => ?_⟩
  have : l[k] ∈ l.take j := by
    rw [List.mem_take_iff_getElem]
    exact ⟨k, by omega, rfl⟩
  simpa using h2 _ this
theorem idxL_none {i : Ip4} {l : List En} (h : ∀ x ∈ l, x.ip ≠ i) : idxL i l = l.length := by
  unfold idxL
  rw [List.findIdx_eq_length]
  intro x hx
  simpa using h x hx

/-- What a call leaves of a cache. -/
def CaPost (w w' : World) (g : Nat) (lim : Int) (v : Value) (l' : List En) : Prop := ∃ v', Ca w' g lim v' l' ∧ Turn w w' (CaO g v) ∧ ∀ k, v'.ownBlock = some k → v.ownBlock = some k ∨ w.heap.size ≤ k

theorem step_append_en {ops : Array Oper} {o : Oper} {a : Act} {w : World} {K : Act → World → Prop} {Q : Exit → Act → World → Prop} {E : Prop}
    (hg : o.guard = none) (s x : Operand) (hop : o.op = Op.call { callee := Callee.builtin Builtin.append, args := #[s, x], argTypes := #[60, 60] })
    (v : Value) (l : List En) (hs : a.eval s = v) (hown : EnRow w v l) (hl : l.length ≤ 1000000) (ad : Addr) (c : Nat) (y : En) (hx : a.eval x = .slice (some ad) 1 c) (hc : ∀ j u, (enE y)[j]? = some u → w.cell? (ad.add j) = some u)
    (hK : ∀ v' w', EnRow w' v' (l ++ [y]) → w.grownBy w' v.ownBlock → (v'.ownBlock = v.ownBlock ∨ v'.ownBlock = some w.heap.size) → K (a.put o.dst v') w') :
    if Region.wanted o (yielded ops a.tmps) = true then Oper.wp Try.prog o a w K Q else E := by
  have hw : Region.wanted o (yielded ops a.tmps) = true := by simp [Region.wanted, hg]
  rw [if_pos hw]
  obtain ⟨i, z, h1, h2, h3, h4, h5⟩ := info_en
  obtain ⟨v', w', hr, g1, g2, g3⟩ := run_append_A (P := Try.prog) (w := w) enE_len enE_one (by decide) 60 68 i z 24 o.type Try.underlying60 h1 h2 h3 h4 (by decide) h5 v l hown (by omega) ad c y hc
  unfold Oper.wp
  simp only [execOp, hop, resolve, invoke, builtin, Sem.run_bind, Sem.run_pure, Result.andThen_ok, List.map_toArray, List.map_cons, List.map_nil, hs, hx, hr]
  exact hK v' w' g1 g2 g3
theorem en_new (w : World) (y : En) : ∀ (j : Nat) (u : Value), (enE y)[j]? = some u → (w.alloc (.cells #[.int .u8 (y.ip.a.toNat : Int), .int .u8 (y.ip.b.toNat : Int), .int .u8 (y.ip.c.toNat : Int), .int .u8 (y.ip.d.toNat : Int), .int .u8 (y.ma.a.toNat : Int), .int .u8 (y.ma.b.toNat : Int), .int .u8 (y.ma.c.toNat : Int), .int .u8 (y.ma.d.toNat : Int), .int .u8 (y.ma.e.toNat : Int), .int .u8 (y.ma.f.toNat : Int), .int .i64 y.age] 68)).cell? ((⟨w.heap.size, 0, none⟩ : Addr).add j) = some u := by
  intro j u hu
  rw [add_off, Nat.zero_add, cell_of_block (heap_alloc_new w _)]
  exact (List.getElem?_toArray (xs := enE y)).trans hu
theorem Ca.drew {w V : World} {g : Nat} {lim : Int} {v : Value} {l : List En} (h : Ca w g lim v l) (d : EDrew w V) : Ca V g lim v l := h.grow d.below
/-- The field is written anew. -/
theorem Ca.setRow1 {w : World} {g : Nat} {lim : Int} {v v' : Value} {l' : List En} (hg : w.heap[g]? = some (.cells #[.int .i64 lim, v, .pointer (some ⟨g, 0, none⟩)] 62 (0, 0))) (hr : EnRow w v' l') (hn : ∀ k, v'.ownBlock = some k → k ≠ g) :
    Ca (w.setCell ⟨g, 1, none⟩ v') g lim v' l' := by
  refine ⟨?_, hr.kept (by simp [World.setCell]) (fun b hb => Below.heap_setCell _ _ _ _ (hn b hb)), hn⟩
  have := set_cells hg v' (i := 1) (by show 1 < 3; decide)
  rw [this]
  rfl
/-- The row is appended to, ahead of the store. -/
theorem Ca.appended {w w2 : World} {g : Nat} {lim : Int} {v v' : Value} {l l' : List En} {o : Obj} (h : Ca w g lim v l) (hg : (w.drew.alloc o).grownBy w2 v.ownBlock) (hr : EnRow w2 v' l') (hb : v'.ownBlock = v.ownBlock ∨ v'.ownBlock = some (w.drew.alloc o).heap.size) :
    w2.cell? ⟨g, 1, none⟩ = some v ∧ w2.frozen? ⟨g, 1, none⟩ = false ∧ CaPost w (w2.setCell ⟨g, 1, none⟩ v') g lim v l' := by
  have hsz : w.heap.size < w2.heap.size := by have := hg.size; simp at this; omega
  have hold : ∀ k, k < w.heap.size → some k ≠ v.ownBlock → w2.heap[k]? = w.heap[k]? := fun k hk hn => by
    rw [hg.block k (by simp; omega) hn]
    exact (World.grownBy_alloc w.drew o none).block k hk (by simp)
  have hgg := (hold g h.lt (fun x => h.ne g x.symm rfl)).trans h.at_
  have hnew : ∀ k, v'.ownBlock = some k → v.ownBlock = some k ∨ w.heap.size ≤ k := fun k hk => by
    rcases hb with hb | hb
    · exact .inl (by rw [← hb]; exact hk)
    · rw [hb] at hk
      injection hk with hk
      subst hk
      exact .inr (by simp)
  have hne : ∀ k, v'.ownBlock = some k → k ≠ g := fun k hk => by
    rcases hnew k hk with hk | hk
    · exact h.ne k hk
    · have := h.lt; omega
  have a2 := World.grownBy_alloc w.drew o none
  refine ⟨by rw [cell_of_block hgg]; rfl, by simp [World.frozen?, hgg], v', Ca.setRow1 hgg hr hne, ?_, hnew⟩
  have hsz2 : w.heap.size ≤ w2.heap.size := Nat.le_of_lt hsz
  exact Turn.setCell (O := CaO g v) (w := w) (w' := w2) (g := g) ⟨hg.os.trans a2.os, hg.tape.trans a2.tape, hg.output.trans a2.output, hsz2, fun k hk ho => hold k hk (fun x => ho (Or.inr x.symm))⟩ (Or.inl rfl) _ _
/-- One entry is written in its place. -/
theorem Ca.put {w : World} {g : Nat} {lim : Int} {v : Value} {l : List En} (h : Ca w g lim v l) {j : Nat} (hj : j < l.length) (y : En) {b cap : Nat} (hv : v = .slice (some ⟨b, 0, none⟩) l.length cap) :
    ∃ W, (storeVar 68 ⟨b, j * 11, none⟩ (.agg #[.int .u8 (y.ip.a.toNat : Int), .int .u8 (y.ip.b.toNat : Int), .int .u8 (y.ip.c.toNat : Int), .int .u8 (y.ip.d.toNat : Int), .int .u8 (y.ma.a.toNat : Int), .int .u8 (y.ma.b.toNat : Int), .int .u8 (y.ma.c.toNat : Int), .int .u8 (y.ma.d.toNat : Int), .int .u8 (y.ma.e.toNat : Int), .int .u8 (y.ma.f.toNat : Int), .int .i64 y.age])).run Try.prog w = .ok () W ∧ Ca W g lim v (l.set j y) ∧ Turn w W (fun k => k = b) := by
  subst hv
  obtain ⟨b', cap', cur, hv, h1, h2, h3, h4, h5⟩ := h.row.block (by omega)
  injection hv with hv _ hc; injection hv with hv; injection hv with hv
  subst hv hc
  have hfit : j * 11 + (enE y).length ≤ cur.size := by rw [enE_len, h4]; omega
  have hst := run_storeCells_at Try.prog b (j * 11) 68 (enE y) 0 cur w h1 (by simpa using hfit) (enE_one y)
  simp only [Nat.add_zero] at hst
  rw [enE_len] at hst
  have hi : (Try.prog.info? 68).map (·.size) = some 11 := by kernel_rfl
  refine ⟨w.setRow b (cur.toList.take (j * 11) ++ enE y ++ cur.toList.drop (j * 11 + 11)).toArray, ?_, ?_, Turn.setRow (O := fun k => k = b) (Turn.refl _ _) rfl _⟩
  · cases hq : Try.prog.info? 68 with
    | none => simp [hq] at hi
    | some q =>
      have hs : q.size = 11 := by simpa [hq] using hi
      have hst2 : Sem.run Try.prog (storeCells ⟨b, j * 11, none⟩ [.int .u8 (y.ip.a.toNat : Int), .int .u8 (y.ip.b.toNat : Int), .int .u8 (y.ip.c.toNat : Int), .int .u8 (y.ip.d.toNat : Int), .int .u8 (y.ma.a.toNat : Int), .int .u8 (y.ma.b.toNat : Int), .int .u8 (y.ma.c.toNat : Int), .int .u8 (y.ma.d.toNat : Int), .int .u8 (y.ma.e.toNat : Int), .int .u8 (y.ma.f.toNat : Int), .int .i64 y.age]) w = .ok () (w.setRow b (cur.toList.take (j * 11) ++ enE y ++ cur.toList.drop (j * 11 + 11)).toArray) := hst
      simp [storeVar, sizeOf, typeInfo, hq, Value.cells, hs, hst2]
  · refine ⟨?_, RowA.put enE_len (cur' := (cur.toList.take (j * 11) ++ enE y ++ cur.toList.drop (j * 11 + 11)).toArray) h.row hj y (fun cur2 hc2 => ?_), h.ne⟩
    · rw [setRow_other _ _ _ _ (fun e => h.ne b rfl e.symm)]
      exact h.at_
    · rw [h1] at hc2
      injection hc2 with hc2; injection hc2 with hc2
      subst hc2
      exact ⟨setRow_heap w b cur _ _ _ h1, rfl⟩
theorem upon_store_at {P : Program} {o : Oper} {a : Act} {w w' : World} {K : Act → World → Prop} {Q : Exit → Act → World → Prop} (t : TypeId) (p x : Operand) (ho : o.op = .store t p x) (hd : o.dst = none) (v : Value) (g i : Nat) (hp : a.eval p = .pointer (some ⟨g, i, none⟩)) (hx : a.eval x = v)
    (hr : (storeVar t ⟨g, i, none⟩ v).run P w = .ok () w') (h : K a w') : o.wp P a w K Q := by
  unfold Oper.wp execOp
  simp only [ho, hp, hx, Instr.storeAt, Instr.sureAddr, Sem.run_bind, Sem.run_pure, Result.andThen_ok, hr]
  show K (a.put o.dst undef) w'
  rw [hd]
  exact h

/-- The same, as a region's step. -/
theorem ready_store_at {P : Program} {ops : Array Oper} {Q : Exit → Act → World → Prop} {md : Region.Mode} {S : World → Prop} {fuel : Nat} {listed : Array Bool} {a : Act} {w w' : World} {n : Nat} {o : Oper} (ho : ops[n]? = some o) (hgd : o.guard = none) (t : TypeId) (p x : Operand) (hop : o.op = .store t p x) (hd : o.dst = none) (v : Value) (g i : Nat) (hp : a.eval p = .pointer (some ⟨g, i, none⟩)) (hx : a.eval x = v)
    (hr : (storeVar t ⟨g, i, none⟩ v).run P w = .ok () w') (hS : S w') (h : wpAnyH P md ops Q S fuel (listed.setIfInBounds n true) a w') : AllReadyH P md ops Q S fuel listed a w [n] :=
  AllReadyH.cons ho (fun K hK => by
    have hw : Region.wanted o (yielded ops a.tmps) = true := by simp [Region.wanted, hgd]
    rw [if_pos hw]
    exact upon_store_at t p x hop hd v g i hp hx hr (hK.out _ _ hS (fun _ => h))) AllReadyH.nil

/-- What region 4 reads. -/
def LnS (g n4 n5 : Nat) (v : Value) (i : Ip4) (m : Mac6) (w : World) : Prop := w.cell? ⟨g, 1, none⟩ = some v ∧ IpAt w n4 i ∧ MacAt w n5 m
theorem LnS.grow {g n4 n5 : Nat} {v : Value} {i : Ip4} {m : Mac6} {w w' : World} (h : LnS g n4 n5 v i m w) (hg : g < w.heap.size) (b : Below w.heap.size w w') : LnS g n4 n5 v i m w' :=
  ⟨(b.cell (p := ⟨g, 1, none⟩) hg).trans h.1, h.2.1.grow b, h.2.2.grow b⟩

/-- Ahead of the search. -/
structure LnF (w W : World) (g n4 n5 : Nat) (lim : Int) (v : Value) (l : List En) (i : Ip4) (m : Mac6) : Prop where
  ca : Ca W g lim v l
  ip : IpAt W n4 i
  ma : MacAt W n5 m
  bl : Below w.heap.size w W
  l4 : w.heap.size ≤ n4
  l5 : w.heap.size ≤ n5
theorem LnF.grow {w W W' : World} {g n4 n5 : Nat} {lim : Int} {v : Value} {l : List En} {i : Ip4} {m : Mac6} (h : LnF w W g n4 n5 lim v l i m) (b : Below W.heap.size W W') : LnF w W' g n4 n5 lim v l i m :=
  ⟨h.ca.grow b, h.ip.grow b, h.ma.grow b, h.bl.trans (b.mono h.bl.size), h.l4, h.l5⟩

/-- A call that begins at a later world. -/
theorem CaPost.from {w W w' : World} {g : Nat} {lim : Int} {v : Value} {l' : List En} (hb : Below w.heap.size w W) (h : CaPost W w' g lim v l') : CaPost w w' g lim v l' := by
  obtain ⟨v', h1, h2, h3⟩ := h
  refine ⟨v', h1, ⟨h2.os.trans hb.os, h2.tape.trans hb.tape, h2.output.trans hb.output, Nat.le_trans hb.size h2.size, fun k hk ho => (h2.block k (Nat.lt_of_lt_of_le hk hb.size) ho).trans (hb.block k hk)⟩, fun k hk => ?_⟩
  rcases h3 k hk with h | h
  · exact .inl h
  · exact .inr (Nat.le_trans hb.size h)

set_option maxRecDepth 100000 in
set_option maxHeartbeats 4000000 in
theorem learn_found {w : World} {g : Nat} {lim : Int} {v : Value} {l : List En} (h : Ca w g lim v l) (hl : l.length ≤ 1000000) (i : Ip4) (m : Mac6) (hin : ∃ x ∈ l, x.ip = i) :
    Calls Try.prog 12 #[.pointer (some ⟨g, 0, none⟩), .agg #[.int .u8 (i.a.toNat : Int), .int .u8 (i.b.toNat : Int), .int .u8 (i.c.toNat : Int), .int .u8 (i.d.toNat : Int)], .agg #[.int .u8 (m.a.toNat : Int), .int .u8 (m.b.toNat : Int), .int .u8 (m.c.toNat : Int), .int .u8 (m.d.toNat : Int), .int .u8 (m.e.toNat : Int), .int .u8 (m.f.toNat : Int)]] w fun e w' => e = .returned (.tuple #[]) ∧ CaPost w w' g lim v (learnL i m l) := by
  have bl : Below w.heap.size w ((w.alloc (.cells #[.int .u8 (i.a.toNat : Int), .int .u8 (i.b.toNat : Int), .int .u8 (i.c.toNat : Int), .int .u8 (i.d.toNat : Int)] 25)).alloc (.cells #[.int .u8 (m.a.toNat : Int), .int .u8 (m.b.toNat : Int), .int .u8 (m.c.toNat : Int), .int .u8 (m.d.toNat : Int), .int .u8 (m.e.toNat : Int), .int .u8 (m.f.toNat : Int)] 23)) := ((Below.refl _ _).alloc (Nat.le_refl _) _).alloc (by simp) _
  have FR0 : Hid (LnF w ((w.alloc (.cells #[.int .u8 (i.a.toNat : Int), .int .u8 (i.b.toNat : Int), .int .u8 (i.c.toNat : Int), .int .u8 (i.d.toNat : Int)] 25)).alloc (.cells #[.int .u8 (m.a.toNat : Int), .int .u8 (m.b.toNat : Int), .int .u8 (m.c.toNat : Int), .int .u8 (m.d.toNat : Int), .int .u8 (m.e.toNat : Int), .int .u8 (m.f.toNat : Int)] 23)) g w.heap.size (w.heap.size + 1) lim v l i m) := Lib.hid ⟨h.grow bl, (ip_new w w.heap.size i rfl).grow ((Below.refl _ _).alloc (Nat.le_refl _) _), mac_new _ _ m (by simp), bl, Nat.le_refl _, Nat.le_succ _⟩
  have HR := Lib.hid h.row
  clear bl h
  go_enter Try.func12, Try.ntmps12
  go_upto_region 1 with fail
  generalize (w.alloc _).alloc _ = W1 at FR0 ⊢
  obtain ⟨n5, h5⟩ : ∃ n, n = w.heap.size + 1 := ⟨_, rfl⟩
  rw [← h5] at FR0 ⊢
  clear h5
  obtain ⟨n4, h4⟩ : ∃ n, n = w.heap.size := ⟨_, rfl⟩
  rw [← h4] at FR0 ⊢
  clear h4
  obtain ⟨c0, c1, c2, c3⟩ := FR0.out.ip.all
  have HF := Lib.hid (cfind_ok FR0.out.ca (by omega) i)
  go_upto_region 3 with (first | (go_at_call 24; refine (cnone_no FR0.out.ca).mono ?_; rintro e w' ⟨rfl, rfl⟩) | (go_at_call 25; refine HF.out.mono ?_; rintro e W2 ⟨r, rfl, q1, q2⟩; have Q1 := Lib.hid q1; have Q2 := Lib.hid q2; clear q1 q2))
  have FR := Lib.hid (FR0.out.grow Q2.out)
  clear c0 c1 c2 c3 FR0 HF Q2
  rcases Q1.out with ⟨rfl, hno⟩ | ⟨j, hj, rfl, hji, hf⟩
  · obtain ⟨x, hx, hxi⟩ := hin
    exact absurd hxi (hno x hx)
  · have HL : Hid (learnL i m l = l.set j ⟨i, m, 0⟩) := Lib.hid (by
      have e1 := idxL_some hj hji hf
      rw [learnL, e1, if_pos hj])
    obtain ⟨b, cap, hv, hcap, hcm, hbl, hfz, _⟩ := RowA.elem enE_len FR.out.ca.row (by omega)
    have hbg : b ≠ g := FR.out.ca.ne b (by rw [hv]; rfl)
    have HV := Lib.hid hv
    have q1 : (0 : Int) ≤ (j : Int) := by omega
    have q2 : (j : Int) < (l.length : Int) := by omega
    have q3 : decide ((j : Int) < (l.length : Int)) = true := by simp; omega
    have hSS : Hid (LnS g n4 n5 (.slice (some ⟨b, 0, none⟩) l.length cap) i m W2) := Lib.hid ⟨by have := FR.out.ca.c1; rw [hv] at this; exact this, FR.out.ip, FR.out.ma⟩
    have hb4 : b ≠ n4 ∧ b ≠ n5 := by
      have := FR.out.l4
      have := FR.out.l5
      have := (HR.out.lt b (by rw [hv]; rfl)).2
      omega
    clear hji hf hv hcap hcm hfz hin
    go_upto_region 4 with fail
    have HGL := Lib.hid FR.out.ca.lt
    refine wp_region_noPanic ?_
    refine region_heldE (S := LnS g n4 n5 (.slice (some ⟨b, 0, none⟩) l.length cap) i m) (by kernel_rfl) (fun V d => hSS.out.grow HGL.out d.below) (fun V d hS => ?_)
    have dE := Lib.hid d
    have dB := Lib.hid d.below
    clear d
    refine wpAnyH_take (i := 0) (oi := ⟨some 15, Op.move (Operand.tmp 0), _, _, _, none⟩) (v := (.pointer (some ⟨g, 0, none⟩))) rfl (by kernel_rfl) (by kernel_rfl) (by kernel_rfl) (fun _ _ _ h => h) (Or.inl ⟨by rfl, fun w' h' => ?_⟩) hS ?_
    · clear h'
      go_simp
    simp only [Act.put]
    refine wpAnyH_take (i := 1) (oi := ⟨some 16, Op.nilCheck (Operand.tmp 15), _, _, _, none⟩) (v := (.pointer (some ⟨g, 0, none⟩))) rfl (by kernel_rfl) (by kernel_rfl) (by kernel_rfl) (fun _ _ _ h => h) (Or.inl ⟨by rfl, fun w' h' => ?_⟩) hS ?_
    · clear h'
      go_simp
    simp only [Act.put]
    refine wpAnyH_take (i := 2) (oi := ⟨some 17, Op.fieldAddr 62 (Operand.tmp 16) 1, _, _, _, none⟩) (v := (.pointer (some ⟨g, 1, none⟩))) rfl (by kernel_rfl) (by kernel_rfl) (by kernel_rfl) (fun _ _ _ h => h) (Or.inl ⟨by rfl, fun w' h' => ?_⟩) hS ?_
    · clear h'
      go_simp
    simp only [Act.put]
    refine wpAnyH_take (i := 3) (oi := ⟨some 18, Op.load 60 (Operand.tmp 17), _, _, _, none⟩) (v := (.slice (some ⟨b, 0, none⟩) l.length cap)) rfl (by kernel_rfl) (by kernel_rfl) (by kernel_rfl) (fun _ _ _ h => h) (Or.inl ⟨by rfl, fun w' h' => ?_⟩) hS ?_
    · have c0 := h'.1
      clear h'
      go_simp
    simp only [Act.put]
    refine wpAnyH_take (i := 4) (oi := ⟨some 19, Op.move (Operand.tmp 6), _, _, _, none⟩) (v := (.int .i64 (j : Int))) rfl (by kernel_rfl) (by kernel_rfl) (by kernel_rfl) (fun _ _ _ h => h) (Or.inl ⟨by rfl, fun w' h' => ?_⟩) hS ?_
    · clear h'
      go_simp
    simp only [Act.put]
    refine wpAnyH_take (i := 5) (oi := ⟨some 20, Op.load 25 (Operand.tmp 4), _, _, _, none⟩) (v := (.agg #[.int .u8 (i.a.toNat : Int), .int .u8 (i.b.toNat : Int), .int .u8 (i.c.toNat : Int), .int .u8 (i.d.toNat : Int)])) rfl (by kernel_rfl) (by kernel_rfl) (by kernel_rfl) (fun _ _ _ h => h) (Or.inl ⟨by rfl, fun w' h' => ?_⟩) hS ?_
    · have c0 := (IpAt.all h'.2.1).1
      have c1 := (IpAt.all h'.2.1).2.1
      have c2 := (IpAt.all h'.2.1).2.2.1
      have c3 := (IpAt.all h'.2.1).2.2.2
      clear h'
      go_simp
    simp only [Act.put]
    refine wpAnyH_take (i := 6) (oi := ⟨some 21, Op.load 23 (Operand.tmp 5), _, _, _, none⟩) (v := (.agg #[.int .u8 (m.a.toNat : Int), .int .u8 (m.b.toNat : Int), .int .u8 (m.c.toNat : Int), .int .u8 (m.d.toNat : Int), .int .u8 (m.e.toNat : Int), .int .u8 (m.f.toNat : Int)])) rfl (by kernel_rfl) (by kernel_rfl) (by kernel_rfl) (fun _ _ _ h => h) (Or.inl ⟨by rfl, fun w' h' => ?_⟩) hS ?_
    · have c0 := (MacAt.all h'.2.2).1
      have c1 := (MacAt.all h'.2.2).2.1
      have c2 := (MacAt.all h'.2.2).2.2.1
      have c3 := (MacAt.all h'.2.2).2.2.2.1
      have c4 := (MacAt.all h'.2.2).2.2.2.2.1
      have c5 := (MacAt.all h'.2.2).2.2.2.2.2
      clear h'
      go_simp
    simp only [Act.put]
    refine wpAnyH_take (i := 7) (oi := ⟨some 22, Op.build 68 #[(0, (Operand.tmp 20)), (1, (Operand.tmp 21))], _, _, _, none⟩) (v := (.agg #[.int .u8 (i.a.toNat : Int), .int .u8 (i.b.toNat : Int), .int .u8 (i.c.toNat : Int), .int .u8 (i.d.toNat : Int), .int .u8 (m.a.toNat : Int), .int .u8 (m.b.toNat : Int), .int .u8 (m.c.toNat : Int), .int .u8 (m.d.toNat : Int), .int .u8 (m.e.toNat : Int), .int .u8 (m.f.toNat : Int), .int .i64 0])) rfl (by kernel_rfl) (by kernel_rfl) (by kernel_rfl) (fun _ _ _ h => h) (Or.inl ⟨by rfl, fun w' h' => ?_⟩) hS ?_
    · clear h'
      go_simp
    simp only [Act.put]
    refine wpAnyH_take (i := 8) (oi := ⟨some 23, Op.indexAddr 60 (Operand.tmp 18) (Operand.tmp 19), _, _, _, none⟩) (v := (.pointer (some ⟨b, j * 11, none⟩))) rfl (by kernel_rfl) (by kernel_rfl) (by kernel_rfl) (fun _ _ _ h => h) (Or.inl ⟨by rfl, fun w' h' => ?_⟩) hS ?_
    · have c0 := q1
      have c1 := q2
      have c2 := q3
      clear h'
      go_simp
    simp only [Act.put]
    obtain ⟨W, hst, hcw, htw⟩ := (FR.out.ca.drew dE.out).put hj ⟨i, m, 0⟩ HV.out
    have HCW := Lib.hid hcw
    have HTW := Lib.hid htw
    have S4 : LnS g n4 n5 (.slice (some ⟨b, 0, none⟩) l.length cap) i m W := ⟨by rw [← HV.out]; exact hcw.c1, (htw.block n4 (lt_of_block hS.2.1) (Ne.symm hb4.1)).trans hS.2.1, (htw.block n5 (lt_of_block hS.2.2) (Ne.symm hb4.2)).trans hS.2.2⟩
    clear hcw htw
    refine wpAnyH_ready (rs := [9]) (by kernel_rfl) (by simp) ?_
    refine ready_store_at (n := 9) (w' := W) rfl rfl 68 (Operand.tmp 23) (Operand.tmp 22) rfl rfl (.agg #[.int .u8 (i.a.toNat : Int), .int .u8 (i.b.toNat : Int), .int .u8 (i.c.toNat : Int), .int .u8 (i.d.toNat : Int), .int .u8 (m.a.toNat : Int), .int .u8 (m.b.toNat : Int), .int .u8 (m.c.toNat : Int), .int .u8 (m.d.toNat : Int), .int .u8 (m.e.toNat : Int), .int .u8 (m.f.toNat : Int), .int .i64 0]) b (j * 11) (by kernel_rfl) (by kernel_rfl) hst S4 ?_
    refine wpAnyH_done (by kernel_rfl) (NoPanic.normal ?_) _
    try simp only [List.setIfInBounds_toArray, List.set_cons_zero, List.set_cons_succ]
    go_wp2_with fail
    refine bodyPost_ret (v := .tuple #[]) (results_none rfl _ _ _) rfl ⟨rfl, ?_⟩
    rw [HL.out]
    refine CaPost.from FR.out.bl ⟨v, HCW.out, ?_, fun k hk => .inl hk⟩
    refine (Turn.of_below dB.out).trans (HTW.out.mono (fun k _ hk => ?_))
    rw [hk]
    exact .inr (by rw [HV.out]; rfl)

set_option maxRecDepth 100000 in
set_option maxHeartbeats 4000000 in
theorem learn_room {w : World} {g : Nat} {lim : Int} {v : Value} {l : List En} (h : Ca w g lim v l) (hl : l.length < 8) (i : Ip4) (m : Mac6) (hno : ∀ x ∈ l, x.ip ≠ i) :
    Calls Try.prog 12 #[.pointer (some ⟨g, 0, none⟩), .agg #[.int .u8 (i.a.toNat : Int), .int .u8 (i.b.toNat : Int), .int .u8 (i.c.toNat : Int), .int .u8 (i.d.toNat : Int)], .agg #[.int .u8 (m.a.toNat : Int), .int .u8 (m.b.toNat : Int), .int .u8 (m.c.toNat : Int), .int .u8 (m.d.toNat : Int), .int .u8 (m.e.toNat : Int), .int .u8 (m.f.toNat : Int)]] w fun e w' => e = .returned (.tuple #[]) ∧ CaPost w w' g lim v (learnL i m l) := by
  have bl : Below w.heap.size w ((w.alloc (.cells #[.int .u8 (i.a.toNat : Int), .int .u8 (i.b.toNat : Int), .int .u8 (i.c.toNat : Int), .int .u8 (i.d.toNat : Int)] 25)).alloc (.cells #[.int .u8 (m.a.toNat : Int), .int .u8 (m.b.toNat : Int), .int .u8 (m.c.toNat : Int), .int .u8 (m.d.toNat : Int), .int .u8 (m.e.toNat : Int), .int .u8 (m.f.toNat : Int)] 23)) := ((Below.refl _ _).alloc (Nat.le_refl _) _).alloc (by simp) _
  have FR0 : Hid (LnF w ((w.alloc (.cells #[.int .u8 (i.a.toNat : Int), .int .u8 (i.b.toNat : Int), .int .u8 (i.c.toNat : Int), .int .u8 (i.d.toNat : Int)] 25)).alloc (.cells #[.int .u8 (m.a.toNat : Int), .int .u8 (m.b.toNat : Int), .int .u8 (m.c.toNat : Int), .int .u8 (m.d.toNat : Int), .int .u8 (m.e.toNat : Int), .int .u8 (m.f.toNat : Int)] 23)) g w.heap.size (w.heap.size + 1) lim v l i m) := Lib.hid ⟨h.grow bl, (ip_new w w.heap.size i rfl).grow ((Below.refl _ _).alloc (Nat.le_refl _) _), mac_new _ _ m (by simp), bl, Nat.le_refl _, Nat.le_succ _⟩
  have HR := Lib.hid h.row
  clear bl h
  go_enter Try.func12, Try.ntmps12
  go_upto_region 1 with fail
  generalize (w.alloc _).alloc _ = W1 at FR0 ⊢
  obtain ⟨n5, h5⟩ : ∃ n, n = w.heap.size + 1 := ⟨_, rfl⟩
  rw [← h5] at FR0 ⊢
  clear h5
  obtain ⟨n4, h4⟩ : ∃ n, n = w.heap.size := ⟨_, rfl⟩
  rw [← h4] at FR0 ⊢
  clear h4
  obtain ⟨c0, c1, c2, c3⟩ := FR0.out.ip.all
  have HF := Lib.hid (cfind_ok FR0.out.ca (by omega) i)
  go_upto_region 3 with (first | (go_at_call 24; refine (cnone_no FR0.out.ca).mono ?_; rintro e w' ⟨rfl, rfl⟩) | (go_at_call 25; refine HF.out.mono ?_; rintro e W2 ⟨r, rfl, q1, q2⟩; have Q1 := Lib.hid q1; have Q2 := Lib.hid q2; clear q1 q2))
  have FR := Lib.hid (FR0.out.grow Q2.out)
  clear c0 c1 c2 c3 FR0 HF Q2
  rcases Q1.out with ⟨rfl, _⟩ | ⟨j, hj, rfl, hji, hf⟩
  · have HL : Hid (learnL i m l = l ++ [⟨i, m, 0⟩]) := Lib.hid (by
      rw [learnL, idxL_none hno, if_neg (by omega), if_neg (by omega)])
    obtain ⟨p, c, hv⟩ := FR.out.ca.row.shape
    have c1 := FR.out.ca.c1
    rw [hv] at c1
    have hne : ((l.length : Int) == 8) = false := by simp; omega
    have HV := Lib.hid hv
    have HLL := Lib.hid hl
    clear hv hl hno
    go_upto_region 8 with fail
    obtain ⟨c0, c2, c3, c4⟩ := FR.out.ip.all
    obtain ⟨d0, d1, d2, d3, d4, d5⟩ := FR.out.ma.all
    have f1 := FR.out.ca.f 1
    have HC := Lib.hid FR.out.ca
    have HRW : Hid (EnRow ((W2.alloc (.cells #[.int .u8 (i.a.toNat : Int), .int .u8 (i.b.toNat : Int), .int .u8 (i.c.toNat : Int), .int .u8 (i.d.toNat : Int), .int .u8 (m.a.toNat : Int), .int .u8 (m.b.toNat : Int), .int .u8 (m.c.toNat : Int), .int .u8 (m.d.toNat : Int), .int .u8 (m.e.toNat : Int), .int .u8 (m.f.toNat : Int), .int .i64 0] 68)).drew) (.slice p l.length c) l) := Lib.hid (by
      rw [← HV.out]
      exact (FR.out.ca.grow (((Below.refl _ _).drew).alloc (Nat.le_refl _) _)).row)
    have hl3 : l.length ≤ 1000000 := by have := HLL.out; omega
    have HNW : Hid (∀ (j : Nat) (u : Value), (enE ⟨i, m, 0⟩)[j]? = some u → ((W2.alloc (.cells #[.int .u8 (i.a.toNat : Int), .int .u8 (i.b.toNat : Int), .int .u8 (i.c.toNat : Int), .int .u8 (i.d.toNat : Int), .int .u8 (m.a.toNat : Int), .int .u8 (m.b.toNat : Int), .int .u8 (m.c.toNat : Int), .int .u8 (m.d.toNat : Int), .int .u8 (m.e.toNat : Int), .int .u8 (m.f.toNat : Int), .int .i64 0] 68)).drew).cell? ((⟨W2.heap.size, 0, none⟩ : Addr).add j) = some u) := Lib.hid (en_new W2.drew ⟨i, m, 0⟩)
    have c9 : (W2.alloc (.cells #[.int .u8 (i.a.toNat : Int), .int .u8 (i.b.toNat : Int), .int .u8 (i.c.toNat : Int), .int .u8 (i.d.toNat : Int), .int .u8 (m.a.toNat : Int), .int .u8 (m.b.toNat : Int), .int .u8 (m.c.toNat : Int), .int .u8 (m.d.toNat : Int), .int .u8 (m.e.toNat : Int), .int .u8 (m.f.toNat : Int), .int .i64 0] 68)).cell? ⟨g, 1, none⟩ = some (.slice p l.length c) := (((Below.refl W2.heap.size W2).alloc (Nat.le_refl _) _).cell (p := ⟨g, 1, none⟩) FR.out.ca.lt).trans c1
    go_region_law (refine step_append_en rfl (.tmp 47) (.tmp 51) rfl (.slice p l.length c) l rfl HRW.out hl3 ⟨W2.heap.size, 0, none⟩ 1 ⟨i, m, 0⟩ rfl HNW.out ?_; intro v' w2 hrow hgr hbl; obtain ⟨p', c', hv'⟩ := RowA.shape hrow; subst hv'; have A1 := Ca.appended HC.out (by rw [HV.out]; exact hgr) hrow (by rw [HV.out]; exact hbl); have k1 := A1.1; have k2 := A1.2.1; rw [HV.out] at k1; have A2 := Lib.hid A1.2.2; clear A1 hrow hgr hbl)
    all_goals
      go_wp2_with fail
      go_end0
      refine ⟨rfl, ?_⟩
      rw [HL.out]
      have A3 := A2.out
      simp only [List.length_append, List.length_cons, List.length_nil, Nat.zero_add] at A3
      exact CaPost.from FR.out.bl A3
  · exact absurd hji (hno _ (List.getElem_mem hj))

end Go.Proofs.Ytolegdjdppaeoaa
