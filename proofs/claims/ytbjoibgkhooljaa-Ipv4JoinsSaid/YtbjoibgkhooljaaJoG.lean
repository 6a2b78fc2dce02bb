/-
  Layer 8: begun: where the datagram of a name stands, which is begun if it is not there. Conditions: as said.
-/
import Derived.Test.YtbjoibgkhooljaaJoF
namespace Go.Proofs.Ytbjoibgkhooljaa
open Go.RowKit Go.Sort Go.Shelf
set_option linter.unusedVariables false

theorem nm_new (w : World) (x : Nm) : NmAt (w.alloc (.cells #[.int .u8 (x.sr.a.toNat : Int), .int .u8 (x.sr.b.toNat : Int), .int .u8 (x.sr.c.toNat : Int), .int .u8 (x.sr.d.toNat : Int), .int .u8 (x.ds.a.toNat : Int), .int .u8 (x.ds.b.toNat : Int), .int .u8 (x.ds.c.toNat : Int), .int .u8 (x.ds.d.toNat : Int), .int .i64 (x.pr.toNat : Int), .int .i64 (x.id.toNat : Int)] 83)) w.heap.size x := heap_alloc_new w _
theorem dg_new (w : World) (y : Dg) : ∀ (j : Nat) (u : Value), (dgE y)[j]? = some u → (w.alloc (.cells #[.int .u8 (y.nm.sr.a.toNat : Int), .int .u8 (y.nm.sr.b.toNat : Int), .int .u8 (y.nm.sr.c.toNat : Int), .int .u8 (y.nm.sr.d.toNat : Int), .int .u8 (y.nm.ds.a.toNat : Int), .int .u8 (y.nm.ds.b.toNat : Int), .int .u8 (y.nm.ds.c.toNat : Int), .int .u8 (y.nm.ds.d.toNat : Int), .int .i64 (y.nm.pr.toNat : Int), .int .i64 (y.nm.id.toNat : Int), .int .i64 y.age, .int .i64 y.ttl, .slice y.pp y.ps.length y.pc] 87)).cell? ((⟨w.heap.size, 0, none⟩ : Addr).add j) = some u := by
  intro j u hu
  rw [add_off, Nat.zero_add, cell_of_block (heap_alloc_new w _)]
  exact (List.getElem?_toArray (xs := dgE y)).trans hu
set_option maxRecDepth 100000 in
set_option maxHeartbeats 2000000 in
theorem pred_begun (s : Nm) (B : Nat) (w : World) (hB : NmAt w B s) :
    PredBelow Try.prog 73 #[.pointer (some ⟨B, 0, none⟩)] (fun x => .agg (dgE x).toArray) (fun x : Dg => decide (x.nm = s)) w := fun W x hb => by
  have hW : NmAt W B s := hB.grow hb
  show Calls Try.prog 73 #[.agg #[.int .u8 (x.nm.sr.a.toNat : Int), .int .u8 (x.nm.sr.b.toNat : Int), .int .u8 (x.nm.sr.c.toNat : Int), .int .u8 (x.nm.sr.d.toNat : Int), .int .u8 (x.nm.ds.a.toNat : Int), .int .u8 (x.nm.ds.b.toNat : Int), .int .u8 (x.nm.ds.c.toNat : Int), .int .u8 (x.nm.ds.d.toNat : Int), .int .i64 (x.nm.pr.toNat : Int), .int .i64 (x.nm.id.toNat : Int), .int .i64 x.age, .int .i64 x.ttl, .slice x.pp x.ps.length x.pc], .pointer (some ⟨B, 0, none⟩)] W _
  have he := fun w => eql_nm w x.nm s
  obtain ⟨r, hr⟩ : ∃ r, r = decide (x.nm = s) := ⟨_, rfl⟩
  rw [← hr] at he
  have HR := Lib.hid hr
  clear hr
  have bl : Below W.heap.size W (W.alloc (.cells #[.int .u8 (x.nm.sr.a.toNat : Int), .int .u8 (x.nm.sr.b.toNat : Int), .int .u8 (x.nm.sr.c.toNat : Int), .int .u8 (x.nm.sr.d.toNat : Int), .int .u8 (x.nm.ds.a.toNat : Int), .int .u8 (x.nm.ds.b.toNat : Int), .int .u8 (x.nm.ds.c.toNat : Int), .int .u8 (x.nm.ds.d.toNat : Int), .int .i64 (x.nm.pr.toNat : Int), .int .i64 (x.nm.id.toNat : Int), .int .i64 x.age, .int .i64 x.ttl, .slice x.pp x.ps.length x.pc] 87)) := (Below.refl _ _).alloc (Nat.le_refl _) _
  obtain ⟨⟨c0, c1, c2, c3⟩, ⟨c4, c5, c6, c7⟩, c8, c9⟩ := (hW.grow bl).all
  have BL := Lib.hid (hb.alloc hb.size (.cells #[.int .u8 (x.nm.sr.a.toNat : Int), .int .u8 (x.nm.sr.b.toNat : Int), .int .u8 (x.nm.sr.c.toNat : Int), .int .u8 (x.nm.sr.d.toNat : Int), .int .u8 (x.nm.ds.a.toNat : Int), .int .u8 (x.nm.ds.b.toNat : Int), .int .u8 (x.nm.ds.c.toNat : Int), .int .u8 (x.nm.ds.d.toNat : Int), .int .i64 (x.nm.pr.toNat : Int), .int .i64 (x.nm.id.toNat : Int), .int .i64 x.age, .int .i64 x.ttl, .slice x.pp x.ps.length x.pc] 87))
  have D0 := heap_alloc_new W (.cells #[.int .u8 (x.nm.sr.a.toNat : Int), .int .u8 (x.nm.sr.b.toNat : Int), .int .u8 (x.nm.sr.c.toNat : Int), .int .u8 (x.nm.sr.d.toNat : Int), .int .u8 (x.nm.ds.a.toNat : Int), .int .u8 (x.nm.ds.b.toNat : Int), .int .u8 (x.nm.ds.c.toNat : Int), .int .u8 (x.nm.ds.d.toNat : Int), .int .i64 (x.nm.pr.toNat : Int), .int .i64 (x.nm.id.toNat : Int), .int .i64 x.age, .int .i64 x.ttl, .slice x.pp x.ps.length x.pc] 87)
  clear hW hB hb bl
  go_enter Try.func73, Try.ntmps73
  go_upto_region 1 with fail
  generalize W.alloc _ = W1 at D0 c0 c1 c2 c3 c4 c5 c6 c7 c8 c9 BL ⊢
  obtain ⟨n, hn⟩ : ∃ n, n = W.heap.size := ⟨_, rfl⟩
  rw [← hn] at D0 ⊢
  clear hn
  have e0 : W1.cell? ⟨n, 0, none⟩ = some (.int .u8 (x.nm.sr.a.toNat : Int)) := by rw [cell_of_block D0]; rfl
  have e1 : W1.cell? ⟨n, 1, none⟩ = some (.int .u8 (x.nm.sr.b.toNat : Int)) := by rw [cell_of_block D0]; rfl
  have e2 : W1.cell? ⟨n, 2, none⟩ = some (.int .u8 (x.nm.sr.c.toNat : Int)) := by rw [cell_of_block D0]; rfl
  have e3 : W1.cell? ⟨n, 3, none⟩ = some (.int .u8 (x.nm.sr.d.toNat : Int)) := by rw [cell_of_block D0]; rfl
  have e4 : W1.cell? ⟨n, 4, none⟩ = some (.int .u8 (x.nm.ds.a.toNat : Int)) := by rw [cell_of_block D0]; rfl
  have e5 : W1.cell? ⟨n, 5, none⟩ = some (.int .u8 (x.nm.ds.b.toNat : Int)) := by rw [cell_of_block D0]; rfl
  have e6 : W1.cell? ⟨n, 6, none⟩ = some (.int .u8 (x.nm.ds.c.toNat : Int)) := by rw [cell_of_block D0]; rfl
  have e7 : W1.cell? ⟨n, 7, none⟩ = some (.int .u8 (x.nm.ds.d.toNat : Int)) := by rw [cell_of_block D0]; rfl
  have e8 : W1.cell? ⟨n, 8, none⟩ = some (.int .i64 (x.nm.pr.toNat : Int)) := by rw [cell_of_block D0]; rfl
  have e9 : W1.cell? ⟨n, 9, none⟩ = some (.int .i64 (x.nm.id.toNat : Int)) := by rw [cell_of_block D0]; rfl
  clear D0
  go_wp2_with fail
  go_ret
  exact ⟨by show Ending.returned (.bool r) = .returned (.bool (decide (x.nm = s))); rw [HR.out], BL.out⟩

/-- Where the datagram of a name stands: it is there, or it is begun. -/
def BegunL (s : Nm) (l l' : List Dg) (i : Nat) : Prop :=
  (l' = l ∧ ∃ h : i < l.length, l[i].nm = s ∧ ∀ x ∈ l.take i, x.nm ≠ s) ∨ ((∀ x ∈ l, x.nm ≠ s) ∧ l' = (if l.length = 4 then l.eraseIdx 0 else l) ++ [⟨s, 0, 0, none, 0, []⟩] ∧ i = (if l.length = 4 then l.eraseIdx 0 else l).length)
theorem Jo.begins {w w2 : World} {g : Nat} {lim : Int} {v v' : Value} {l : List Dg} {s : Nm} {o : Obj} (h : Jo w g lim v l) (hg : (w.drew.alloc o).grownBy w2 v.ownBlock) (hr : DgRow w2 v' (l ++ [⟨s, 0, 0, none, 0, []⟩])) (hb : v'.ownBlock = v.ownBlock ∨ v'.ownBlock = some (w.drew.alloc o).heap.size) :
    w2.cell? ⟨g, 1, none⟩ = some v ∧ w2.frozen? ⟨g, 1, none⟩ = false ∧ JoT w (w2.setCell ⟨g, 1, none⟩ v') g lim v l v' (l ++ [⟨s, 0, 0, none, 0, []⟩]) ∧ (w2.setCell ⟨g, 1, none⟩ v').cell? ⟨g, 1, none⟩ = some v' := by
  have a2 := World.grownBy_alloc w.drew o none
  have hsz : w.heap.size < w2.heap.size := by have := hg.size; simp at this; omega
  have t : Turn w w2 (fun k => v.ownBlock = some k) := ⟨hg.os.trans a2.os, hg.tape.trans a2.tape, hg.output.trans a2.output, Nat.le_of_lt hsz, fun k hk hn => by
    rw [hg.block k (by simp; omega) (fun e => hn e.symm)]
    exact a2.block k hk (by simp)⟩
  have hR := h.rerow t hr (fun k hk => by
    rcases hb with e | e
    · exact .inl (by rw [← e]; exact hk)
    · rw [e] at hk; injection hk with hk; subst hk
      exact .inr (by simp)) (fun x hx => by
    rcases List.mem_append.1 hx with hx | hx
    · exact .inl hx
    · rw [List.mem_singleton] at hx; subst hx; exact .inr ⟨rfl, rfl, rfl⟩) (by
    rw [List.pairwise_append]
    refine ⟨h.ap, List.pairwise_singleton _ _, fun x hx y hy k hk e => ?_⟩
    rw [List.mem_singleton] at hy
    subst hy
    cases e)
  have hgg := hR.1.trans h.at_
  exact ⟨by rw [cell_of_block hgg]; rfl, by simp [World.frozen?, hgg], hR.2, hR.2.jo.c1⟩

set_option maxRecDepth 100000 in
set_option maxHeartbeats 4000000 in
theorem begun_any {w : World} {g : Nat} {lim : Int} {v : Value} {l : List Dg} (h : Jo w g lim v l) (hl : l.length ≤ 4) (s : Nm) :
    Calls Try.prog 38 #[.pointer (some ⟨g, 0, none⟩), .agg #[.int .u8 (s.sr.a.toNat : Int), .int .u8 (s.sr.b.toNat : Int), .int .u8 (s.sr.c.toNat : Int), .int .u8 (s.sr.d.toNat : Int), .int .u8 (s.ds.a.toNat : Int), .int .u8 (s.ds.b.toNat : Int), .int .u8 (s.ds.c.toNat : Int), .int .u8 (s.ds.d.toNat : Int), .int .i64 (s.pr.toNat : Int), .int .i64 (s.id.toNat : Int)]] w fun e w' => ∃ (i : Nat) (v' : Value) (l' : List Dg), e = .returned (.int .i64 (i : Int)) ∧ BegunL s l l' i ∧ JoT w w' g lim v l v' l' := by
  have bl : Below w.heap.size w (w.alloc (.cells #[.int .u8 (s.sr.a.toNat : Int), .int .u8 (s.sr.b.toNat : Int), .int .u8 (s.sr.c.toNat : Int), .int .u8 (s.sr.d.toNat : Int), .int .u8 (s.ds.a.toNat : Int), .int .u8 (s.ds.b.toNat : Int), .int .u8 (s.ds.c.toNat : Int), .int .u8 (s.ds.d.toNat : Int), .int .i64 (s.pr.toNat : Int), .int .i64 (s.id.toNat : Int)] 83)) := (Below.refl _ _).alloc (Nat.le_refl _) _
  have HJ0 := Lib.hid h
  have HJ := Lib.hid (h.grow bl)
  have HN := Lib.hid (nm_new w s)
  have BL := Lib.hid bl
  clear bl h
  go_enter Try.func38, Try.ntmps38
  go_upto_region 1 with fail
  generalize w.alloc _ = W1 at HJ HN BL ⊢
  obtain ⟨n, hn⟩ : ∃ n, n = w.heap.size := ⟨_, rfl⟩
  rw [← hn] at HN ⊢
  have HNS := Lib.hid hn
  clear hn
  have c1 := HJ.out.c1
  have JN1 : Hid (¬ JoO g v l n) := Lib.hid (fun ho => by have := HJ0.out.inn ho; have := HNS.out; omega)
  have HX := Lib.hid (idx_dg (fun x : Dg => decide (x.nm = s)) 73 #[.pointer (some ⟨n, 0, none⟩)] enters_begun W1 v l HJ.out.row (by omega) (pred_begun s n W1 HN.out))
  go_upto_region 2 with (go_at_call 72; refine HX.out.mono ?_; rintro e w2 ⟨r, rfl, q1, q2⟩; have Q1 := Lib.hid q1; have Q2 := Lib.hid q2; clear q1 q2)
  have J2 := Lib.hid (HJ.out.grow Q2.out)
  have N2 := Lib.hid (HN.out.grow Q2.out)
  have B2 := bstep BL Q2.out
  clear c1 HJ HN BL HX Q2
  rcases Q1.out with ⟨rfl, hno⟩ | ⟨j, hj, rfl, hji, hf⟩
  · have HNO : Hid (∀ x ∈ l, x.nm ≠ s) := Lib.hid (fun x hx => by simpa using hno x hx)
    clear hno Q1
    obtain ⟨p, c, hv⟩ := J2.out.row.shape
    have HV := Lib.hid hv
    clear hv
    have c1 := J2.out.c1
    rw [HV.out] at c1
    by_cases h4 : l.length = 4
    · have e4 : ((l.length : Int) == 4) = true := by rw [h4]; rfl
      have H4 := Lib.hid h4
      clear h4
      go_upto_region 5 with fail
      go_wp2_with fail
      refine (drop_ok J2.out (by have := H4.out; omega) 0 (by have := H4.out; omega)).mono ?_
      rintro e w3 ⟨rfl, v3, hT3⟩
      have T3 := Lib.hid (JoT.from B2.out HJ0.out hT3)
      have J3 := Lib.hid hT3.jo
      have N3 : Hid (NmAt w3 n s) := Lib.hid ((hT3.tn.block n (Array.getElem?_eq_some_iff.1 N2.out).1 (fun ho => by
        exact JN1.out ho)).trans N2.out)
      have HE : Hid (BegunL s l (l.eraseIdx 0 ++ [⟨s, 0, 0, none, 0, []⟩]) (l.eraseIdx 0).length) := Lib.hid (.inr ⟨HNO.out, by rw [if_pos H4.out], by rw [if_pos H4.out]⟩)
      have hll : (l.eraseIdx 0).length ≤ 4 := by rw [List.length_eraseIdx_of_lt (by have := H4.out; omega)]; have := H4.out; omega
      clear hT3
      obtain ⟨p3, c3, hv3⟩ := J3.out.row.shape
      have HV3 := Lib.hid hv3
      have d1 := J3.out.c1
      rw [hv3] at d1
      clear hv3 c1
      generalize l.eraseIdx 0 = L3 at T3 J3 HE hll HV3 d1
      go_upto_region 6 with fail
      obtain ⟨⟨c0, c2, z3, c4⟩, ⟨c5, c6, c7, c8⟩, c9, c10⟩ := N3.out.all
      have f1 := J3.out.f 1
      have HRW : Hid (DgRow ((w3.alloc (.cells #[.int .u8 (s.sr.a.toNat : Int), .int .u8 (s.sr.b.toNat : Int), .int .u8 (s.sr.c.toNat : Int), .int .u8 (s.sr.d.toNat : Int), .int .u8 (s.ds.a.toNat : Int), .int .u8 (s.ds.b.toNat : Int), .int .u8 (s.ds.c.toNat : Int), .int .u8 (s.ds.d.toNat : Int), .int .i64 (s.pr.toNat : Int), .int .i64 (s.id.toNat : Int), .int .i64 0, .int .i64 0, .slice none 0 0] 87)).drew) (.slice p3 L3.length c3) L3) := Lib.hid (by
        rw [← HV3.out]
        exact (J3.out.grow (((Below.refl _ _).drew).alloc (Nat.le_refl _) _)).row)
      have hl3 : L3.length ≤ 1000000 := by omega
      have HNW : Hid (∀ (j : Nat) (u : Value), (dgE ⟨s, 0, 0, none, 0, []⟩)[j]? = some u → ((w3.alloc (.cells #[.int .u8 (s.sr.a.toNat : Int), .int .u8 (s.sr.b.toNat : Int), .int .u8 (s.sr.c.toNat : Int), .int .u8 (s.sr.d.toNat : Int), .int .u8 (s.ds.a.toNat : Int), .int .u8 (s.ds.b.toNat : Int), .int .u8 (s.ds.c.toNat : Int), .int .u8 (s.ds.d.toNat : Int), .int .i64 (s.pr.toNat : Int), .int .i64 (s.id.toNat : Int), .int .i64 0, .int .i64 0, .slice none 0 0] 87)).drew).cell? ((⟨w3.heap.size, 0, none⟩ : Addr).add j) = some u) := Lib.hid (dg_new w3.drew ⟨s, 0, 0, none, 0, []⟩)
      have c11 : (w3.alloc (.cells #[.int .u8 (s.sr.a.toNat : Int), .int .u8 (s.sr.b.toNat : Int), .int .u8 (s.sr.c.toNat : Int), .int .u8 (s.sr.d.toNat : Int), .int .u8 (s.ds.a.toNat : Int), .int .u8 (s.ds.b.toNat : Int), .int .u8 (s.ds.c.toNat : Int), .int .u8 (s.ds.d.toNat : Int), .int .i64 (s.pr.toNat : Int), .int .i64 (s.id.toNat : Int), .int .i64 0, .int .i64 0, .slice none 0 0] 87)).cell? ⟨g, 1, none⟩ = some (.slice p3 L3.length c3) := (((Below.refl w3.heap.size w3).alloc (Nat.le_refl _) _).cell (p := ⟨g, 1, none⟩) J3.out.lt).trans (by rw [← HV3.out]; exact J3.out.c1)
      have hwm : IntKind.i64.wrap (((L3 ++ [(⟨s, 0, 0, none, 0, []⟩ : Dg)]).length : Int) - 1) = (L3.length : Int) := by rw [List.length_append, IntWalk.i64_in _ (by simp; omega)]; simp
      go_region_law (refine step_append_dg rfl (.tmp 27) (.tmp 30) rfl (.slice p3 L3.length c3) L3 rfl HRW.out hl3 ⟨w3.heap.size, 0, none⟩ 1 ⟨s, 0, 0, none, 0, []⟩ rfl HNW.out ?_; intro v' w5 hrow hgr hbl; obtain ⟨p', c', hv'⟩ := RowA.shape hrow; subst hv'; have A1 := Jo.begins J3.out (by rw [HV3.out]; exact hgr) hrow (by rw [HV3.out]; exact hbl); have k1 := A1.1; have k2 := A1.2.1; rw [HV3.out] at k1; have k3 := A1.2.2.2; have A2 := Lib.hid A1.2.2.1; clear A1 hrow hgr hbl)
      all_goals
        go_wp2_with fail
        go_ret
        have A3 := A2.out
        simp only [List.length_append, List.length_cons, List.length_nil, Nat.zero_add] at A3
        exact ⟨L3.length, _, _, by first | rfl | (rw [← hwm] <;> simp), HE.out, T3.out.trans A3⟩
    · have e4 : ((l.length : Int) == 4) = false := by simp; omega
      have HE : Hid (BegunL s l (l ++ [⟨s, 0, 0, none, 0, []⟩]) l.length) := Lib.hid (.inr ⟨HNO.out, by rw [if_neg h4], by rw [if_neg h4]⟩)
      have T2 := Lib.hid ((JoT.refl HJ0.out).grow B2.out)
      clear h4
      go_upto_region 6 with fail
      obtain ⟨⟨c0, c2, c3, c4⟩, ⟨c5, c6, c7, c8⟩, c9, c10⟩ := N2.out.all
      have f1 := J2.out.f 1
      have HRW : Hid (DgRow ((w2.alloc (.cells #[.int .u8 (s.sr.a.toNat : Int), .int .u8 (s.sr.b.toNat : Int), .int .u8 (s.sr.c.toNat : Int), .int .u8 (s.sr.d.toNat : Int), .int .u8 (s.ds.a.toNat : Int), .int .u8 (s.ds.b.toNat : Int), .int .u8 (s.ds.c.toNat : Int), .int .u8 (s.ds.d.toNat : Int), .int .i64 (s.pr.toNat : Int), .int .i64 (s.id.toNat : Int), .int .i64 0, .int .i64 0, .slice none 0 0] 87)).drew) (.slice p l.length c) l) := Lib.hid (by
        rw [← HV.out]
        exact (J2.out.grow (((Below.refl _ _).drew).alloc (Nat.le_refl _) _)).row)
      have hl3 : l.length ≤ 1000000 := by omega
      have HNW : Hid (∀ (j : Nat) (u : Value), (dgE ⟨s, 0, 0, none, 0, []⟩)[j]? = some u → ((w2.alloc (.cells #[.int .u8 (s.sr.a.toNat : Int), .int .u8 (s.sr.b.toNat : Int), .int .u8 (s.sr.c.toNat : Int), .int .u8 (s.sr.d.toNat : Int), .int .u8 (s.ds.a.toNat : Int), .int .u8 (s.ds.b.toNat : Int), .int .u8 (s.ds.c.toNat : Int), .int .u8 (s.ds.d.toNat : Int), .int .i64 (s.pr.toNat : Int), .int .i64 (s.id.toNat : Int), .int .i64 0, .int .i64 0, .slice none 0 0] 87)).drew).cell? ((⟨w2.heap.size, 0, none⟩ : Addr).add j) = some u) := Lib.hid (dg_new w2.drew ⟨s, 0, 0, none, 0, []⟩)
      have c11 : (w2.alloc (.cells #[.int .u8 (s.sr.a.toNat : Int), .int .u8 (s.sr.b.toNat : Int), .int .u8 (s.sr.c.toNat : Int), .int .u8 (s.sr.d.toNat : Int), .int .u8 (s.ds.a.toNat : Int), .int .u8 (s.ds.b.toNat : Int), .int .u8 (s.ds.c.toNat : Int), .int .u8 (s.ds.d.toNat : Int), .int .i64 (s.pr.toNat : Int), .int .i64 (s.id.toNat : Int), .int .i64 0, .int .i64 0, .slice none 0 0] 87)).cell? ⟨g, 1, none⟩ = some (.slice p l.length c) := (((Below.refl w2.heap.size w2).alloc (Nat.le_refl _) _).cell (p := ⟨g, 1, none⟩) J2.out.lt).trans (by rw [← HV.out]; exact J2.out.c1)
      have hwm : IntKind.i64.wrap (((l ++ [(⟨s, 0, 0, none, 0, []⟩ : Dg)]).length : Int) - 1) = (l.length : Int) := by rw [List.length_append, IntWalk.i64_in _ (by simp; omega)]; simp
      go_region_law (refine step_append_dg rfl (.tmp 27) (.tmp 30) rfl (.slice p l.length c) l rfl HRW.out hl3 ⟨w2.heap.size, 0, none⟩ 1 ⟨s, 0, 0, none, 0, []⟩ rfl HNW.out ?_; intro v' w5 hrow hgr hbl; obtain ⟨p', c', hv'⟩ := RowA.shape hrow; subst hv'; have A1 := Jo.begins J2.out (by rw [HV.out]; exact hgr) hrow (by rw [HV.out]; exact hbl); have k1 := A1.1; have k2 := A1.2.1; rw [HV.out] at k1; have k3 := A1.2.2.2; have A2 := Lib.hid A1.2.2.1; clear A1 hrow hgr hbl)
      all_goals
        go_wp2_with fail
        go_ret
        have A3 := A2.out
        simp only [List.length_append, List.length_cons, List.length_nil, Nat.zero_add] at A3
        exact ⟨l.length, _, _, by first | rfl | (rw [← hwm] <;> simp), HE.out, T2.out.trans A3⟩
  · have HB : Hid (BegunL s l l j) := Lib.hid (.inl ⟨rfl, hj, by simpa using hji, fun x hx => by simpa using hf x hx⟩)
    have q0 : (0 : Int) ≤ (j : Int) := by omega
    have T2 := Lib.hid ((JoT.refl HJ0.out).grow B2.out)
    clear hji hf Q1
    go_wp2_with fail
    go_ret
    exact ⟨j, v, l, rfl, HB.out, T2.out⟩

end Go.Proofs.Ytbjoibgkhooljaa
