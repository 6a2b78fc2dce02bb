/-
  Layer 2: each call of the code and of the document, beside one another. Conditions: as said at each.
-/
import Derived.Test.YtjelgifijhcnnaaVPy
namespace Go.Proofs.Ytjelgifijhcnnaa
open Go.RowKit Go.Sort
set_option linter.unusedVariables false

/-- What an offer comes to: the error, the head, the bytes, how many were offered, the chain that is new. -/
def addA (lm : List UInt8) (base : Int) (n : Nat) (cs : List Ch) (off : Int) (br : Bool) (bs : List Bf) : Int × Int × List UInt8 × Int × List Ch :=
  if addE lm cs n br bs = 0 then (0, ((freeL cs n).take bs.length).headD 0, addR lm base n off ((freeL cs n).take bs.length) bs, (off + 1) % 65536, [⟨((freeL cs n).take bs.length).headD 0, (freeL cs n).take bs.length, roomOf bs⟩])
  else (addE lm cs n br bs, 0, lm, off, [])
theorem addA_chain {lm : List UInt8} {base : Int} {n : Nat} {cs : List Ch} {off : Int} {br : Bool} {bs : List Bf} : ∀ y ∈ (addA lm base n cs off br bs).2.2.2.2, 0 < y.of.length ∧ y.head ∈ freeL cs n := by
  unfold addA
  split
  · rename_i h
    intro y hy
    have hy' := List.mem_singleton.1 hy
    subst hy'
    unfold addE at h
    split at h
    · cases h
    · obtain ⟨i1, i2, i3⟩ := refuse_none h
      have h0 := (inOrd_pos i1).1
      have hf : 0 < (freeL cs n).length := by omega
      refine ⟨by show 0 < ((freeL cs n).take bs.length).length; rw [List.length_take]; omega, ?_⟩
      show ((freeL cs n).take bs.length).headD 0 ∈ freeL cs n
      rw [headD_take _ _ hf h0]
      exact List.getElem_mem _
  · intro y hy; cases hy

section
variable {w W : World} {x q g h : Nat} {base : Int} {n sz : Nat} {s : St} {d : Dt} {u : Wd}

theorem CS.few (c : CS w W x q g h base n sz s) : s.cs.length ≤ 64 := by
  have := Go.Proofs.Ytjelgifijhcnnaa.few 64 (s.cs.map fun y => y.c.head) c.uniq (fun z hz => by
    obtain ⟨y, hy, rfl⟩ := List.mem_map.1 hz
    have := (c.both.qs.nums y hy).2.2 _ (c.both.qs.heads y hy)
    omega)
  simpa using this
theorem tie_few (c : CS w W x q g h base n sz s) {l : List Cq} (t : l.map toCh = s.cs.map Oc.c) : l.length ≤ 64 := by
  have h1 := c.few
  have := congrArg List.length t
  simp only [List.length_map] at this
  omega
theorem qu_val (op : Option Addr) (k oc : Nat) : True := trivial

theorem BS.rAdd (c : BS w W x q g h base n sz s d u) (v : Value) (bs : List Bf) (hv : IsBufs W v bs) (hbl : bs.length ≤ 100) (hbd : ∀ x ∈ bs, x.n ≤ 9223372036854775807) (tie : d.l.map toCh = s.cs.map Oc.c)
    (A : Int × Int × List UInt8 × Int × List Ch) (hA : A = addA s.lm base n (s.cs.map Oc.c) s.off s.br bs) :
    Calls Try.prog 39 #[.agg #[.int .i64 base, .int .i64 n, .slice d.op d.l.length d.oc, .int .i64 s.off, .int .i64 s.back, .bool s.br], .string ⟨s.lm.toArray⟩, v] W
      fun e W' => ∃ op' oc' l', e = .returned (.tuple #[.agg #[.int .i64 base, .int .i64 n, .slice op' (List.length l') oc', .int .i64 A.2.2.2.1, .int .i64 s.back, .bool s.br], .string ⟨A.2.2.1.toArray⟩, .int .i64 A.2.1, .int .i64 A.1]) ∧
        BS w W' x q g h base n sz s { d with l := l', op := op', oc := oc' } u ∧ Below W.heap.size W W' ∧ l'.map toCh = s.cs.map Oc.c ++ A.2.2.2.2 ∧ ∀ y ∈ l', y ∈ d.l ∨ ∃ b, y.op = some ⟨b, 0, none⟩ ∧ W.heap.size ≤ b := by
  obtain ⟨b0, b1, n1, n2, hl, _⟩ := c.cs.bds
  have hc := @addA_chain s.lm base n (s.cs.map Oc.c) s.off s.br bs
  refine (rAdd_any base s.off s.back n s.br d.op d.oc d.l s.lm W (by omega) b0 (by omega) n1 n2 c.cs.both.qs.off0 c.cs.both.qs.off1 c.out.row c.out.ints (tie_few c.cs tie) v bs hv hbl hbd (freeL (s.cs.map Oc.c) n) (by rw [tie]) (addE s.lm (s.cs.map Oc.c) n s.br bs) (by rw [tie])).mono ?_
  rintro e W' ⟨bl, h2⟩
  rw [← hA] at hc
  unfold addA at hA
  rcases h2 with ⟨hE, rfl⟩ | ⟨hE, p', c', l', rfl, row, ints, new, ht⟩
  · rw [if_neg hE] at hA
    subst hA
    exact ⟨d.op, d.oc, d.l, rfl, c.grow bl, bl, by rw [List.append_nil]; exact tie, fun y hy => .inl hy⟩
  · rw [if_pos hE] at hA
    subst hA
    have ht2 : l'.map toCh = s.cs.map Oc.c ++ [⟨((freeL (s.cs.map Oc.c) n).take bs.length).headD 0, (freeL (s.cs.map Oc.c) n).take bs.length, roomOf bs⟩] := by rw [ht, tie]
    refine ⟨p', c', l', rfl, c.doc bl row ints new (fun y hy => ?_), bl, ht2, new⟩
    have hm : toCh y ∈ s.cs.map Oc.c ++ [⟨((freeL (s.cs.map Oc.c) n).take bs.length).headD 0, (freeL (s.cs.map Oc.c) n).take bs.length, roomOf bs⟩] := by rw [← ht2]; exact List.mem_map_of_mem hy
    rcases List.mem_append.1 hm with hm | hm
    · obtain ⟨z, hz, hzy⟩ := List.mem_map.1 hm
      have h1 := c.cs.both.qs.heads z hz
      have h3 : 0 < z.c.of.length := by
        match z.c.of, h1 with
        | _ :: _, _ => simp
      rw [hzy] at h3
      exact h3
    · exact (hc (toCh y) hm).1

theorem BS.cAdd (c : BS w W x q g h base n sz s d u) (v : Value) (bs : List Bf) (hv : IsBufs W v bs) (hbd : ∀ x ∈ bs, x.n ≤ 9223372036854775807)
    (A : Int × Int × List UInt8 × Int × List Ch) (hA : A = addA s.lm base n (s.cs.map Oc.c) s.off s.br bs) :
    Calls Try.prog 31 #[.pointer (some ⟨q, 0, none⟩), v] W
      fun e W' => ∃ cs', e = .returned (.tuple #[.int .i64 A.2.1, .int .i64 A.1]) ∧ BS w W' x q g h base n sz { s with lm := A.2.2.1, off := A.2.2.2.1, cs := cs' } d u ∧ cs'.map Oc.c = s.cs.map Oc.c ++ A.2.2.2.2 ∧ Turned (QB q h s.mb) W W' := by
  have hS : ∀ k, QB q h s.mb k → k = q ∨ k = s.p ∨ k = h ∨ k = s.mb := fun k hk => by
    rcases hk with e | e | e
    · exact .inr (.inr (.inl e))
    · exact .inl e
    · exact .inr (.inr (.inr e))
  have hc := @addA_chain s.lm base n (s.cs.map Oc.c) s.off s.br bs
  rw [← hA] at hc
  unfold addA at hA
  by_cases hbr : s.br = true
  · have hE : addE s.lm (s.cs.map Oc.c) n s.br bs = 11 := by unfold addE; rw [hbr, if_pos rfl]
    rw [hE, if_neg (by decide)] at hA
    subst hA
    have hat := c.cs.both.qs.at_
    rw [hbr] at hat
    refine (Add_broken W q g base n (some s.mb) s.off s.back hat v).mono ?_
    rintro e W' ⟨rfl, rfl⟩
    exact ⟨s.cs, rfl, c, by rw [List.append_nil], Turned.refl _ _⟩
  · have hbr : s.br = false := by simpa using hbr
    have hE : addE s.lm (s.cs.map Oc.c) n s.br bs = refuseE s.lm bs (freeL (s.cs.map Oc.c) n).length := by unfold addE; rw [hbr, if_neg (by decide)]
    rw [hE] at hA
    have hqs := c.cs.both.qs
    rw [hbr] at hqs
    by_cases h0 : refuseE s.lm bs (freeL (s.cs.map Oc.c) n).length = 0
    · rw [if_pos h0] at hA
      subst hA
      refine (Add_new W q g h s.lm base n s.mb s.cs s.off s.back hqs v bs hv hbd h0).mono ?_
      rintro e W' ⟨y, rfl, hy, hnew, qs, t⟩
      have hhd : y.c.head = ((freeL (s.cs.map Oc.c) n).take bs.length).headD 0 := by rw [hy]; rfl
      have hof : y.c.of = (freeL (s.cs.map Oc.c) n).take bs.length := by rw [hy]; rfl
      rw [hof, ← hbr] at qs
      refine ⟨s.cs ++ [y], by rw [hhd], c.code t hS ?_ (.inl rfl) (.inl rfl) (fun z hz => ?_), by rw [List.map_append]; show _ ++ [y.c] = _; rw [hy]; rfl, t⟩
      · have hlen : (addL s.lm base n s.off ((freeL (s.cs.map Oc.c) n).take bs.length) bs).length = s.lm.length := addL_length _ _ _ _ _ _
        have hboth := c.cs.both.driver qs t hlen
        have hu : ((s.cs ++ [y]).map fun y => y.c.head).Nodup := by
          rw [List.map_append, List.nodup_append]
          refine ⟨c.cs.uniq, by simp, fun a ha b hb => ?_⟩
          have hb' : b = y.c.head := by simpa using hb
          obtain ⟨z, hz, rfl⟩ := List.mem_map.1 ha
          intro e
          have hin := (hc ⟨((freeL (s.cs.map Oc.c) n).take bs.length).headD 0, (freeL (s.cs.map Oc.c) n).take bs.length, roomOf bs⟩ (List.mem_singleton.2 rfl)).2
          have hnot := (free_spec hin).2.2 z.c (List.mem_map_of_mem hz)
          refine hnot ?_
          have h5 := c.cs.both.qs.heads z hz
          have h6 : z.c.head = ((freeL (s.cs.map Oc.c) n).take bs.length).headD 0 := by rw [← hhd, ← hb']; exact e
          rw [h6] at h5
          exact h5
        have hbl : Below w.heap.size w W' := c.cs.bl.trans (t.below c.cs.bl.size (by
          rintro k (rfl | rfl | rfl)
          · exact c.cs.since.2.2.1
          · exact c.cs.since.1
          · exact c.cs.since.2.2.2))
        exact { bl := hbl, both := hboth, uniq := hu, since := c.cs.since, xge := c.cs.xge, b16 := c.cs.b16, len := hlen.trans c.cs.len, sz := c.cs.sz }
      · rcases List.mem_append.1 hz with hz | hz
        · exact .inl hz
        · rw [List.mem_singleton.1 hz]; exact .inr hnew
    · rw [if_neg h0] at hA
      subst hA
      refine (Add_err W q g h s.lm base n s.mb s.cs s.off s.back hqs v bs hv hbd _ rfl (by simpa using h0)).mono ?_
      rintro e W' ⟨rfl, k⟩
      exact ⟨s.cs, rfl, c.grow (Below.of_none k), by rw [List.append_nil], Turned.of k (fun j e => by cases e)⟩

theorem BS.rPop (c : BS w W x q g h base n sz s d u) (tie : d.l.map toCh = s.cs.map Oc.c) (R : List Cq × Int × Bool × Int × Int × Int) (hR : R = popF s.lm base n d.l s.back s.br) :
    Calls Try.prog 40 #[.agg #[.int .i64 base, .int .i64 n, .slice d.op d.l.length d.oc, .int .i64 s.off, .int .i64 s.back, .bool s.br], .string ⟨s.lm.toArray⟩] W
      fun e W' => ∃ op' oc', e = .returned (.tuple #[.agg #[.int .i64 base, .int .i64 n, .slice op' R.1.length oc', .int .i64 s.off, .int .i64 R.2.1, .bool R.2.2.1], .int .i64 R.2.2.2.1, .int .i64 R.2.2.2.2.1, .int .i64 R.2.2.2.2.2]) ∧
        BS w W' x q g h base n sz s { d with l := R.1, op := op', oc := oc' } u ∧ Below W.heap.size W W' ∧ ∀ y ∈ R.1, y ∈ d.l ∨ ∃ b, y.op = some ⟨b, 0, none⟩ ∧ W.heap.size ≤ b := by
  obtain ⟨b0, b1, n1, n2, hl, _⟩ := c.cs.bds
  have hsub : ∀ y ∈ R.1, y ∈ d.l := by
    rw [hR]
    unfold popF
    split
    · exact fun _ h => h
    · split
      · exact fun _ h => h
      · split
        · exact fun y hy => List.mem_of_mem_eraseIdx hy
        · exact fun _ h => h
  refine (rPop_any base s.off s.back n s.br d.op d.oc d.l s.lm W (by omega) b0 (by omega) n1 n2 c.cs.both.qs.back0 c.cs.both.qs.back1 c.out.row (by have := tie_few c.cs tie; omega)).mono ?_
  rintro e W' ⟨p', c', rfl, row, bl⟩
  rw [← hR] at row ⊢
  exact ⟨p', c', rfl, c.doc bl row (fun y hy => (c.out.grow bl).ints y (hsub y hy)) (fun y hy => .inl (hsub y hy)) (fun y hy => c.out.full y (hsub y hy)), bl, fun y hy => .inl (hsub y hy)⟩

theorem BS.cPop (c : BS w W x q g h base n sz s d u) (l : List Cq) (tie : l.map toCh = s.cs.map Oc.c) (R : List Cq × Int × Bool × Int × Int × Int) (hR : R = popF s.lm base n l s.back s.br) :
    Calls Try.prog 34 #[.pointer (some ⟨q, 0, none⟩)] W
      fun e W' => ∃ cs', e = .returned (.tuple #[.int .i64 R.2.2.2.1, .int .i64 R.2.2.2.2.1, .int .i64 R.2.2.2.2.2]) ∧ BS w W' x q g h base n sz { s with cs := cs', back := R.2.1, br := R.2.2.1 } d u ∧ R.1.map toCh = cs'.map Oc.c ∧ Turned (QB q h s.mb) W W' := by
  have hS : ∀ k, QB q h s.mb k → k = q ∨ k = s.p ∨ k = h ∨ k = s.mb := fun k hk => by
    rcases hk with e | e | e
    · exact .inr (.inr (.inl e))
    · exact .inl e
    · exact .inr (.inr (.inr e))
  by_cases hbr : s.br = true
  · have hR2 : R = (l, s.back, true, 0, 0, 11) := by rw [hR]; unfold popF; rw [hbr, if_pos rfl]
    subst hR2
    have hat := c.cs.both.qs.at_
    rw [hbr] at hat
    refine (Pop_broken W q g base n (some s.mb) s.off s.back hat).mono ?_
    rintro e W' ⟨rfl, rfl⟩
    refine ⟨s.cs, rfl, ?_, tie, Turned.refl _ _⟩
    have : ({ s with cs := s.cs, back := s.back, br := true } : St) = s := by rw [← hbr]
    show BS w W x q g h base n sz { s with cs := s.cs, back := s.back, br := true } d u
    rw [this]
    exact c
  · have hbr : s.br = false := by simpa using hbr
    have hqs := c.cs.both.qs
    rw [hbr] at hqs hR
    refine (Pop_any W q g h s.lm base n s.mb s.cs s.off s.back hqs).mono ?_
    intro e W' hP
    obtain ⟨he, cs', qs, ht, hu, hsub, t⟩ := pop_code hqs hP l tie c.cs.uniq
    rw [← hR] at he qs ht
    refine ⟨cs', he, c.code t hS ?_ (.inl rfl) (.inl rfl) (fun z hz => .inl (hsub z hz)), ht, t⟩
    have hbl : Below w.heap.size w W' := c.cs.bl.trans (t.below c.cs.bl.size (by
      rintro k (rfl | rfl | rfl)
      · exact c.cs.since.2.2.1
      · exact c.cs.since.1
      · exact c.cs.since.2.2.2))
    exact { bl := hbl, both := c.cs.both.driver qs t rfl, uniq := hu, since := c.cs.since, xge := c.cs.xge, b16 := c.cs.b16, len := c.cs.len, sz := c.cs.sz }

theorem BS.rNext (c : BS w W x q g h base n sz s d u) (r : Int × List Bf × Int) (hr : r = nextF s.lm base n s.tk) :
    Calls Try.prog 41 #[.agg #[.int .i64 base, .int .i64 n, .int .i64 s.tk, .int .i64 s.td], .string ⟨s.lm.toArray⟩] W
      fun e W' => ∃ v, e = .returned (.tuple #[.agg #[.int .i64 base, .int .i64 n, .int .i64 (if r.2.2 = 0 then (s.tk + 1) % 65536 else s.tk), .int .i64 s.td], .int .i64 r.1, v, .int .i64 r.2.2]) ∧ IsBufs W' v r.2.1 ∧ BS w W' x q g h base n sz s d u ∧ Below W.heap.size W W' := by
  obtain ⟨b0, b1, n1, n2, hl, _⟩ := c.cs.bds
  refine (rNext_any base s.tk s.td n s.lm W (by omega) b0 (by omega) n1 n2 c.cs.both.ps.taken0 c.cs.both.ps.taken1).mono ?_
  rintro e W' ⟨v, rfl, hv, bl⟩
  rw [← hr] at hv ⊢
  exact ⟨v, rfl, hv, c.grow bl, bl⟩

theorem BS.cNext (c : BS w W x q g h base n sz s d u) (r : Int × List Bf × Int) (hr : r = nextF s.lm base n s.tk) :
    Calls Try.prog 32 #[.pointer (some ⟨s.p, 0, none⟩)] W
      fun e W' => ∃ v, e = .returned (.tuple #[.int .i64 r.1, v, .int .i64 r.2.2]) ∧ IsBufs W' v r.2.1 ∧ BS w W' x q g h base n sz { s with tk := if r.2.2 = 0 then (s.tk + 1) % 65536 else s.tk } d u ∧ Turned (fun k => k = h ∨ k = s.p) W W' ∧ PAt W' s.p g base n (if r.2.2 = 0 then (s.tk + 1) % 65536 else s.tk) s.td ∧ Mem W' g h s.lm := by
  have hS : ∀ k, (k = h ∨ k = s.p) → k = q ∨ k = s.p ∨ k = h ∨ k = s.mb := fun k hk => by
    rcases hk with e | e
    · exact .inr (.inr (.inl e))
    · exact .inr (.inl e)
  refine (vNext_any W s.p g h s.lm base n s.tk s.td c.cs.both.ps).mono ?_
  intro e W' hP
  obtain ⟨v, he, hv, ps, t⟩ := next_code c.cs.both.ps hP
  rw [← hr] at he hv ps
  refine ⟨v, he, hv, c.code t hS ?_ (.inl rfl) (.inl rfl) (fun z hz => .inl hz), t, ps.at_, ps.mem⟩
  have hbl : Below w.heap.size w W' := c.cs.bl.trans (t.below c.cs.bl.size (by
    rintro k (rfl | rfl)
    · exact c.cs.since.2.2.1
    · exact c.cs.since.2.1))
  exact { bl := hbl, both := c.cs.both.device ps t rfl, uniq := c.cs.uniq, since := c.cs.since, xge := c.cs.xge, b16 := c.cs.b16, len := c.cs.len, sz := c.cs.sz }
/-- Buffers that are the document's stay, whatever the device does. -/
theorem bufs_device {W' : World} {v : Value} {l : List Bf} {p g : Nat} {lm lm' : List UInt8} {tk td tk' td' : Int} (hv : IsBufs W v l) (m : Mem W g h lm) (pa : PAt W p g base n tk td) (pa' : PAt W' p g base n tk' td') (t : Turned (fun k => k = h ∨ k = p) W W') : IsBufs W' v l := by
  refine hv.kept_at fun b i y hu hb => ?_
  by_cases hbh : b = h
  · exact absurd hbh (m.not_u8 hu (fun z e => by
      rcases hb with ⟨z', rfl⟩ | ⟨z', rfl⟩ <;> cases e))
  · by_cases hbp : b = p
    · subst hbp
      rw [cell_of_block pa']
      rw [cell_of_block pa] at hu
      match i, hu with
      | 0, hu => rcases hb with ⟨z', rfl⟩ | ⟨z', rfl⟩ <;> cases hu
      | 1, hu => exact hu
      | 2, hu => exact hu
      | 3, hu => rcases hb with ⟨z', rfl⟩ | ⟨z', rfl⟩ <;> cases hu
      | 4, hu => rcases hb with ⟨z', rfl⟩ | ⟨z', rfl⟩ <;> cases hu
      | 5, hu => rcases hb with ⟨z', rfl⟩ | ⟨z', rfl⟩ <;> cases hu
      | _ + 6, hu => cases hu
    · rw [World.cell?_of_block (w := W) (a := ⟨b, i, none⟩) (t.block b (World.block_lt_of_cell? W _ hu) (by rintro (e | e); exact hbh e; exact hbp e))]
      exact hu

theorem BS.rDone (c : BS w W x q g h base n sz s d u) (hd ln : Int) (h0 : 0 ≤ hd) (h1 : hd ≤ 4294967295) (l0 : 0 ≤ ln) (l1 : ln ≤ 4294967295) :
    Calls Try.prog 43 #[.agg #[.int .i64 base, .int .i64 n, .int .i64 s.tk, .int .i64 s.td], .string ⟨s.lm.toArray⟩, .int .u32 hd, .int .u32 ln] W
      fun e W' => e = .returned (.tuple #[.agg #[.int .i64 base, .int .i64 n, .int .i64 s.tk, .int .i64 ((s.td + 1) % 65536)], .string ⟨(vdoneL s.lm base n s.td hd ln).toArray⟩]) ∧ BS w W' x q g h base n sz s d u ∧ Below W.heap.size W W' := by
  obtain ⟨b0, b1, n1, n2, hl, _⟩ := c.cs.bds
  refine (rDone_any base n s.tk s.td hd ln s.lm W (by omega) b0 (by omega) (by omega) (by omega) c.cs.both.ps.told0 c.cs.both.ps.told1 h0 h1 l0 l1).mono ?_
  rintro e W' ⟨rfl, bl⟩
  rw [done_same]
  exact ⟨rfl, c.grow bl, bl⟩
theorem BS.cDone (c : BS w W x q g h base n sz s d u) (hd ln : Int) (h0 : 0 ≤ hd) (h1 : hd ≤ 4294967295) (l0 : 0 ≤ ln) (l1 : ln ≤ 4294967295) :
    Calls Try.prog 33 #[.pointer (some ⟨s.p, 0, none⟩), .int .u32 hd, .int .u32 ln] W
      fun e W' => e = .returned (.int .i64 0) ∧ BS w W' x q g h base n sz { s with lm := vdoneL s.lm base n s.td hd ln, td := (s.td + 1) % 65536 } d u ∧ Turned (fun k => k = h ∨ k = s.p) W W' := by
  have hS : ∀ k, (k = h ∨ k = s.p) → k = q ∨ k = s.p ∨ k = h ∨ k = s.mb := fun k hk => by
    rcases hk with e | e
    · exact .inr (.inr (.inl e))
    · exact .inr (.inl e)
  refine (vDone_any W s.p g h s.lm base n s.tk s.td c.cs.both.ps hd ln h0 h1 l0 l1).mono ?_
  rintro e W' ⟨rfl, ps, t⟩
  have hlen : (vdoneL s.lm base n s.td hd ln).length = s.lm.length := by unfold vdoneL; simp only [putL_length]
  refine ⟨rfl, c.code t hS ?_ (.inl rfl) (.inl rfl) (fun z hz => .inl hz), t⟩
  have hbl : Below w.heap.size w W' := c.cs.bl.trans (t.below c.cs.bl.size (by
    rintro k (rfl | rfl)
    · exact c.cs.since.2.2.1
    · exact c.cs.since.2.1))
  exact { bl := hbl, both := c.cs.both.device ps t hlen, uniq := c.cs.uniq, since := c.cs.since, xge := c.cs.xge, b16 := c.cs.b16, len := hlen.trans c.cs.len, sz := c.cs.sz }

/-- Reset. -/
theorem BS.cReset (c : BS w W x q g h base n sz s d u) :
    Calls Try.prog 36 #[.pointer (some ⟨q, 0, none⟩)] W
      fun e W' => e = .returned (.tuple #[]) ∧ ∃ mb', BS w W' x q g h base n sz { s with mb := mb', lm := wipeL s.lm base n, cs := [], off := 0, back := 0, br := false } d u ∧ Turned (fun k => k = h ∨ k = q) W W' ∧ W.heap.size ≤ mb' := by
  have hS : ∀ k, (k = h ∨ k = q) → k = q ∨ k = s.p ∨ k = h ∨ k = s.mb := fun k hk => by
    rcases hk with e | e
    · exact .inr (.inr (.inl e))
    · exact .inl e
  obtain ⟨b0, b1, n1, n2, hl, hb⟩ := c.cs.bds
  have hsz := c.cs.both.qs.size
  refine (Reset_any W q g h s.lm c.cs.both.qs.mem base n (some s.mb) s.off s.back s.br c.cs.both.qs.at_ (by omega) (by omega)).mono ?_
  rintro e W' ⟨rfl, mb', hmb, qa, tb, m, t⟩
  have hlen : (wipeL s.lm base n).length = s.lm.length := wipeL_length _ _ _
  have hx := c.xne
  have hp := c.cs.both.ps
  have hpq : q ≠ s.p := (c.cs.both.qs.nep hp.at_).1
  refine ⟨rfl, mb', c.code t hS ?_ (.inl rfl) (.inr hmb) (fun z hz => by cases hz), t, hmb⟩
  have hbl : Below w.heap.size w W' := c.cs.bl.trans (t.below c.cs.bl.size (by
    rintro k (rfl | rfl)
    · exact c.cs.since.2.2.1
    · exact c.cs.since.1))
  have pa : PAt W' s.p g base n s.tk s.td := t.kept hp.at_ (by
    rintro (e | e)
    · exact hp.ph e
    · exact hpq e.symm)
  have hqs : QS W' q g h (wipeL s.lm base n) base n mb' [] 0 0 false :=
    ⟨m, by rw [hlen]; exact c.cs.both.qs.len, qa, tb, (fun x hx => by cases hx), (fun x hx => by cases hx), (fun x hx => by cases hx), b0, by rw [hlen]; exact hb, hsz, by omega, by omega, by omega, by omega⟩
  have hps : PS W' s.p g h (wipeL s.lm base n) base n s.tk s.td := { hp with mem := m, len := by rw [hlen]; exact hp.len, at_ := pa, b1 := by rw [hlen]; exact hp.b1 }
  exact { bl := hbl, both := ⟨hqs, hps⟩, uniq := List.nodup_nil, since := ⟨c.cs.since.1, c.cs.since.2.1, c.cs.since.2.2.1, Nat.le_trans c.cs.bl.size hmb⟩, xge := c.cs.xge, b16 := c.cs.b16, len := hlen.trans c.cs.len, sz := c.cs.sz }
theorem BS.rNew (c : BS w W x q g h base n sz s d u) (L : List UInt8) (hL : L.length ≤ 5000) :
    Calls Try.prog 44 #[.string ⟨L.toArray⟩, .int .i64 base, .int .i64 n] W
      fun e W' => e = .returned (.tuple #[.agg #[.int .i64 base, .int .i64 n, .slice none 0 0, .int .i64 0, .int .i64 0, .bool false], .string ⟨(wipeL L base n).toArray⟩]) ∧ BS w W' x q g h base n sz s { d with l := [], op := none, oc := 0 } u ∧ Below W.heap.size W W' := by
  refine (rNew_any W L base n hL).mono ?_
  rintro e W' ⟨rfl, bl⟩
  exact ⟨rfl, c.doc bl (World.ownsRow_nil _ _ _ _) (fun y hy => by cases hy) (fun y hy => by cases hy) (fun y hy => by cases hy), bl⟩
/-- The port is opened again. -/
theorem BS.cOpen (c : BS w W x q g h base n sz s d u) :
    Calls Try.prog 14 #[.pointer (some ⟨g, 0, none⟩), .int .i64 base, .int .i64 n] W
      fun e W' => ∃ p', e = .returned (.tuple #[.pointer (some ⟨p', 0, none⟩), .int .i64 0]) ∧ BS w W' x q g h base n sz { s with p := p', tk := 0, td := 0 } d u ∧ Below W.heap.size W W' ∧ W.heap.size ≤ p' := by
  obtain ⟨b0, b1, n1, n2, hl, hb⟩ := c.cs.bds
  have hsz := c.cs.both.qs.size
  have hbb := (bytesOf_bd (n : Int)).1
  have hpos : 0 < bytesOf (n : Int) := by unfold bytesOf; rw [if_pos hsz]; unfold usedAt; omega
  have hbar : barOf s.lm.length base n = 0 := by
    unfold barOf
    rw [if_neg (by have := c.cs.b16; rintro (e | e | e); exact e hsz; omega; exact e this), if_neg (by omega)]
  refine (Open_ok W g h s.lm c.cs.both.qs.mem base n (by omega) (by omega) (by omega) (by omega) hbar).mono ?_
  rintro e W' ⟨p', rfl, hp', pa, k⟩
  refine ⟨p', rfl, c.code (S := fun _ => False) (Turned.of k (fun j e => by cases e)) (fun _ h => h.elim) ?_ (.inr hp') (.inl rfl) (fun z hz => .inl hz), Below.of_none k, hp'⟩
  have hqs := c.cs.both.qs.grown k
  exact { bl := c.cs.bl.trans ((Below.of_none k).mono c.cs.bl.size), both := ⟨hqs, ⟨hqs.mem, hqs.len, pa, b0, hb, hsz, show (0 : Int) ≤ 0 by omega, show (0 : Int) ≤ 65535 by omega, show (0 : Int) ≤ 0 by omega, show (0 : Int) ≤ 65535 by omega⟩⟩, uniq := c.cs.uniq, since := ⟨c.cs.since.1, Nat.le_trans c.cs.bl.size hp', c.cs.since.2.2.1, c.cs.since.2.2.2⟩, xge := c.cs.xge, b16 := c.cs.b16, len := c.cs.len, sz := c.cs.sz }
/-- A number is written into the memory. -/
theorem BS.cPut (c : BS w W x q g h base n sz s d u) (a k y : Int) (hy : 0 ≤ y) :
    Calls Try.prog 46 #[.pointer (some ⟨g, 0, none⟩), .int .i64 a, .int .i64 k, .int .u64 y] W
      fun e W' => e = .returned (.int .i64 (putE s.lm a k)) ∧ BS w W' x q g h base n sz { s with lm := putL s.lm a k y } d u ∧ Turned (fun j => j = h) W W' := by
  have hS : ∀ j, j = h → j = q ∨ j = s.p ∨ j = h ∨ j = s.mb := fun j hj => .inr (.inr (.inl hj))
  obtain ⟨b0, b1, n1, n2, hl, hb⟩ := c.cs.bds
  refine (Put_all W g h s.lm c.cs.both.qs.mem (by omega) a k y hy).mono ?_
  rintro e W' ⟨rfl, m, gr⟩
  have t : Turned (fun j => j = h) W W' := Turned.of gr (fun j e => by injection e with e; exact e.symm)
  have hlen : (putL s.lm a k y).length = s.lm.length := putL_length _ _ _ _
  refine ⟨rfl, c.code t hS ?_ (.inl rfl) (.inl rfl) (fun z hz => .inl hz), t⟩
  have hq := c.cs.both.qs
  have hps := c.cs.both.ps
  have hbl : Below w.heap.size w W' := c.cs.bl.trans (t.below c.cs.bl.size (by
    rintro k rfl
    exact c.cs.since.2.2.1))
  have hqs : QS W' q g h (putL s.lm a k y) base n s.mb s.cs s.off s.back s.br := hq.other hps.at_ ⟨t.os, t.tape, t.output, t.size, fun j hj hn => t.block j hj (fun e => hn (.inl e))⟩ m hlen
  have hps2 : PS W' s.p g h (putL s.lm a k y) base n s.tk s.td := { hps with mem := m, len := by rw [hlen]; exact hps.len, at_ := t.kept hps.at_ hps.ph, b1 := by rw [hlen]; exact hps.b1 }
  exact { bl := hbl, both := ⟨hqs, hps2⟩, uniq := c.cs.uniq, since := c.cs.since, xge := c.cs.xge, b16 := c.cs.b16, len := hlen.trans c.cs.len, sz := c.cs.sz }
theorem BS.rPut (c : BS w W x q g h base n sz s d u) (a k y : Int) (hy : 0 ≤ y) (hy2 : Hid (y < 18446744073709551616)) :
    Calls Try.prog 45 #[.string ⟨s.lm.toArray⟩, .int .i64 a, .int .i64 k, .int .u64 y] W
      fun e W' => e = .returned (.tuple #[.string ⟨(putL s.lm a k y).toArray⟩, .int .i64 (putE s.lm a k)]) ∧ BS w W' x q g h base n sz s d u ∧ Below W.heap.size W W' := by
  obtain ⟨b0, b1, n1, n2, hl, hb⟩ := c.cs.bds
  refine (refPut_all W s.lm a k y (by omega) hy hy2).mono ?_
  rintro e W' ⟨rfl, k⟩
  exact ⟨rfl, c.grow (Below.of_none k), Below.of_none k⟩
end

end Go.Proofs.Ytjelgifijhcnnaa
