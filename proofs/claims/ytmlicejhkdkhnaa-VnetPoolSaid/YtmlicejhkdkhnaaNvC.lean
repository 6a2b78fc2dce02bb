/-
  Layer 4: a frame is sent. Conditions: the counts are those of a driver that is whole (NvOk).
-/
import Derived.Test.YtmlicejhkdkhnaaNvB
namespace Go.Proofs.Ytmlicejhkdkhnaa
open Go.RowKit Go.Conc Go.Sort
set_option linter.unusedVariables false

/-- Blocks that went on: those that may be made anew are the same, or newer than B. -/
structure Bk.to (k k' : Bk) (B : Nat) : Prop where
  n : k'.n = k.n
  g : k'.g = k.g
  h : k'.h = k.h
  qc : k'.qc = k.qc
  qg : k'.qg = k.qg
  mc : k'.mc = k.mc ∨ B ≤ k'.mc
  mg : k'.mg = k.mg ∨ B ≤ k'.mg
  pl : k'.pl = k.pl ∨ B ≤ k'.pl
  ch : k'.ch = k.ch ∨ B ≤ k'.ch
theorem Bk.to.refl (k : Bk) (B : Nat) : k.to k B := ⟨rfl, rfl, rfl, rfl, rfl, .inl rfl, .inl rfl, .inl rfl, .inl rfl⟩
theorem Bk.to.trans {k k' k'' : Bk} {B B' : Nat} (a : k.to k' B) (b : k'.to k'' B') (h : B ≤ B') : k.to k'' B := by
  obtain ⟨a1, a2, a3, a4, a5, a6, a7, a8, a9⟩ := a
  obtain ⟨b1, b2, b3, b4, b5, b6, b7, b8, b9⟩ := b
  refine ⟨b1.trans a1, b2.trans a2, b3.trans a3, b4.trans a4, b5.trans a5, ?_, ?_, ?_, ?_⟩
  · rcases b6 with e | e
    · rw [e]; exact a6
    · exact .inr (by omega)
  · rcases b7 with e | e
    · rw [e]; exact a7
    · exact .inr (by omega)
  · rcases b8 with e | e
    · rw [e]; exact a8
    · exact .inr (by omega)
  · rcases b9 with e | e
    · rw [e]; exact a9
    · exact .inr (by omega)
theorem Bk.to.all {k k' : Bk} {B : Nat} (a : k.to k' B) : ∀ j, k'.all j → k.all j ∨ B ≤ j := by
  obtain ⟨a1, a2, a3, a4, a5, a6, a7, a8, a9⟩ := a
  rintro j (e | e | e | e | e | e | e | e)
  · exact .inl (.inl (by rw [e, a3]))
  · exact .inl (.inr (.inl (by rw [e, a1])))
  · exact .inl (.inr (.inr (.inl (by rw [e, a4]))))
  · rcases a6 with h | h
    · exact .inl (.inr (.inr (.inr (.inl (by rw [e, h])))))
    · exact .inr (by omega)
  · exact .inl (.inr (.inr (.inr (.inr (.inl (by rw [e, a5]))))))
  · rcases a7 with h | h
    · exact .inl (.inr (.inr (.inr (.inr (.inr (.inl (by rw [e, h])))))))
    · exact .inr (by omega)
  · rcases a8 with h | h
    · exact .inl (.inr (.inr (.inr (.inr (.inr (.inr (.inl (by rw [e, h]))))))))
    · exact .inr (by omega)
  · rcases a9 with h | h
    · exact .inl (.inr (.inr (.inr (.inr (.inr (.inr (.inr (by rw [e, h]))))))))
    · exact .inr (by omega)

/-- What a call of the driver's leaves. -/
def NTo (w : World) (k : Bk) (v' : Nv) (w' : World) : Prop := ∃ k', NS w' k' v' false false ∧ k.to k' w.heap.size ∧ Turned k.all w w'
theorem NTo.trans {w w1 w2 : World} {k k1 : Bk} {v2 : Nv} (a : k.to k1 w.heap.size) (t : Turned k.all w w1) (b : NTo w1 k1 v2 w2) : NTo w k v2 w2 := by
  obtain ⟨k2, s, h, t2⟩ := b
  exact ⟨k2, s, a.trans h t.size, t.then t2 a.all⟩

/-- The counts of a driver that is whole. -/
structure NvOk (v : Nv) : Prop where
  fl : v.free.length + v.hg.length = 8
  hg : ∀ y ∈ v.hg, 0 ≤ y ∧ y < 8
  nd : v.hg.Nodup
  fr : ∀ y ∈ v.free, 0 ≤ y ∧ y < 8
  ou : ∀ y ∈ v.outs, 0 ≤ y ∧ y < 8
  ol : v.outs.length = 8
  r0 : 0 ≤ v.resets
  d0 : 0 ≤ v.drops

instance (lm : List UInt8) (base m : Int) (hs : List Int) (back : Int) : Decidable (popBad lm base m hs back) := by unfold popBad; infer_instance

/-- The queue of what goes, and the pool, anew. -/
def resetG (v : Nv) : Nv := { v with lm := wipeL v.lm (v.base + 224) 8, hg := [], go := 0, gb := 0, resets := v.resets + 1, free := allB }
/-- One buffer comes back. -/
def backG (v : Nv) : Nv := { v with hg := v.hg.filter fun y => y != usedNum v.lm (v.base + 224) 8 v.gb, gb := (v.gb + 1) % 65536, free := v.free ++ [v.outs.getD (usedNum v.lm (v.base + 224) 8 v.gb).toNat 0] }
/-- What regain makes of a driver, in at most so many steps. -/
def regF : Nat → Nv → Nv
  | 0, v => v
  | f + 1, v => if usedI v.lm (v.base + 224) 8 = v.gb then v else if popBad v.lm (v.base + 224) 0 v.hg v.gb then resetG v else regF f (backG v)

theorem filter_one {l : List Int} (nd : l.Nodup) {y : Int} (h : y ∈ l) : (l.filter fun z => z != y).length + 1 = l.length := by
  induction l with
  | nil => cases h
  | cons a l ih =>
    obtain ⟨na, nl⟩ := List.nodup_cons.1 nd
    by_cases e : a = y
    · subst e
      have : l.filter (fun z => z != a) = l := List.filter_eq_self.2 fun z hz => by
        have : z ≠ a := fun e => na (by rw [← e]; exact hz)
        simpa using this
      simp [this]
    · have hy : y ∈ l := by
        rcases List.mem_cons.1 h with e2 | e2
        · exact absurd e2.symm e
        · exact e2
      have := ih nl hy
      simp [e]
      omega
theorem NvOk.back {v : Nv} (o : NvOk v) (h : ¬ popBad v.lm (v.base + 224) 0 v.hg v.gb) : NvOk (backG v) ∧ (backG v).hg.length + 1 = v.hg.length := by
  unfold popBad at h
  have hm : usedNum v.lm (v.base + 224) 8 v.gb ∈ v.hg := Decidable.byContradiction fun e => h (.inr (.inl e))
  have hl := filter_one o.nd hm
  refine ⟨⟨?_, fun y hy => o.hg y (List.mem_filter.1 hy).1, o.nd.filter _, fun y hy => ?_, o.ou, o.ol, o.r0, o.d0⟩, hl⟩
  · show (v.free ++ [_]).length + (v.hg.filter _).length = 8
    have := o.fl
    simp only [List.length_append, List.length_singleton]
    omega
  · rcases List.mem_append.1 hy with hy | hy
    · exact o.fr y hy
    · rw [List.mem_singleton.1 hy]
      by_cases hi : (usedNum v.lm (v.base + 224) 8 v.gb).toNat < v.outs.length
      · rw [List.getD_eq_getElem?_getD, List.getElem?_eq_getElem hi]
        exact o.ou _ (List.getElem_mem _)
      · rw [List.getD_eq_getElem?_getD, List.getElem?_eq_none (by omega)]
        exact ⟨Int.le_refl _, by decide⟩
theorem NvOk.reset {v : Nv} (o : NvOk v) : NvOk (resetG v) :=
  ⟨rfl, fun y hy => (by cases hy), List.nodup_nil, (show ∀ y ∈ allB, 0 ≤ y ∧ y < 8 by decide), o.ou, o.ol, by show 0 ≤ v.resets + 1; have := o.r0; omega, o.d0⟩
theorem NvOk.reg : ∀ (f : Nat) {v : Nv}, NvOk v → NvOk (regF f v)
  | 0, _, o => o
  | f + 1, v, o => by
    unfold regF
    split
    · exact o
    · split
      · exact o.reset
      · rename_i h
        exact NvOk.reg f (o.back h).1

/-- How far a queue's used ring is ahead of the driver's count, as it stands in the queue's block. -/
def aheadW (U : Int) (q : Nat) (w : World) : Nat := ((U - intOf ((w.cell? ⟨q, 5, none⟩).getD undef)) % 65536).toNat
theorem Q1.aheadW {w : World} {q g h : Nat} {lm : List UInt8} {base : Int} {mb : Nat} {m : Int} {hs : List Int} {off back : Int} {br : Bool} (s : Q1 w q g h lm base mb m hs off back br) (U : Int) : Go.Proofs.Ytmlicejhkdkhnaa.aheadW U q w = ((U - back) % 65536).toNat := by
  unfold Go.Proofs.Ytmlicejhkdkhnaa.aheadW
  rw [s.at_.c5]
  rfl
theorem Q1.neg {w : World} {q g h : Nat} {lm : List UInt8} {base : Int} {mb : Nat} {m : Int} {hs : List Int} {off back : Int} {br : Bool} (s : Q1 w q g h lm base mb m hs off back br) : 0 ≤ usedI lm base 8 ∧ usedI lm base 8 ≤ 65535 := usedI_bd lm base 8

set_option maxRecDepth 100000 in
set_option maxHeartbeats 4000000 in
theorem regain_any {w : World} {k : Bk} {v : Nv} (s : NS w k v false false) (o : NvOk v) (r1 : v.resets < 4611686018427387904) :
    Calls Try.prog 39 #[.pointer (some ⟨k.n, 0, none⟩)] w fun e w' => e = .returned (.tuple #[]) ∧ NTo w k (regF (v.hg.length + 1) v) w' := by
  have S0 := Lib.hid s
  have O0 := Lib.hid o
  have hU := usedI_bd v.lm (v.base + 224) 8
  obtain ⟨U, eU⟩ : ∃ U, U = usedI v.lm (v.base + 224) 8 := ⟨_, rfl⟩
  rw [← eU] at hU
  have EU := Lib.hid eU
  clear s o eU
  go_enter Try.func39, Try.ntmps39
  go_wp2_with fail
  go_loopw [2] (fun _ wr => ∃ (u : Nv) (kk : Bk), NS wr kk u false false ∧ NvOk u ∧ Hid (regF (v.hg.length + 1) v = regF (u.hg.length + 1) u) ∧ u.resets = v.resets ∧ u.lm = v.lm ∧ u.base = v.base ∧ kk = k ∧ Turned k.all w wr) (fun _ wr => aheadW U k.qg wr)
  case atStart => exact ⟨v, k, S0.out, O0.out, Lib.hid rfl, rfl, rfl, rfl, rfl, Turned.refl _ _⟩
  case round =>
    obtain ⟨u, kk, s, o, HF, hr, hlm, hbs, rfl, t⟩ := hrel
    have c3 := s.nic.c3
    have PC := Lib.hid s.g.pop
    have S := Lib.hid s
    have O := Lib.hid o
    have T := Lib.hid t
    have gb := s.g.bds
    have ME := Lib.hid (s.g.aheadW U)
    clear s o t
    go_wp2_with fail
    refine PC.out.mono ?_
    rintro e w1 (⟨h1, rfl, k1⟩ | ⟨h1, h2, rfl, q1, t1⟩ | ⟨h1, h2, rfl, q1, t1⟩)
    · have hfin : regF (u.hg.length + 1) u = u := by unfold regF; rw [if_pos h1]
      have HS : Hid (NTo w kk (regF (v.hg.length + 1) v) w1) := Lib.hid (by
        rw [HF.out, hfin]
        exact ⟨kk, S.out.grown k1, Bk.to.refl _ _, T.out.trans (Turned.of k1 (fun j e => by cases e))⟩)
      clear hfin h1 k1 c3 PC HF
      go_wp2_with fail
      try simp only [Exit.inBlock, Exit.then]
      refine bodyPost_ret (results_none rfl _ _ _) rfl ?_
      exact ⟨rfl, HS.out⟩
    · have hfin : regF (u.hg.length + 1) u = resetG u := by unfold regF; rw [if_neg h1, if_pos h2]
      have s1 := S.out.stepG (mg' := kk.mg) t1 rfl (.inl rfl) q1
      have c3' := s1.nic.c3
      have RC := Lib.hid (resetG_any s1 O.out.r0 (by show u.resets < _; rw [hr]; exact r1))
      have T1 := Lib.hid (T.out.then t1 (by rintro j (h | h | h); exact .inl (.inl h); exact .inl (.inr (.inr (.inr (.inr (.inl h))))); exact .inl (.inr (.inr (.inr (.inr (.inr (.inl h))))))))
      clear s1 t1 q1 c3 h1 h2 PC
      go_wp2_with fail
      refine RC.out.mono ?_
      rintro e w2 ⟨rfl, mg', hmg, s2, t2⟩
      have S2 := Lib.hid s2
      have T2 := Lib.hid (T1.out.then t2 (by rintro j (h | h | h); exact .inl (.inl h); exact .inl (.inr (.inr (.inr (.inr (.inl h))))); exact .inl (.inr (.inl h))))
      clear s2 t2 RC c3'
      go_wp2_with fail
      refine (allFree_any w2).mono ?_
      rintro e w3 ⟨p, c, rfl, p0, c0, P3, k3⟩
      have s3 := S2.out.grown k3
      have f4 := s3.nic.fz 4
      have c4 := s3.nic.c4
      simp only at f4 c4
      have S4 := Lib.hid (s3.newPool P3)
      have T4 := Lib.hid ((T2.out.trans (Turned.of k3 (fun j e => by cases e))).trans (Turned.of (S := kk.all) (grown_setCell w3 kk.n 4 (.pointer (some ⟨p, 0, none⟩))) (fun j e => by injection e with e; exact .inr (.inl e.symm))))
      have hsz := T1.out.size
      have hsz2 := T2.out.size
      clear s3 P3 k3
      go_wp2_with fail
      try simp only [Exit.inBlock, Exit.then]
      refine bodyPost_ret (results_none rfl _ _ _) rfl ?_
      refine ⟨rfl, ?_⟩
      rw [HF.out, hfin]
      exact ⟨_, S4.out, ⟨rfl, rfl, rfl, rfl, rfl, .inl rfl, hmg.imp id (fun h => by show w.heap.size ≤ mg'; omega), .inr (by show w.heap.size ≤ p; omega), .inr (by show w.heap.size ≤ c; omega)⟩, T4.out⟩
    · have hfin : regF (u.hg.length + 1) u = regF ((backG u).hg.length + 1) (backG u) := by
        obtain ⟨_, e⟩ := O.out.back h2
        rw [e]
        conv => lhs; unfold regF
        rw [if_neg h1, if_neg h2]
      have s1 := S.out.stepG (mg' := kk.mg) t1 rfl (.inl rfl) q1
      have hmem : usedNum u.lm (u.base + 224) 8 u.gb ∈ u.hg := Decidable.byContradiction fun e => h2 (.inr (.inl e))
      obtain ⟨n0, n1⟩ := O.out.hg _ hmem
      obtain ⟨x, hx⟩ : ∃ x : Nat, usedNum u.lm (u.base + 224) 8 u.gb = (x : Int) := ⟨_, (Int.toNat_of_nonneg n0).symm⟩
      have hol := O.out.ol
      have hxl : x < u.outs.length := by omega
      have ob := O.out.back h2
      have hfl := O.out.fl
      have hhl := List.length_pos_of_mem hmem
      have hbk : backG u = { u with hg := u.hg.filter fun y => y != usedNum u.lm (u.base + 224) 8 u.gb, gb := (u.gb + 1) % 65536, free := u.free ++ [u.outs[x]] } := by
        unfold backG
        rw [hx, Int.toNat_natCast, List.getD_eq_getElem?_getD, List.getElem?_eq_getElem hxl]
        rfl
      have T1 := Lib.hid (T.out.then t1 (by rintro j (h | h | h); exact .inl (.inl h); exact .inl (.inr (.inr (.inr (.inr (.inl h))))); exact .inl (.inr (.inr (.inr (.inr (.inr (.inl h))))))))
      have HB := Lib.hid hbk
      have HFN := Lib.hid hfin
      have OB := Lib.hid ob
      have h1u : u.gb ≠ U := fun e => h1 (by rw [hlm, hbs, ← EU.out]; exact e.symm)
      have S1 := Lib.hid s1
      rw [hx]
      clear s1 t1 q1 c3 h1 h2 hmem hbk hfin ob hx
      go_wp2_with fail
      refine wp_region_noPanic ?_
      refine region_held (S := fun V => NicAt V kk.n kk.g u.base kk.qc kk.qg kk.pl u.outs u.drops u.resets) (by kernel_rfl) (fun V d => (S1.out.grown d.grown).nic) (fun V d hS => ?_)
      refine wpAnyH_take (i := 0) (oi := ⟨some 27, Op.move (Operand.tmp 0), _, _, _, none⟩) (v := (.pointer (some ⟨kk.n, 0, none⟩))) rfl (by kernel_rfl) (by kernel_rfl) (by kernel_rfl) (fun _ _ _ h => h) (Or.inl ⟨by rfl, fun w' h' => ?_⟩) hS ?_
      · clear h'
        go_simp
      simp only [Act.put]
      refine wpAnyH_take (i := 1) (oi := ⟨some 28, Op.nilCheck (Operand.tmp 27), _, _, _, none⟩) (v := (.pointer (some ⟨kk.n, 0, none⟩))) rfl (by kernel_rfl) (by kernel_rfl) (by kernel_rfl) (fun _ _ _ h => h) (Or.inl ⟨by rfl, fun w' h' => ?_⟩) hS ?_
      · clear h'
        go_simp
      simp only [Act.put]
      refine wpAnyH_take (i := 2) (oi := ⟨some 29, Op.fieldAddr 53 (Operand.tmp 28) 4, _, _, _, none⟩) (v := (.pointer (some ⟨kk.n, 4, none⟩))) rfl (by kernel_rfl) (by kernel_rfl) (by kernel_rfl) (fun _ _ _ h => h) (Or.inl ⟨by rfl, fun w' h' => ?_⟩) hS ?_
      · clear h'
        go_simp
      simp only [Act.put]
      refine wpAnyH_take (i := 3) (oi := ⟨some 30, Op.load 40 (Operand.tmp 29), _, _, _, none⟩) (v := (.pointer (some ⟨kk.pl, 0, none⟩))) rfl (by kernel_rfl) (by kernel_rfl) (by kernel_rfl) (fun _ _ _ h => h) (Or.inl ⟨by rfl, fun w' h' => ?_⟩) hS ?_
      · have c0 := h'.c4
        clear h'
        go_simp
      simp only [Act.put]
      refine wpAnyH_take (i := 4) (oi := ⟨some 31, Op.move (Operand.tmp 0), _, _, _, none⟩) (v := (.pointer (some ⟨kk.n, 0, none⟩))) rfl (by kernel_rfl) (by kernel_rfl) (by kernel_rfl) (fun _ _ _ h => h) (Or.inl ⟨by rfl, fun w' h' => ?_⟩) hS ?_
      · clear h'
        go_simp
      simp only [Act.put]
      refine wpAnyH_take (i := 5) (oi := ⟨some 32, Op.move (Operand.tmp 2), _, _, _, none⟩) (v := (.int .i64 (x : Int))) rfl (by kernel_rfl) (by kernel_rfl) (by kernel_rfl) (fun _ _ _ h => h) (Or.inl ⟨by rfl, fun w' h' => ?_⟩) hS ?_
      · clear h'
        go_simp
      simp only [Act.put]
      refine wpAnyH_take (i := 6) (oi := ⟨some 33, Op.nilCheck (Operand.tmp 31), _, _, _, none⟩) (v := (.pointer (some ⟨kk.n, 0, none⟩))) rfl (by kernel_rfl) (by kernel_rfl) (by kernel_rfl) (fun _ _ _ h => h) (Or.inl ⟨by rfl, fun w' h' => ?_⟩) hS ?_
      · clear h'
        go_simp
      simp only [Act.put]
      refine wpAnyH_take (i := 7) (oi := ⟨some 34, Op.fieldAddr 53 (Operand.tmp 33) 5, _, _, _, none⟩) (v := (.pointer (some ⟨kk.n, 5, none⟩))) rfl (by kernel_rfl) (by kernel_rfl) (by kernel_rfl) (fun _ _ _ h => h) (Or.inl ⟨by rfl, fun w' h' => ?_⟩) hS ?_
      · clear h'
        go_simp
      simp only [Act.put]
      refine wpAnyH_take (i := 8) (oi := ⟨some 35, Op.indexAddr 51 (Operand.tmp 34) (Operand.tmp 32), _, _, _, none⟩) (v := (.pointer (some ⟨kk.n, 5 + x, none⟩))) rfl (by kernel_rfl) (by kernel_rfl) (by kernel_rfl) (fun _ _ _ h => h) (Or.inl ⟨by rfl, fun w' h' => ?_⟩) hS ?_
      · have c0 := (show ¬ (8 : Int) ≤ (x : Int) by omega)
        clear h'
        go_simp
      simp only [Act.put]
      refine wpAnyH_take (i := 9) (oi := ⟨some 36, Op.load 3 (Operand.tmp 35), _, _, _, none⟩) (v := (.int .i64 u.outs[x])) rfl (by kernel_rfl) (by kernel_rfl) (by kernel_rfl) (fun _ _ _ h => h) (Or.inl ⟨by rfl, fun w' h' => ?_⟩) hS ?_
      · have c0 := h'.out x hxl
        clear h'
        go_simp
      simp only [Act.put]
      refine wpAnyH_ready (rs := [10]) (by kernel_rfl) (by simp) ?_
      refine AllReadyH.cons rfl (fun K hK => ?_) AllReadyH.nil
      go_simp
      refine (plgiveI (S1.out.grown d.grown).pool u.outs[x]).mono ?_
      rintro e w2 (⟨h1, _⟩ | ⟨_, rfl, P2, t2⟩)
      · exact absurd h1 (by show ¬ 8 ≤ u.free.length; omega)
      have N2 := Lib.hid ((S1.out.grown d.grown).stepP t2 P2)
      have T2 := Lib.hid ((Turned.of (S := fun j => j = kk.ch) d.grown (fun j e => by cases e)).trans t2)
      clear P2 t2
      go_simp
      refine hK.out _ _ N2.out.nic (fun _ => ?_)
      clear hK K
      refine wpAnyH_done (by kernel_rfl) (NoPanic.normal ?_) _
      have hN : NS w2 kk (backG u) false false := by rw [HB.out]; exact N2.out
      have HN := Lib.hid hN
      have HT := Lib.hid (T1.out.then T2.out (by rintro j h; exact .inl (.inr (.inr (.inr (.inr (.inr (.inr (.inr h)))))))))
      clear hN hS d
      go_wp2_with fail
      go_roundw
      case rel => exact ⟨backG u, kk, HN.out, OB.out.1, Lib.hid (HF.out.trans HFN.out), hr, hlm, hbs, rfl, HT.out⟩
      case measure =>
        rw [ME.out, HN.out.g.aheadW U]
        show ((U - (u.gb + 1) % 65536) % 65536).toNat < _
        omega

end Go.Proofs.Ytmlicejhkdkhnaa

namespace Go.Proofs.Ytmlicejhkdkhnaa
open Go.RowKit Go.Conc Go.Sort
set_option linter.unusedVariables false

theorem len_sub : ∀ {l m : List Int}, l.Nodup → (∀ y ∈ l, y ∈ m) → l.length ≤ m.length
  | [], _, _, _ => Nat.zero_le _
  | a :: l, m, nd, h => by
    obtain ⟨na, nl⟩ := List.nodup_cons.1 nd
    have h1 : a ∈ m := h a List.mem_cons_self
    have h2 : ∀ y ∈ l, y ∈ m.erase a := fun y hy => (List.mem_erase_of_ne (fun e => na (by rw [← e]; exact hy))).2 (h y (List.mem_cons_of_mem _ hy))
    have h3 := len_sub nl h2
    have h4 := List.length_erase_of_mem h1
    have h5 := List.length_pos_of_mem h1
    rw [List.length_cons]
    omega
theorem free_some {hs : List Int} (h : hs.length < 8) : ∃ j js, freeH hs = j :: js := by
  cases hf : freeH hs with
  | cons j js => exact ⟨j, js, rfl⟩
  | nil =>
    exfalso
    have : ∀ y ∈ allB, y ∈ hs := fun y hy => Decidable.byContradiction fun hn => by
      have : y ∈ freeH hs := by
        unfold freeH
        refine List.mem_filter.2 ⟨?_, by simpa using hn⟩
        have : ∀ y ∈ allB, y ∈ (List.range 8).map fun (i : Nat) => (i : Int) := by decide
        exact this y hy
      rw [hf] at this
      cases this
    have := len_sub (by decide) this
    have e : allB.length = 8 := rfl
    omega

/-- A frame's bytes with their head. -/
def textOf (s : List UInt8) : List UInt8 := List.replicate 12 0 ++ s
/-- Frame s goes, in buffer i, by chain j. -/
def sendB (u : Nv) (i : Int) (fs : List Int) (j : Int) (s : List UInt8) : Nv :=
  { u with lm := addL (writeL u.lm (bufA u.base (8 + i)) (textOf s)) (u.base + 224) 8 u.go [j] [⟨bufA u.base (8 + i), 12 + s.length, false⟩], hg := u.hg ++ [j], go := (u.go + 1) % 65536, free := fs, outs := u.outs.set j.toNat i }
/-- What Send makes of a driver behind regain, and what it answers. -/
def sendR (u : Nv) (s : List UInt8) : Nv × Int :=
  match u.free with
  | [] => (u, 6)
  | i :: fs => (sendB u i fs ((freeH u.hg).headD 0) s, 0)
/-- What Send makes of a driver, and what it answers. -/
def sendF (v : Nv) (s : List UInt8) : Nv × Int := if fitsE s.length = 0 then sendR (regF (v.hg.length + 1) v) s else (v, fitsE s.length)

theorem NvOk.send {u : Nv} (o : NvOk u) {i : Int} {fs : List Int} (hf : u.free = i :: fs) {j : Int} {js : List Int} (hj : freeH u.hg = j :: js) (s : List UInt8) : NvOk (sendB u i fs j s) := by
  have hjm : j ∈ freeH u.hg := by rw [hj]; exact List.mem_cons_self
  obtain ⟨j0, j1, j2⟩ := freeH_range hjm
  have hi := o.fr i (by rw [hf]; exact List.mem_cons_self)
  refine ⟨?_, fun y hy => ?_, ?_, fun y hy => o.fr y (by rw [hf]; exact List.mem_cons_of_mem _ hy), fun y hy => ?_, ?_, o.r0, o.d0⟩
  · have := o.fl
    rw [hf] at this
    show fs.length + (u.hg ++ [j]).length = 8
    simp only [List.length_cons, List.length_append, List.length_nil] at this ⊢
    omega
  · rcases List.mem_append.1 hy with h | h
    · exact o.hg y h
    · rw [List.mem_singleton.1 h]; exact ⟨j0, j1⟩
  · show (u.hg ++ [j]).Nodup
    rw [List.nodup_append]
    exact ⟨o.nd, by simp, fun a ha b hb e => j2 (by rw [List.mem_singleton] at hb; rw [← hb, ← e]; exact ha)⟩
  · rcases List.mem_or_eq_of_mem_set hy with h | h
    · exact o.ou y h
    · rw [h]; exact hi
  · show (u.outs.set j.toNat i).length = 8
    rw [List.length_set]; exact o.ol

set_option maxRecDepth 100000 in
set_option maxHeartbeats 4000000 in
theorem send_any {w : World} {k : Bk} {v : Nv} (s : NS w k v false false) (o : NvOk v) (r1 : v.resets < 4611686018427387904) (S : ByteArray) :
    Calls Try.prog 12 #[.pointer (some ⟨k.n, 0, none⟩), .string S] w fun e w' => e = .returned (.int .i64 (sendF v S.data.toList).2) ∧ NTo w k (sendF v S.data.toList).1 w' := by
  have hsz : S.data.toList.length = S.size := by rw [Array.length_toList]; rfl
  have c15 := s.nic.c15
  have NN := Lib.hid (nnone_no w k.n c15)
  have FC := Lib.hid (fits_any w S.size)
  unfold sendF
  rw [hsz]
  by_cases hE : fitsE S.size = 0
  · rw [if_pos hE]
    rw [hE] at FC
    have RC := Lib.hid (regain_any s o r1)
    have OU := Lib.hid (o.reg (v.hg.length + 1))
    generalize regF (v.hg.length + 1) v = u at RC OU ⊢
    have hS : S.size ≤ 600 := by
      unfold fitsE at hE
      split at hE
      · cases hE
      · split at hE
        · cases hE
        · omega
    obtain ⟨r, hr⟩ : ∃ r, r = sendR u S.data.toList := ⟨_, rfl⟩
    rw [← hr]
    unfold sendR at hr
    have HR := Lib.hid hr
    clear s o c15 hE r1 hr
    go_enter Try.func12, Try.ntmps12
    go_wp2_with (first | (go_at_call 37; refine NN.out.mono ?_; rintro e w' ⟨rfl, rfl⟩) | (go_at_call 38; refine FC.out.mono ?_; rintro e w' ⟨rfl, rfl⟩))
    refine RC.out.mono ?_
    rintro e w1 ⟨rfl, k1, s1, to1, t1⟩
    have c4 := s1.nic.c4
    have en := to1.n
    rw [en] at c4
    have TC := Lib.hid (pltakeI s1.pool)
    have S1 := Lib.hid s1
    have T1 := Lib.hid t1
    have TO := Lib.hid to1
    clear s1 t1 to1 RC NN FC
    go_wp2_with fail
    refine TC.out.mono ?_
    rintro e w2 (⟨h1, rfl, rfl⟩ | ⟨i, fs, hf, rfl, P2, t2⟩)
    · have HF : Hid (NTo w k u w2) := Lib.hid ⟨k1, S1.out, TO.out, T1.out⟩
      have hr := HR.out
      rw [h1] at hr
      simp only at hr
      subst hr
      clear c4 TC
      go_wp2_with fail
      go_ret
      exact ⟨rfl, HF.out⟩
    · have hi := OU.out.fr i (by rw [hf]; exact List.mem_cons_self)
      have hlen : u.hg.length < 8 := by have := OU.out.fl; rw [hf] at this; simp only [List.length_cons] at this; omega
      obtain ⟨j, js, hj⟩ := free_some hlen
      have s2 := S1.out.stepP t2 P2
      have T2 := Lib.hid (TO.out.trans (Bk.to.refl k1 w1.heap.size) T1.out.size)
      have TT2 := Lib.hid (T1.out.then t2 (fun j hj => TO.out.all j (.inr (.inr (.inr (.inr (.inr (.inr (.inr hj)))))))))
      have b0 := s2.b0
      have b1 := s2.b1
      have hl2 := s2.len
      simp only at b0 b1 hl2
      have BC := Lib.hid (bufferAt_any s2.nic b0 (by show u.base ≤ 65536; omega) (8 + i) (by omega) (by omega))
      rw [en] at BC
      have ha0 : 0 ≤ bufA u.base (8 + i) := by unfold bufA; omega
      have ha1 : bufA u.base (8 + i) + 612 ≤ u.lm.length := by unfold bufA; omega
      obtain ⟨a, ha⟩ : ∃ a, a = bufA u.base (8 + i) := ⟨_, rfl⟩
      have BC' : Hid (Calls Try.prog 40 #[.pointer (some ⟨k.n, 0, none⟩), .int .i64 (8 + i)] w2 fun e w' => e = .returned (.int .i64 a) ∧ w2 = w') := by rw [ha]; exact BC
      rw [← ha] at ha0 ha1
      have wi : IntKind.i64.wrap (8 + i) = 8 + i := wrap_small _ (by omega) (by omega)
      have S2 := Lib.hid s2
      have HF := Lib.hid hf
      have HJ := Lib.hid hj
      have HA := Lib.hid ha
      have hr := HR.out
      rw [hf] at hr
      simp only at hr
      have hr2 : r.2 = 0 := by rw [hr]
      have HR2 := Lib.hid hr
      have hz12 : (zerosB 12).size = 12 := rfl
      have hcat : ¬ (9223372036854775807 : Int) < ((zerosB 12).size : Int) + (S.size : Int) := by rw [hz12]; omega
      clear s2 t2 P2 c4 TC hf hj ha BC T2 hr
      go_wp2_with fail
      refine BC'.out.mono ?_
      rintro e w3 ⟨rfl, rfl⟩
      go_wp2_with fail
      refine (noughts_any w2 12 (by omega)).mono ?_
      rintro e w3 ⟨rfl, k3⟩
      have hX : (zerosB 12 ++ S).data.toList = textOf S.data.toList := by
        rw [ByteArray.data_append, Array.toList_append]
        rfl
      have hXs : (zerosB 12 ++ S).size = 12 + S.size := by rw [ByteArray.size_append]; rfl
      have HX := Lib.hid hX
      have HXS := Lib.hid hXs
      have s3 := S2.out.grown k3
      have c0 := s3.nic.c0
      simp only [en] at c0
      have WC := Lib.hid (fun (X : ByteArray) (h : X.size ≤ 9223372036854775807) => Write_all (w := w3) (g := k1.g) (h := k1.h) (l := u.lm) s3.mem (by omega) a X h)
      have S3 := Lib.hid s3
      have T3 := Lib.hid (TT2.out.trans (Turned.of k3 (fun j e => by cases e)))
      clear s3 k3 hX hXs BC'
      go_wp2_with fail
      generalize zerosB 12 ++ S = X at HX HXS ⊢
      refine (WC.out X (by have := HXS.out; omega)).mono ?_
      rintro e w4 ⟨rfl, m4, k4⟩
      have t4 : Turned (fun j => j = k1.h) w3 w4 := Turned.of k4 (fun j e => by injection e with e; exact e.symm)
      have s4 := S3.out.other t4 (by
        rintro j rfl (h | h | h | h | h | h | h)
        · exact S3.out.ap.1.1 h.symm
        · exact S3.out.ap.2.2.2.1 h.symm
        · exact S3.out.ap.2.2.2.2.2.1 h.symm
        · exact S3.out.ap.2.2.2.2.1 h.symm
        · exact S3.out.ap.2.2.2.2.2.2.1 h.symm
        · exact S3.out.ap.2.1.1 h.symm
        · exact S3.out.ap.2.2.1.1 h.symm) (fun j hj => S3.out.notI j (.inl hj)) m4 (writeL_length _ _ _)
      have T4 := Lib.hid (T3.out.then t4 (fun j hj => TO.out.all j (.inl hj)))
      have c3 := s4.nic.c3
      simp only [en] at c3
      have S4 := Lib.hid s4
      have hXs := HXS.out
      clear s4 t4 k4 m4 WC c0 S3
      go_wp2_with fail
      generalize hw5 : w4.alloc _ = w5
      have k5 : w4.grownBy w5 none := by rw [← hw5]; exact World.grownBy_alloc _ _ _
      have hb5 : IsBufs w5 (.slice (some ⟨w4.heap.size, 0, none⟩) 1 1) [⟨a, 12 + (S.size : Int), false⟩] := by rw [← hw5]; exact bufs_new w4 [⟨a, 12 + (S.size : Int), false⟩] 83 1 (show 1 ≤ 1000 by decide)
      have s5 := S4.out.grown k5
      have AC := Lib.hid (s5.g.add _ ⟨a, 12 + (S.size : Int), false⟩ hb5 (by show (1 : Int) ≤ 12 + (S.size : Int); omega) ha0 (by show a + (12 + (S.size : Int)) ≤ (writeL u.lm a X.data.toList).length; rw [writeL_length]; omega) rfl j js HJ.out)
      have S5 := Lib.hid s5
      have T5 := Lib.hid (T4.out.trans (Turned.of k5 (fun j e => by cases e)))
      clear s5 k5 hb5 hw5 c3
      refine AC.out.mono ?_
      rintro e w6 ⟨rfl, q6, t6⟩
      have s6 := S5.out.stepG (mg' := k1.mg) t6 (by show (addL _ _ _ _ _ _).length = (writeL u.lm a X.data.toList).length; exact addL_length _ _ _ _ _ _) (.inl rfl) q6
      have T6 := Lib.hid (T5.out.then t6 (fun j hj => TO.out.all j (by
        rcases hj with h | h | h
        · exact .inl h
        · exact .inr (.inr (.inr (.inr (.inl h))))
        · exact .inr (.inr (.inr (.inr (.inr (.inl h))))))))
      have hjm : j ∈ freeH u.hg := by rw [HJ.out]; exact List.mem_cons_self
      obtain ⟨j0, j1, j2⟩ := freeH_range hjm
      obtain ⟨x, rfl⟩ : ∃ x : Nat, j = (x : Int) := ⟨_, (Int.toNat_of_nonneg j0).symm⟩
      have hol := OU.out.ol
      have hxl : x < u.outs.length := by omega
      have hx8 : x < 8 := by omega
      have cx := s6.nic.out x hxl
      have fx := s6.nic.fz (5 + x)
      simp only [en] at cx fx
      have hnot : ¬ (8 : Int) ≤ (x : Int) := by omega
      have S6 := Lib.hid s6
      clear s6 q6 t6 AC S5 hjm
      go_wp2_with fail
      have tn : Turned (fun j => j = k1.n) w6 (w6.setCell ⟨k1.n, 5 + x, none⟩ (.int .i64 i)) := Turned.of (grown_setCell _ _ _ _) (fun j e => by injection e with e; exact e.symm)
      have s7 := S6.out.stepN tn (S6.out.nic.setOut x hx8 i)
      have T7 := Lib.hid (T6.out.then tn (fun j hj => TO.out.all j (.inr (.inl hj))))
      have S7 := Lib.hid s7
      clear s7 tn cx fx
      go_ret
      rw [hr2]
      refine ⟨rfl, k1, ?_, TO.out, by rw [← en]; exact T7.out⟩
      have hfin := S7.out
      rw [HX.out] at hfin
      rw [HR2.out]
      simp only
      unfold sendB
      rw [HJ.out, ← HA.out, hsz]
      rw [← en]
      exact hfin
  · rw [if_neg hE]
    have hz : (fitsE (S.size : Int) == 0) = false := by simpa using hE
    have HS : Hid (NTo w k v w) := Lib.hid ⟨k, s, Bk.to.refl _ _, Turned.refl _ _⟩
    generalize fitsE (S.size : Int) = E at hz FC ⊢
    clear s o c15 hE r1
    go_enter Try.func12, Try.ntmps12
    go_wp2_with (first | (go_at_call 37; refine NN.out.mono ?_; rintro e w' ⟨rfl, rfl⟩) | (go_at_call 38; refine FC.out.mono ?_; rintro e w' ⟨rfl, rfl⟩))
    go_ret
    exact ⟨rfl, HS.out⟩

end Go.Proofs.Ytmlicejhkdkhnaa
