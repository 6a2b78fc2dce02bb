/-
  Layer 4: New. Conditions: the memory is one that New made, of at most 65536 bytes, or none.
-/
import Derived.Test.YtmlicejhkdkhnaaNvC
import Derived.Test.YtmlicejhkdkhnaaRaG
import Derived.Test.YtmlicejhkdkhnaaVGoes
namespace Go.Proofs.Ytmlicejhkdkhnaa
open Go.RowKit Go.Conc Go.Sort
set_option linter.unusedVariables false

/-- A slice of texts, with a block of its own. -/
abbrev StrRow (w : World) (v : Value) (l : List (List UInt8)) : Prop := RowA 1 (fun (s : List UInt8) => [Value.string ⟨s.toArray⟩]) 9 w v l
theorem StrRow.kd {w : World} {v : Value} {l : List (List UInt8)} (h : StrRow w v l) {b : Nat} (hb : v.ownBlock = some b) : Kd w b 9 := by
  rcases h.2 with ⟨rfl, _⟩ | ⟨g, cap, cur, rfl, _, hg, _⟩
  · cases hb
  · have : g = b := by simpa [Value.ownBlock] using hb
    subst this
    exact ⟨_, hg, rfl⟩
theorem StrRow.carry {w w' : World} {v : Value} {l : List (List UInt8)} (h : StrRow w v l) {S : Nat → Prop} (t : Turned S w w') (hS : ∀ j, S j → ¬ Kd w j 9) : StrRow w' v l :=
  RowA.kept h t.size fun b hb => t.block b (by
    obtain ⟨x, hx, _⟩ := StrRow.kd h hb
    exact lt_of_block hx) fun hs => hS b hs (StrRow.kd h hb)
theorem info_strK : (Try.prog.info? 9).map (fun i => (i.zero, i.size, i.bytes)) = some (some (.string ⟨#[]⟩), 1, 16) := by kernel_rfl
theorem strrow_new (w : World) : StrRow (w.alloc (.cells #[] 9)) (.slice (some ⟨w.heap.size, 0, none⟩) 0 0) [] :=
  ⟨rfl, .inr ⟨w.heap.size, 0, #[], rfl, Nat.zero_le _, heap_alloc_new w _, Nat.le_refl _, Nat.zero_le _, rfl, rfl⟩⟩

/-- No block of the driver's is a row of texts. -/
theorem NS.noStr {w : World} {k : Bk} {v : Nv} {bc bg : Bool} (s : NS w k v bc bg) : ∀ j, k.all j → ¬ Kd w j 9 := by
  rintro j (e | e | e | e | e | e | e | e) hk
  · exact hk.ne s.mem.kh (by decide) e
  · exact hk.ne s.nic.kd (by decide) e
  · exact hk.ne s.c.kq (by decide) e
  · exact hk.ne s.c.km (by decide) e
  · exact hk.ne s.g.kq (by decide) e
  · exact hk.ne s.g.km (by decide) e
  · exact hk.ne s.pool.kp (by decide) e
  · exact hk.ne s.pool.kc (by decide) e
/-- A slice of texts whose block begins with no number. -/
structure SRow (w : World) (v : Value) (l : List (List UInt8)) : Prop where
  row : StrRow w v l
  ni : ∀ b, v.ownBlock = some b → ∀ x, w.cell? ⟨b, 0, none⟩ ≠ some (.int .i64 x)
theorem SRow.new (w : World) : SRow (w.alloc (.cells #[] 9)) (.slice (some ⟨w.heap.size, 0, none⟩) 0 0) [] :=
  ⟨strrow_new w, fun b hb x hx => by
    have : w.heap.size = b := by simpa [Value.ownBlock] using hb
    subst this
    rw [cell_of_block (heap_alloc_new w _)] at hx
    cases hx⟩
theorem SRow.push {w : World} {v : Value} {l : List (List UInt8)} {y : List UInt8} (h : StrRow w v (l ++ [y])) : SRow w v (l ++ [y]) :=
  ⟨h, fun b hb x hx => by
    obtain ⟨b', cap, rfl, _, _, _, _, hc⟩ := RowA.elem (k := 1) (enc := fun (s : List UInt8) => [Value.string ⟨s.toArray⟩]) (fun _ => rfl) h (by simp)
    have : b' = b := by simpa [Value.ownBlock] using hb
    subst this
    have := hc 0 (by simp) 0 _ rfl
    rw [Nat.zero_mul] at this
    rw [this] at hx
    cases hx⟩
theorem SRow.carry {w w' : World} {v : Value} {l : List (List UInt8)} (h : SRow w v l) {S : Nat → Prop} (t : Turned S w w') (hS : ∀ j, S j → ¬ Kd w j 9) : SRow w' v l :=
  ⟨StrRow.carry h.row t hS, fun b hb x hx => by
    have hk := StrRow.kd h.row hb
    obtain ⟨o, ho, _⟩ := hk
    rw [World.cell?_of_block (w := w) (a := ⟨b, 0, none⟩) (t.block b (lt_of_block ho) fun hs => hS b hs (StrRow.kd h.row hb))] at hx
    exact h.ni b hb x hx⟩
theorem SRow.grown {w w' : World} {v : Value} {l : List (List UInt8)} (h : SRow w v l) (k : w.grownBy w' none) : SRow w' v l := h.carry (S := fun _ => False) (Turned.of k (fun j e => by cases e)) (fun j h => h.elim)

/-- A row of texts has turned: the driver stays. -/
theorem NS.row {w w' : World} {k : Bk} {v : Nv} {bc bg : Bool} (s : NS w k v bc bg) {x : Value} {l : List (List UInt8)} (h : SRow w x l) (g : w.grownBy w' x.ownBlock) : NS w' k v bc bg := by
  have t : Turned (fun j => x.ownBlock = some j) w w' := Turned.of g (fun j e => e)
  have hk : ∀ j, x.ownBlock = some j → Kd w j 9 := fun j e => StrRow.kd h.row e
  have m' := t.mem s.mem (fun e => (hk _ e).ne s.mem.kg (by decide) rfl) (fun e => (hk _ e).ne s.mem.kh (by decide) rfl)
  exact s.other t (fun j e ho => s.noStr j (.inr ho) (hk j e)) (fun j e y => h.ni j e y) m' rfl

/-- The heads of what comes, all out. -/
structure HcOk (v : Nv) : Prop where
  nd : v.hc.Nodup
  len : v.hc.length = 8
  rg : ∀ y ∈ v.hc, 0 ≤ y ∧ y < 8
theorem mem_all {y : Int} (h0 : 0 ≤ y) (h1 : y < 8) : y ∈ allB := by
  rcases (show y = 0 ∨ y = 1 ∨ y = 2 ∨ y = 3 ∨ y = 4 ∨ y = 5 ∨ y = 6 ∨ y = 7 by omega) with rfl | rfl | rfl | rfl | rfl | rfl | rfl | rfl <;> decide
theorem free_one {hs : List Int} (nd : hs.Nodup) (hl : hs.length = 8) (rg : ∀ y ∈ hs, 0 ≤ y ∧ y < 8) {i : Int} (hi : i ∈ hs) : ∃ js, freeH (hs.filter fun y => y != i) = i :: js := by
  have hl7 := filter_one nd hi
  obtain ⟨j, js, hj⟩ := free_some (hs := hs.filter fun y => y != i) (by omega)
  have hjm : j ∈ freeH (hs.filter fun y => y != i) := by rw [hj]; exact List.mem_cons_self
  obtain ⟨j0, j1, j2⟩ := freeH_range hjm
  have hji : j = i := Decidable.byContradiction fun hne => by
    have hjh : j ∉ hs := fun h => j2 (List.mem_filter.2 ⟨h, by simpa using hne⟩)
    have := len_sub (l := j :: hs) (m := allB) (List.nodup_cons.2 ⟨hjh, nd⟩) (fun y hy => by
      rcases List.mem_cons.1 hy with e | e
      · rw [e]; exact mem_all j0 j1
      · exact mem_all (rg y e).1 (rg y e).2)
    rw [List.length_cons, hl] at this
    exact absurd this (by decide)
  exact ⟨js, by rw [hj, hji]⟩

/-- Chain i is back, and is offered again. -/
def againC (v : Nv) : Nv :=
  { v with hc := (v.hc.filter fun y => y != usedNum v.lm v.base 8 v.cb) ++ [usedNum v.lm v.base 8 v.cb], cb := (v.cb + 1) % 65536, lm := offL v.lm v.base v.co (usedNum v.lm v.base 8 v.cb) (usedNum v.lm v.base 8 v.cb), co := (v.co + 1) % 65536 }
/-- The queue of what comes anew. -/
def resetC (v : Nv) : Nv := { v with lm := offN v.base 8 (wipeL v.lm v.base 8), hc := allB, co := 8, cb := 0, resets := v.resets + 1, drops := v.drops + 1 }
/-- What Receive makes of a driver, and what is received, in at most so many steps. -/
def recvF : Nat → Nv → List (List UInt8) → Nv × List (List UInt8)
  | 0, v, l => (v, l)
  | f + 1, v, l =>
    if usedI v.lm v.base 8 = v.cb then (v, l)
    else if popBad v.lm v.base 612 v.hc v.cb then (resetC v, l)
    else match frameF v.lm v.base (usedNum v.lm v.base 8 v.cb) (usedLen v.lm v.base 8 v.cb) with
      | some s => recvF f (againC v) (l ++ [s])
      | none => recvF f (againC { v with drops := v.drops + 1 }) l

theorem HcOk.again {v : Nv} (o : HcOk v) (h : usedNum v.lm v.base 8 v.cb ∈ v.hc) : HcOk (againC v) := by
  have hl := filter_one o.nd h
  refine ⟨?_, ?_, fun y hy => ?_⟩
  · show ((v.hc.filter _) ++ [_]).Nodup
    rw [List.nodup_append]
    refine ⟨o.nd.filter _, by simp, fun a ha b hb e => ?_⟩
    rw [List.mem_singleton] at hb
    have := (List.mem_filter.1 ha).2
    rw [e, hb] at this
    simp at this
  · show ((v.hc.filter _) ++ [_]).length = 8
    rw [List.length_append, List.length_singleton, hl, o.len]
  · rcases List.mem_append.1 hy with h1 | h1
    · exact o.rg y (List.mem_filter.1 h1).1
    · rw [List.mem_singleton.1 h1]; exact o.rg _ h
theorem HcOk.reset (v : Nv) : HcOk (resetC v) := ⟨by show allB.Nodup; decide, rfl, (show ∀ y ∈ allB, 0 ≤ y ∧ y < 8 by decide)⟩
/-- Offering turns no byte of the used ring's index. -/
theorem offL_usedI {lm : List UInt8} {base : Int} (b0 : 0 ≤ base) (b1 : base + 216 ≤ lm.length) (co j i : Int) (j0 : 0 ≤ j) (j1 : j < 8) : usedI (offL lm base co j i) base 8 = usedI lm base 8 := by
  have e : usedAt (8 : Nat) = 148 := by decide
  have r0 : 0 ≤ co % (8 : Int) := Int.emod_nonneg _ (by omega)
  have r1 : co % (8 : Int) < 8 := Int.emod_lt_of_pos _ (by omega)
  have e' : ((8 : Nat) : Int) = 8 := rfl
  unfold usedI offL addL
  rw [put_apart _ _ _ _ _ _ (by omega), put_apart _ _ _ _ _ _ (by omega), descs_far lm base 8 [j] _ (fun y hy => by rw [List.mem_singleton.1 hy]; omega) _ _ (by omega)]

end Go.Proofs.Ytmlicejhkdkhnaa

namespace Go.Proofs.Ytmlicejhkdkhnaa
open Go.RowKit Go.Conc Go.Sort
set_option linter.unusedVariables false

theorem bufT_sub {k : Bk} {j : Nat} (h : j = k.h ∨ j = k.qc ∨ j = k.mc) : k.all j := h.elim .inl (fun h => h.elim (fun h => .inr (.inr (.inl h))) (fun h => .inr (.inr (.inr (.inl h)))))

set_option maxRecDepth 100000 in
set_option maxHeartbeats 4000000 in
theorem recv_any {w : World} {k : Bk} {v : Nv} (s : NS w k v false false) (o : HcOk v) (r0 : 0 ≤ v.resets) (r1 : v.resets < 4611686018427387904) (d0 : 0 ≤ v.drops) (d1 : v.drops < 2305843009213693952) (R : Nv × List (List UInt8))
    (hR : R = recvF (((usedI v.lm v.base 8 - v.cb) % 65536).toNat + 1) v []) :
    Calls Try.prog 15 #[.pointer (some ⟨k.n, 0, none⟩)] w fun e w' => ∃ x, e = .returned x ∧ SRow w' x R.2 ∧ (∀ b, x.ownBlock = some b → w.heap.size ≤ b) ∧ NTo w k R.1 w' := by
  have c15 := s.nic.c15
  have NN := Lib.hid (nnone_no w k.n c15)
  have hU := usedI_bd v.lm v.base 8
  obtain ⟨U, eU⟩ : ∃ U, U = usedI v.lm v.base 8 := ⟨_, rfl⟩
  rw [← eU] at hU hR
  obtain ⟨F, eF⟩ : ∃ F, F = ((U - v.cb) % 65536).toNat + 1 := ⟨_, rfl⟩
  have hF : F ≤ 65536 := by omega
  rw [← eF] at hR
  have S0 := Lib.hid (s.grown (World.grownBy_alloc w (.cells #[] 9) none))
  have K0 := Lib.hid (World.grownBy_alloc w (.cells #[] 9) none)
  have R0 := Lib.hid (SRow.new w)
  have O0 := Lib.hid o
  have HR := Lib.hid hR
  have EF := Lib.hid eF
  have EU := Lib.hid eU
  obtain ⟨i0, hi, hz0, hz1, hz2⟩ := info_parts info_strK
  have I1 := Lib.hid hi
  have I2 := Lib.hid hz0
  have I3 := Lib.hid hz1
  have I4 := Lib.hid hz2
  clear s o hR eF eU hi hz0 hz1 hz2 c15
  go_enter Try.func15, Try.ntmps15
  go_wp2_with (go_at_call 37; refine NN.out.mono ?_; rintro e w' ⟨rfl, rfl⟩)
  generalize w.alloc (.cells #[] 9) = W0 at S0 K0 R0 ⊢
  clear NN
  go_loopw [3] (fun lv wr => ∃ (u : Nv) (l : List (List UInt8)) (f : Nat), NS wr k u false false ∧ HcOk u ∧ u.resets = v.resets ∧ u.base = v.base ∧ 0 ≤ u.drops ∧ u.drops + f ≤ v.drops + F ∧ l.length + f ≤ F ∧ f = ((U - u.cb) % 65536).toNat + 1 ∧ Hid (R = recvF f u l) ∧ Hid (usedI u.lm u.base 8 = U) ∧ SRow wr lv l ∧ (∀ b, lv.ownBlock = some b → w.heap.size ≤ b) ∧ Turned k.all w wr) (fun _ wr => aheadW U k.qc wr)
  case atStart => exact ⟨v, [], F, S0.out, O0.out, rfl, rfl, d0, by omega, by simp, EF.out, HR.out, Lib.hid EU.out.symm, R0.out, fun b hb => Nat.le_of_eq (by simpa [Value.ownBlock] using hb), Turned.of K0.out (fun j e => by cases e)⟩
  case round =>
    obtain ⟨u, l, f, s, o, hr, hbs, hd0, hd, hl, hf, HRR, HU, row, hge, t⟩ := hrel
    have c2 := s.nic.c2
    have PC := Lib.hid s.c.pop
    have S := Lib.hid s
    have O := Lib.hid o
    have T := Lib.hid t
    have ROW := Lib.hid row
    have GE := Lib.hid hge
    have cb := s.c.bds
    have ME := Lib.hid (s.c.aheadW U)
    obtain ⟨f', hf'⟩ : ∃ f', f = f' + 1 := ⟨f - 1, by omega⟩
    obtain ⟨pv, cv, hpv⟩ := RowA.shape row.row
    subst hpv
    clear s o t row hge
    go_wp2_with fail
    refine PC.out.mono ?_
    rintro e w1 (⟨h1, rfl, k1⟩ | ⟨h1, h2, rfl, q1, t1⟩ | ⟨h1, h2, rfl, q1, t1⟩)
    · have hfin : R = (u, l) := by rw [HRR.out, hf']; unfold recvF; rw [if_pos h1]
      have HF := Lib.hid hfin
      have HN := Lib.hid (S.out.grown k1)
      have HW := Lib.hid (ROW.out.grown k1)
      have HT := Lib.hid (T.out.trans (Turned.of k1 (fun j e => by cases e)))
      clear hfin h1 k1 c2 PC
      go_wp2_with fail
      go_ret
      rw [HF.out]
      exact ⟨_, rfl, HW.out, GE.out, k, HN.out, Bk.to.refl _ _, HT.out⟩
    · have hfin : R = (resetC u, l) := by rw [HRR.out, hf']; unfold recvF; rw [if_neg h1, if_pos h2]
      have HF := Lib.hid hfin
      have W1 := Lib.hid (ROW.out.carry t1 (fun j hj => S.out.noStr j (bufT_sub hj)))
      have s1 := S.out.stepC (mc' := k.mc) t1 rfl (.inl rfl) q1
      have c2' := s1.nic.c2
      have RC := Lib.hid (resetC_any s1 (by show 0 ≤ u.resets; omega) (by show u.resets < _; omega))
      have T1 := Lib.hid (T.out.then t1 (fun j hj => .inl (bufT_sub hj)))
      have S1 := Lib.hid s1
      clear s1 t1 q1 c2 h1 h2 PC hfin
      go_wp2_with fail
      refine RC.out.mono ?_
      rintro e w2 ⟨rfl, mc', hmc, s2, t2⟩
      have W2 := Lib.hid (W1.out.carry t2 (fun j hj => S1.out.noStr j (by
        rcases hj with h | h | h
        · exact .inl h
        · exact .inr (.inr (.inl h))
        · exact .inr (.inl h))))
      have T2 := Lib.hid (T1.out.then t2 (by
        rintro j (h | h | h)
        · exact .inl (.inl h)
        · exact .inl (.inr (.inr (.inl h)))
        · exact .inl (.inr (.inl h))))
      have S2 := Lib.hid s2
      have OC := Lib.hid (offerAll_any s2 rfl rfl)
      have hz1 := T1.out.size
      clear s2 t2 RC c2'
      go_wp2_with fail
      refine OC.out.mono ?_
      rintro e w3 ⟨rfl, s3, t3⟩
      have W3 := Lib.hid (W2.out.carry t3 (fun j hj => S2.out.noStr j (bufT_sub (k := { k with mc := mc' }) hj)))
      have to3 : k.to { k with mc := mc' } w.heap.size := ⟨rfl, rfl, rfl, rfl, rfl, hmc.imp id (fun h => by show w.heap.size ≤ mc'; omega), .inl rfl, .inl rfl, .inl rfl⟩
      have T3 := Lib.hid (T2.out.then t3 (fun j hj => to3.all j (bufT_sub (k := { k with mc := mc' }) hj)))
      have c13 := s3.nic.c13
      have f13 := s3.nic.fz 13
      simp only at c13 f13
      have hw : IntKind.i64.wrap (u.drops + 1) = u.drops + 1 := wrap_small _ (by omega) (by omega)
      have tn : Turned (fun j => j = k.n) w3 (w3.setCell ⟨k.n, 13, none⟩ (.int .i64 (u.drops + 1))) := Turned.of (grown_setCell _ _ _ _) (fun j e => by injection e with e; exact e.symm)
      have W4 := Lib.hid (W3.out.carry tn (fun j hj => s3.noStr j (.inr (.inl hj))))
      have S4 := Lib.hid (s3.stepN tn (s3.nic.setDrops (u.drops + 1)))
      have T4 := Lib.hid (T3.out.then tn (fun j hj => .inl (.inr (.inl hj))))
      clear s3 t3 tn OC W3 W2 W1
      go_wp2_with fail
      go_ret
      rw [HF.out]
      exact ⟨_, rfl, W4.out, GE.out, _, S4.out, to3, T4.out⟩
    · have hmem : usedNum u.lm u.base 8 u.cb ∈ u.hc := Decidable.byContradiction fun e => h2 (.inr (.inl e))
      have hlen : usedLen u.lm u.base 8 u.cb ≤ 612 := Int.not_lt.1 fun e => h2 (.inr (.inr e))
      have hlen0 := (usedLen_bd u.lm u.base 8 u.cb).1
      obtain ⟨n0, n1⟩ := O.out.rg _ hmem
      obtain ⟨js, hjs⟩ := free_one O.out.nd O.out.len O.out.rg hmem
      have hstep : R = match frameF u.lm u.base (usedNum u.lm u.base 8 u.cb) (usedLen u.lm u.base 8 u.cb) with
        | some s => recvF f' (againC u) (l ++ [s])
        | none => recvF f' (againC { u with drops := u.drops + 1 }) l := by
          rw [HRR.out, hf']
          conv => lhs; unfold recvF
          rw [if_neg h1, if_neg h2]
          try rfl
      have h1u : u.cb ≠ U := fun e => h1 (by rw [HU.out]; exact e.symm)
      have hcb : f' = ((U - (u.cb + 1) % 65536) % 65536).toNat + 1 := by omega
      have hUA : usedI (againC u).lm u.base 8 = U := by
        show usedI (offL u.lm u.base u.co _ _) u.base 8 = U
        rw [offL_usedI cb.1 cb.2.1 _ _ _ n0 n1]; exact HU.out
      have OA := Lib.hid (O.out.again hmem)
      have s1 := S.out.stepC (mc' := k.mc) t1 rfl (.inl rfl) q1
      have W1 := Lib.hid (ROW.out.carry t1 (fun j hj => S.out.noStr j (bufT_sub hj)))
      have T1 := Lib.hid (T.out.then t1 (fun j hj => .inl (bufT_sub hj)))
      have FC := Lib.hid (frame_any s1 (usedNum u.lm u.base 8 u.cb) (usedLen u.lm u.base 8 u.cb) n0 n1 hlen0 hlen)
      simp only at FC
      have S1 := Lib.hid s1
      have HST := Lib.hid hstep
      have HUA := Lib.hid hUA
      have HJS := Lib.hid hjs
      clear s1 t1 q1 c2 h1 h2 PC hstep hmem hlen hlen0 hUA hjs
      obtain ⟨X, hX⟩ : ∃ X, X = frameF u.lm u.base (usedNum u.lm u.base 8 u.cb) (usedLen u.lm u.base 8 u.cb) := ⟨_, rfl⟩
      rw [← hX] at FC HST
      clear hX
      obtain ⟨Nn, hN⟩ : ∃ Nn, Nn = usedNum u.lm u.base 8 u.cb := ⟨_, rfl⟩
      obtain ⟨Ll, hL⟩ : ∃ Ll, Ll = usedLen u.lm u.base 8 u.cb := ⟨_, rfl⟩
      rw [← hN, ← hL] at FC
      rw [← hN] at n0 n1 HJS
      rw [← hN, ← hL]
      have HN := Lib.hid hN
      have HD := Lib.hid hd
      have HL := Lib.hid hl
      have HFF := Lib.hid hf'
      have HCB := Lib.hid hcb
      have HFE := Lib.hid hf
      have HH1 := Lib.hid h1u
      clear hN hL hd hl hf' hcb hf h1u
      cases X with
      | some sx =>
        simp only [frameV] at FC
        simp only at HST
        have KA := Lib.hid (World.grownBy_alloc w1 (.cells #[.string ⟨sx.toArray⟩] 9) none)
        have WA := Lib.hid (W1.out.grown KA.out)
        have SA := Lib.hid (S1.out.grown KA.out)
        go_wp2_with fail
        refine FC.out.mono ?_
        rintro e w2 ⟨rfl, rfl⟩
        go_wp2_with (at_builtin; refine wpList_append_many (k := 1) (enc := fun (s : List UInt8) => [Value.string ⟨s.toArray⟩]) (fun _ => rfl) (fun x u hu => by rw [List.mem_singleton.1 hu]; rfl) (by decide) rfl _ _ 34 rfl i0 (.string ⟨#[]⟩) 16 Try.underlying34 I1.out I2.out I3.out I4.out (by decide) rfl (.slice pv l.length cv) l rfl WA.out.row [sx] (by have := HL.out; simp only [List.length_cons, List.length_nil]; omega) ⟨w1.heap.size, 0, none⟩ 1 1 rfl rfl (fun j x hx => cell_one_new w1 _ _ j x hx) ?_; intro v3 w3 r3 g3 b3)
        have row3 := SRow.push r3
        have s3 := SA.out.row WA.out g3
        have T3 : Turned k.all w w3 := (T1.out.trans (Turned.of KA.out (fun j e => by cases e))).then (Turned.of (S := fun j => (Value.slice pv l.length cv).ownBlock = some j) g3 (fun j e => e)) (fun j e => .inr (GE.out j e))
        have ge3 : ∀ b, v3.ownBlock = some b → w.heap.size ≤ b := fun b hb => by
          rcases b3 with e | e
          · exact GE.out b (by rw [← e]; exact hb)
          · rw [e] at hb
            injection hb with hb
            have h1 := T1.out.size
            have h2 := KA.out.size
            omega
        have OC := Lib.hid (offer_any s3 Nn n0 n1 Nn js (by show freeH (u.hc.filter fun y => y != usedNum u.lm u.base 8 u.cb) = _; rw [← HN.out]; exact HJS.out))
        have T3' := Lib.hid T3
        have R3 := Lib.hid row3
        have G3 := Lib.hid ge3
        have NO := Lib.hid s3.noStr
        obtain ⟨p3, c3, hp3⟩ := RowA.shape row3.row
        rw [show (l ++ [sx]).length = l.length + 1 from List.length_append] at hp3
        subst hp3
        clear s3 T3 row3 ge3 r3 g3 b3
        go_wp2_with fail
        refine OC.out.mono ?_
        rintro e w4 ⟨rfl, s4, t4⟩
        have W4 := Lib.hid (R3.out.carry t4 (fun j hj => NO.out j (bufT_sub hj)))
        have T4 := Lib.hid (T3'.out.then t4 (fun j hj => .inl (bufT_sub hj)))
        have hA : NS w4 k (againC u) false false := by
          have h5 := s4
          rw [HN.out] at h5
          exact h5
        have S4 := Lib.hid hA
        clear s4 t4 hA OC
        go_wp2_with fail
        go_roundw
        case rel => exact ⟨againC u, l ++ [sx], f', S4.out, OA.out, hr, hbs, hd0, by have h1 := HD.out; have h2 := HFF.out; show u.drops + f' ≤ _; omega, by have h1 := HL.out; have h2 := HFF.out; simp only [List.length_append, List.length_cons, List.length_nil]; omega, HCB.out, HST, Lib.hid (by show usedI (againC u).lm u.base 8 = U; exact HUA.out), W4.out, G3.out, T4.out⟩
        case measure =>
          have h1 := ME.out
          have h2 := HFE.out
          have h3 := HFF.out
          have h4 := HCB.out
          rw [h1, S4.out.c.aheadW U]
          show ((U - (u.cb + 1) % 65536) % 65536).toNat < _
          omega
      | none =>
        simp only [frameV] at FC
        simp only at HST
        go_wp2_with fail
        refine FC.out.mono ?_
        rintro e w2 ⟨rfl, rfl⟩
        have c13 := S1.out.nic.c13
        have f13 := S1.out.nic.fz 13
        simp only at c13 f13
        have hw : IntKind.i64.wrap (u.drops + 1) = u.drops + 1 := wrap_small _ (by omega) (by have := HD.out; omega)
        go_wp2_with fail
        have tn : Turned (fun j => j = k.n) w1 (w1.setCell ⟨k.n, 13, none⟩ (.int .i64 (u.drops + 1))) := Turned.of (grown_setCell _ _ _ _) (fun j e => by injection e with e; exact e.symm)
        have s3 := S1.out.stepN tn (S1.out.nic.setDrops (u.drops + 1))
        have W3 := Lib.hid (W1.out.carry tn (fun j hj => S1.out.noStr j (.inr (.inl hj))))
        have T3 := Lib.hid (T1.out.then tn (fun j hj => .inl (.inr (.inl hj))))
        have OC := Lib.hid (offer_any s3 Nn n0 n1 Nn js (by show freeH (u.hc.filter fun y => y != usedNum u.lm u.base 8 u.cb) = _; rw [← HN.out]; exact HJS.out))
        have NO := Lib.hid s3.noStr
        clear s3 tn c13 f13
        refine OC.out.mono ?_
        rintro e w4 ⟨rfl, s4, t4⟩
        have W4 := Lib.hid (W3.out.carry t4 (fun j hj => NO.out j (bufT_sub hj)))
        have T4 := Lib.hid (T3.out.then t4 (fun j hj => .inl (bufT_sub hj)))
        have hA : NS w4 k (againC { u with drops := u.drops + 1 }) false false := by
          have h5 := s4
          rw [HN.out] at h5
          exact h5
        have S4 := Lib.hid hA
        clear s4 t4 hA OC
        go_wp2_with fail
        go_roundw
        case rel => exact ⟨againC { u with drops := u.drops + 1 }, l, f', S4.out, ⟨OA.out.nd, OA.out.len, OA.out.rg⟩, hr, hbs, by show 0 ≤ u.drops + 1; omega, by have h1 := HD.out; have h2 := HFF.out; show u.drops + 1 + f' ≤ _; omega, by have h1 := HL.out; have h2 := HFF.out; omega, HCB.out, HST, Lib.hid (by show usedI (againC u).lm u.base 8 = U; exact HUA.out), W4.out, GE.out, T4.out⟩
        case measure =>
          have h1 := ME.out
          have h2 := HFE.out
          have h3 := HFF.out
          have h4 := HCB.out
          rw [h1, S4.out.c.aheadW U]
          show ((U - (u.cb + 1) % 65536) % 65536).toNat < _
          omega

end Go.Proofs.Ytmlicejhkdkhnaa

namespace Go.Proofs.Ytmlicejhkdkhnaa
open Go.RowKit Go.Conc Go.Sort
set_option linter.unusedVariables false

/-- The memory ahead of the first offers. -/
def newL (lm : List UInt8) (base : Int) : List UInt8 := wipeL (wipeL (writeL lm base (List.replicate 10304 0)) base 8) (base + 224) 8
theorem newL_length (lm : List UInt8) (base : Int) : (newL lm base).length = lm.length := by unfold newL; rw [wipeL_length, wipeL_length, writeL_length]
/-- A driver that is new. -/
def newV (lm : List UInt8) (base : Int) : Nv := ⟨offN base 8 (newL lm base), base, allB, 8, 0, [], 0, 0, allB, [0, 0, 0, 0, 0, 0, 0, 0], 0, 0⟩
theorem newV_ok (lm : List UInt8) (base : Int) : NvOk (newV lm base) :=
  ⟨rfl, fun y hy => (by cases hy), List.nodup_nil, (show ∀ y ∈ allB, 0 ≤ y ∧ y < 8 by decide), (show ∀ y ∈ [(0 : Int), 0, 0, 0, 0, 0, 0, 0], 0 ≤ y ∧ y < 8 by decide), rfl, Int.le_refl _, Int.le_refl _⟩
theorem newV_hc (lm : List UInt8) (base : Int) : HcOk (newV lm base) := ⟨by show allB.Nodup; decide, rfl, (show ∀ y ∈ allB, 0 ≤ y ∧ y < 8 by decide)⟩

theorem q1_made {w : World} {q g h : Nat} {l : List UInt8} {base : Int} {mb : Nat} (m : Int) (me : Mem w g h (wipeL l base 8)) (hl : l.length ≤ 65536) (hq : QAt w q g base 8 (some mb) 0 0 false) (hb : IsTab w mb []) (b0 : 0 ≤ base) (b1 : base + 216 ≤ l.length) : Q1 w q g h (wipeL l base 8) base mb m [] 0 0 false :=
  ⟨[], ⟨me, by rw [wipeL_length]; exact hl, hq, hb, (fun x hx => by cases hx), (fun x hx => by cases hx), (fun x hx => by cases hx), b0, by rw [wipeL_length, show bytesOf (8 : Nat) = 216 by decide]; exact b1, by decide, by omega, by omega, by omega, by omega⟩, rfl⟩
theorem notI_h {w : World} {g h : Nat} {l : List UInt8} (m : Mem w g h l) : NotI w (fun j => j = h) := fun j e x hx => m.not_u8 hx (fun x e => by cases e) e

set_option maxRecDepth 100000 in
set_option maxHeartbeats 1000000 in
theorem new4_none (w : World) (p : Option Addr) (hp : IsNone w p) (base : Int) :
    Calls Try.prog 9 #[.pointer p, .int .i64 base] w fun e w' => e = .returned (.tuple #[.pointer none, .int .i64 2]) ∧ w.grownBy w' none := by
  have RC := Lib.hid (refuse4_none w p hp base)
  clear hp
  go_enter Try.func9, Try.ntmps9
  go_wp2_with fail
  refine RC.out.mono ?_
  rintro e w1 ⟨rfl, k1⟩
  go_wp2_with fail
  go_ret2
  exact ⟨rfl, k1⟩
set_option maxRecDepth 100000 in
set_option maxHeartbeats 1000000 in
theorem new4_err (w : World) (g h : Nat) (l : List UInt8) (m : Mem w g h l) (base : Int) (l0 : 1 ≤ l.length) (l1 : l.length ≤ 65536) (hbs : base ≤ 9223372036854775807) (E : Int) (hE : E = vbar l.length base) (hz : (E == 0) = false) :
    Calls Try.prog 9 #[.pointer (some ⟨g, 0, none⟩), .int .i64 base] w fun e w' => e = .returned (.tuple #[.pointer none, .int .i64 E]) ∧ w.grownBy w' none := by
  have RC := Lib.hid (refuse4_any w g h l m base l0 l1 hbs E hE)
  clear hE m
  go_enter Try.func9, Try.ntmps9
  go_wp2_with fail
  refine RC.out.mono ?_
  rintro e w1 ⟨rfl, k1⟩
  go_wp2_with fail
  go_ret2
  exact ⟨rfl, k1⟩

set_option maxRecDepth 100000 in
set_option maxHeartbeats 4000000 in
theorem new4_ok (w : World) (g h : Nat) (l : List UInt8) (m : Mem w g h l) (base : Int) (l0 : 1 ≤ l.length) (l1 : l.length ≤ 65536) (hbs : base ≤ 9223372036854775807) (hE : vbar l.length base = 0) :
    Calls Try.prog 9 #[.pointer (some ⟨g, 0, none⟩), .int .i64 base] w fun e w' => ∃ k : Bk, k.g = g ∧ k.h = h ∧ e = .returned (.tuple #[.pointer (some ⟨k.n, 0, none⟩), .int .i64 0]) ∧ NS w' k (newV l base) false false ∧
      (∀ j, k.own j → w.heap.size ≤ j) ∧ Turned (fun j => j = h) w w' := by
  obtain ⟨e1, e2, b0, b16, b1⟩ := vbar_ok hE
  have RC := Lib.hid (refuse4_any w g h l m base l0 l1 hbs 0 hE.symm)
  have M := Lib.hid m
  have hw : IntKind.i64.wrap (base + 224) = base + 224 := wrap_small _ (by omega) (by omega)
  clear hE m
  go_enter Try.func9, Try.ntmps9
  go_wp2_with fail
  refine RC.out.mono ?_
  rintro e w1 ⟨rfl, k1⟩
  have M1 := Lib.hid (M.out.same k1)
  go_wp2_with fail
  refine (noughts_any w1 10304 (by omega)).mono ?_
  rintro e w2 ⟨rfl, k2⟩
  have K2 := Lib.hid (k1.trans k2)
  have WC := Lib.hid (Write_all (w := w2) (g := g) (h := h) (l := l) (M1.out.same k2) (by omega) base (zerosB 10304) (by show 10304 ≤ _; omega))
  have hzL : (zerosB 10304).data.toList = List.replicate 10304 0 := rfl
  rw [hzL] at WC
  clear k1 k2 hzL
  generalize zerosB 10304 = Z at WC ⊢
  go_wp2_with fail
  refine WC.out.mono ?_
  rintro e w3 ⟨rfl, m3, k3⟩
  have T3 := Lib.hid ((Turned.of (S := fun j => j = h) K2.out (fun j e => by cases e)).trans (Turned.of k3 (fun j e => by injection e with e; exact e.symm)))
  obtain ⟨L, hL⟩ : ∃ L, L = writeL l base (List.replicate 10304 0) := ⟨_, rfl⟩
  have hLl : L.length = l.length := by rw [hL, writeL_length]
  rw [← hL] at m3
  have HL := Lib.hid hL
  have NC := Lib.hid (vNew_ok w3 g h L m3 base 8 (by omega) (by omega) (by omega) hbs (by rw [hLl]; exact e1))
  clear m3 k3 hL WC
  go_wp2_with fail
  refine NC.out.mono ?_
  rintro e w4 ⟨qc, mc, rfl, qc0, mc0, qa, qt, m4, t4⟩
  have C4 := Lib.hid (q1_made 612 m4 (by omega) qa qt b0 (by omega))
  have T4 := Lib.hid (T3.out.trans t4)
  have NC2 := Lib.hid (vNew_ok w4 g h (wipeL L base 8) m4 (base + 224) 8 (by rw [wipeL_length]; omega) (by rw [wipeL_length]; omega) (by omega) (by omega) (by rw [wipeL_length, hLl]; exact e2))
  clear qa qt m4 t4 NC
  go_wp2_with fail
  refine NC2.out.mono ?_
  rintro e w5 ⟨qg, mg, rfl, qg0, mg0, qa, qt, m5, t5⟩
  have hm4 := C4.out.mem
  have C5 := Lib.hid (C4.out.carry t5 (fun e => C4.out.kq.ne hm4.kh (by decide) e) (fun e => C4.out.km.ne hm4.kh (by decide) e) (notI_h hm4) m5 (wipeL_length _ _ _))
  have G5 := Lib.hid (q1_made 0 m5 (by rw [wipeL_length]; omega) qa qt (by omega) (by rw [wipeL_length]; omega))
  have T5 := Lib.hid (T4.out.trans t5)
  have z1 := T3.out.size
  have z2 := C4.out.lts
  have hqq : qc ≠ qg := by omega
  have hmm : mc ≠ mg := by omega
  have z3 := T5.out.size
  have hgw : g < w.heap.size ∧ h < w.heap.size := ⟨M.out.lt1, M.out.lt2⟩
  clear qa qt m5 t5 NC2 hm4
  go_wp2_with fail
  refine (allFree_any w5).mono ?_
  rintro e w6 ⟨pl, ch, rfl, pl0, ch0, P6, k6⟩
  have P6' := Lib.hid P6
  have K6 := Lib.hid k6
  clear P6 k6
  go_wp2_with fail
  generalize hw7 : w6.alloc _ = w7
  have k7 : w6.grownBy w7 none := by rw [← hw7]; exact World.grownBy_alloc _ _ _
  have hn7 : NicAt w7 w6.heap.size g base qc qg pl [0, 0, 0, 0, 0, 0, 0, 0] 0 0 := ⟨by rw [← hw7]; exact heap_alloc_new w6 _, rfl⟩
  have z6 := K6.out.size
  have S7 := Lib.hid (show NS w7 ⟨w6.heap.size, g, h, qc, mc, qg, mg, pl, ch⟩ ⟨newL l base, base, [], 0, 0, [], 0, 0, allB, [0, 0, 0, 0, 0, 0, 0, 0], 0, 0⟩ false false from by
    have hx : newL l base = wipeL (wipeL L base 8) (base + 224) 8 := by unfold newL; rw [← HL.out]
    rw [hx]
    exact ⟨(C5.out.grown K6.out).grown k7, (G5.out.grown K6.out).grown k7, hn7, P6'.out.grown k7, by show base + 10304 ≤ _; rw [wipeL_length, wipeL_length]; omega, hqq, hmm⟩)
  have T7 := Lib.hid ((T5.out.trans (Turned.of K6.out (fun j e => by cases e))).trans (Turned.of k7 (fun j e => by cases e)))
  have OC := Lib.hid (offerAll_any S7.out rfl rfl)
  clear hn7 k7 hw7
  refine OC.out.mono ?_
  rintro e w8 ⟨rfl, s8, t8⟩
  have S8 := Lib.hid s8
  have T8 := Lib.hid (T7.out.then t8 (by
    rintro j (h | h | h)
    · exact .inl h
    · exact .inr (by rw [h]; show w.heap.size ≤ qc; omega)
    · exact .inr (by rw [h]; show w.heap.size ≤ mc; omega)))
  clear s8 t8 OC
  go_wp2_with fail
  go_ret2
  refine ⟨⟨w6.heap.size, g, h, qc, mc, qg, mg, pl, ch⟩, rfl, rfl, rfl, S8.out, ?_, T8.out⟩
  rintro j (e | e | e | e | e | e | e) <;> rw [e] <;> simp only <;> omega

end Go.Proofs.Ytmlicejhkdkhnaa
