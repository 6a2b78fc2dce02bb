/-
  Layer 3: what a driver keeps of what is out; how many descriptors are free; a driver with its queue. No conditions.
-/
import Derived.Test.YtdchlnffbiooaaaGreatDoorBlkE
namespace Go.Proofs.YtdchlnffbiooaaaGreatDoor
open Go.RowKit Go.Sort

/-- An order that is out, as the driver keeps it. -/
structure Snt where
  hd : Int
  id : Int
  kind : Int
  slot : Int
  since : Int
def Snt.val (x : Snt) : Value := .agg #[.int .i64 x.id, .int .i64 x.kind, .int .i64 x.slot, .int .i64 x.since]
def Snt.ent (x : Snt) : Int × Value := (x.hd, x.val)

/-- Of n descriptors so many are free. -/
theorem count_step (D : List Int) (n : Nat) : D.countP (fun y => decide (y < (n : Int))) + (if D.any (· == (n : Int)) then 1 else 0) ≤ D.countP (fun y => decide (y < ((n + 1 : Nat) : Int))) := by
  induction D with
  | nil => simp
  | cons a D ih =>
    rw [List.countP_cons, List.countP_cons, List.any_cons]
    by_cases h1 : a = (n : Int)
    · subst h1
      have e1 : decide (((n : Int)) < (n : Int)) = false := decide_eq_false (by omega)
      have e2 : decide (((n : Int)) < ((n + 1 : Nat) : Int)) = true := decide_eq_true (by omega)
      rw [e1, e2]
      simp only [beq_self_eq_true, Bool.true_or, if_true, Bool.false_eq_true, if_false]
      have : D.countP (fun y => decide (y < (n : Int))) ≤ D.countP (fun y => decide (y < ((n + 1 : Nat) : Int))) := by
        cases hD : D.any (· == (n : Int)) with
        | true => rw [hD, if_pos rfl] at ih; omega
        | false => rw [hD, if_neg (by decide)] at ih; omega
      omega
    · have e1 : (a == (n : Int)) = false := beq_eq_false_iff_ne.2 h1
      rw [e1, Bool.false_or]
      by_cases h2 : a < (n : Int)
      · have e2 : decide (a < (n : Int)) = true := decide_eq_true h2
        have e3 : decide (a < ((n + 1 : Nat) : Int)) = true := decide_eq_true (by omega)
        rw [e2, e3]
        simp only [if_true]
        omega
      · have e2 : decide (a < (n : Int)) = false := decide_eq_false h2
        have e3 : decide (a < ((n + 1 : Nat) : Int)) = false := decide_eq_false (by omega)
        rw [e2, e3]
        simp only [Bool.false_eq_true, if_false]
        omega
theorem free_count (cs : List Ch) : ∀ n : Nat, n ≤ (freeL cs n).length + (cs.flatMap Ch.of).countP (fun y => decide (y < (n : Int)))
  | 0 => Nat.zero_le _
  | n + 1 => by
    have ih := free_count cs n
    have hs := count_step (cs.flatMap Ch.of) n
    rw [freeL_succ, List.length_append]
    have ht : (cs.flatMap Ch.of).any (· == (n : Int)) = takenBy cs n := by
      unfold takenBy
      rw [List.any_flatMap]
    rw [ht] at hs
    cases h : takenBy cs n with
    | true => rw [h, if_pos rfl] at hs; rw [if_pos rfl]; simp only [List.length_nil]; omega
    | false => rw [h, if_neg (by decide)] at hs; rw [if_neg (by decide)]; simp only [List.length_singleton]; omega
theorem free_three (cs : List Oc) (n k : Nat) (h : ∀ x ∈ cs, x.c.of.length ≤ 3) (hk : cs.length ≤ k) : n ≤ (freeL (cs.map Oc.c) n).length + 3 * k := by
  have h1 := free_count (cs.map Oc.c) n
  have h2 : ((cs.map Oc.c).flatMap Ch.of).countP (fun y => decide (y < (n : Int))) ≤ ((cs.map Oc.c).flatMap Ch.of).length := List.countP_le_length
  have h3 : ∀ cs : List Oc, (∀ x ∈ cs, x.c.of.length ≤ 3) → ((cs.map Oc.c).flatMap Ch.of).length ≤ 3 * cs.length := by
    intro cs h
    induction cs with
    | nil => simp
    | cons a cs ih =>
      have := ih fun x hx => h x (List.mem_cons_of_mem _ hx)
      have := h a (List.mem_cons_self ..)
      simp only [List.map_cons, List.flatMap_cons, List.length_append, List.length_cons]
      omega
  have := h3 cs h
  omega

/-- A driver with its queue and all that is out. -/
structure KS (w : World) (b g h q u mb : Nat) (lm : List UInt8) (base sectors limit : Int) (os : List Snt) (cs : List Oc) (off back : Int) (broken : Bool) (last now : Int) (dead : Bool) : Prop where
  kat : KAt w b g base sectors limit q u last now dead
  qs : QS w q g h lm base 32 mb cs off back broken
  tab : IsTab w u (os.map Snt.ent)
  une : u ≠ mb
  hds : os.map Snt.hd = cs.map fun x => x.c.head
  slots : (os.map Snt.slot).Nodup
  bds : ∀ x ∈ os, 0 ≤ x.slot ∧ x.slot < 8 ∧ 1 ≤ x.id ∧ x.id ≤ last ∧ 0 ≤ x.since ∧ x.since ≤ now
  ids : (os.map Snt.id).Pairwise (· < ·)
  few : os.length ≤ 8
  three : ∀ x ∈ cs, x.c.of.length ≤ 3
  brk : broken = true → dead = true
  b1 : base + 1616 ≤ lm.length
  last0 : 0 ≤ last
  now0 : 0 ≤ now

/-- What a driver's calls may turn. -/
def KB (b q h mb u : Nat) : Nat → Prop := fun k => k = h ∨ k = q ∨ k = mb ∨ k = b ∨ k = u

theorem KAt.turned {w w' : World} {b g h : Nat} {base sectors limit : Int} {q u : Nat} {last now : Int} {dead : Bool} (hk : KAt w b g base sectors limit q u last now dead) {lm : List UInt8} {qb : Int} {n mb : Nat} {cs : List Oc} {off back : Int} {broken : Bool}
    (s : QS w q g h lm qb n mb cs off back broken) (t : Turned (QB q h mb) w w') : KAt w' b g base sectors limit q u last now dead := by
  refine hk.kept (t.block _ (lt_of_block hk) ?_)
  rintro (e | e | e)
  · exact s.mem.not_u8 hk.c0 (fun x e => by cases e) e
  · have h2 := s.at_
    rw [← e] at h2
    unfold QAt at h2
    unfold KAt at hk
    rw [hk] at h2
    injection h2 with h2
    injection h2 with _ h2
    exact absurd h2 (by decide)
  · obtain ⟨es, clock, hb, _⟩ := s.tab
    unfold KAt at hk
    rw [← e, hk] at hb
    cases hb
theorem tab_turned {w w' : World} {u g h q : Nat} {es : List (Int × Value)} (ht : IsTab w u es) {lm : List UInt8} {qb : Int} {n mb : Nat} {cs : List Oc} {off back : Int} {broken : Bool}
    (s : QS w q g h lm qb n mb cs off back broken) (une : u ≠ mb) (t : Turned (QB q h mb) w w') : IsTab w' u es :=
  ht.kept (t.block _ ht.lt (by rintro (e | e | e); exact tab_ne ht s.mem.2 e; exact tab_ne ht s.at_ e; exact une e))

section
variable {w w' : World} {b g h q u mb : Nat} {lm : List UInt8} {base sectors limit : Int} {os : List Snt} {cs : List Oc} {off back : Int} {broken : Bool} {last now : Int} {dead : Bool}
theorem KS.grown (s : KS w b g h q u mb lm base sectors limit os cs off back broken last now dead) (k : w.grownBy w' none) : KS w' b g h q u mb lm base sectors limit os cs off back broken last now dead :=
  { s with kat := s.kat.kept (k.block _ (lt_of_block s.kat) (by simp)), qs := s.qs.grown k, tab := s.tab.kept (k.block _ s.tab.lt (by simp)) }
theorem KS.len (s : KS w b g h q u mb lm base sectors limit os cs off back broken last now dead) : cs.length = os.length := by
  have := congrArg List.length s.hds
  simpa using this.symm
theorem KS.bh (s : KS w b g h q u mb lm base sectors limit os cs off back broken last now dead) : b ≠ h := s.qs.mem.not_u8 s.kat.c0 (fun x e => by cases e)
theorem KS.bq (s : KS w b g h q u mb lm base sectors limit os cs off back broken last now dead) : b ≠ q := by
  rintro rfl
  have h1 := s.kat
  have h2 := s.qs.at_
  unfold QAt at h2
  unfold KAt at h1
  rw [h1] at h2
  injection h2 with h2
  injection h2 with _ h2
  exact absurd h2 (by decide)
theorem KS.bg (s : KS w b g h q u mb lm base sectors limit os cs off back broken last now dead) : b ≠ g := by
  rintro rfl
  have h1 := s.kat
  have h2 := s.qs.mem.1
  unfold KAt at h1
  rw [h1] at h2
  injection h2 with h2
  injection h2 with _ h2
  exact absurd h2 (by decide)
theorem KS.bmb (s : KS w b g h q u mb lm base sectors limit os cs off back broken last now dead) : b ≠ mb := by
  rintro rfl
  exact tab_ne s.qs.tab s.kat rfl
theorem KS.ub (s : KS w b g h q u mb lm base sectors limit os cs off back broken last now dead) : u ≠ b ∧ u ≠ g ∧ u ≠ h ∧ u ≠ q := ⟨tab_ne s.tab s.kat, tab_ne s.tab s.qs.mem.1, tab_ne s.tab s.qs.mem.2, tab_ne s.tab s.qs.at_⟩
theorem KS.bl (s : KS w b g h q u mb lm base sectors limit os cs off back broken last now dead) : 0 ≤ base ∧ base ≤ 65536 - 1616 ∧ lm.length ≤ 65536 := by have := s.qs.len; have := s.b1; have := s.qs.b0; omega
/-- The driver's struct is written: the queue stays. -/
theorem KS.queue (s : KS w b g h q u mb lm base sectors limit os cs off back broken last now dead) (k : w.grownBy w' (some b)) : QS w' q g h lm base 32 mb cs off back broken ∧ IsTab w' u (os.map Snt.ent) := by
  have keep : ∀ x, x < w.heap.size → x ≠ b → w'.heap[x]? = w.heap[x]? := fun x hx hn => k.block x hx (fun e => hn (by injection e with e))
  have m : Mem w' g h lm := ⟨(keep _ s.qs.mem.lt1 (fun e => s.bg e.symm)).trans s.qs.mem.1, (keep _ s.qs.mem.lt2 (fun e => s.bh e.symm)).trans s.qs.mem.2⟩
  refine ⟨{ s.qs with mem := m, at_ := s.qs.at_.kept (keep _ s.qs.lts.1 (fun e => s.bq e.symm)), tab := s.qs.tab.kept (keep _ s.qs.lts.2.2.2 (fun e => s.bmb e.symm)), nums := fun x hx => ?_ }, s.tab.kept (keep _ s.tab.lt s.ub.1)⟩
  obtain ⟨a1, a2, a3⟩ := s.qs.nums x hx
  refine ⟨a1, fun i hi => ?_, a3⟩
  have hc := a2 i hi
  by_cases hb : x.blk = b
  · exfalso
    have h0 := a2 0 (by omega)
    rw [hb, s.kat.c0] at h0
    cases h0
  · rw [World.cell?_of_block (w := w) (a := ⟨x.blk, i, none⟩) (keep _ (World.block_lt_of_cell? w _ hc) hb)]
    exact hc
/-- One's map of orders is written: the queue and the struct stay. -/
theorem KS.beside (s : KS w b g h q u mb lm base sectors limit os cs off back broken last now dead) (k : w.grownBy w' (some u)) : QS w' q g h lm base 32 mb cs off back broken ∧ KAt w' b g base sectors limit q u last now dead := by
  obtain ⟨e1, e2, e3, e4⟩ := s.ub
  have keep : ∀ x, x < w.heap.size → x ≠ u → w'.heap[x]? = w.heap[x]? := fun x hx hn => k.block x hx (fun e => hn (by injection e with e))
  have m : Mem w' g h lm := ⟨(keep _ s.qs.mem.lt1 (fun e => e2 e.symm)).trans s.qs.mem.1, (keep _ s.qs.mem.lt2 (fun e => e3 e.symm)).trans s.qs.mem.2⟩
  refine ⟨{ s.qs with mem := m, at_ := s.qs.at_.kept (keep _ s.qs.lts.1 (fun e => e4 e.symm)), tab := s.qs.tab.kept (keep _ s.qs.lts.2.2.2 (fun e => s.une e.symm)), nums := fun x hx => ?_ }, s.kat.kept (keep _ (lt_of_block s.kat) (fun e => e1 e.symm))⟩
  obtain ⟨a1, a2, a3⟩ := s.qs.nums x hx
  refine ⟨a1, fun i hi => ?_, a3⟩
  have hc := a2 i hi
  by_cases hb : x.blk = u
  · exfalso
    rw [hb] at hc
    obtain ⟨es, clock, h0, _⟩ := s.tab
    simp [World.cell?, h0] at hc
  · rw [World.cell?_of_block (w := w) (a := ⟨x.blk, i, none⟩) (keep _ (World.block_lt_of_cell? w _ hc) hb)]
    exact hc
/-- The memory is written beside the queue's calls. -/
theorem QS.wrote (s : QS w q g h lm base 32 mb cs off back broken) {lm' : List UInt8} (m : Mem w' g h lm') (k : w.grownBy w' (some h)) (hl : lm'.length = lm.length) : QS w' q g h lm' base 32 mb cs off back broken := by
  obtain ⟨e1, e2, e3⟩ := s.mbne
  have keep : ∀ x, x < w.heap.size → x ≠ h → w'.heap[x]? = w.heap[x]? := fun x hx hn => k.block x hx (fun e => hn (by injection e with e))
  exact { s with mem := m, len := by rw [hl]; exact s.len, b1 := by rw [hl]; exact s.b1, at_ := s.at_.kept (keep _ s.lts.1 s.qh), tab := s.tab.kept (keep _ s.lts.2.2.2 e3), nums := fun x hx => s.numsTurned (Turned.of k (fun j e => .inl (by injection e with e; exact e.symm))) hx }
theorem KS.wrote (s : KS w b g h q u mb lm base sectors limit os cs off back broken last now dead) {lm' : List UInt8} (m : Mem w' g h lm') (k : w.grownBy w' (some h)) (hl : lm'.length = lm.length) : KS w' b g h q u mb lm' base sectors limit os cs off back broken last now dead :=
  { s with kat := s.kat.kept (k.block _ (lt_of_block s.kat) (fun e => s.bh (by injection e))), qs := s.qs.wrote m k hl, tab := s.tab.kept (k.block _ s.tab.lt (fun e => s.ub.2.2.1 (by injection e))), b1 := by rw [hl]; exact s.b1 }
end

end Go.Proofs.YtdchlnffbiooaaaGreatDoor
