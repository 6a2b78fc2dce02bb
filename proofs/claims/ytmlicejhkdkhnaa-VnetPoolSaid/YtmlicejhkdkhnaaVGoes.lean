/-
  A queue whose device keeps to the rules: the indices lie there as both sides count, what was offered is read, what was told comes back. Conditions: as said at each.
-/
import Derived.Test.YtmlicejhkdkhnaaVRead
namespace Go.Proofs.Ytmlicejhkdkhnaa
open Go.RowKit Go.Sort

/-- A queue, its port and its memory, whose indices lie there as the driver and the device count. -/
structure VS (w : World) (q p g h : Nat) (lm : List UInt8) (base : Int) (n mb : Nat) (cs : List Oc) (off back taken told : Int) : Prop where
  both : Both w q p g h lm base n mb cs off back false taken told
  oi : offI lm base n = off
  ui : usedI lm base n = told

theorem freeL_nodup (cs : List Ch) (n : Nat) : (freeL cs n).Nodup := by
  unfold freeL
  rw [List.nodup_iff_pairwise_ne, List.pairwise_map]
  have h := (List.nodup_range (n := n)).filter (fun (i : Nat) => !takenBy cs i)
  exact h.imp fun hab e => hab (by omega)

theorem refuse_none {lm : List UInt8} {l : List Bf} {f : Nat} (h : refuseE lm l f = 0) : inOrd l = true ∧ (∀ b ∈ l, InLen lm.length b) ∧ l.length ≤ f := by
  unfold refuseE at h
  by_cases h1 : inOrd l = true
  · rw [h1] at h
    by_cases h2 : outside lm l = true
    · rw [h2] at h; cases h
    · by_cases h3 : f < l.length
      · rw [if_neg (by simp), if_neg h2, if_pos h3] at h; cases h
      · refine ⟨h1, fun b hb => ?_, by omega⟩
        have hp := (inOrd_pos h1).2 b hb
        have ht : textE lm b.a b.n = 0 := by
          unfold outside at h2
          simp only [List.any_eq_true, not_exists, not_and] at h2
          have := h2 b hb
          simpa using this
        unfold textE at ht
        split at ht
        · cases ht
        · exact ⟨by omega, hp, by omega⟩
  · rw [if_pos (by simpa using h1)] at h; cases h

section
variable {w : World} {q p g h : Nat} {lm : List UInt8} {base : Int} {n mb : Nat} {cs : List Oc} {off back taken told : Int}

theorem VS.bds (s : VS w q p g h lm base n mb cs off back taken told) : 0 ≤ base ∧ 1 ≤ n ∧ n ≤ 64 ∧ base + usedAt n + 4 + 8 * n ≤ lm.length := by
  have h1 := s.both.qs.size
  have h2 := s.both.qs.b1
  have h3 := s.both.qs.b0
  unfold bytesOf at h2
  rw [if_pos h1] at h2
  unfold isSize at h1
  omega
theorem VS.grown (s : VS w q p g h lm base n mb cs off back taken told) {w' : World} (k : w.grownBy w' none) : VS w' q p g h lm base n mb cs off back taken told := ⟨s.both.grown k, s.oi, s.ui⟩

theorem vs_made {l : List UInt8} (m : Mem w g h (wipeL l base n)) (hl : l.length ≤ 65536) (hq : QAt w q g base n (some mb) 0 0 false) (hb : IsTab w mb []) (hp : PAt w p g base n 0 0) (b0 : 0 ≤ base) (b1 : base + bytesOf n ≤ l.length) (hs : isSize n) :
    VS w q p g h (wipeL l base n) base n mb [] 0 0 0 0 := by
  have e : bytesOf n = usedAt n + 4 + 8 * n := by unfold bytesOf; rw [if_pos hs]
  have hn : 1 ≤ n ∧ n ≤ 64 := by unfold isSize at hs; omega
  have hu := used_ge n
  refine ⟨both_made m hl hq hb hp b0 b1 hs, ?_, ?_⟩
  · unfold offI
    rw [get_wiped l base n _ _ b0 b1 (by omega) (by omega)]; rfl
  · unfold usedI
    rw [get_wiped l base n _ _ b0 b1 (by omega) (by omega)]; rfl

theorem VS.add (s : VS w q p g h lm base n mb cs off back taken told) (v : Value) (l : List Bf) (hv : IsBufs w v l) (hbd : ∀ x ∈ l, x.n ≤ 9223372036854775807) (hE : refuseE lm l (freeL (cs.map Oc.c) n).length = 0) :
    Calls Try.prog 41 #[.pointer (some ⟨q, 0, none⟩), v] w
      fun e w' => ∃ (x : Oc) (lm' : List UInt8), e = .returned (.tuple #[.int .i64 x.c.head, .int .i64 0]) ∧ x.c = newCh cs n l ∧ w.heap.size ≤ x.blk ∧ VS w' q p g h lm' base n mb (cs ++ [x]) ((off + 1) % 65536) back taken told ∧
        Hid (offHead lm' base n off = x.c.head) ∧ Hid (followF lm' base n n x.c.head [] = some l) ∧ lm'.length = lm.length ∧ Turned (QB q h mb) w w' := by
  obtain ⟨b0, n1, n2, hl⟩ := s.bds
  have hu := used_ge n
  obtain ⟨i1, i2, i3⟩ := refuse_none hE
  have hlen := s.both.qs.len
  have hpos := (inOrd_pos i1).1
  refine (Add_new w q g h lm base n mb cs off back s.both.qs v l hv hbd hE).mono ?_
  rintro e w' ⟨x, rfl, hx, hnew, q2, t2⟩
  have hof : x.c.of = (freeL (cs.map Oc.c) n).take l.length := by rw [hx]; rfl
  have hhd : x.c.head = x.c.of.headD 0 := by rw [hx]; rfl
  have hk : ∀ k ∈ x.c.of, 0 ≤ k ∧ k < n := fun k hk => by
    rw [hof] at hk
    obtain ⟨f0, f1, _⟩ := free_spec (List.mem_of_mem_take hk)
    exact ⟨f0, f1⟩
  have hkl : x.c.of.length = l.length := by rw [hof, List.length_take]; omega
  have hnd : x.c.of.Nodup := by rw [hof]; exact (freeL_nodup _ _).sublist (List.take_sublist _ _)
  have hl0 : l ≠ [] := by rintro rfl; simp at hpos
  have hF := follow_add lm base n b0 n1 n2 hl hlen off x.c.of l hkl hl0 hnd hk i2 i1
  rw [← hhd] at hF
  have hh : 0 ≤ x.c.head ∧ x.c.head < n := by
    rw [hhd]
    match x.c.of, hkl, hk with
    | [], hkl, _ => simp at hkl; omega
    | k :: ks, _, hk => exact hk k List.mem_cons_self
  have r0 : 0 ≤ off % (n : Int) := Int.emod_nonneg _ (by omega)
  have r1 : off % (n : Int) < n := Int.emod_lt_of_pos _ (by omega)
  refine ⟨x, _, rfl, hx, hnew, ⟨s.both.driver q2 t2 (addL_length _ _ _ _ _ _), ?_, ?_⟩, Lib.hid ?_, Lib.hid hF, addL_length _ _ _ _ _ _, t2⟩
  · unfold offI addL
    exact put2 _ _ _ (by omega) (by rw [putL_length, descs_length]; omega) (by omega) (by omega)
  · rw [← s.ui]
    unfold usedI addL
    rw [put_apart _ _ _ _ _ _ (by omega), put_apart _ _ _ _ _ _ (by omega), descs_far lm base n x.c.of l hk _ _ (by omega)]
  · unfold offHead addL
    rw [put_apart _ _ _ _ _ _ (by omega), ← hhd]
    exact put2 _ _ _ (by omega) (by rw [descs_length]; omega) hh.1 (by omega)

theorem VS.next (s : VS w q p g h lm base n mb cs off back taken told) (k : Int) (l : List Bf) (h0 : off ≠ taken) (h1 : (off - taken) % 65536 ≤ n) (hh : Hid (offHead lm base n taken = k)) (hF : Hid (followF lm base n n k [] = some l)) :
    Calls Try.prog 43 #[.pointer (some ⟨p, 0, none⟩)] w
      fun e w' => ∃ v, e = .returned (.tuple #[.int .i64 k, v, .int .i64 0]) ∧ IsBufs w' v l ∧ VS w' q p g h lm base n mb cs off back ((taken + 1) % 65536) told ∧ Turned (fun j => j = h ∨ j = p) w w' ∧ w.grownBy w' (some p) := by
  have hh := hh.out
  have hF := hF.out
  refine (vNext_any w p g h lm base n taken told s.both.ps).mono ?_
  intro e w' hP
  rcases hP with ⟨e1, _⟩ | ⟨_, e1, _⟩ | ⟨l', v, _, _, e1, rfl, hv, p2, k2⟩
  · rw [s.oi] at e1; exact absurd e1 h0
  · rw [s.oi, hh, hF] at e1
    rcases e1 with e1 | e1
    · omega
    · cases e1
  rw [hh, hF] at e1
  injection e1 with e1
  subst e1
  have t2 : Turned (fun j => j = h ∨ j = p) w w' := Turned.of k2 (fun j e => .inr (by injection e with e; exact e.symm))
  rw [hh]
  exact ⟨v, rfl, hv, ⟨s.both.device p2 t2 rfl, s.oi, s.ui⟩, t2, k2⟩

theorem VS.next_none (s : VS w q p g h lm base n mb cs off back taken told) (h0 : off = taken) :
    Calls Try.prog 43 #[.pointer (some ⟨p, 0, none⟩)] w
      fun e w' => e = .returned (.tuple #[.int .i64 0, .slice none 0 0, .int .i64 4]) ∧ VS w' q p g h lm base n mb cs off back taken told ∧ w.grownBy w' none := by
  refine (vNext_any w p g h lm base n taken told s.both.ps).mono ?_
  intro e w' hP
  rcases hP with ⟨_, rfl, k2⟩ | ⟨e1, _⟩ | ⟨l', v, e1, _⟩
  · exact ⟨rfl, s.grown k2, k2⟩
  · rw [s.oi] at e1; exact absurd h0 e1
  · rw [s.oi] at e1; exact absurd h0 e1

theorem VS.done (s : VS w q p g h lm base n mb cs off back taken told) (k c : Int) (k0 : 0 ≤ k) (k1 : k ≤ 4294967295) (c0 : 0 ≤ c) (c1 : c ≤ 4294967295) :
    Calls Try.prog 45 #[.pointer (some ⟨p, 0, none⟩), .int .u32 k, .int .u32 c] w
      fun e w' => ∃ lm' : List UInt8, e = .returned (.int .i64 0) ∧ VS w' q p g h lm' base n mb cs off back taken ((told + 1) % 65536) ∧ Hid (usedNum lm' base n told = k) ∧ Hid (usedLen lm' base n told = c) ∧ lm'.length = lm.length ∧ Turned (fun j => j = h ∨ j = p) w w' := by
  obtain ⟨b0, n1, n2, hl⟩ := s.bds
  have hu := used_ge n
  refine (vDone_any w p g h lm base n taken told s.both.ps k c k0 k1 c0 c1).mono ?_
  rintro e w' ⟨rfl, p2, t2⟩
  refine ⟨_, rfl, ⟨s.both.device p2 t2 (vdoneL_length _ _ _ _ _ _), ?_, vdone_usedI lm base n b0 n1 n2 hl told k c⟩, Lib.hid (vdone_num lm base n b0 n1 n2 hl told k c k0 k1), Lib.hid (vdone_len lm base n b0 n1 n2 hl told k c c0 c1), vdoneL_length _ _ _ _ _ _, t2⟩
  rw [← s.oi]
  unfold offI
  rw [vdone_before lm base n n1 n2 told k c _ _ (by omega)]

theorem VS.pop (s : VS w q p g h lm base n mb cs off back taken told) (k c : Int) (h0 : told ≠ back) (h1 : (told - back) % 65536 ≤ cs.length) (hn : Hid (usedNum lm base n back = k)) (hl : Hid (usedLen lm base n back = c)) (hx : ∃ x ∈ cs, x.c.head = k) (hy : ∀ x ∈ cs, x.c.head = k → c ≤ x.c.most) :
    Calls Try.prog 46 #[.pointer (some ⟨q, 0, none⟩)] w
      fun e w' => e = .returned (.tuple #[.int .i64 k, .int .i64 c, .int .i64 0]) ∧ VS w' q p g h lm base n mb (cs.filter fun y => y.c.head != k) off ((back + 1) % 65536) taken told ∧ Turned (QB q h mb) w w' := by
  refine (Pop_any w q g h lm base n mb cs off back s.both.qs).mono ?_
  intro e w' hP
  have hn := hn.out
  have hl := hl.out
  rcases hP with ⟨e1, _⟩ | ⟨_, e1, _⟩ | ⟨y, _, _, _, _, _, rfl, q2, t2⟩
  · rw [s.ui] at e1; exact absurd e1 h0
  · rw [s.ui, hn, hl] at e1
    rcases e1 with e1 | e1 | ⟨y, hy1, hy2, hy3⟩
    · omega
    · obtain ⟨x, hx1, hx2⟩ := hx
      exact absurd hx2 (e1 x hx1)
    · have := hy y hy1 hy2
      omega
  rw [hn, hl] at *
  exact ⟨rfl, ⟨s.both.driver q2 t2 rfl, s.oi, s.ui⟩, t2⟩

theorem VS.pop_none (s : VS w q p g h lm base n mb cs off back taken told) (h0 : told = back) :
    Calls Try.prog 46 #[.pointer (some ⟨q, 0, none⟩)] w
      fun e w' => e = .returned (.tuple #[.int .i64 0, .int .i64 0, .int .i64 4]) ∧ VS w' q p g h lm base n mb cs off back taken told ∧ w.grownBy w' none := by
  refine (Pop_any w q g h lm base n mb cs off back s.both.qs).mono ?_
  intro e w' hP
  rcases hP with ⟨_, rfl, k2⟩ | ⟨h1, _⟩ | ⟨y, _, h1, _⟩
  · exact ⟨rfl, s.grown k2, k2⟩
  · rw [s.ui] at h1; exact absurd h0 h1
  · rw [s.ui] at h1; exact absurd h0 h1
end

end Go.Proofs.Ytmlicejhkdkhnaa
