/-
  A queue, its port, and a map of the caller's: what each call does, whatever the memory holds, broken or not. No conditions.
-/
import Derived.Test.YtkblkojmmjoohaaVSide
import Derived.Test.YtkblkojmmjoohaaVGoes
namespace Go.Proofs.Ytkblkojmmjoohaa
open Go.RowKit Go.Sort

/-- A queue with these chains out, broken or not, its port, and the map o with these entries. -/
def SE (w : World) (q p g h n mb o : Nat) (br : Bool) (cs : List Oc) (es : List (Int × Value)) : Prop :=
  ∃ lm off back taken told, Both w q p g h lm 0 n mb cs off back br taken told ∧ IsTab w o es ∧ o ≠ mb
/-- What its calls turn. -/
def ST (q p h mb : Nat) : Nat → Prop := fun k => k = h ∨ k = q ∨ k = mb ∨ k = p

section
variable {w w' : World} {q p g h n mb o : Nat} {br : Bool} {cs : List Oc} {es : List (Int × Value)}

theorem SE.size (s : SE w q p g h n mb o br cs es) : 1 ≤ n ∧ n ≤ 64 := by
  obtain ⟨_, _, _, _, _, b, _⟩ := s
  have h1 := b.qs.size
  unfold isSize at h1
  omega
theorem SE.grown (s : SE w q p g h n mb o br cs es) (k : w.grownBy w' none) : SE w' q p g h n mb o br cs es := by
  obtain ⟨lm, off, back, taken, told, b, t, hne⟩ := s
  exact ⟨lm, off, back, taken, told, b.grown k, t.grown k, hne⟩
/-- The map has turned. -/
theorem SE.map (s : SE w q p g h n mb o br cs es) {es' : List (Int × Value)} (t' : IsTab w' o es') (k : w.grownBy w' (some o)) : SE w' q p g h n mb o br cs es' := by
  obtain ⟨lm, off, back, taken, told, b, t, hne⟩ := s
  exact ⟨lm, off, back, taken, told, b.beside t hne k, t', hne⟩
theorem SE.tab (s : SE w q p g h n mb o br cs es) : IsTab w o es := by
  obtain ⟨lm, off, back, taken, told, b, t, hne⟩ := s
  exact t

theorem SE.add (s : SE w q p g h n mb o br cs es) (v : Value) (l : List Bf) (hv : IsBufs w v l) (hbd : ∀ x ∈ l, x.n ≤ 9223372036854775807) :
    Calls Try.prog 18 #[.pointer (some ⟨q, 0, none⟩), v] w fun e w' =>
      (∃ E : Int, e = .returned (.tuple #[.int .i64 0, .int .i64 E]) ∧ Hid (E ≠ 0) ∧ SE w' q p g h n mb o br cs es ∧ Turned (ST q p h mb) w w') ∨
      (∃ x : Oc, e = .returned (.tuple #[.int .i64 x.c.head, .int .i64 0]) ∧ 0 ≤ x.c.head ∧ x.c.head < n ∧ Hid (∀ y ∈ cs, y.c.head ≠ x.c.head) ∧ Hid (x.c.most = roomOf l) ∧ Hid (∀ b ∈ l, 1 ≤ b.n ∧ b.n ≤ 65536) ∧
        SE w' q p g h n mb o br (cs ++ [x]) es ∧ Turned (ST q p h mb) w w') := by
  obtain ⟨lm, off, back, taken, told, b, t, hne⟩ := s
  cases br with
  | true =>
    refine (Add_broken w q g 0 n (some mb) off back b.qs.at_ v).mono ?_
    rintro e w1 ⟨rfl, rfl⟩
    exact .inl ⟨11, rfl, Lib.hid (by decide), ⟨lm, off, back, taken, told, b, t, hne⟩, Turned.refl _ _⟩
  | false =>
    by_cases hE : refuseE lm l (freeL (cs.map Oc.c) n).length = 0
    · obtain ⟨i1, i2, i3⟩ := refuse_none hE
      have hlen := b.qs.len
      have hpos := (inOrd_pos i1).1
      have hh := b.qs.heads
      refine (Add_ok w q g h lm 0 n mb cs off back b.qs v l hv hbd hE).mono ?_
      rintro e w1 ⟨x, rfl, hx, q2, t2⟩
      have hof : x.c.of = (freeL (cs.map Oc.c) n).take l.length := by rw [hx]; rfl
      have hhd : x.c.head = x.c.of.headD 0 := by rw [hx]; rfl
      have hmem : x.c.head ∈ freeL (cs.map Oc.c) n := by
        have hkl : x.c.of.length = l.length := by rw [hof, List.length_take]; omega
        have h3 : x.c.head ∈ x.c.of := by
          rw [hhd]
          match x.c.of, hkl with
          | [], hkl => simp at hkl; omega
          | k :: ks, _ => exact List.mem_cons_self
        rw [hof] at h3
        exact List.mem_of_mem_take h3
      obtain ⟨f0, f1, f2⟩ := free_spec hmem
      refine .inr ⟨x, rfl, f0, f1, Lib.hid fun y hy e => f2 y.c (List.mem_map.2 ⟨y, hy, rfl⟩) (by rw [← e]; exact hh y hy), Lib.hid (by rw [hx]; rfl), Lib.hid fun b' hb' => ?_, ⟨_, _, _, _, _, b.driver q2 t2 (addL_length _ _ _ _ _ _), t.driver b hne t2, hne⟩, t2.mono ?_⟩
      · obtain ⟨j0, j1, j2⟩ := i2 b' hb'
        exact ⟨j1, by omega⟩
      · rintro j _ (e | e | e)
        · exact .inl e
        · exact .inr (.inl e)
        · exact .inr (.inr (.inl e))
    · refine (Add_err w q g h lm 0 n mb cs off back b.qs v l hv hbd _ rfl (by simpa using hE)).mono ?_
      rintro e w1 ⟨rfl, k1⟩
      exact .inl ⟨_, rfl, Lib.hid hE, ⟨lm, off, back, taken, told, b.grown k1, t.grown k1, hne⟩, Turned.of k1 (fun j e => by cases e)⟩

theorem SE.pop (s : SE w q p g h n mb o br cs es) :
    Calls Try.prog 22 #[.pointer (some ⟨q, 0, none⟩)] w fun e w' =>
      Turned (ST q p h mb) w w' ∧
      ((e = .returned (.tuple #[.int .i64 0, .int .i64 0, .int .i64 11]) ∧ br = true ∧ SE w' q p g h n mb o true cs es) ∨
      (e = .returned (.tuple #[.int .i64 0, .int .i64 0, .int .i64 4]) ∧ br = false ∧ SE w' q p g h n mb o false cs es) ∨
      (e = .returned (.tuple #[.int .i64 0, .int .i64 0, .int .i64 8]) ∧ br = false ∧ SE w' q p g h n mb o true cs es) ∨
      (∃ x ∈ cs, ∃ k : Int, e = .returned (.tuple #[.int .i64 x.c.head, .int .i64 k, .int .i64 0]) ∧ br = false ∧ 0 ≤ k ∧ k ≤ x.c.most ∧ SE w' q p g h n mb o false (cs.filter fun y => y.c.head != x.c.head) es)) := by
  obtain ⟨lm, off, back, taken, told, b, t, hne⟩ := s
  have sub : ∀ j, QB q h mb j → ST q p h mb j := by
    rintro j (e | e | e)
    · exact .inl e
    · exact .inr (.inl e)
    · exact .inr (.inr (.inl e))
  cases br with
  | true =>
    refine (Pop_broken w q g 0 n (some mb) off back b.qs.at_).mono ?_
    rintro e w1 ⟨rfl, rfl⟩
    exact ⟨Turned.refl _ _, .inl ⟨rfl, rfl, ⟨lm, off, back, taken, told, b, t, hne⟩⟩⟩
  | false =>
    refine (Pop_any w q g h lm 0 n mb cs off back b.qs).mono ?_
    intro e w1 hP
    have hb := usedLen_bd lm 0 n back
    rcases hP with ⟨_, rfl, k1⟩ | ⟨_, _, rfl, q2, t2⟩ | ⟨x, hx, _, _, e1, e2, rfl, q2, t2⟩
    · exact ⟨Turned.of k1 (fun j e => by cases e), .inr (.inl ⟨rfl, rfl, ⟨lm, off, back, taken, told, b.grown k1, t.grown k1, hne⟩⟩)⟩
    · exact ⟨t2.mono fun j _ => sub j, .inr (.inr (.inl ⟨rfl, rfl, ⟨lm, off, back, taken, told, b.driver q2 t2 rfl, t.driver b hne t2, hne⟩⟩))⟩
    · rw [← e1] at q2
      exact ⟨t2.mono fun j _ => sub j, .inr (.inr (.inr ⟨x, hx, _, by rw [← e1], rfl, hb.1, e2, ⟨lm, off, _, taken, told, b.driver q2 t2 rfl, t.driver b hne t2, hne⟩⟩))⟩

theorem SE.next (s : SE w q p g h n mb o br cs es) :
    Calls Try.prog 19 #[.pointer (some ⟨p, 0, none⟩)] w fun e w' => ∃ r, e = .returned r ∧ SE w' q p g h n mb o br cs es ∧ Turned (ST q p h mb) w w' := by
  obtain ⟨lm, off, back, taken, told, b, t, hne⟩ := s
  refine (vNext_any w p g h lm 0 n taken told b.ps).mono ?_
  intro e w1 hP
  rcases hP with ⟨_, rfl, k1⟩ | ⟨_, _, rfl, k1⟩ | ⟨l', v, _, _, _, rfl, hv, p2, k1⟩
  · exact ⟨_, rfl, ⟨lm, off, back, taken, told, b.grown k1, t.grown k1, hne⟩, Turned.of k1 (fun j e => by cases e)⟩
  · exact ⟨_, rfl, ⟨lm, off, back, taken, told, b.grown k1, t.grown k1, hne⟩, Turned.of k1 (fun j e => by cases e)⟩
  · have t2 : Turned (fun j => j = h ∨ j = p) w w1 := Turned.of k1 (fun j e => .inr (by injection e with e; exact e.symm))
    exact ⟨_, rfl, ⟨lm, off, back, _, told, b.device p2 t2 rfl, t.device b t2, hne⟩, t2.mono (by rintro j _ (e | e); exact .inl e; exact .inr (.inr (.inr e)))⟩

theorem SE.done (s : SE w q p g h n mb o br cs es) (k c : Int) (k0 : 0 ≤ k) (k1 : k ≤ 4294967295) (c0 : 0 ≤ c) (c1 : c ≤ 4294967295) :
    Calls Try.prog 21 #[.pointer (some ⟨p, 0, none⟩), .int .u32 k, .int .u32 c] w fun e w' => e = .returned (.int .i64 0) ∧ SE w' q p g h n mb o br cs es ∧ Turned (ST q p h mb) w w' := by
  obtain ⟨lm, off, back, taken, told, b, t, hne⟩ := s
  refine (vDone_any w p g h lm 0 n taken told b.ps k c k0 k1 c0 c1).mono ?_
  rintro e w1 ⟨rfl, p2, t2⟩
  exact ⟨rfl, ⟨_, off, back, taken, _, b.device p2 t2 (vdoneL_length _ _ _ _ _ _), t.device b t2, hne⟩, t2.mono (by rintro j _ (e | e); exact .inl e; exact .inr (.inr (.inr e)))⟩

theorem SE.put (s : SE w q p g h n mb o br cs es) (a m x : Int) (hx : 0 ≤ x) :
    Calls Try.prog 23 #[.pointer (some ⟨g, 0, none⟩), .int .i64 a, .int .i64 m, .int .u64 x] w fun e w' => ∃ r, e = .returned r ∧ SE w' q p g h n mb o br cs es ∧ Turned (ST q p h mb) w w' := by
  obtain ⟨lm, off, back, taken, told, b, t, hne⟩ := s
  refine (Put_all (w := w) (g := g) (h := h) (l := lm) b.qs.mem (by have := b.qs.len; omega) a m x hx).mono ?_
  rintro e w1 ⟨rfl, m1, k1⟩
  have t2 : Turned (fun j => j = h ∨ j = p) w w1 := Turned.of k1 (fun j e => .inl (by injection e with e; exact e.symm))
  exact ⟨_, rfl, ⟨_, off, back, taken, told, b.wrote m1 k1 (putL_length _ _ _ _), t.device b t2, hne⟩, t2.mono (by rintro j _ (e | e); exact .inl e; exact .inr (.inr (.inr e)))⟩

theorem SE.out (s : SE w q p g h n mb o br cs es) : Calls Try.prog 16 #[.pointer (some ⟨q, 0, none⟩)] w fun e w' => e = .returned (.int .i64 cs.length) ∧ w = w' := by
  obtain ⟨lm, off, back, taken, told, b, t, hne⟩ := s
  have h1 := Out_any w q g 0 n mb off back br (cs.map Oc.ent) b.qs.at_ b.qs.tab
  rw [List.length_map] at h1
  exact h1
theorem SE.free (s : SE w q p g h n mb o br cs es) : Calls Try.prog 14 #[.pointer (some ⟨q, 0, none⟩)] w fun e w' => e = .returned (.int .i64 (freeL (cs.map Oc.c) n).length) ∧ w.grownBy w' none := by
  have hs := s.size
  obtain ⟨lm, off, back, taken, told, b, t, hne⟩ := s
  exact vFree_any w q g 0 n mb off back br b.qs.at_ cs b.qs.tab b.qs.nums hs.2
theorem SE.broken (s : SE w q p g h n mb o br cs es) : Calls Try.prog 17 #[.pointer (some ⟨q, 0, none⟩)] w fun e w' => e = .returned (.bool br) ∧ w = w' := by
  obtain ⟨lm, off, back, taken, told, b, t, hne⟩ := s
  exact Broken_any w q g 0 n (some mb) off back br b.qs.at_
end

end Go.Proofs.Ytkblkojmmjoohaa
