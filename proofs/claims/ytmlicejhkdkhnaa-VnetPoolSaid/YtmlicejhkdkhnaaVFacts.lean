/-
  A queue of n entries at the head of 1,024 bytes, with chains of one buffer each: what each call makes of what lies there. Conditions: as said at each.
-/
import Derived.Test.YtmlicejhkdkhnaaAwake
import Derived.Test.YtmlicejhkdkhnaaLay
namespace Go.Proofs.Ytmlicejhkdkhnaa
open Go.RowKit Go.Sort

theorem num_zeros : ∀ k : Nat, num (List.replicate k 0) = 0
  | 0 => rfl
  | k + 1 => by rw [List.replicate_succ]; simp [num, num_zeros k]

theorem get_wiped (l : List UInt8) (base n a m : Int) (h : 0 ≤ base) (hl : base + bytesOf n ≤ l.length) (h0 : base ≤ a) (h1 : a + m ≤ base + bytesOf n) : getX (wipeL l base n) a m = 0 := by
  have hb := bytesOf_bd n
  unfold getX
  by_cases e : putE (wipeL l base n) a m = 0
  · rw [if_pos e]
    have e1 : textE l base (List.replicate (bytesOf n).toNat (0 : UInt8)).length = 0 := by
      unfold textE
      rw [List.length_replicate, if_neg (by omega)]
    unfold wipeL writeL
    rw [if_pos e1]
    have hz : ((lay l base.toNat (List.replicate (bytesOf n).toNat 0)).drop a.toNat).take m.toNat = List.replicate m.toNat 0 := by
      apply List.ext_getElem?
      intro i
      rw [List.getElem?_take, List.getElem?_replicate]
      by_cases hi : i < m.toNat
      · rw [if_pos hi, if_pos hi, List.getElem?_drop, vlay_get _ _ _ (by rw [List.length_replicate]; omega), if_pos ⟨by omega, by rw [List.length_replicate]; omega⟩, List.getElem?_replicate, if_pos (by omega)]
      · rw [if_neg hi, if_neg hi]
    rw [hz, num_zeros]
  · rw [if_neg e]

/-- A queue, its port and its memory of 1,024 bytes, whose indices lie there as the driver and the device count. -/
structure TS (w : World) (q p g h : Nat) (lm : List UInt8) (n mb : Nat) (cs : List Oc) (off back taken told : Int) : Prop where
  both : Both w q p g h lm 0 n mb cs off back false taken told
  len : lm.length = 1024
  oi : offI lm 0 n = off
  ui : usedI lm 0 n = told

/-- What a chain of one buffer that has been offered lies as. -/
structure Fresh (lm lm' : List UInt8) (n : Nat) (off k a c : Int) : Prop where
  head : offHead lm' 0 n off = k
  dsc : Dsc lm' 0 k = (a.toNat, c.toNat, 2, 0)
  heads : ∀ t : Int, t % n ≠ off % n → offHead lm' 0 n t = offHead lm 0 n t
  dscs : ∀ j : Int, j ≠ k → j < n → Dsc lm' 0 j = Dsc lm 0 j

section
variable {w : World} {q p g h : Nat} {lm : List UInt8} {n mb : Nat} {cs : List Oc} {off back taken told : Int}

theorem TS.bds (s : TS w q p g h lm n mb cs off back taken told) : 1 ≤ n ∧ n ≤ 64 ∧ (0 : Int) + usedAt n + 4 + 8 * n ≤ lm.length := by
  have h1 := s.both.qs.size
  have h2 := s.both.qs.b1
  unfold bytesOf at h2
  rw [if_pos h1] at h2
  unfold isSize at h1
  omega

theorem TS.grown (s : TS w q p g h lm n mb cs off back taken told) {w' : World} (k : w.grownBy w' none) : TS w' q p g h lm n mb cs off back taken told := ⟨s.both.grown k, s.len, s.oi, s.ui⟩

theorem ts_made {l : List UInt8} (m : Mem w g h (wipeL l 0 n)) (hl : l.length = 1024) (hq : QAt w q g 0 n (some mb) 0 0 false) (hb : IsTab w mb []) (hp : PAt w p g 0 n 0 0) (hs : isSize n) (hz : bytesOf n ≤ 1000) : TS w q p g h (wipeL l 0 n) n mb [] 0 0 0 0 := by
  have hb0 := bytesOf_bd n
  have e : bytesOf n = usedAt n + 4 + 8 * n := by unfold bytesOf; rw [if_pos hs]
  have hn : 1 ≤ n ∧ n ≤ 64 := by unfold isSize at hs; omega
  have hu := used_ge n
  refine ⟨both_made m (by omega) hq hb hp (by omega) (by omega) hs, by rw [wipeL_length, hl], ?_, ?_⟩
  · unfold offI
    rw [get_wiped l 0 n _ _ (by omega) (by omega) (by omega) (by omega)]; rfl
  · unfold usedI
    rw [get_wiped l 0 n _ _ (by omega) (by omega) (by omega) (by omega)]; rfl

theorem dscN {lm : List UInt8} {k a c : Int} (ha : 0 ≤ a) (hc : 0 ≤ c) (hd : Dsc lm 0 k = (a.toNat, c.toNat, 2, 0)) : (getX lm (0 + 16 * k) 8 : Int) = a ∧ (getX lm (0 + 16 * k + 8) 4 : Int) = c ∧ (getX lm (0 + 16 * k + 12) 2 : Int) = 2 ∧ (getX lm (0 + 16 * k + 14) 2 : Int) = 0 := by
  unfold Dsc at hd
  injection hd with h1 h2
  injection h2 with h2 h3
  injection h3 with h3 h4
  omega

theorem fresh_of (s : TS w q p g h lm n mb cs off back taken told) (k a c : Int) (k0 : 0 ≤ k) (k1 : k < n) (ha : 0 ≤ a) (hc : 1 ≤ c) (hac : a + c ≤ 1024) :
    Fresh lm (addL lm 0 n off [k] [⟨a, c, true⟩]) n off k a c ∧ offI (addL lm 0 n off [k] [⟨a, c, true⟩]) 0 n = (off + 1) % 65536 ∧ usedI (addL lm 0 n off [k] [⟨a, c, true⟩]) 0 n = told := by
  obtain ⟨n1, n2, hl⟩ := s.bds
  have hu := used_ge n
  have hlen := s.len
  have r0 : 0 ≤ off % (n : Int) := Int.emod_nonneg _ (by omega)
  have r1 : off % (n : Int) < n := Int.emod_lt_of_pos _ (by omega)
  have e : addL lm 0 n off [k] [⟨a, c, true⟩] = putL (putL (descL lm (0 + 16 * k) a c 2 0) (0 + 16 * n + 4 + 2 * (off % n)) 2 k) (0 + 16 * n + 2) 2 ((off + 1) % 65536) := rfl
  rw [e]
  have hD : (descL lm (0 + 16 * k) a c 2 0).length = 1024 := by rw [descL_length, hlen]
  have far : ∀ b m : Int, 0 + 16 * (n : Int) ≤ b → getX (descL lm (0 + 16 * k) a c 2 0) b m = getX lm b m := by
    intro b m hb
    unfold descL
    rw [put_apart _ _ _ _ _ _ (by omega), put_apart _ _ _ _ _ _ (by omega), put_apart _ _ _ _ _ _ (by omega), put_apart _ _ _ _ _ _ (by omega)]
  refine ⟨⟨?_, ?_, ?_, ?_⟩, ?_, ?_⟩
  · unfold offHead
    rw [put_apart _ _ _ _ _ _ (by omega)]
    exact put2 _ _ _ (by omega) (by omega) k0 (by omega)
  · rw [dsc_put _ _ _ _ _ _ (by omega), dsc_put _ _ _ _ _ _ (by omega)]
    obtain ⟨d1, d2, d3, d4⟩ := dsc_same lm 0 k a c 2 0 (by omega) (by omega) (by omega) (by omega) (by omega) (by omega) (by omega) (by omega) (by omega) (by omega)
    unfold Dsc
    rw [show getX (descL lm (0 + 16 * k) a c 2 0) (0 + 16 * k) 8 = a.toNat by omega, show getX (descL lm (0 + 16 * k) a c 2 0) (0 + 16 * k + 8) 4 = c.toNat by omega, show getX (descL lm (0 + 16 * k) a c 2 0) (0 + 16 * k + 12) 2 = 2 by omega, show getX (descL lm (0 + 16 * k) a c 2 0) (0 + 16 * k + 14) 2 = 0 by omega]
  · intro t ht
    have t0 : 0 ≤ t % (n : Int) := Int.emod_nonneg _ (by omega)
    unfold offHead
    rw [put_apart _ _ _ _ _ _ (by omega), put_apart _ _ _ _ _ _ (by omega), far _ _ (by omega)]
  · intro j hj hjn
    rw [dsc_put _ _ _ _ _ _ (by omega), dsc_put _ _ _ _ _ _ (by omega), dsc_other _ _ _ _ _ _ _ _ hj]
  · unfold offI
    exact put2 _ _ _ (by omega) (by rw [putL_length]; omega) (by omega) (by omega)
  · rw [← s.ui]
    unfold usedI
    rw [put_apart _ _ _ _ _ _ (by omega), put_apart _ _ _ _ _ _ (by omega), far _ _ (by omega)]

theorem TS.add (s : TS w q p g h lm n mb cs off back taken told) (k a c : Int) (rest : List Int) (hf : freeL (cs.map Oc.c) n = k :: rest) (ha : 0 ≤ a) (hc : 1 ≤ c) (hac : a + c ≤ 1024) :
    Calls Try.prog 41 #[.pointer (some ⟨q, 0, none⟩), .slice (some ⟨w.heap.size, 0, none⟩) 1 1] (w.alloc (.cells #[.int .i64 a, .int .i64 c, .bool true] 83))
      fun e w' => ∃ (x : Oc) (lm' : List UInt8), e = .returned (.tuple #[.int .i64 k, .int .i64 0]) ∧ x.c = ⟨k, [k], c⟩ ∧ TS w' q p g h lm' n mb (cs ++ [x]) ((off + 1) % 65536) back taken told ∧ Fresh lm lm' n off k a c ∧
        Turned (QB q h mb) (w.alloc (.cells #[.int .i64 a, .int .i64 c, .bool true] 83)) w' := by
  have k1 := World.grownBy_alloc w (.cells #[.int .i64 a, .int .i64 c, .bool true] 83) none
  have s1 := s.grown k1
  have hv : IsBufs (w.alloc (.cells #[.int .i64 a, .int .i64 c, .bool true] 83)) (.slice (some ⟨w.heap.size, 0, none⟩) 1 1) [⟨a, c, true⟩] := bufs_new w [⟨a, c, true⟩] 83 1 (by simp)
  obtain ⟨f0, f1, _⟩ := free_spec (cs := cs.map Oc.c) (n := n) (y := k) (by rw [hf]; exact List.mem_cons_self)
  have hlen := s.len
  have hch : newCh cs n [⟨a, c, true⟩] = ⟨k, [k], c⟩ := by unfold newCh roomOf; rw [hf]; simp
  have hE : refuseE lm [⟨a, c, true⟩] (freeL (cs.map Oc.c) n).length = 0 := by
    unfold refuseE outside inOrd
    rw [hf]
    have t : textE lm a c = 0 := by unfold textE; rw [if_neg (by omega)]
    have c1 : ¬ c < 1 := by omega
    simp [okFrom, t, c1]
  refine (Add_ok _ q g h lm 0 n mb cs off back s1.both.qs _ _ hv (by intro x hx; simp at hx; subst hx; show c ≤ _; omega) hE).mono ?_
  rintro e w' ⟨x, rfl, hx, q2, t2⟩
  rw [hch] at hx
  rw [hx] at q2
  obtain ⟨F, o1, u1⟩ := fresh_of s k a c f0 f1 ha hc hac
  refine ⟨x, _, by rw [hx], hx, ⟨s1.both.driver q2 t2 (addL_length _ _ _ _ _ _), by rw [addL_length]; exact hlen, o1, u1⟩, F, t2⟩

theorem TS.next (s : TS w q p g h lm n mb cs off back taken told) (k a c : Int) (h0 : off ≠ taken) (h1 : (off - taken) % 65536 ≤ n) (hh : offHead lm 0 n taken = k) (hk : k < n) (hd : Dsc lm 0 k = (a.toNat, c.toNat, 2, 0)) (ha : 0 ≤ a) (hc : 1 ≤ c) (hac : a + c ≤ 1024) :
    Calls Try.prog 43 #[.pointer (some ⟨p, 0, none⟩)] w
      fun e w' => ∃ (b o cap : Nat), e = .returned (.tuple #[.int .i64 k, .slice (some ⟨b, o, none⟩) 1 cap, .int .i64 0]) ∧ w'.cell? ⟨b, o + 1, none⟩ = some (.int .i64 c) ∧ TS w' q p g h lm n mb cs off back ((taken + 1) % 65536) told ∧
        Turned (fun j => j = h ∨ j = p) w w' := by
  obtain ⟨n1, n2, hl⟩ := s.bds
  obtain ⟨d1, d2, d3, d4⟩ := dscN ha (by omega) hd
  have hlen := s.len
  have hdx : dX lm 0 k = ((a, c, true), true) := by
    unfold dX dbuf
    rw [d1, d2, d3, hlen, if_neg (by omega)]
    rfl
  have hF : followF lm 0 n n k [] = some [⟨a, c, true⟩] := by
    obtain ⟨m, rfl⟩ : ∃ m, n = m + 1 := ⟨n - 1, by omega⟩
    have c1 : ¬ c < 1 := by omega
    rw [followF_succ, if_pos hk, hdx, if_pos rfl, d3, if_pos (by decide), if_pos (by simp [inOrd, okFrom, bfOf, c1])]
    rfl
  refine (vNext_any w p g h lm 0 n taken told s.both.ps).mono ?_
  intro e w' hP
  rcases hP with ⟨e1, _⟩ | ⟨_, e1, _⟩ | ⟨l, v, _, _, e1, rfl, hv, p2, k2⟩
  · rw [s.oi] at e1; exact absurd e1 h0
  · rw [s.oi, hh, hF] at e1
    rcases e1 with e1 | e1
    · omega
    · cases e1
  rw [hh, hF] at e1
  injection e1 with e1
  subst e1
  obtain ⟨pp, cap, rfl, _, hc'⟩ := hv
  obtain ⟨b, o, rfl, hi⟩ := hc' (by simp)
  have t2 : Turned (fun j => j = h ∨ j = p) w w' := Turned.of k2 (fun j e => .inr (by injection e with e; exact e.symm))
  rw [hh]
  exact ⟨b, o, cap, rfl, (hi 0 (by simp)).2.1, ⟨s.both.device p2 t2 rfl, hlen, s.oi, s.ui⟩, t2⟩

theorem TS.done (s : TS w q p g h lm n mb cs off back taken told) (k c : Int) (k0 : 0 ≤ k) (k1 : k ≤ 4294967295) (c0 : 0 ≤ c) (c1 : c ≤ 4294967295) :
    Calls Try.prog 45 #[.pointer (some ⟨p, 0, none⟩), .int .u32 k, .int .u32 c] w
      fun e w' => ∃ lm' : List UInt8, e = .returned (.int .i64 0) ∧ TS w' q p g h lm' n mb cs off back taken ((told + 1) % 65536) ∧ Hid (usedNum lm' 0 n told = k) ∧ Hid (usedLen lm' 0 n told = c) ∧ Turned (fun j => j = h ∨ j = p) w w' := by
  obtain ⟨n1, n2, hl⟩ := s.bds
  have hu := used_ge n
  refine (vDone_any w p g h lm 0 n taken told s.both.ps k c k0 k1 c0 c1).mono ?_
  rintro e w' ⟨rfl, p2, t2⟩
  refine ⟨_, rfl, ⟨s.both.device p2 t2 (vdoneL_length _ _ _ _ _ _), by rw [vdoneL_length]; exact s.len, ?_, vdone_usedI lm 0 n (by omega) n1 n2 hl told k c⟩, Lib.hid (vdone_num lm 0 n (by omega) n1 n2 hl told k c k0 k1), Lib.hid (vdone_len lm 0 n (by omega) n1 n2 hl told k c c0 c1), t2⟩
  rw [← s.oi]
  unfold offI
  rw [vdone_before lm 0 n n1 n2 told k c _ _ (by omega)]

theorem TS.pop (s : TS w q p g h lm n mb cs off back taken told) (k c : Int) (h0 : told ≠ back) (h1 : (told - back) % 65536 ≤ cs.length) (hn : Hid (usedNum lm 0 n back = k)) (hl : Hid (usedLen lm 0 n back = c)) (hx : ∃ x ∈ cs, x.c.head = k) (hy : ∀ x ∈ cs, x.c.head = k → c ≤ x.c.most) :
    Calls Try.prog 46 #[.pointer (some ⟨q, 0, none⟩)] w
      fun e w' => e = .returned (.tuple #[.int .i64 k, .int .i64 c, .int .i64 0]) ∧ TS w' q p g h lm n mb (cs.filter fun y => y.c.head != k) off ((back + 1) % 65536) taken told ∧ Turned (QB q h mb) w w' := by
  refine (Pop_any w q g h lm 0 n mb cs off back s.both.qs).mono ?_
  intro e w' hP
  have hn := hn.out
  have hl := hl.out
  rcases hP with ⟨e1, _⟩ | ⟨_, e1, _⟩ | ⟨y, _, _, _, _, _, rfl, q2, t2⟩
  · rw [s.ui] at e1; exact absurd e1 h0
  · rw [s.ui, hn, hl] at e1
    rcases e1 with e1 | e1 | ⟨y, hy1, hy2, hy3⟩
    · omega
    · obtain ⟨x, hx1, hx2⟩ := hx
      exact absurd hx2 (e1 x hx1)
    · have := hy y hy1 hy2
      omega
  rw [hn, hl] at *
  exact ⟨rfl, ⟨s.both.driver q2 t2 rfl, s.len, s.oi, s.ui⟩, t2⟩

theorem TS.pop_none (s : TS w q p g h lm n mb cs off back taken told) (h0 : told = back) :
    Calls Try.prog 46 #[.pointer (some ⟨q, 0, none⟩)] w
      fun e w' => e = .returned (.tuple #[.int .i64 0, .int .i64 0, .int .i64 4]) ∧ TS w' q p g h lm n mb cs off back taken told ∧ w.grownBy w' none := by
  refine (Pop_any w q g h lm 0 n mb cs off back s.both.qs).mono ?_
  intro e w' hP
  rcases hP with ⟨_, rfl, k2⟩ | ⟨h1, _⟩ | ⟨y, _, h1, _⟩
  · exact ⟨rfl, s.grown k2, k2⟩
  · rw [s.ui] at h1; exact absurd h0 h1
  · rw [s.ui] at h1; exact absurd h0 h1
end

end Go.Proofs.Ytmlicejhkdkhnaa
