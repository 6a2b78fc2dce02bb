/-
  Layer 2: what the code's calls and the document's come to is the same, as mathematics: the chain that is read, what comes back, what is laid. Conditions: as said at each.
-/
import Derived.Test.YtjelgifijhcnnaaVPa
import Derived.Test.YtjelgifijhcnnaaAwake
import Derived.Test.YtjelgifijhcnnaaVBackF
import Derived.Test.YtjelgifijhcnnaaVLaw
namespace Go.Proofs.Ytjelgifijhcnnaa
open Go.RowKit Go.Sort
set_option linter.unusedVariables false

theorem getX_lt8 (lm : List UInt8) (a : Int) : 0 ≤ (getX lm a 8 : Int) ∧ (getX lm a 8 : Int) < 18446744073709551616 := by
  have h := getX_lt lm a 8
  have e : ((8 : Nat) : Int) = 8 := rfl
  rw [e] at h
  have : (256 : Nat) ^ 8 = 18446744073709551616 := by decide
  omega
theorem uniq_of : ∀ {cs : List Oc}, (cs.map fun y => y.c.head).Nodup → ∀ {y z : Oc}, y ∈ cs → z ∈ cs → y.c.head = z.c.head → y = z
  | [], _, _, _, hy, _, _ => by simp at hy
  | x :: cs, hu, y, z, hy, hz, e => by
    rw [List.map_cons, List.nodup_cons] at hu
    rcases List.mem_cons.1 hy with h1 | h1 <;> rcases List.mem_cons.1 hz with h2 | h2
    · rw [h1, h2]
    · exact absurd (List.mem_map_of_mem (f := fun y : Oc => y.c.head) h2) (by show z.c.head ∉ _; rw [← e, h1]; exact hu.1)
    · exact absurd (List.mem_map_of_mem (f := fun y : Oc => y.c.head) h1) (by show y.c.head ∉ _; rw [e, h2]; exact hu.1)
    · exact uniq_of hu.2 h1 h2 e
theorem okFrom_append : ∀ (acc : List Bf) (b : Bool) (x : Bf), okFrom b (acc ++ [x]) = (okFrom b acc && !(decide (x.n < 1) || ((match acc.getLast? with | some y => y.wr | none => b) && !x.wr)))
  | [], b, x => by
    simp only [List.nil_append, okFrom, List.getLast?_nil, Bool.and_true, Bool.true_and]
  | [y], b, x => by
    have h := okFrom_append [] y.wr x
    simp only [List.nil_append, List.getLast?_nil] at h
    show (!(decide (y.n < 1) || (b && !y.wr)) && okFrom y.wr [x]) = _
    rw [h]
    simp only [okFrom, List.getLast?_singleton, Bool.and_true, Bool.true_and]
  | y :: z :: acc, b, x => by
    have h := okFrom_append (z :: acc) y.wr x
    show (!(decide (y.n < 1) || (b && !y.wr)) && okFrom y.wr (z :: acc ++ [x])) = _
    rw [h]
    have e : okFrom b (y :: z :: acc) = (!(decide (y.n < 1) || (b && !y.wr)) && okFrom y.wr (z :: acc)) := rfl
    rw [e, List.getLast?_cons_cons]
    have e2 : ∀ u, (z :: acc).getLast? = some u → True := fun _ _ => trivial
    cases hl : (z :: acc).getLast? with
    | none => simp at hl
    | some u => simp only [Bool.and_assoc]

theorem dX_eq (lm : List UInt8) (base i : Int) (hl : lm.length ≤ 65536) : (dX lm base i).2 = (textE lm (bufAt lm base i).a (bufAt lm base i).n == 0) ∧ ((dX lm base i).2 = true → bfOf (dX lm base i).1 = bufAt lm base i) := by
  have hb := getX_lt8 lm (base + 16 * i)
  unfold dX dbuf bufAt G8 G4 G2 textE bfOf
  simp only
  by_cases h : (lm.length : Int) < (getX lm (base + 16 * i + 8) 4 : Int) ∨ (lm.length : Int) - (getX lm (base + 16 * i + 8) 4 : Int) < (getX lm (base + 16 * i) 8 : Int)
  · rw [if_pos h, if_pos (by unfold wrap64; omega)]
    exact ⟨rfl, fun e => by cases e⟩
  · have e : wrap64 (getX lm (base + 16 * i) 8 : Int) = (getX lm (base + 16 * i) 8 : Int) := by unfold wrap64; omega
    rw [if_neg h, e, if_neg (by omega)]
    exact ⟨rfl, fun _ => rfl⟩

theorem follow_chain (lm : List UInt8) (base : Int) (n : Nat) (hl : lm.length ≤ 65536) : ∀ (f : Nat) (i : Int) (acc : List Bf), followF lm base n f i acc = if okFrom false acc then chainF lm base n f i acc else none
  | 0, i, acc => by unfold followF chainF; simp
  | f + 1, i, acc => by
    have ih := follow_chain lm base n hl f
    obtain ⟨d1, d2⟩ := dX_eq lm base i hl
    unfold followF chainF
    by_cases hi : i < n
    · rw [if_pos hi, if_pos hi]
      obtain ⟨x, hx⟩ : ∃ x, x = bufAt lm base i := ⟨_, rfl⟩
      rw [← hx] at d1 d2 ⊢
      have happ := okFrom_append acc false x
      have hbad : badBuf lm acc x = (!(textE lm x.a x.n == 0) || (decide (x.n < 1) || ((match acc.getLast? with | some y => y.wr | none => false) && !x.wr))) := by
        unfold badBuf
        cases decide (x.n < 1) <;> cases (textE lm x.a x.n == 0) <;> rfl
      rw [hbad]
      cases ht : (textE lm x.a x.n == 0) with
      | false =>
        rw [ht] at d1
        rw [d1]
        simp
      | true =>
        rw [ht] at d1
        rw [d1, d2 d1, ih, show inOrd (acc ++ [x]) = okFrom false (acc ++ [x]) from by unfold inOrd; rw [List.length_append, decide_eq_true (by simp), Bool.and_true], happ]
        simp only [if_true, Bool.not_true, Bool.false_or]
        have hg : G2 lm (base + 16 * i + 12) = getX lm (base + 16 * i + 12) 2 := rfl
        have hg2 : G2 lm (base + 16 * i + 14) = getX lm (base + 16 * i + 14) 2 := rfl
        rw [hg, hg2]
        cases okFrom false acc <;> cases (decide (x.n < 1) || ((match acc.getLast? with | some y => y.wr | none => false) && !x.wr)) <;> simp
    · rw [if_neg hi, if_neg hi]
      simp

/-- What the code's Next comes to, told as the document's. -/
theorem next_code {w w' : World} {p g h : Nat} {lm : List UInt8} {base : Int} {n : Nat} {taken told : Int} {e : Ending} (s : PS w p g h lm base n taken told) (hP : VNextPost w p g h lm base n taken told e w') :
    ∃ v, e = .returned (.tuple #[.int .i64 (nextF lm base n taken).1, v, .int .i64 (nextF lm base n taken).2.2]) ∧ IsBufs w' v (nextF lm base n taken).2.1 ∧
      PS w' p g h lm base n (if (nextF lm base n taken).2.2 = 0 then (taken + 1) % 65536 else taken) told ∧ Turned (fun k => k = h ∨ k = p) w w' := by
  have eI : G2 lm (base + 16 * n + 2) = offI lm base n := rfl
  have eH : G2 lm (base + 16 * n + 4 + 2 * (taken % n)) = offHead lm base n taken := rfl
  have eF := follow_chain lm base n s.len n (offHead lm base n taken) []
  rw [show okFrom false [] = true from rfl, if_pos rfl] at eF
  unfold nextF
  rw [eI, eH, ← eF]
  rcases hP with ⟨h1, rfl, k⟩ | ⟨h1, h2, rfl, k⟩ | ⟨l, v, h1, h2, h3, rfl, hv, ps, k⟩
  · rw [if_pos h1]
    exact ⟨_, rfl, bufs_nil w', by simpa using s.grown k, Turned.of k (fun j e => by cases e)⟩
  · rw [if_neg h1]
    by_cases h3 : (offI lm base n - taken) % 65536 ≤ n
    · rw [if_pos h3]
      have h4 : followF lm base n n (offHead lm base n taken) [] = none := by
        rcases h2 with h2 | h2
        · omega
        · exact h2
      rw [h4]
      exact ⟨_, rfl, bufs_nil w', by simpa using s.grown k, Turned.of k (fun j e => by cases e)⟩
    · rw [if_neg h3]
      exact ⟨_, rfl, bufs_nil w', by simpa using s.grown k, Turned.of k (fun j e => by cases e)⟩
  · rw [if_neg h1, if_pos h2, h3]
    exact ⟨_, rfl, hv, by simpa using ps, Turned.of k (fun j e => .inr (by injection e with e; exact e.symm))⟩

theorem erase_uniq (hd : Int) : ∀ (l : List Ch), (l.map Ch.head).Nodup → ∀ (P : Ch → Bool), (∀ x ∈ l, P x = true → x.head = hd) → (∃ x ∈ l, P x = true) → l.findIdx P < l.length ∧ l.eraseIdx (l.findIdx P) = l.filter (fun y => y.head != hd)
  | [], _, _, _, h => by obtain ⟨x, hx, _⟩ := h; simp at hx
  | y :: l, hu, P, hP, h => by
    rw [List.map_cons, List.nodup_cons] at hu
    rw [List.findIdx_cons]
    cases hy : P y with
    | true =>
      have hh := hP y List.mem_cons_self hy
      refine ⟨by simp, ?_⟩
      simp only [cond_true, List.eraseIdx_zero, List.tail_cons]
      rw [List.filter_cons, if_neg (by simp [hh])]
      refine (List.filter_eq_self.2 ?_).symm
      intro z hz
      have : z.head ≠ hd := fun e => hu.1 (by rw [hh, ← e]; exact List.mem_map_of_mem hz)
      simpa using this
    | false =>
      obtain ⟨x, hx, hpx⟩ := h
      have hx' : x ∈ l := by
        rcases List.mem_cons.1 hx with rfl | hx
        · rw [hy] at hpx; cases hpx
        · exact hx
      obtain ⟨i1, i2⟩ := erase_uniq hd l hu.2 P (fun z hz => hP z (List.mem_cons_of_mem _ hz)) ⟨x, hx', hpx⟩
      refine ⟨by simp only [cond_false, List.length_cons]; omega, ?_⟩
      simp only [cond_false, List.eraseIdx_cons_succ]
      have hyh : y.head ≠ hd := fun e => hu.1 (by rw [e, ← hP x (List.mem_cons_of_mem _ hx') hpx]; exact List.mem_map_of_mem hx')
      rw [i2, List.filter_cons, if_pos (by simpa using hyh)]

theorem none_found {l : List Ch} {P : Ch → Bool} (h : ∀ x ∈ l, P x = false) : ¬ l.findIdx P < l.length := by
  rw [List.findIdx_lt_length]
  rintro ⟨x, hx, hp⟩
  rw [h x hx] at hp
  cases hp

theorem findIdx_map {α β : Type} (f : α → β) (P : β → Bool) : ∀ (l : List α), (l.map f).findIdx P = l.findIdx (fun x => P (f x))
  | [] => rfl
  | x :: l => by rw [List.map_cons, List.findIdx_cons, List.findIdx_cons, findIdx_map f P l]
theorem eraseIdx_map {α β : Type} (f : α → β) : ∀ (l : List α) (i : Nat), (l.eraseIdx i).map f = (l.map f).eraseIdx i
  | [], i => by simp
  | x :: l, 0 => by simp
  | x :: l, i + 1 => by simp [eraseIdx_map f l i]

/-- What the code's Pop comes to, told as the document's. -/
theorem pop_code {w w' : World} {q g h mb : Nat} {lm : List UInt8} {base : Int} {n : Nat} {cs : List Oc} {off back : Int} {e : Ending} (s : QS w q g h lm base n mb cs off back false) (hP : PopPost w q g h lm base n mb cs off back e w')
    (l : List Cq) (ht : l.map toCh = cs.map Oc.c) (hu : (cs.map fun y => y.c.head).Nodup) :
    e = .returned (.tuple #[.int .i64 (popF lm base n l back false).2.2.2.1, .int .i64 (popF lm base n l back false).2.2.2.2.1, .int .i64 (popF lm base n l back false).2.2.2.2.2]) ∧
      ∃ cs', QS w' q g h lm base n mb cs' off (popF lm base n l back false).2.1 (popF lm base n l back false).2.2.1 ∧ (popF lm base n l back false).1.map toCh = cs'.map Oc.c ∧ (cs'.map fun y => y.c.head).Nodup ∧ (∀ y ∈ cs', y ∈ cs) ∧ Turned (QB q h mb) w w' := by
  have eI : G2 lm (base + usedAt n + 2) = usedI lm base n := rfl
  have eN : G4 lm (base + usedAt n + 4 + 8 * (back % n)) = usedNum lm base n back := rfl
  have eL : G4 lm (base + usedAt n + 8 + 8 * (back % n)) = usedLen lm base n back := by
    unfold G4 usedLen
    rw [show base + usedAt n + 8 + 8 * (back % n) = base + usedAt n + 4 + 8 * (back % n) + 4 by omega]
  have hln : l.length = cs.length := by have := congrArg List.length ht; simpa using this
  unfold popF
  rw [if_neg (by decide), eI, eN, eL]
  obtain ⟨D, hD⟩ : ∃ D, D = (usedI lm base n - back) % 65536 := ⟨_, rfl⟩
  obtain ⟨H, hH⟩ : ∃ H, H = usedNum lm base n back := ⟨_, rfl⟩
  obtain ⟨L, hL⟩ : ∃ L, L = usedLen lm base n back := ⟨_, rfl⟩
  unfold PopPost at hP
  rw [← hD, ← hH, ← hL] at hP
  rw [← hD, ← hH, ← hL]
  let P : Ch → Bool := fun c => c.head == H && (decide (L ≤ c.most) && decide (D ≤ l.length))
  have hPp : popI l H L D = (cs.map Oc.c).findIdx P := by
    rw [← ht, findIdx_map]
    rfl
  have hlen2 : (cs.map Oc.c).length = l.length := by rw [List.length_map, hln]
  have hu2 : ((cs.map Oc.c).map Ch.head).Nodup := by rw [List.map_map]; exact hu
  rw [hPp]
  rcases hP with ⟨h1, rfl, k⟩ | ⟨h1, h2, rfl, s', t⟩ | ⟨x, hx, h1, h2, h3, h4, rfl, s', t⟩
  · rw [if_pos h1]
    exact ⟨rfl, cs, s.grown k, ht, hu, fun _ h => h, Turned.of k (fun j e => by cases e)⟩
  · rw [if_neg h1]
    have hno : ¬ (cs.map Oc.c).findIdx P < (cs.map Oc.c).length := by
      refine none_found fun c hc => ?_
      obtain ⟨y, hy, rfl⟩ := List.mem_map.1 hc
      show (y.c.head == H && (decide (L ≤ y.c.most) && decide (D ≤ l.length))) = false
      rcases h2 with h2 | h2 | ⟨z, hz, hz1, hz2⟩
      · rw [decide_eq_false (show ¬ D ≤ (l.length : Int) by omega)]; simp
      · have := h2 y hy
        rw [show (y.c.head == H) = false from beq_eq_false_iff_ne.2 this]; rfl
      · by_cases e : y.c.head = H
        · have hyz : y.c.most = z.c.most := by
            have := uniq_of hu hy hz (by rw [e, hz1])
            rw [this]
          rw [decide_eq_false (show ¬ L ≤ y.c.most by omega)]; simp
        · rw [show (y.c.head == H) = false from beq_eq_false_iff_ne.2 e]; rfl
    rw [hlen2] at hno
    rw [if_neg hno]
    exact ⟨rfl, cs, s', ht, hu, fun _ h => h, t⟩
  · rw [if_neg h1]
    have hxm : x.c ∈ cs.map Oc.c := List.mem_map_of_mem hx
    obtain ⟨f1, f2⟩ := erase_uniq H (cs.map Oc.c) hu2 P (fun c hc hp => by
      have : (c.head == H) = true := by
        have hp' : (c.head == H && (decide (L ≤ c.most) && decide (D ≤ l.length))) = true := hp
        rw [Bool.and_eq_true] at hp'
        exact hp'.1
      exact beq_iff_eq.1 this) ⟨x.c, hxm, by
      show (x.c.head == H && (decide (L ≤ x.c.most) && decide (D ≤ l.length))) = true
      rw [h3, decide_eq_true h4, decide_eq_true (show D ≤ (l.length : Int) by omega)]
      simp⟩
    rw [hlen2] at f1
    rw [if_pos f1]
    refine ⟨rfl, _, s', ?_, ?_, fun y hy => (List.mem_filter.1 hy).1, t⟩
    · show (l.eraseIdx _).map toCh = _
      rw [eraseIdx_map, ht, f2, List.filter_map]
      rfl
    · exact hu.sublist (List.Sublist.map _ List.filter_sublist)

theorem few : ∀ (k : Nat) (l : List Int), l.Nodup → (∀ x ∈ l, 0 ≤ x ∧ x < k) → l.length ≤ k
  | 0, l, _, h => by
    cases l with
    | nil => simp
    | cons a l => have := h a List.mem_cons_self; omega
  | k + 1, l, hn, h => by
    by_cases hk : ((k : Nat) : Int) ∈ l
    · have h1 := few k (l.erase (k : Int)) (hn.erase _) (fun x hx => by
        have hx2 := (List.Nodup.mem_erase_iff hn).1 hx
        have := h x hx2.2
        have := hx2.1
        omega)
      have h2 := List.length_erase_of_mem hk
      have h3 : 0 < l.length := List.length_pos_of_mem hk
      omega
    · have := few k l hn (fun x hx => by
        have h1 := h x hx
        have : x ≠ (k : Int) := fun e => hk (e ▸ hx)
        omega)
      omega
theorem done_same (lm : List UInt8) (base : Int) (n : Nat) (told head len : Int) : doneL lm base n told head len = vdoneL lm base n told head len := by
  unfold doneL vdoneL
  rw [show base + usedAt n + 8 + 8 * (told % n) = base + usedAt n + 4 + 8 * (told % n) + 4 by omega]
theorem wipe_zero (z : Nat) (base n : Int) (b0 : 0 ≤ base) (b1 : base + bytesOf n ≤ z) : wipeL (List.replicate z 0) base n = List.replicate z 0 := by
  have hb := (bytesOf_bd n).1
  have hlen : (wipeL (List.replicate z 0) base n).length = z := by rw [wipeL_length, List.length_replicate]
  refine List.eq_replicate_of_mem ?_ |>.trans (by rw [hlen])
  intro x hx
  unfold wipeL writeL at hx
  split at hx
  · unfold lay at hx
    simp only [List.mem_append] at hx
    rcases hx with hx | hx | hx
    · exact (List.mem_replicate.1 (List.mem_of_mem_take hx)).2
    · exact (List.mem_replicate.1 hx).2
    · exact (List.mem_replicate.1 (List.mem_of_mem_drop hx)).2
  · exact (List.mem_replicate.1 hx).2

end Go.Proofs.Ytjelgifijhcnnaa
