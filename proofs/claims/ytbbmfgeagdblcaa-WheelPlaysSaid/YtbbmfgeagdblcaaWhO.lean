/-
  Layer 5: two wheels side by side, and what was told; same. Conditions: as said.
-/
import Derived.Test.YtbbmfgeagdblcaaWhActs
namespace Go.Proofs.Ytbbmfgeagdblcaa
open Go.RowKit Go.Sort Go.Shelf

theorem ownsRow_turn {w w' : World} {base : Nat} {TE : TypeId} {size : Nat} {v : Value} {n : Nat} {xs : List Value} {O : Nat → Prop} (h : w.ownsRow base TE size v n xs) (t : Turn w w' O) (ho : ∀ k, v.ownBlock = some k → ¬ O k) : w'.ownsRow base TE size v n xs := by
  refine ⟨h.1, ?_⟩
  rcases h.2 with h2 | ⟨b, cap, cur, hv, hb, hh, hr⟩
  · exact .inl h2
  · refine .inr ⟨b, cap, cur, hv, hb, ?_, hr⟩
    rw [t.block b (Array.getElem?_eq_some_iff.1 hh).1 (ho b (by rw [hv]; rfl))]
    exact hh
theorem ownsRow_base {w : World} {base base' : Nat} {TE : TypeId} {size : Nat} {v : Value} {n : Nat} {xs : List Value} (h : w.ownsRow base TE size v n xs) (hb : base' ≤ base) : w.ownsRow base' TE size v n xs := by
  refine ⟨h.1, ?_⟩
  rcases h.2 with h2 | ⟨b, cap, cur, hv, hb', hr⟩
  · exact .inl h2
  · exact .inr ⟨b, cap, cur, hv, by omega, hr⟩

/-- 'append' of one own row of one-cell things, onto another. -/
theorem wpList_append_told {P : Program} {ops : Array Oper} {rest : List Oper} {o : Oper} {a : Act} {w : World} {Q : Exit → Act → World → Prop}
    (hg : o.guard = none) (s x : Operand) (t : TypeId) (hop : o.op = Op.call { callee := Callee.builtin Builtin.append, args := #[s, x], argTypes := #[t, t] })
    (TE : TypeId) (i : TypeInfo) (z : Value) (bytes : Nat) (ht : P.underlying t = some (.slice TE)) (hi : P.info? TE = some i) (hz : i.zero = some z) (hsize : i.size = 1) (hby : i.bytes = bytes) (hb2 : bytes ≤ 64) (hzs : z.cells.size = 1)
    (B : Nat) (v : Value) (n : Nat) (xs : List Value) (hs : a.eval s = v) (hown : w.ownsRow B TE 1 v n xs) (hB : B ≤ w.heap.size) (B2 : Nat) (c : Value) (m : Nat) (ys : List Value) (hx : a.eval x = c) (hc : w.ownsRow B2 TE 1 c m ys) (h1 : ∀ u ∈ ys, u.oneCell' = true) (hl : n + m ≤ 100000000)
    (hK : ∀ v' w', w'.ownsRow B TE 1 v' (n + m) (xs ++ ys) → w.grownBy w' v.ownBlock → (v'.ownBlock = v.ownBlock ∨ v'.ownBlock = some w.heap.size) → wpList P ops Q rest (a.put o.dst v') w') :
    wpList P ops Q (o :: rest) a w :=
  wpList_plain hg fun K hKK => by
    unfold Oper.wp
    rcases hc.2 with ⟨rfl, h0⟩ | ⟨b, cap, cur, rfl, _, hb, _⟩
    · have hr := run_append_none (P := P) w t o.type TE i 1 ht hi hsize v n xs (ownsRow_base hown (Nat.zero_le _))
      have hy : ys = [] := List.eq_nil_of_length_eq_zero (by have := hc.1; omega)
      subst hy h0
      simp only [execOp, hop, resolve, invoke, builtin, Sem.run_bind, Sem.run_pure, Result.andThen_ok, List.map_toArray, List.map_cons, List.map_nil, hs, hx, hr]
      exact hKK _ _ (hK v w (by rw [List.append_nil]; exact hown) ⟨rfl, rfl, rfl, Nat.le_refl _, fun _ _ _ => rfl⟩ (.inl rfl))
    · obtain ⟨v', w', hr, h2, h3, _, h5⟩ := run_append_own_at (P := P) w B t o.type TE i z 1 bytes ht hi hz hsize hby hzs (by decide) v n xs hown ⟨b, 0, none⟩ m cap ys hc.1 (hc.cells (g := b) rfl)
        h1 (by unfold maxLen; omega) (by have := Nat.mul_le_mul (show n + m ≤ 100000000 by omega) hb2; omega) hB
      simp only [execOp, hop, resolve, invoke, builtin, Sem.run_bind, Sem.run_pure, Result.andThen_ok, List.map_toArray, List.map_cons, List.map_nil, hs, hx, hr]
      exact hKK _ _ (hK v' w' h2 h3 h5)

/-- Two wheels of numbers, and a list of what was told: all in blocks of their own, from B on. -/
def SS (B : Nat) (w : World) (ga : Nat) (na la : Int) (La : List (Tm Int)) (gb : Nat) (nb lb : Int) (Lb : List (Tm Int)) (v : Value) (ns : List Int) : Prop :=
  ∃ Oa Ob, IsWI w Oa ga na la La ∧ IsWI w Ob gb nb lb Lb ∧ (∀ j, Oa j → ¬ Ob j) ∧ (∀ j, Oa j ∨ Ob j → B ≤ j ∧ j < w.heap.size) ∧ w.ownsRow B 3 1 v ns.length (ns.map (Value.int .i64)) ∧ (∀ j, v.ownBlock = some j → ¬ Oa j ∧ ¬ Ob j) ∧ B ≤ w.heap.size
section
variable {B : Nat} {w w' : World} {ga gb : Nat} {na la nb lb : Int} {La Lb : List (Tm Int)} {v v' : Value} {ns ns' : List Int}
theorem SS.kept (h : SS B w ga na la La gb nb lb Lb v ns) (t : Turn w w' (fun _ => False)) : SS B w' ga na la La gb nb lb Lb v ns := by
  obtain ⟨Oa, Ob, h1, h2, h3, h4, h5, h6, h7⟩ := h
  exact ⟨Oa, Ob, h1.turn t (fun _ _ h => h), h2.turn t (fun _ _ h => h), h3, fun j hj => ⟨(h4 j hj).1, Nat.lt_of_lt_of_le (h4 j hj).2 t.size⟩, ownsRow_turn h5 t (fun _ _ h => h), h6, Nat.le_trans h7 t.size⟩
theorem SS.swap (h : SS B w ga na la La gb nb lb Lb v ns) : SS B w gb nb lb Lb ga na la La v ns := by
  obtain ⟨Oa, Ob, h1, h2, h3, h4, h5, h6, h7⟩ := h
  exact ⟨Ob, Oa, h2, h1, fun j hj hx => h3 j hx hj, fun j hj => h4 j hj.symm, h5, fun j hj => (h6 j hj).symm, h7⟩
/-- A call of the first wheel: the other one, and the list, stay. -/
theorem SS.step (h : SS B w ga na la La gb nb lb Lb v ns) : ∃ Oa, IsWI w Oa ga na la La ∧ ∀ (w' : World) (na' la' : Int) (La' : List (Tm Int)), IsWI w' (More Oa w w') ga na' la' La' → Turn w w' Oa → SS B w' ga na' la' La' gb nb lb Lb v ns ∧ (∀ j, Oa j → B ≤ j) := by
  obtain ⟨Oa, Ob, h1, h2, h3, h4, h5, h6, h7⟩ := h
  refine ⟨Oa, h1, fun w' na' la' La' i t => ⟨⟨_, Ob, i, h2.turn t (fun j hb ha => h3 j ha hb), fun j hj hb => ?_, fun j hj => ?_, ownsRow_turn h5 t (fun j hj => (h6 j hj).1), fun j hj => ⟨fun hx => ?_, (h6 j hj).2⟩, Nat.le_trans h7 t.size⟩, fun j hj => (h4 j (.inl hj)).1⟩⟩
  · rcases hj with hj | hj
    · exact h3 j hj hb
    · have := (h4 j (.inr hb)).2; omega
  · have hz := t.size
    rcases hj with (hj | hj) | hj
    · have := h4 j (.inl hj); exact ⟨this.1, by omega⟩
    · exact ⟨by omega, hj.2⟩
    · have := h4 j (.inr hj); exact ⟨this.1, by omega⟩
  · rcases hx with hx | hx
    · exact (h6 j hj).1 hx
    · have := (h5.lt j hj).2; omega
theorem SS.list (h : SS B w ga na la La gb nb lb Lb v ns) : w.ownsRow B 3 1 v ns.length (ns.map (Value.int .i64)) ∧ B ≤ w.heap.size := by
  obtain ⟨_, _, _, _, _, _, h5, _, h7⟩ := h
  exact ⟨h5, h7⟩
theorem SS.grown (h : SS B w ga na la La gb nb lb Lb v ns) (hr : w'.ownsRow B 3 1 v' ns'.length (ns'.map (Value.int .i64))) (hg : w.grownBy w' v.ownBlock) (hb : v'.ownBlock = v.ownBlock ∨ v'.ownBlock = some w.heap.size) : SS B w' ga na la La gb nb lb Lb v' ns' := by
  obtain ⟨Oa, Ob, h1, h2, h3, h4, h5, h6, h7⟩ := h
  refine ⟨Oa, Ob, h1.kept (fun j hj ho => hg.block j hj (fun hx => (h6 j hx.symm).1 ho)), h2.kept (fun j hj ho => hg.block j hj (fun hx => (h6 j hx.symm).2 ho)), h3, fun j hj => ⟨(h4 j hj).1, Nat.lt_of_lt_of_le (h4 j hj).2 hg.size⟩, hr, fun j hj => ?_, Nat.le_trans h7 hg.size⟩
  rcases hb with hb | hb
  · exact h6 j (by rw [← hb]; exact hj)
  · rw [hb] at hj; injection hj with hj
    exact ⟨fun hx => by have := (h4 j (.inl hx)).2; omega, fun hx => by have := (h4 j (.inr hx)).2; omega⟩
theorem SS.growTurn (h : SS B w ga na la La gb nb lb Lb v ns) {w0 : World} (t : Turn w0 w (fun _ => False)) (hB : w0.heap.size = B) (hg : w.grownBy w' v.ownBlock) : Turn w0 w' (fun _ => False) := by
  obtain ⟨h5, _⟩ := h.list
  exact t.step (Turn.of_grown (O := fun j => v.ownBlock = some j) hg (fun j h => h)) (fun j hj => by have := (h5.lt j hj).1; omega)
end

theorem wf_i64 {d : Int} (h : (Lit.int .i64 d).wf = true) : -9223372036854775808 ≤ d ∧ d ≤ 9223372036854775807 := by
  simp only [Lit.wf, Bool.and_eq_true, decide_eq_true_eq] at h
  exact h
theorem wf_u8 {d : Int} (h : (Lit.int .u8 d).wf = true) : 0 ≤ d ∧ d ≤ 255 := by
  simp only [Lit.wf, Bool.and_eq_true, decide_eq_true_eq] at h
  exact h

/-- Told in steps, or at once. -/
theorem told_steps {X : Type} {L : List (Tm X)} (hL : L.Pairwise (fun x y => x.id < y.id)) {N M : Int} (hNM : N ≤ M) : told N L ++ told M (rests N L) = told M L := by
  have hp : (told N L ++ told M (rests N L)).Perm (dues N L ++ dues M (rests N L)) := (told_perm N L).append (told_perm M _)
  have hn1 : (dues N L).Nodup := (ids_nodup hL).filter _
  have hn2 : (dues M (rests N L)).Nodup := ((ids_nodup hL).filter _).filter _
  have hq : (dues N L ++ dues M (rests N L)).Perm (dues M L) := by
    refine (List.perm_ext_iff_of_nodup ?_ (show (dues M L).Nodup from (ids_nodup hL).filter _)).2 fun t => ?_
    · rw [List.nodup_append]
      refine ⟨hn1, hn2, fun a ha b hb e => ?_⟩
      subst e
      have h1 := (mem_dues.1 ha).2
      have h2 := (mem_rests.1 (mem_dues.1 hb).1).2
      omega
    · rw [List.mem_append, mem_dues, mem_dues, mem_dues, mem_rests]
      constructor
      · rintro (⟨h1, h2⟩ | ⟨⟨h1, h2⟩, h3⟩)
        · exact ⟨h1, by omega⟩
        · exact ⟨h1, h3⟩
      · rintro ⟨h1, h2⟩
        by_cases h : t.due ≤ N
        · exact .inl ⟨h1, h⟩
        · exact .inr ⟨⟨h1, by omega⟩, h2⟩
  refine sorted_one hL (d := dues M L) (fun t ht => (mem_dues.1 ht).1) (hp.trans hq) (told_perm M L) ?_ (sortT_sorted _)
  rw [List.pairwise_append]
  refine ⟨sortT_sorted _, sortT_sorted _, fun a ha b hb => ?_⟩
  have h1 := (mem_dues.1 ((told_perm N L).mem_iff.1 ha)).2
  have h2 := (mem_rests.1 (mem_dues.1 ((told_perm M _).mem_iff.1 hb)).1).2
  unfold ltT
  omega
theorem rests_steps {X : Type} (L : List (Tm X)) {N M : Int} (hNM : N ≤ M) : rests M (rests N L) = rests M L := by
  unfold rests
  rw [List.filter_filter]
  congr 1
  funext t
  rw [Bool.eq_iff_iff]
  simp [isDue]
  omega

theorem Turn.drewN (w : World) (q : Nat) (O : Nat → Prop) : Turn w (w.drewN q) O := ⟨rfl, rfl, rfl, Nat.le_refl _, fun _ _ _ => rfl⟩
set_option maxHeartbeats 400000 in
theorem same_cells (w : World) (n : Nat) (pa pb : Option Addr) (ca cb : Nat) (ns : List Int) (hl : ns.length = n) (hn : n ≤ 9223372036854775807) (h : 0 < n → ∃ a b, pa = some ⟨a, 0, none⟩ ∧ pb = some ⟨b, 0, none⟩ ∧ ∀ (j : Nat) (hj : j < ns.length), w.cell? ⟨a, j, none⟩ = some (.int .i64 ns[j]) ∧ w.cell? ⟨b, j, none⟩ = some (.int .i64 ns[j])) :
    Calls Try.prog 16 #[.slice pa n ca, .slice pb n cb] w fun e w' => e = .returned (.bool true) ∧ Turn w w' (fun _ => False) := by
  by_cases h0 : n = 0
  · subst h0
    go_enter Try.func16, Try.ntmps16
    go_wp2
    go_loop [5] (fun i => i = .int .i64 0) (fun _ => 0)
    case atStart => exact rfl
    case round =>
      subst hrel
      go_wp2
      go_ret
      exact ⟨rfl, Turn.refl _ _⟩
  · obtain ⟨a, b, rfl, rfl, hc⟩ := h (by omega)
    have HC := Lib.hid hc
    have HL := Lib.hid hl
    have hT := Turn.refl w (fun _ => False)
    clear hc hl h
    go_enter Try.func16, Try.ntmps16
    go_wp2
    go_loopw [5] (fun i wr => ∃ k : Nat, k ≤ n ∧ i = .int .i64 k ∧ Turn w wr (fun _ => False)) (fun i _ => n - (intOf i).toNat)
    case atStart => exact ⟨0, Nat.zero_le _, rfl, hT⟩
    case round =>
      obtain ⟨k, hk, rfl, T⟩ := hrel
      by_cases hlt : k < n
      · obtain ⟨d1, d2⟩ := HC.out k (by rw [HL.out]; exact hlt)
        have c1 : wr.cell? ⟨a, k, none⟩ = _ := (World.cell?_of_block (a := ⟨a, k, none⟩) (T.block a (World.block_lt_of_cell? w _ d1) id)).trans d1
        have c2 : wr.cell? ⟨b, k, none⟩ = _ := (World.cell?_of_block (a := ⟨b, k, none⟩) (T.block b (World.block_lt_of_cell? w _ d2) id)).trans d2
        clear d1 d2
        generalize ns[k]'_ = x at c1 c2
        have hd : decide ((k : Int) < (n : Int)) = true := by simp; omega
        have hki : (k : Int) < (n : Int) := by omega
        have hk0 : (0 : Int) ≤ (k : Int) := by omega
        go_wp2
        go_quiet (fail)
        go_wp2
        go_roundw
        case rel => exact ⟨k + 1, by omega, by go_num, T.trans (Turn.drewN _ _ _)⟩
        case measure => simp [intOf]; omega
      · have hd : decide ((k : Int) < (n : Int)) = false := by simp; omega
        go_wp2
        go_ret
        exact ⟨rfl, T⟩
theorem same_any {w : World} {B B2 : Nat} {va vb : Value} {ns : List Int} (ha : w.ownsRow B 3 1 va ns.length (ns.map (Value.int .i64))) (hb : w.ownsRow B2 3 1 vb ns.length (ns.map (Value.int .i64))) (hn : ns.length ≤ 100000000) :
    Calls Try.prog 16 #[va, vb] w fun e w' => e = .returned (.bool true) ∧ Turn w w' (fun _ => False) := by
  obtain ⟨pa, ca, h1⟩ := own_len ha
  obtain ⟨pb, cb, h2⟩ := own_len hb
  subst h1 h2
  refine same_cells w ns.length pa pb ca cb ns rfl (by omega) fun hp => ?_
  obtain ⟨a, c1, e1, _, _, k1⟩ := own_cells ha hp
  obtain ⟨b, c2, e2, _, _, k2⟩ := own_cells hb hp
  injection e1 with e1
  injection e2 with e2
  exact ⟨a, b, e1, e2, fun j hj => ⟨k1 j _ (by simp [hj]), k2 j _ (by simp [hj])⟩⟩

end Go.Proofs.Ytbbmfgeagdblcaa
