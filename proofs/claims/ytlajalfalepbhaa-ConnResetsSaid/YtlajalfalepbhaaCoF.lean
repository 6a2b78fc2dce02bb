/-
  Layer 15: Out of none or one segment; what a state that nobody answers is, once more; where such a one begins, as the loop wants it. Conditions: as said.
-/
import Derived.Test.YtlajalfalepbhaaCoE
namespace Go.Proofs.Ytlajalfalepbhaa
open Go.ChangeShapes Go.WideShapes Go.ChangeAt Go.RowKit
set_option linter.unusedVariables false

theorem CB.drop {w0 w : World} {fx : List (Nat × Obj)} {x : Nat × Obj} {q : Bq} {v : Cn} (h : CB w0 (x :: fx) q v w) : CB w0 fx q v w := by
  obtain ⟨sl, m, hs⟩ := h.ex
  exact ⟨⟨sl, m, fun j hj => ⟨(hs j hj).1, fun y hy => (hs j hj).2 y (List.mem_cons_of_mem _ hy)⟩⟩, h.ok, h.bl, h.own, fun y hy => h.fx y (List.mem_cons_of_mem _ hy)⟩
/-- What a tick brings out: nothing, or one segment, whose flags are told. -/
theorem out_two {w0 w : World} {fx : List (Nat × Obj)} {q : Bq} {v : Cn} (h : CB w0 fx q v w) (n : Nat) (fl : Int) (hn : (n = 0 ∧ v.sent = []) ∨ (n = 1 ∧ ∃ x, v.sent = [x] ∧ x.fl = fl)) :
    Calls Try.prog 11 #[.pointer (some ⟨q.c, 0, none⟩)] w fun e w' => ∃ p c, e = .returned (.slice p n c) ∧ CB w0 fx q (outV v) w' ∧ (n = 1 → ∃ b, p = some ⟨b, 0, none⟩ ∧ w'.cell? ⟨b, 4, none⟩ = some (.int .i64 fl)) := by
  rcases hn with ⟨rfl, hs⟩ | ⟨rfl, x, hs, hf⟩
  · have k := out_ok h
    rw [hs] at k
    exact k.mono fun e w' ⟨p, c, e1, h1, _, _⟩ => ⟨p, c, e1, h1, fun e => absurd e (by decide)⟩
  · exact (out_one h hs).mono fun e w' ⟨b, c, cur, e1, h1, hc, _⟩ => ⟨some ⟨b, 0, none⟩, c, e1, h1.drop, fun _ => ⟨b, rfl, by
      rw [cell_of_block (h1.fx _ List.mem_cons_self).1, ← hf]
      exact hc 4 _ rfl⟩⟩
theorem SA.out {mt : Int} {v : Cn} {c : CkV} {r tr : Int} (h : SA mt v c r tr) : SA mt (outV v) c r tr := by
  obtain ⟨told, mr, me, ma, rfl⟩ := h
  exact ⟨told, mr, me, ma, rfl⟩
theorem SB.out {L : List UInt8} {mt : Int} {v : Cn} {c : CkV} {r tr : Int} (h : SB L mt v c r tr) : SB L mt (outV v) c r tr := by
  obtain ⟨told, mr, me, ma, rfl⟩ := h
  exact ⟨told, mr, me, ma, rfl⟩
theorem SC.out {L : List UInt8} {mt : Int} {v : Cn} {c : CkV} {r tr : Int} (h : SC L mt v c r tr) : SC L mt (outV v) c r tr := by
  obtain ⟨h0, told, mr, me, ma, rfl⟩ := h
  exact ⟨h0, told, mr, me, ma, rfl⟩
/-- Which of the three it is. -/
def SX (op sh : Bool) (L : List UInt8) (mt : Int) : Cn → CkV → Int → Int → Prop := if op then if sh then SC L mt else SB L mt else SA mt
theorem sysX (op sh : Bool) (L : List UInt8) (h1 : 1 ≤ L.length) (h2 : L.length ≤ 100) (mt : Int) : Sys (op && sh) mt (SX op sh L mt) := by
  cases op <;> cases sh
  · exact sysA mt
  · exact sysA mt
  · exact sysB L h1 h2 mt
  · exact sysC L mt
theorem SX.out {op sh : Bool} {L : List UInt8} {mt : Int} {v : Cn} {c : CkV} {r tr : Int} (h : SX op sh L mt v c r tr) : SX op sh L mt (outV v) c r tr := by
  cases op <;> cases sh
  · exact SA.out h
  · exact SA.out h
  · exact SB.out h
  · exact SC.out h
theorem slC_ok {f l m : Int} (h1 : 1 ≤ l) (h2 : l ≤ f) (h3 : f ≤ m) (h4 : m ≤ 1048576) : (slC f l m).ok :=
  ⟨h1, h2, h3, h4, by show (0 : Int) ≤ 0; decide, by show (0 : Int) ≤ 8388608; decide, by show (0 : Int) ≤ 0; decide, by show (0 : Int) ≤ 4194304; decide⟩
/-- A round of the loop, as numbers: what is told of it. -/
def AL (op sh : Bool) (L : List UInt8) (mt : Int) (v : Cn) (i sent last gap : Int) : Prop :=
  ∃ c r tr, SX op sh L mt v c r tr ∧ c.ok ∧ c.m ≤ 100 ∧ r = last + c.t - i + 1 ∧ 1 ≤ r ∧ 0 ≤ gap ∧ gap ≤ c.t ∧ 0 ≤ last ∧ last < i ∧ last ≤ 100 * sent ∧ 0 ≤ sent ∧ sent < i ∧ 0 ≤ tr ∧ ((op && sh) = false → tr = sent ∧ tr ≤ mt) ∧ ((op && sh) = true → tr = 0)
def GO (op sh : Bool) (mt : Int) (v : Cn) (sent : Int) : Prop := v.st = 9 ∧ v.rs = true ∧ v.sent = [] ∧ sent = mt ∧ (op && sh) = false
theorem al_zero {op sh : Bool} {L : List UInt8} {mt : Int} {v : Cn} {c : CkV} (h : SX op sh L mt v c c.t 0) (hc : c.ok) (hm : c.m ≤ 100) (ht : 1 ≤ mt) : AL op sh L mt v 1 0 0 0 := by
  have h1 := hc.l1
  have h2 := hc.lt
  exact ⟨c, c.t, 0, h, hc, hm, by omega, by omega, by omega, by omega, by omega, by omega, by omega, by omega, by omega, by omega, fun _ => ⟨rfl, by omega⟩, fun _ => rfl⟩
/-- What a tick makes of one that is there. -/
theorem al_tick {op sh : Bool} {L : List UInt8} (h1 : 1 ≤ L.length) (h2 : L.length ≤ 100) {mt : Int} (ht : 1 ≤ mt) (ht2 : mt ≤ 10) {v : Cn} {i sent last gap : Int} (h : AL op sh L mt v i sent last gap) (hi : 1 ≤ i) (hi2 : i ≤ 1500) :
    ((tickV v).sent = [] ∧ (AL op sh L mt (outV (tickV v)) (i + 1) sent last gap ∨ GO op sh mt (outV (tickV v)) sent)) ∨
    (∃ x, (tickV v).sent = [x] ∧ x.fl / 4 % 2 = 1 ∧ GO op sh mt (outV (tickV v)) sent) ∨
    (∃ x, (tickV v).sent = [x] ∧ x.fl / 4 % 2 ≠ 1 ∧ gap ≤ i - last ∧ i - last ≤ 100 ∧ AL op sh L mt (outV (tickV v)) (i + 1) (sent + 1) i (i - last)) := by
  have Y := sysX op sh L h1 h2 mt
  obtain ⟨c, r, tr, hs, hc, hm, hr, r1, g0, g1, l0, l1, l2, s0, s1, t0, t1, t2⟩ := h
  have k1 := hc.l1
  have k2 := hc.lt
  have k3 := hc.tm
  have tr10 : tr ≤ 10 := by
    cases hb : (op && sh)
    · have := t1 hb; omega
    · have := t2 hb; omega
  by_cases hr2 : 2 ≤ r
  · have q := Y.q v c r tr hs hr2 (by omega)
    refine .inl ⟨(Y.st _ _ _ _ q).2.1, .inl ⟨c, r - 1, tr, q.out, hc, hm, by omega, by omega, g0, g1, l0, by omega, l2, s0, by omega, t0, t1, t2⟩⟩
  · have hr1 : r = 1 := by omega
    subst hr1
    by_cases hm2 : tr < mt ∨ (op && sh) = true
    · obtain ⟨x, x1, x2, x3, x4⟩ := Y.o v c tr hs hc t0 (by omega) hm2
      have kb := hc.back
      have kt : (backV c).t = min (2 * c.t) c.m := rfl
      have km : (backV c).m = c.m := rfl
      refine .inr (.inr ⟨x, x1, x2, by omega, by omega, backV c, (backV c).t, _, x3, kb, by omega, by omega, by omega, by omega, by omega, by omega, by omega, by omega, by omega, by omega, ?_, fun e => ?_, fun e => ?_⟩)
      · split <;> omega
      · have := t1 e
        rw [e] at hm2
        rw [e, if_neg (by decide)]
        have := hm2.resolve_right (by decide)
        omega
      · rw [e, if_pos rfl]
        exact t2 e
    · have hf : (op && sh) = false := by
        cases hb : (op && sh)
        · rfl
        · exact absurd (.inr hb) hm2
      have := t1 hf
      have ht3 : tr = mt := by
        rcases Int.lt_or_le tr mt with a | a
        · exact absurd (.inl a) hm2
        · omega
      obtain ⟨e1, e2, e3⟩ := Y.e v c tr hs ht3 t0 (by omega) hf
      have go : GO op sh mt (outV (tickV v)) sent := ⟨e1, e2, rfl, by omega, hf⟩
      rcases e3 with e3 | ⟨x, e3, e4⟩
      · exact .inl ⟨e3, .inr go⟩
      · exact .inr (.inl ⟨x, e3, e4, go⟩)
/-- At the end. -/
theorem al_end {op sh : Bool} {L : List UInt8} (h1 : 1 ≤ L.length) (h2 : L.length ≤ 100) {mt : Int} (ht2 : mt ≤ 10) {v : Cn} {i sent last gap : Int} (h : AL op sh L mt v i sent last gap) (hi : 1500 < i) : (op && sh) = true ∧ v.st = 2 ∧ v.rs = false ∧ 14 ≤ sent := by
  have Y := sysX op sh L h1 h2 mt
  obtain ⟨c, r, tr, hs, hc, hm, hr, r1, g0, g1, l0, l1, l2, s0, s1, t0, t1, t2⟩ := h
  have k3 := hc.tm
  have hf : (op && sh) = true := by
    cases hb : (op && sh)
    · have := t1 hb; omega
    · rfl
  obtain ⟨a, b, c', d⟩ := Y.st _ _ _ _ hs
  exact ⟨hf, d hf, c', by omega⟩
theorem al_st {op sh : Bool} {L : List UInt8} (h1 : 1 ≤ L.length) (h2 : L.length ≤ 100) {mt : Int} {v : Cn} {i sent last gap : Int} (h : AL op sh L mt v i sent last gap) : v.st ≠ 9 ∧ v.sent = [] := by
  have Y := sysX op sh L h1 h2 mt
  obtain ⟨c, r, tr, hs, _⟩ := h
  exact ⟨(Y.st _ _ _ _ hs).1, (Y.st _ _ _ _ hs).2.1⟩
/-- The same, in one form. -/
theorem al_round {op sh : Bool} {L : List UInt8} (h1 : 1 ≤ L.length) (h2 : L.length ≤ 100) {mt : Int} (ht : 1 ≤ mt) (ht2 : mt ≤ 10) {v : Cn} {i sent last gap : Int} (h : AL op sh L mt v i sent last gap) (hi : 1 ≤ i) (hi2 : i ≤ 1500) :
    ∃ (n : Nat) (fl sent' last' gap' : Int), ((n = 0 ∧ (tickV v).sent = []) ∨ (n = 1 ∧ ∃ x, (tickV v).sent = [x] ∧ x.fl = fl)) ∧ (n = 0 ∨ fl / 4 % 2 = 1 → sent' = sent ∧ last' = last ∧ gap' = gap) ∧ (n = 1 → fl / 4 % 2 ≠ 1 → gap ≤ i - last ∧ i - last ≤ 100 ∧ sent' = sent + 1 ∧ last' = i ∧ gap' = i - last) ∧ (AL op sh L mt (outV (tickV v)) (i + 1) sent' last' gap' ∨ GO op sh mt (outV (tickV v)) sent') := by
  rcases al_tick h1 h2 ht ht2 h hi hi2 with ⟨a, b⟩ | ⟨x, a, b, c⟩ | ⟨x, a, b, c, d, e⟩
  · exact ⟨0, 0, sent, last, gap, .inl ⟨rfl, a⟩, fun _ => ⟨rfl, rfl, rfl⟩, fun e => absurd e (by decide), b⟩
  · exact ⟨1, x.fl, sent, last, gap, .inr ⟨rfl, x, a, rfl⟩, fun _ => ⟨rfl, rfl, rfl⟩, fun _ e => absurd b e, .inr c⟩
  · exact ⟨1, x.fl, sent + 1, i, i - last, .inr ⟨rfl, x, a, rfl⟩, fun e2 => (e2.elim (fun e3 => absurd e3 (by decide)) (fun e3 => absurd e3 b)), fun _ _ => ⟨c, d, rfl, rfl, rfl⟩, .inl e⟩
theorem al_bnd {op sh : Bool} {L : List UInt8} {mt : Int} {v : Cn} {i sent last gap : Int} (h : AL op sh L mt v i sent last gap) : 0 ≤ sent ∧ sent < i ∧ 0 ≤ last ∧ last < i := by
  obtain ⟨c, r, tr, hs, hc, hm, hr, r1, g0, g1, l0, l1, l2, s0, s1, t0, t1, t2⟩ := h
  exact ⟨s0, s1, l0, l1⟩
theorem one_char {s : ByteArray} (h : ¬ s = ⟨#[]⟩) : 1 ≤ s.size := by
  rcases Nat.eq_zero_or_pos s.size with e | e
  · have e2 : s = ⟨#[]⟩ := ByteArray.ext (Array.eq_empty_of_size_eq_zero e)
    exact absurd e2 h
  · exact e
theorem slS_ok {win : Int} (h : win = 1000 ∨ win = 0) : (slS win).ok := by
  rcases h with rfl | rfl <;> (refine ⟨?_, ?_, ?_, ?_, ?_, ?_, ?_, ?_⟩ <;> decide)
theorem st_a {f l m t : Int} (sh : Bool) (L : List UInt8) (h1 : 1 ≤ l) (h2 : l ≤ f) (h3 : f ≤ m) (h4 : m ≤ 100) (ht : 1 ≤ t) : AL false sh L t (outV (slN f l m t)) 1 0 0 0 :=
  al_zero (c := slC f l m) (slA f l m t) (slC_ok h1 h2 h3 (by omega)) h4 ht
theorem st_c {f l m t : Int} (D : ByteArray) (h0 : 1 ≤ D.size) (hz : D.size ≤ 100) (h1 : 1 ≤ l) (h2 : l ≤ f) (h3 : f ≤ m) (h4 : m ≤ 100) (ht : 1 ≤ t) :
    (writeV (inV (outV (slN f l m t)) (slS 0)) D).sent.length = 0 ∧ AL true true D.data.toList t (outV (writeV (inV (outV (slN f l m t)) (slS 0)) D)) 1 0 0 0 := by
  rw [sl_b f l m t 0 (.inr rfl), sl_c f l m t D h0 hz]
  exact ⟨rfl, al_zero (c := measV (slC f l m) 0) (show SC D.data.toList t _ _ _ 0 from ⟨rfl, W48.length, false, 0, 0, rfl⟩) ((slC_ok h1 h2 h3 (by omega)).meas 0) h4 ht⟩
theorem st_b {f l m t : Int} (D : ByteArray) (h0 : 1 ≤ D.size) (hz : D.size ≤ 100) (h1 : 1 ≤ l) (h2 : l ≤ f) (h3 : f ≤ m) (h4 : m ≤ 100) (ht : 1 ≤ t) :
    (writeV (inV (outV (slN f l m t)) (slS 1000)) D).sent.length = 1 ∧ AL true false D.data.toList t (outV (writeV (inV (outV (slN f l m t)) (slS 1000)) D)) 1 0 0 0 := by
  have ck := (slC_ok h1 h2 h3 (by omega)).meas 0
  obtain ⟨x, e⟩ := sl_d f l m t D h0 hz ck
  rw [sl_b f l m t 1000 (.inl rfl), e]
  exact ⟨rfl, al_zero (c := measV (slC f l m) 0) (show SB D.data.toList t _ _ _ 0 from ⟨W48.length, true, _, 0, rfl⟩) ck h4 ht⟩
theorem st_n {f l m t win : Int} (h : win = 1000 ∨ win = 0) : (inV (outV (slN f l m t)) (slS win)).sent.length ≤ 99990000 := by
  rw [sl_b f l m t win h]
  show 0 ≤ 99990000
  decide
end Go.Proofs.Ytlajalfalepbhaa
