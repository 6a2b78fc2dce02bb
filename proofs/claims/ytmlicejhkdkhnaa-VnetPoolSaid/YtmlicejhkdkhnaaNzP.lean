/-
  VnetPool: a pool gives what it was given first, has no more than at first, and tells how many it has. Conditions: none beyond the kinds of the arguments.
-/
import Derived.Test.YtmlicejhkdkhnaaNvH
import Derived.Deep.Upon
import Derived.Test.YtmlicejhkdkhnaaNuB
import Derived.ProofKit
import Derived.OpenShut
import Derived.ShutString
import Derived.ChangeOld
import Derived.Below
namespace Go.Proofs.Ytmlicejhkdkhnaa
open Go.RowKit Go.Sort Go.ChangeShapes Go.WideShapes Go.Deep
set_option linter.unusedVariables false

/-- A row of ints of one's own, in a block from B on. -/
def OwnInts (B : Nat) (w : World) (v : Value) (l : List Int) : Prop :=
  w.ownsRow B 3 1 v l.length (l.map (Value.int .i64)) ∧ l.length ≤ 100
theorem OwnInts.nil (B : Nat) (w : World) : OwnInts B w (.slice none 0 0) [] := ⟨w.ownsRow_nil _ _ _, by simp⟩
theorem OwnInts.lt {B : Nat} {w : World} {v : Value} {l : List Int} (h : OwnInts B w v l) : ∀ k, v.ownBlock = some k → B ≤ k ∧ k < w.heap.size := h.1.lt
theorem OwnInts.lower {B B' : Nat} {w : World} {v : Value} {l : List Int} (h : OwnInts B' w v l) (hB : B ≤ B') : OwnInts B w v l := by
  obtain ⟨⟨h1, h2⟩, h3⟩ := h
  refine ⟨⟨h1, ?_⟩, h3⟩
  rcases h2 with h2 | ⟨g, cap, cur, e, hg, r⟩
  · exact .inl h2
  · exact .inr ⟨g, cap, cur, e, Nat.le_trans hB hg, r⟩
theorem OwnInts.kept {B : Nat} {w w' : World} {v : Value} {l : List Int} (h : OwnInts B w v l) {row : Option Nat} (k : w.grownBy w' row) (hne : v.ownBlock = none ∨ v.ownBlock ≠ row) : OwnInts B w' v l := ⟨h.1.kept k hne, h.2⟩
theorem OwnInts.turned {B : Nat} {w w' : World} {v : Value} {l : List Int} (h : OwnInts B w v l) {S : Nat → Prop} (t : Turned S w w') (k : ∀ j, v.ownBlock = some j → ¬ S j) : OwnInts B w' v l := by
  obtain ⟨⟨h1, h2⟩, h3⟩ := h
  refine ⟨⟨h1, ?_⟩, h3⟩
  rcases h2 with h2 | ⟨g, cap, cur, rfl, hg, hb, r⟩
  · exact .inl h2
  · exact .inr ⟨g, cap, cur, rfl, hg, (t.block g (Array.getElem?_eq_some_iff.1 hb).1 (k g rfl)).trans hb, r⟩
theorem OwnInts.grown {B : Nat} {w w' : World} {v : Value} {l : List Int} (h : OwnInts B w v l) (k : w.grownBy w' none) : OwnInts B w' v l := h.turned (S := fun _ => False) (Turned.of k (fun j e => by cases e)) (fun _ _ h => h)
theorem OwnInts.form {B : Nat} {w : World} {v : Value} {l : List Int} (h : OwnInts B w v l) : ∃ p cap, v = .slice p l.length cap := by
  rcases h.1.2 with ⟨rfl, h0⟩ | ⟨g, cap, cur, rfl, _⟩
  · exact ⟨none, 0, by rw [h0]⟩
  · exact ⟨_, cap, rfl⟩
theorem OwnInts.at_ {B : Nat} {w : World} {v : Value} {l : List Int} (h : OwnInts B w v l) (i : Nat) (hi : i < l.length) :
    ∃ g cap, v = .slice (some ⟨g, 0, none⟩) l.length cap ∧ l.length ≤ cap ∧ cap ≤ maxLen ∧ B ≤ g ∧ g < w.heap.size ∧ ∀ (j : Nat) (hj : j < l.length), w.cell? ⟨g, j, none⟩ = some (.int .i64 l[j]) := by
  have hlt := h.lt
  have h2 := h.1.2
  rcases h2 with ⟨_, h0⟩ | ⟨g, cap, cur, rfl, hg, hb, hc, hm, _, _⟩
  · omega
  · refine ⟨g, cap, rfl, hc, hm, hg, (hlt g rfl).2, fun j hj => ?_⟩
    have h3 := h.1.cells (g := g) rfl j (.int .i64 l[j]) (by rw [List.getElem?_map, List.getElem?_eq_getElem hj]; rfl)
    rw [add_plain, Nat.zero_add] at h3
    exact h3

theorem grown_fresh {W w w' : World} {b : Option Nat} (k1 : W.grownBy w none) (k2 : w.grownBy w' b) (hb : ∀ j, b = some j → W.heap.size ≤ j) : W.grownBy w' none :=
  ⟨k2.os.trans k1.os, k2.tape.trans k1.tape, k2.output.trans k1.output, Nat.le_trans k1.size k2.size, fun j hj _ => (k2.block j (Nat.lt_of_lt_of_le hj k1.size) (fun e => by have := hb j e.symm; omega)).trans (k1.block j hj (by simp))⟩

/-- 'append(v, x...)' onto a row of one's own of what lies behind an address. -/
theorem OwnInts.append {B : Nat} {w : World} {v : Value} {l : List Int} (h : OwnInts B w v l) (hB : B ≤ w.heap.size) (ty : TypeId) (a : Addr) (c : Nat) (news : List Int) (hn : ∀ (j : Nat) (hj : j < news.length), w.cell? (a.add j) = some (.int .i64 news[j])) (hl : l.length + news.length ≤ 100) :
    ∃ v' w', (Builtin.append_ #[39, 39] ty #[v, .slice (some a) news.length c]).run Try.prog w = .ok v' w' ∧ OwnInts B w' v' (l ++ news) ∧ w.grownBy w' v.ownBlock ∧ (v'.ownBlock = v.ownBlock ∨ v'.ownBlock = some w.heap.size) := by
  obtain ⟨i0, hi⟩ : ∃ j, Try.prog.info? 3 = some j := Option.isSome_iff_exists.1 (by kernel_rfl)
  have hz : (Try.prog.info? 3).bind (·.zero) = some (.int .i64 0) := by kernel_rfl
  have hs : (Try.prog.info? 3).map (·.size) = some 1 := by kernel_rfl
  have hb : (Try.prog.info? 3).map (·.bytes) = some 8 := by kernel_rfl
  rw [hi] at hz hs hb
  simp only [Option.bind_some, Option.map_some, Option.some.injEq] at hz hs hb
  have hcell : ∀ (j : Nat) (u : Value), (news.map (Value.int .i64))[j]? = some u → w.cell? (a.add j) = some u := fun j u hu => by
    rw [List.getElem?_map] at hu
    by_cases hj : j < news.length
    · rw [List.getElem?_eq_getElem hj] at hu
      simp at hu
      rw [hn j hj, hu]
    · rw [List.getElem?_eq_none (by omega)] at hu
      cases hu
  have hone : ∀ u ∈ news.map (Value.int .i64), u.oneCell' = true := fun u hu => by obtain ⟨_, _, rfl⟩ := List.mem_map.1 hu; rfl
  obtain ⟨v', w', h1, h2, h3, h4⟩ := run_append_own (P := Try.prog) w B 39 ty 3 i0 (.int .i64 0) 1 8 Try.underlying39 hi hz hs hb rfl (by decide) v l.length (l.map (Value.int .i64)) h.1 a news.length c (news.map (Value.int .i64)) (by simp)
    hcell hone (by unfold maxLen; omega) (by omega) hB
  refine ⟨v', w', h1, ⟨by rw [List.length_append, List.map_append]; exact h2, by rw [List.length_append]; exact hl⟩, h3, ?_⟩
  rcases h.1.2 with ⟨rfl, h0⟩ | ⟨g, cap, cur, rfl, hg, hbk, hc, hm, hsz, _⟩
  · by_cases hm : news.length = 0
    · rw [h4.2 ⟨rfl, hm⟩]
      exact .inl rfl
    · have h5 := run_append_nil (P := Try.prog) w 39 ty 3 i0 (.int .i64 0) Try.underlying39 hi hz a news.length c (news.map (Value.int .i64)) (by rw [hs]; simp) hcell (by omega) (by omega) (by rw [hb]; omega)
      rw [h1] at h5
      injection h5 with h5
      rw [h5]
      exact .inr rfl
  · by_cases hroom : l.length + news.length ≤ cap
    · have h5 := run_append_room (P := Try.prog) w 39 ty 3 i0 Try.underlying39 hi g l.length cap cur hbk a news.length c (news.map (Value.int .i64)) (by rw [hs]; simp) hcell hone hroom (by rw [hs, hsz]; simp; omega)
      rw [h1] at h5
      injection h5 with h5
      rw [h5]
      exact .inl rfl
    · have h5 := run_append_grow (P := Try.prog) w 39 ty 3 i0 (.int .i64 0) Try.underlying39 hi hz ⟨g, 0, none⟩ l.length cap (l.map (Value.int .i64)) (by rw [hs]; simp) (h.1.cells (g := g) rfl) a news.length c (news.map (Value.int .i64)) (by rw [hs]; simp) hcell (by omega) (by omega) (by rw [hb]; exact growslice_fits (by omega) (by omega))
      rw [h1] at h5
      injection h5 with h5
      rw [h5]
      exact .inr rfl

theorem room_take {l : List Bf} (h : ∀ b ∈ l, 1 ≤ b.n ∧ b.n ≤ 65536) (hl : l.length ≤ 100) (j : Nat) : 0 ≤ roomOf (l.take j) ∧ roomOf (l.take j) ≤ 6553600 := by
  have h1 := roomOf_bd (l.take j) fun y hy => by have := h y (List.mem_of_mem_take hy); omega
  have h2 : (l.take j).length ≤ 100 := by rw [List.length_take]; omega
  omega

section
variable {P : Program} (w : World) {ops : Array Oper} {rest : List Oper} {o : Oper} {a : Act} {Q : Exit → Act → World → Prop}
/-- 'append' at the operation, by what its run is. -/
theorem wp_append_run {K : Act → World → Prop} (s x : Operand) (t : TypeId) (hop : o.op = Op.call { callee := Callee.builtin Builtin.append, args := #[s, x], argTypes := #[t, t] }) (v u v' : Value) (w' : World) (hs : a.eval s = v) (hx : a.eval x = u)
    (hr : (Builtin.append_ #[t, t] o.type #[v, u]).run P w = .ok v' w') (h : K (a.put o.dst v') w') : o.wp P a w K Q := by
  unfold Oper.wp execOp
  simp only [hop, resolve, invoke, builtin, Sem.run_bind, Sem.run_pure, Result.andThen_ok, List.map_toArray, List.map_cons, List.map_nil, hs, hx, hr]
  exact h
theorem wpList_append_run (hg : o.guard = none) (s x : Operand) (t : TypeId) (hop : o.op = Op.call { callee := Callee.builtin Builtin.append, args := #[s, x], argTypes := #[t, t] }) (v u v' : Value) (w' : World) (hs : a.eval s = v) (hx : a.eval x = u)
    (hr : (Builtin.append_ #[t, t] o.type #[v, u]).run P w = .ok v' w') (h : wpList P ops Q rest (a.put o.dst v') w') : wpList P ops Q (o :: rest) a w :=
  wpList_plain hg fun _ hK => wp_append_run w s x t hop v u v' w' hs hx hr (hK _ _ h)
end

theorem OwnInts.sl {B : Nat} {w : World} {v : Value} {l : List Int} (h : OwnInts B w v l) : SlI w v l := sl_of_own h.1 (by have := h.2; omega)
theorem own_new (B : Nat) (w : World) (hB : B ≤ w.heap.size) : OwnInts B (w.alloc (.cells #[] 3)) (.slice (some ⟨w.heap.size, 0, none⟩) 0 0) [] :=
  ⟨⟨rfl, .inr ⟨w.heap.size, 0, #[], rfl, hB, heap_alloc_new w _, Nat.le_refl _, Nat.zero_le _, rfl, rfl⟩⟩, by decide⟩
/-- append of what a slice reads as. -/
theorem app_sl {B : Nat} {w : World} {v : Value} {l : List Int} (h : OwnInts B w v l) (hB : B ≤ w.heap.size) (ty : TypeId) (p : Option Addr) (m c : Nat) (X : List Int) (hm : m = X.length) (hx : SlI w (.slice p m c) X) (hl : l.length + X.length ≤ 100) :
    ∃ v' w', (Builtin.append_ #[39, 39] ty #[v, .slice p m c]).run Try.prog w = .ok v' w' ∧ OwnInts B w' v' (l ++ X) ∧ w.grownBy w' v.ownBlock ∧ (v'.ownBlock = v.ownBlock ∨ v'.ownBlock = some w.heap.size) := by
  subst hm
  by_cases h0 : X.length = 0
  · obtain rfl : X = [] := List.length_eq_zero_iff.1 h0
    obtain ⟨i0, hi⟩ : ∃ j, Try.prog.info? 3 = some j := Option.isSome_iff_exists.1 (by kernel_rfl)
    have base : ∃ (b : Option Addr) (n cap : Nat), v = .slice b n cap ∧ n ≤ cap := by
      rcases h.1.2 with ⟨rfl, _⟩ | ⟨g, cap, cur, rfl, _, _, hc, _⟩
      · exact ⟨none, 0, 0, rfl, Nat.le_refl _⟩
      · exact ⟨_, _, cap, rfl, hc⟩
    obtain ⟨b, n, cap, rfl, hle⟩ := base
    refine ⟨_, w, run_append_nothing (P := Try.prog) w _ _ ty 3 i0 Try.underlying39 hi b n cap hle _ ?_, by rw [List.append_nil]; exact h, World.grownBy.refl _ _, .inl rfl⟩
    cases p with
    | none => exact Src.ofNil w Try.underlying39 c
    | some ad => exact Src.ofSlice w Try.underlying39 ad 0 c [] (by simp) (fun j u hu => by simp at hu) (fun u hu => by cases hu)
  · obtain ⟨p', c', e, _, hc⟩ := hx
    injection e with e1 _ e3
    subst e1 e3
    obtain ⟨b, oo, e, hcell⟩ := hc (by omega)
    subst e
    exact h.append hB ty ⟨b, oo, none⟩ c X (fun j hj => by rw [add_plain]; exact hcell j hj) hl
theorem SlI.turnedC {w w' : World} {v : Value} {l : List Int} (h : SlI w v l) {c : Nat} (t : Turned (fun j => j = c) w w') (hc : ∀ i, w.cell? ⟨c, i, none⟩ = none) : SlI w' v l := by
  obtain ⟨p, cap, rfl, hl, hx⟩ := h
  refine ⟨p, cap, rfl, hl, fun hp => ?_⟩
  obtain ⟨b, o, rfl, hi⟩ := hx hp
  refine ⟨b, o, rfl, fun i h => ?_⟩
  have h1 := hi i h
  have hb : b ≠ c := fun e => by rw [e, hc] at h1; cases h1
  rw [World.cell?_of_block (w := w) (a := ⟨b, o + i, none⟩) (t.block b (World.block_lt_of_cell? w _ h1) hb)]
  exact h1
theorem PlI.noCell {w : World} {p c cap : Nat} {l : List Int} (P : PlI w p c cap l) : ∀ i, w.cell? ⟨c, i, none⟩ = none := fun i => by
  obtain ⟨bs, s, r, h, _⟩ := P.ch
  exact cell_chan h i
/-- All but the first. -/
theorem SlI.tail {w : World} {p : Option Addr} {m c : Nat} {x : Int} {l : List Int} (h : SlI w (.slice p m c) (x :: l)) (p' : Option Addr) (c' : Nat) (hp : 0 < l.length → ∃ b o, p = some ⟨b, o, none⟩ ∧ p' = some ⟨b, o + 1, none⟩) : SlI w (.slice p' l.length c') l := by
  obtain ⟨q, cap, e, hl, hx⟩ := h
  injection e with e1 e2 e3
  subst e1
  refine ⟨p', c', rfl, by rw [List.length_cons] at hl; omega, fun h0 => ?_⟩
  obtain ⟨b, o, e4, e5⟩ := hp h0
  obtain ⟨b2, o2, e6, hi⟩ := hx (by rw [List.length_cons]; omega)
  rw [e4] at e6
  injection e6 with e6
  injection e6 with e6 e7
  subst e6 e7
  exact ⟨b, o + 1, e5, fun i hh => by
    have := hi (i + 1) (by rw [List.length_cons]; omega)
    rw [Nat.add_assoc, Nat.add_comm 1 i]
    exact this⟩
theorem IsNums.sl {w : World} {p : Option Addr} {len : Nat} {l : List Int} (h : IsNums .i64 w p len l) (hl : len ≤ 1000) (c : Nat) : SlI w (.slice p len c) l := by
  obtain ⟨h1, h2, h3, h4⟩ := h
  subst h1
  exact ⟨p, c, rfl, hl, fun h0 => by
    obtain ⟨b, o, e, hc⟩ := h4 h0
    exact ⟨b, o, e, hc⟩⟩
theorem grown_own {w w1 w2 : World} {r : Option Nat} (h : w.grownBy w1 none) (k : w1.grownBy w2 r) (hr : ∀ j, r = some j → w.heap.size ≤ j) : w.grownBy w2 none :=
  ⟨k.os.trans h.os, k.tape.trans h.tape, k.output.trans h.output, Nat.le_trans h.size k.size, fun j hj hn => (k.block j (Nat.lt_of_lt_of_le hj h.size) (fun e => by have := hr j e.symm; omega)).trans (h.block j hj hn)⟩
theorem half4 (z : Int) (h : -9223372036854775808 ≤ z ∧ z ≤ 9223372036854775807) : ∃ m : Int, Int.tmod z 2 = m ∧ IntKind.i64.wrap m = m := by
  refine ⟨_, rfl, ?_⟩
  rcases Int.le_total 0 z with hz | hz
  · rw [Int.tmod_eq_emod_of_nonneg hz]
    exact IntWalk.i64_in _ (by omega)
  · have e : Int.tmod z 2 = -((-z) % 2) := by
      rw [← Int.tmod_eq_emod_of_nonneg (by omega : (0:Int) ≤ -z), Int.neg_tmod, Int.neg_neg]
    rw [e]
    exact IntWalk.i64_in _ (by omega)
abbrev IsI64 (w : World) (p : Option Addr) (len : Nat) (l : List Int) : Prop := IsNums .i64 w p len l
theorem open_i4 {H : Type} {enc : TypeId × Value → H} {w : World} {p : Option Addr} {len cap fuel : Nat} {x : DataW H × List MemPlace}
    (h : DataW.trod enc Try.prog w 0 (fun _ => true) true fuel 39 (Value.slice p len cap).cells.toList = some x) : ∃ l, IsI64 w p len l :=
  open_nums Try.underlying39 Try.underlying3 (by kernel_rfl) h
end Go.Proofs.Ytmlicejhkdkhnaa

namespace Go.Proofs.Ytmlicejhkdkhnaa.nxp
open Go.ChangeShapes Go.WideShapes Go.ChangeAt Go.RowKit
open Go.ChangeMaps (open_string shut_string)
set_option linter.unusedVariables false

theorem own : ownKnob Try.prog.godebug = none := by kernel_rfl
theorem laidOut : laidOutB Try.prog = true := by kernel_rfl
theorem sls_one (w : World) : SlS (w.alloc (.cells #[.string ⟨#[97]⟩] 9)) (.slice (some ⟨w.heap.size, 0, none⟩) 1 1) [⟨#[97]⟩] :=
  ⟨some ⟨w.heap.size, 0, none⟩, 1, rfl, by decide, fun _ => ⟨w.heap.size, 0, rfl, fun i hi => by
    obtain rfl : i = 0 := by (have : i < 1 := hi); omega
    rw [cell_of_block (heap_alloc_new w _)]; rfl⟩⟩
set_option maxRecDepth 100000 in
set_option maxHeartbeats 16000000 in
theorem walk_out (p0 p1 : Option Addr) (len cap sn cap1 : Nat) (w : World) (h : 60 < len ∨ 200 < sn) :
    Calls Try.prog 4 #[.slice p0 len cap, .slice p1 sn cap1] w fun e w' => e = .returned (.bool true) ∧ Below w.heap.size w w' := by
  by_cases h0 : 60 < len
  · have d0 : decide (60 < (len : Int)) = true := decide_eq_true (by omega)
    clear h
    go_enter Try.func4, Try.ntmps4
    go_wp2_with fail
    refine (awake4 _).mono ?_
    rintro e wa ⟨rfl, bl⟩
    have BL0 := Lib.hid bl
    clear bl
    go_wp2_with fail
    go_ret
    exact ⟨rfl, BL0.out⟩
  · have d0 : decide (60 < (len : Int)) = false := decide_eq_false (by omega)
    have d1 : decide (200 < (sn : Int)) = true := decide_eq_true (by omega)
    clear h h0
    go_enter Try.func4, Try.ntmps4
    go_wp2_with fail
    refine (awake4 _).mono ?_
    rintro e wa ⟨rfl, bl⟩
    have BL0 := Lib.hid bl
    clear bl
    go_wp2_with fail
    go_ret
    exact ⟨rfl, BL0.out⟩
set_option maxRecDepth 100000 in
set_option maxHeartbeats 16000000 in
theorem walk_main (p0 p1 : Option Addr) (len cap sn cap1 : Nat) (ls ss : List Int) (w : World) (hl : IsI64 w p0 len ls) (hs : IsI64 w p1 sn ss) (h0 : len ≤ 60) (h1 : sn ≤ 200) :
    Calls Try.prog 4 #[.slice p0 len cap, .slice p1 sn cap1] w fun e w' => e = .returned (.bool true) ∧ Below w.heap.size w w' := by
  have HT := Lib.hid hl
  have HS := Lib.hid hs
  have HL0 := Lib.hid h0
  have HS0 := Lib.hid h1
  have d0 : decide (60 < (len : Int)) = false := decide_eq_false (by omega)
  have d1 : decide (200 < (sn : Int)) = false := decide_eq_false (by omega)
  clear hl hs h0 h1
  go_enter Try.func4, Try.ntmps4
  go_wp2_with fail
  refine (awake4 _).mono ?_
  rintro e wa ⟨rfl, bl⟩
  have BL0 := Lib.hid bl
  clear bl
  have SL0 := Lib.hid ((HT.out.below BL0.out).sl (by have := HL0.out; omega) cap)
  have HLL : Hid (ls.length = len) := Lib.hid HT.out.1
  go_wp2_with fail
  refine (plnewI wa (.slice p0 len cap) ls SL0.out).mono ?_
  rintro e w2 ⟨p, c, rfl, pn, cn, pl, k2⟩
  rw [HLL.out] at pl
  have PL := Lib.hid pl
  have PN : Hid (wa.heap.size ≤ p ∧ wa.heap.size ≤ c) := Lib.hid ⟨pn, cn⟩
  have B2 := Lib.hid (BL0.out.trans ((Below.of_none k2).mono BL0.out.size))
  have SL2 := Lib.hid (SL0.out.kept k2)
  clear pl pn cn k2 SL0
  go_wp2_with fail
  refine (pltake_noneI w2).mono ?_
  rintro e w3 ⟨rfl, rfl⟩
  obtain ⟨vh, w4, r4, o4, g4, -⟩ := app_sl (OwnInts.nil w2.heap.size w2) (Nat.le_refl _) 39 p0 len cap ls HLL.out.symm SL2.out (by have := HL0.out; have := HLL.out; simp only [List.length_nil]; omega)
  rw [List.nil_append] at o4
  have R4 := Lib.hid r4
  have O4 := Lib.hid o4
  have G4 : Hid (w2.grownBy w4 none) := Lib.hid g4
  have PL4 := Lib.hid (PL.out.grown G4.out)
  have B4 := Lib.hid (B2.out.trans ((Below.of_none G4.out).mono B2.out.size))
  clear r4 o4 g4 PL B2 SL2
  go_upto_region 10 with (at_builtin; refine wpList_append_run _ rfl _ _ 39 rfl _ _ vh w4 rfl rfl R4.out ?_)
  obtain ⟨ph, ch, hv⟩ := O4.out.form
  subst hv
  have SLH := Lib.hid O4.out.sl
  have HC0 : Hid (ls.length ≤ ch) := Lib.hid (by
    rcases O4.out.1.2 with ⟨e, h⟩ | ⟨g, cc, cur, e, _, _, hc, _⟩
    · omega
    · injection e with _ _ e; omega)
  clear R4 O4 G4 d0 d1
  go_upto_region 11 with fail
  go_loopw [9, 10] (fun vh iv wr => ∃ (k : Nat) (Hs : List Int) (ph : Option Addr) (ch : Nat), k ≤ sn ∧ iv = .int .i64 k ∧ vh = .slice ph Hs.length ch ∧ Hid (Hs.length ≤ ch ∧ Hs.length ≤ len) ∧ Hid (PlI wr p c len Hs) ∧ Hid (SlI wr (.slice ph Hs.length ch) Hs) ∧ Hid (Below w.heap.size w wr)) (fun _ iv _ => sn - (intOf iv).toNat)
  case atStart => exact ⟨0, ls, ph, ch, Nat.zero_le _, rfl, rfl, Lib.hid ⟨HC0.out, by rw [HLL.out]; exact Nat.le_refl _⟩, PL4, SLH, B4⟩
  case round =>
    clear PL4 SLH B4 HC0
    obtain ⟨k, Hs, ph, ch, hk, rfl, rfl, HCH, HP, HSL, BW⟩ := hrel
    by_cases hlt : k < sn
    · have HKL := Lib.hid hlt
      obtain ⟨b, oo, hp, hc, hz⟩ := HS.out.at_ k (by rw [HS.out.1]; exact hlt)
      obtain ⟨z, hzz⟩ : ∃ z, z = ss[k]'(by rw [HS.out.1]; exact hlt) := ⟨_, rfl⟩
      rw [← hzz] at hc hz
      clear hzz
      have hzr := n4_i64 hz
      subst hp
      have c0 : wr.cell? ⟨b, oo + k, none⟩ = some (.int .i64 z) := by rw [World.cell?_of_block (a := ⟨b, oo + k, none⟩) (BW.out.block b (World.block_lt_of_cell? w _ hc))]; exact hc
      have HCW : Hid (∀ w' : World, Below w.heap.size w w' → w'.cell? ⟨b, oo + k, none⟩ = some (.int .i64 z)) := Lib.hid (fun w' bw => by rw [World.cell?_of_block (a := ⟨b, oo + k, none⟩) (bw.block b (World.block_lt_of_cell? w _ hc))]; exact hc)
      obtain ⟨mm, a1, a2⟩ := half4 z hzr
      clear hc hz hzr
      have q1 : (0 : Int) ≤ (k : Int) := by omega
      have q2 : (k : Int) < (sn : Int) := by omega
      have q3 : decide ((k : Int) < (sn : Int)) = true := decide_eq_true q2
      have q4 : IntKind.i64.wrap ((k : Int) + 1) = (k : Int) + 1 := IntWalk.i64_in _ (by have := HS0.out; omega)
      have HQ : Hid ((0 : Int) ≤ (k : Int) ∧ (k : Int) < (sn : Int)) := Lib.hid ⟨q1, q2⟩
      clear hk hlt
      by_cases hm0 : mm = 0
      · have e0 : (mm == 0) = true := by rw [hm0]; rfl
        clear hm0
        go_wp2_with fail
        refine (pltakeI HP.out).mono ?_
        rintro e w5 (⟨hE, rfl, rfl⟩ | ⟨x, ys, hE, rfl, p5, t5⟩)
        · subst hE
          clear c0
          have HPF := HP
          have f0 : decide ((0 : Int) < (([] : List Int).length : Int)) = false := by decide
          go_wp2_with fail
          refine (pllenI HPF.out).mono ?_
          rintro e wz ⟨rfl, rfl⟩
          go_wp2_with fail
          go_roundw
          case rel => exact ⟨k + 1, [], ph, ch, by have := HKL.out; omega, by go_num, rfl, HCH, HP, HSL, BW⟩
          case measure => simp [intOf]; have := HKL.out; omega
        · subst hE
          have HPF := Lib.hid p5
          have SL5 := Lib.hid (HSL.out.turnedC t5 HP.out.noCell)
          have BW5 : Hid (Below w.heap.size w w5) := Lib.hid (BW.out.trans (t5.below BW.out.size (fun j e => by rw [e]; exact Nat.le_trans BL0.out.size PN.out.2)))
          obtain ⟨b2, o2, ep, x2⟩ : ∃ b2 o2, ph = some ⟨b2, o2, none⟩ ∧ w5.cell? ⟨b2, o2, none⟩ = some (.int .i64 x) := by
            obtain ⟨q, cap2, e, _, hx⟩ := SL5.out
            injection e with e1 _ _
            obtain ⟨b2, o2, e, hi⟩ := hx (by rw [List.length_cons]; omega)
            exact ⟨b2, o2, e1.trans e, hi 0 (by rw [List.length_cons]; omega)⟩
          subst ep
          obtain ⟨nn, hnn⟩ : ∃ nn, nn = ys.length := ⟨_, rfl⟩
          have HCH2 : Hid (nn + 1 ≤ ch ∧ nn + 1 ≤ len) := Lib.hid (by rw [hnn]; exact HCH.out)
          have HNN := Lib.hid hnn
          have en : (x :: ys).length = nn + 1 := by rw [hnn]; rfl
          rw [en]
          have f0 : decide ((0 : Int) < ((nn + 1 : Nat) : Int)) = true := decide_eq_true (by omega)
          have f0n : decide (0 < nn + 1) = true := decide_eq_true (by omega)
          have f2 : (0 : Int) < ((nn + 1 : Nat) : Int) := by omega
          have f3 : (1 : Int) ≤ ((nn + 1 : Nat) : Int) := by omega
          have f4 : ((nn + 1 : Nat) : Int) ≤ (ch : Int) := by have := HCH2.out; omega
          clear c0 p5 t5 hnn en HP HSL HCH
          by_cases hch1 : ch = 1
          · have hn0 : nn = 0 := by have := HCH2.out; omega
            have SLN : Hid (SlI w5 (.slice (some ⟨b2, o2, none⟩) ys.length 0) ys) := Lib.hid (SL5.out.tail _ _ (fun h => by have := HNN.out; omega))
            clear hn0 SL5
            have PLE := Lib.hid (pllenI HPF.out)
            rw [← HNN.out] at PLE
            go_wp2_with fail
            refine PLE.out.mono ?_
            rintro e wz ⟨rfl, rfl⟩
            go_wp2_with fail
            go_roundw
            case rel => exact ⟨k + 1, ys, some ⟨b2, o2, none⟩, 0, by have := HKL.out; omega, by go_num, by rw [HNN.out], Lib.hid ⟨by rw [← HNN.out]; have := HCH2.out; omega, by rw [← HNN.out]; have := HCH2.out; omega⟩, HPF, SLN, BW5⟩
            case measure => simp [intOf]; have := HKL.out; omega
          · have SLN : Hid (SlI w5 (.slice (some ⟨b2, o2 + 1, none⟩) ys.length (ch - 1)) ys) := Lib.hid (SL5.out.tail _ _ (fun h => ⟨b2, o2, rfl, rfl⟩))
            clear SL5
            have PLE := Lib.hid (pllenI HPF.out)
            rw [← HNN.out] at PLE
            go_wp2_with fail
            refine PLE.out.mono ?_
            rintro e wz ⟨rfl, rfl⟩
            go_wp2_with fail
            go_roundw
            case rel => exact ⟨k + 1, ys, some ⟨b2, o2 + 1, none⟩, ch - 1, by have := HKL.out; omega, by go_num, by rw [HNN.out], Lib.hid ⟨by rw [← HNN.out]; have := HCH2.out; omega, by rw [← HNN.out]; have := HCH2.out; omega⟩, HPF, SLN, BW5⟩
            case measure => simp [intOf]; have := HKL.out; omega
      · have e0 : (mm == 0) = false := beq_eq_false_iff_ne.2 hm0
        clear hm0
        go_wp2_with fail
        refine (plgiveI HP.out z).mono ?_
        rintro e w5 (⟨hE, rfl, k5⟩ | ⟨hE, rfl, p5, t5⟩)
        · have HPF := Lib.hid (HP.out.grown k5)
          have SL5 := Lib.hid (HSL.out.kept k5)
          have BW5 : Hid (Below w.heap.size w w5) := Lib.hid (BW.out.trans ((Below.of_none k5).mono BW.out.size))
          have f0 : decide ((Hs.length : Int) < (len : Int)) = false := decide_eq_false (by omega)
          have f0n : decide (Hs.length < len) = false := decide_eq_false (by omega)
          clear c0 k5 hE HP HSL
          go_wp2_with fail
          refine (pllenI HPF.out).mono ?_
          rintro e wz ⟨rfl, rfl⟩
          go_wp2_with fail
          go_roundw
          case rel => exact ⟨k + 1, Hs, ph, ch, by have := HKL.out; omega, by go_num, rfl, HCH, HPF, SL5, BW5⟩
          case measure => simp [intOf]; have := HKL.out; omega
        · have HPF := Lib.hid p5
          have SL5 := Lib.hid (HSL.out.turnedC t5 HP.out.noCell)
          have BW5 : Hid (Below w.heap.size w w5) := Lib.hid (BW.out.trans (t5.below BW.out.size (fun j e => by rw [e]; exact Nat.le_trans BL0.out.size PN.out.2)))
          have f0 : decide ((Hs.length : Int) < (len : Int)) = true := decide_eq_true (by omega)
          have f0n : decide (Hs.length < len) = true := decide_eq_true (by omega)
          have HHL : Hid (Hs.length < len) := Lib.hid hE
          clear c0 p5 t5 hE HP HSL
          go_upto_region 23 with fail
          refine wp_region_noPanic ?_
          refine region_held (S := fun V => w5.grownBy V none) (by kernel_rfl) (fun V d => d.grown) (fun V d hS => ?_)
          clear d
          refine wpAnyH_take (i := 1) (oi := ⟨some 95, Op.move (Operand.tmp 9), _, _, _, none⟩) (v := (.slice ph Hs.length ch)) rfl (by kernel_rfl) (by kernel_rfl) (by kernel_rfl) (fun _ _ _ h => h) (Or.inl ⟨by rfl, fun w' h' => ?_⟩) hS ?_
          · clear h'
            go_simp
          simp only [Act.put]
          refine wpAnyH_take (i := 3) (oi := ⟨some 97, Op.move (Operand.tmp 1), _, _, _, none⟩) (v := (.slice (some ⟨b, oo, none⟩) sn cap1)) rfl (by kernel_rfl) (by kernel_rfl) (by kernel_rfl) (fun _ _ _ h => h) (Or.inl ⟨by rfl, fun w' h' => ?_⟩) hS ?_
          · clear h'
            go_simp
          simp only [Act.put]
          refine wpAnyH_take (i := 4) (oi := ⟨some 98, Op.move (Operand.tmp 10), _, _, _, none⟩) (v := (.int .i64 (k : Int))) rfl (by kernel_rfl) (by kernel_rfl) (by kernel_rfl) (fun _ _ _ h => h) (Or.inl ⟨by rfl, fun w' h' => ?_⟩) hS ?_
          · clear h'
            go_simp
          simp only [Act.put]
          refine wpAnyH_take (i := 5) (oi := ⟨some 99, Op.indexAddr 39 (Operand.tmp 97) (Operand.tmp 98), _, _, _, none⟩) (v := (.pointer (some ⟨b, oo + k, none⟩))) rfl (by kernel_rfl) (by kernel_rfl) (by kernel_rfl) (fun _ _ _ h => h) (Or.inl ⟨by rfl, fun w' h' => ?_⟩) hS ?_
          · have c0 := HQ.out.1
            have c1 := HQ.out.2
            clear h'
            go_simp
          simp only [Act.put]
          refine wpAnyH_take (i := 6) (oi := ⟨some 100, Op.load 3 (Operand.tmp 99), _, _, _, none⟩) (v := (.int .i64 z)) rfl (by kernel_rfl) (by kernel_rfl) (by kernel_rfl) (fun _ _ _ h => h) (Or.inl ⟨by rfl, fun w' h' => ?_⟩) hS ?_
          · have c0 := HCW.out w' (BW5.out.trans ((Below.of_none h').mono BW5.out.size))
            clear h'
            go_simp
          simp only [Act.put]
          refine wpAnyH_ready (rs := [0, 7]) (by kernel_rfl) (by simp) ?_
          refine AllReadyH.cons rfl (fun K hK => ?_) (AllReadyH.cons rfl (fun K hK => ?_) AllReadyH.nil)
          · obtain ⟨Ea, hEa⟩ : ∃ Ea, Ea = V.heap.size := ⟨_, rfl⟩
            have kA := World.grownBy_alloc V (.cells #[] 3) none
            have sA : w5.grownBy (V.alloc (.cells #[] 3)) none := hS.trans kA
            have oA := own_new w5.heap.size V hS.size
            rw [← hEa] at oA
            go_simp
            rw [← hEa]
            clear kA
            generalize V.alloc _ = Va at sA oA ⊢
            clear hEa
            refine hK.out _ _ sA (fun _ => ?_)
            clear hK K
            refine wpAnyH_ready (rs := [2, 7]) (by kernel_rfl) (by simp) ?_
            refine AllReadyH.cons rfl (fun K hK => ?_) (AllReadyH.cons rfl (fun K hK => ?_) AllReadyH.nil)
            · obtain ⟨v1, Vb, r1, o1, g1, -⟩ := app_sl oA sA.size 39 ph Hs.length ch Hs rfl (SL5.out.kept sA) (by have := HHL.out; have := HL0.out; simp only [List.length_nil]; omega)
              rw [List.nil_append] at o1
              have sB := grown_own sA g1 (fun j hj => (oA.lt j hj).1)
              rw [if_pos (by rfl)]
              refine wp_append_run _ _ _ 39 rfl _ _ v1 Vb rfl rfl r1 ?_
              go_simp
              refine hK.out _ _ sB (fun _ => ?_)
              clear hK K
              refine wpAnyH_ready (rs := [7]) (by kernel_rfl) (by simp) ?_
              refine AllReadyH.cons rfl (fun K hK => ?_) AllReadyH.nil
              obtain ⟨Ec, hEc⟩ : ∃ Ec, Ec = Vb.heap.size := ⟨_, rfl⟩
              have kC := World.grownBy_alloc Vb (.cells #[.int .i64 z] 3) none
              have sC : w5.grownBy (Vb.alloc (.cells #[.int .i64 z] 3)) none := sB.trans kC
              have cC : (Vb.alloc (.cells #[.int .i64 z] 3)).cell? ⟨Vb.heap.size, 0, none⟩ = some (.int .i64 z) := by rw [cell_of_block (heap_alloc_new Vb _)]; rfl
              have oC := o1.grown kC
              rw [← hEc] at cC
              clear kC
              go_simp
              rw [← hEc]
              generalize Vb.alloc _ = Vc at sC cC oC ⊢
              clear hEc
              refine hK.out _ _ sC (fun _ => ?_)
              clear hK K
              refine wpAnyH_ready (rs := [8]) (by kernel_rfl) (by simp) ?_
              refine AllReadyH.cons rfl (fun K hK => ?_) AllReadyH.nil
              obtain ⟨v2, Vd, r2, o2, g2, -⟩ := oC.append sC.size 39 ⟨Ec, 0, none⟩ 1 [z] (fun j hj => by
                obtain rfl : j = 0 := by (have : j < 1 := hj); omega
                exact cC) (by have := HHL.out; have := HL0.out; simp only [List.length_cons, List.length_nil]; omega)
              have sD := grown_own sC g2 (fun j hj => (oC.lt j hj).1)
              rw [if_pos (by rfl)]
              refine wp_append_run _ _ _ 39 rfl _ _ v2 Vd rfl rfl r2 ?_
              go_simp
              refine hK.out _ _ sD (fun _ => ?_)
              clear hK K
              refine wpAnyH_take (i := 9) (oi := ⟨some 9, Op.assign (Operand.tmp 102), _, _, _, none⟩) (v := v2) rfl (by kernel_rfl) (by kernel_rfl) (by kernel_rfl) (fun _ _ _ h => h) (Or.inl ⟨by rfl, fun w' h' => ?_⟩) sD ?_
              · clear h'
                go_simp
              simp only [Act.put]
              refine wpAnyH_done (by kernel_rfl) (NoPanic.normal ?_) _
              simp only [List.setIfInBounds_toArray, List.set_cons_zero, List.set_cons_succ]
              obtain ⟨p3, c3, hv3⟩ := o2.form
              subst hv3
              have HC3 : Hid ((Hs ++ [z]).length ≤ c3 ∧ (Hs ++ [z]).length ≤ len) := Lib.hid ⟨by
                rcases o2.1.2 with ⟨e, h⟩ | ⟨g, cc, cur, e, _, _, hc, _⟩
                · omega
                · injection e with _ _ e; omega, by have := HHL.out; rw [List.length_append, List.length_singleton]; omega⟩
              have HPF2 := Lib.hid (HPF.out.grown sD)
              have SLF := Lib.hid o2.sl
              have BWF : Hid (Below w.heap.size w Vd) := Lib.hid (BW5.out.trans ((Below.of_none sD).mono BW5.out.size))
              have PLE := Lib.hid (pllenI HPF2.out)
              obtain ⟨nn, hnn⟩ : ∃ nn, nn = (Hs ++ [z]).length := ⟨_, rfl⟩
              rw [← hnn] at PLE ⊢
              have HNN := Lib.hid hnn
              clear hnn sD o2
              go_wp2_with fail
              refine PLE.out.mono ?_
              rintro e wz ⟨rfl, rfl⟩
              go_wp2_with fail
              go_roundw
              case rel => exact ⟨k + 1, Hs ++ [z], p3, c3, by have := HKL.out; omega, by go_num, by rw [HNN.out], HC3, HPF2, SLF, BWF⟩
              case measure => simp [intOf]; have := HKL.out; omega
            · obtain ⟨Ec, hEc⟩ : ∃ Ec, Ec = Va.heap.size := ⟨_, rfl⟩
              have kC := World.grownBy_alloc Va (.cells #[.int .i64 z] 3) none
              have sC : w5.grownBy (Va.alloc (.cells #[.int .i64 z] 3)) none := sA.trans kC
              have cC : (Va.alloc (.cells #[.int .i64 z] 3)).cell? ⟨Va.heap.size, 0, none⟩ = some (.int .i64 z) := by rw [cell_of_block (heap_alloc_new Va _)]; rfl
              have oC := oA.grown kC
              have nE : Ec ≠ Ea := by rw [hEc]; exact fun e => Nat.lt_irrefl _ (e ▸ (oA.lt Ea rfl).2)
              rw [← hEc] at cC
              clear kC
              go_simp
              rw [← hEc]
              generalize Va.alloc _ = Vc at sC cC oC ⊢
              clear hEc
              refine hK.out _ _ sC (fun _ => ?_)
              clear hK K
              refine wpAnyH_ready (rs := [2]) (by kernel_rfl) (by simp) ?_
              refine AllReadyH.cons rfl (fun K hK => ?_) AllReadyH.nil
              obtain ⟨v1, Vb, r1, o1, g1, -⟩ := app_sl oC sC.size 39 ph Hs.length ch Hs rfl (SL5.out.kept sC) (by have := HHL.out; have := HL0.out; simp only [List.length_nil]; omega)
              rw [List.nil_append] at o1
              have sB := grown_own sC g1 (fun j hj => (oC.lt j hj).1)
              have cB := (World.cell?_of_block (a := ⟨Ec, 0, none⟩) (g1.block Ec (World.block_lt_of_cell? _ _ cC) (by show some Ec ≠ some Ea; intro e; injection e with e; exact nE e))).trans cC
              rw [if_pos (by rfl)]
              refine wp_append_run _ _ _ 39 rfl _ _ v1 Vb rfl rfl r1 ?_
              go_simp
              refine hK.out _ _ sB (fun _ => ?_)
              clear hK K
              refine wpAnyH_ready (rs := [8]) (by kernel_rfl) (by simp) ?_
              refine AllReadyH.cons rfl (fun K hK => ?_) AllReadyH.nil
              obtain ⟨v2, Vd, r2, o2, g2, -⟩ := o1.append sB.size 39 ⟨Ec, 0, none⟩ 1 [z] (fun j hj => by
                obtain rfl : j = 0 := by (have : j < 1 := hj); omega
                exact cB) (by have := HHL.out; have := HL0.out; simp only [List.length_cons, List.length_nil]; omega)
              have sD := grown_own sB g2 (fun j hj => (o1.lt j hj).1)
              rw [if_pos (by rfl)]
              refine wp_append_run _ _ _ 39 rfl _ _ v2 Vd rfl rfl r2 ?_
              go_simp
              refine hK.out _ _ sD (fun _ => ?_)
              clear hK K
              refine wpAnyH_take (i := 9) (oi := ⟨some 9, Op.assign (Operand.tmp 102), _, _, _, none⟩) (v := v2) rfl (by kernel_rfl) (by kernel_rfl) (by kernel_rfl) (fun _ _ _ h => h) (Or.inl ⟨by rfl, fun w' h' => ?_⟩) sD ?_
              · clear h'
                go_simp
              simp only [Act.put]
              refine wpAnyH_done (by kernel_rfl) (NoPanic.normal ?_) _
              simp only [List.setIfInBounds_toArray, List.set_cons_zero, List.set_cons_succ]
              obtain ⟨p3, c3, hv3⟩ := o2.form
              subst hv3
              have HC3 : Hid ((Hs ++ [z]).length ≤ c3 ∧ (Hs ++ [z]).length ≤ len) := Lib.hid ⟨by
                rcases o2.1.2 with ⟨e, h⟩ | ⟨g, cc, cur, e, _, _, hc, _⟩
                · omega
                · injection e with _ _ e; omega, by have := HHL.out; rw [List.length_append, List.length_singleton]; omega⟩
              have HPF2 := Lib.hid (HPF.out.grown sD)
              have SLF := Lib.hid o2.sl
              have BWF : Hid (Below w.heap.size w Vd) := Lib.hid (BW5.out.trans ((Below.of_none sD).mono BW5.out.size))
              have PLE := Lib.hid (pllenI HPF2.out)
              obtain ⟨nn, hnn⟩ : ∃ nn, nn = (Hs ++ [z]).length := ⟨_, rfl⟩
              rw [← hnn] at PLE ⊢
              have HNN := Lib.hid hnn
              clear hnn sD o2
              go_wp2_with fail
              refine PLE.out.mono ?_
              rintro e wz ⟨rfl, rfl⟩
              go_wp2_with fail
              go_roundw
              case rel => exact ⟨k + 1, Hs ++ [z], p3, c3, by have := HKL.out; omega, by go_num, by rw [HNN.out], HC3, HPF2, SLF, BWF⟩
              case measure => simp [intOf]; have := HKL.out; omega
          · obtain ⟨Ec, hEc⟩ : ∃ Ec, Ec = V.heap.size := ⟨_, rfl⟩
            have kC := World.grownBy_alloc V (.cells #[.int .i64 z] 3) none
            have sC : w5.grownBy (V.alloc (.cells #[.int .i64 z] 3)) none := hS.trans kC
            have cC : (V.alloc (.cells #[.int .i64 z] 3)).cell? ⟨V.heap.size, 0, none⟩ = some (.int .i64 z) := by rw [cell_of_block (heap_alloc_new V _)]; rfl
            rw [← hEc] at cC
            clear kC
            go_simp
            rw [← hEc]
            generalize V.alloc _ = Vc at sC cC ⊢
            clear hEc
            refine hK.out _ _ sC (fun _ => ?_)
            clear hK K
            refine wpAnyH_ready (rs := [0]) (by kernel_rfl) (by simp) ?_
            refine AllReadyH.cons rfl (fun K hK => ?_) AllReadyH.nil
            obtain ⟨Ea, hEa⟩ : ∃ Ea, Ea = Vc.heap.size := ⟨_, rfl⟩
            have kA := World.grownBy_alloc Vc (.cells #[] 3) none
            have sA : w5.grownBy (Vc.alloc (.cells #[] 3)) none := sC.trans kA
            have oA := own_new w5.heap.size Vc sC.size
            have nE : Ec ≠ Ea := by rw [hEa]; exact Nat.ne_of_lt (World.block_lt_of_cell? _ _ cC)
            have cA := (World.cell?_of_block (a := ⟨Ec, 0, none⟩) (kA.block Ec (World.block_lt_of_cell? _ _ cC) (by simp))).trans cC
            rw [← hEa] at oA
            go_simp
            rw [← hEa]
            clear kA
            generalize Vc.alloc _ = Va at sA oA cA ⊢
            clear hEa
            refine hK.out _ _ sA (fun _ => ?_)
            clear hK K
            refine wpAnyH_ready (rs := [2]) (by kernel_rfl) (by simp) ?_
            refine AllReadyH.cons rfl (fun K hK => ?_) AllReadyH.nil
            obtain ⟨v1, Vb, r1, o1, g1, -⟩ := app_sl oA sA.size 39 ph Hs.length ch Hs rfl (SL5.out.kept sA) (by have := HHL.out; have := HL0.out; simp only [List.length_nil]; omega)
            rw [List.nil_append] at o1
            have sB := grown_own sA g1 (fun j hj => (oA.lt j hj).1)
            have cB := (World.cell?_of_block (a := ⟨Ec, 0, none⟩) (g1.block Ec (World.block_lt_of_cell? _ _ cA) (by show some Ec ≠ some Ea; intro e; injection e with e; exact nE e))).trans cA
            rw [if_pos (by rfl)]
            refine wp_append_run _ _ _ 39 rfl _ _ v1 Vb rfl rfl r1 ?_
            go_simp
            refine hK.out _ _ sB (fun _ => ?_)
            clear hK K
            refine wpAnyH_ready (rs := [8]) (by kernel_rfl) (by simp) ?_
            refine AllReadyH.cons rfl (fun K hK => ?_) AllReadyH.nil
            obtain ⟨v2, Vd, r2, o2, g2, -⟩ := o1.append sB.size 39 ⟨Ec, 0, none⟩ 1 [z] (fun j hj => by
              obtain rfl : j = 0 := by (have : j < 1 := hj); omega
              exact cB) (by have := HHL.out; have := HL0.out; simp only [List.length_cons, List.length_nil]; omega)
            have sD := grown_own sB g2 (fun j hj => (o1.lt j hj).1)
            rw [if_pos (by rfl)]
            refine wp_append_run _ _ _ 39 rfl _ _ v2 Vd rfl rfl r2 ?_
            go_simp
            refine hK.out _ _ sD (fun _ => ?_)
            clear hK K
            refine wpAnyH_take (i := 9) (oi := ⟨some 9, Op.assign (Operand.tmp 102), _, _, _, none⟩) (v := v2) rfl (by kernel_rfl) (by kernel_rfl) (by kernel_rfl) (fun _ _ _ h => h) (Or.inl ⟨by rfl, fun w' h' => ?_⟩) sD ?_
            · clear h'
              go_simp
            simp only [Act.put]
            refine wpAnyH_done (by kernel_rfl) (NoPanic.normal ?_) _
            simp only [List.setIfInBounds_toArray, List.set_cons_zero, List.set_cons_succ]
            obtain ⟨p3, c3, hv3⟩ := o2.form
            subst hv3
            have HC3 : Hid ((Hs ++ [z]).length ≤ c3 ∧ (Hs ++ [z]).length ≤ len) := Lib.hid ⟨by
              rcases o2.1.2 with ⟨e, h⟩ | ⟨g, cc, cur, e, _, _, hc, _⟩
              · omega
              · injection e with _ _ e; omega, by have := HHL.out; rw [List.length_append, List.length_singleton]; omega⟩
            have HPF2 := Lib.hid (HPF.out.grown sD)
            have SLF := Lib.hid o2.sl
            have BWF : Hid (Below w.heap.size w Vd) := Lib.hid (BW5.out.trans ((Below.of_none sD).mono BW5.out.size))
            have PLE := Lib.hid (pllenI HPF2.out)
            obtain ⟨nn, hnn⟩ : ∃ nn, nn = (Hs ++ [z]).length := ⟨_, rfl⟩
            rw [← hnn] at PLE ⊢
            have HNN := Lib.hid hnn
            clear hnn sD o2
            go_wp2_with fail
            refine PLE.out.mono ?_
            rintro e wz ⟨rfl, rfl⟩
            go_wp2_with fail
            go_roundw
            case rel => exact ⟨k + 1, Hs ++ [z], p3, c3, by have := HKL.out; omega, by go_num, by rw [HNN.out], HC3, HPF2, SLF, BWF⟩
            case measure => simp [intOf]; have := HKL.out; omega
    · obtain rfl : k = sn := by omega
      have q3 : decide ((k : Int) < (k : Int)) = false := by simp
      clear hlt hk
      have KA := Lib.hid (World.grownBy_alloc wr (.cells #[.string ⟨#[97]⟩] 9) none)
      go_wp2_with fail
      refine (plnewS _ _ _ (sls_one wr)).mono ?_
      rintro e w5 ⟨p5, c5, rfl, -, c5n, pl5, k5⟩
      have P5 := Lib.hid pl5
      have G5 := Lib.hid (KA.out.trans k5)
      have C5 : Hid (wr.heap.size ≤ c5) := Lib.hid (Nat.le_trans KA.out.size c5n)
      clear pl5 k5 c5n KA
      go_wp2_with fail
      refine (pltakeS P5.out).mono ?_
      rintro e w6 (⟨hE, -, -⟩ | ⟨x, ys, hE, rfl, -, t6⟩)
      · cases hE
      · injection hE with hE _
        subst hE
        have G6 := Lib.hid (BW.out.trans (((Below.of_none G5.out).trans (t6.below G5.out.size (fun j e => by rw [e]; exact C5.out))).mono BW.out.size))
        clear t6 P5 G5 C5
        go_wp2_with fail
        refine (plgive_noneI w6 1).mono ?_
        rintro e w7 ⟨rfl, k7⟩
        have G7 := Lib.hid (G6.out.trans ((Below.of_none k7).mono G6.out.size))
        clear k7 G6
        go_wp2_with fail
        refine (pllen_noneI w7 none (.inl rfl)).mono ?_
        rintro e w8 ⟨rfl, rfl⟩
        go_wp2_with fail
        go_ret
        exact ⟨rfl, G7.out⟩
theorem walk (p0 : Option Addr) (len cap : Nat) (ls : List Int) (p1 : Option Addr) (sn cap1 : Nat) (ss : List Int) (w : World) (w0 : IsI64 w p0 len ls) (w1 : IsI64 w p1 sn ss) :
    Calls Try.prog 4 #[.slice p0 len cap, .slice p1 sn cap1] w fun e w' => e = .returned (.bool true) ∧ Below w.heap.size w w' := by
  by_cases h : 60 < len ∨ 200 < sn
  · exact walk_out p0 p1 len cap sn cap1 w h
  · exact walk_main p0 p1 len cap sn cap1 ls ss w w0 w1 (by omega) (by omega)
set_option maxRecDepth 100000 in
theorem lifted (os : Os) (started : os.Started) (H : Type) (enc : TypeId × Value → H) :
    ReturnsInHanded {} Try.checked os 4 .any (Rows.vnetPoolSpec.pre6 enc Try.prog Try.f4 Rows.vnetPoolRow.domain false) (Rows.vnetPoolSpec.post enc Try.prog Try.f4 false true false false) := by
  refine returnsInHanded_of_change (C := Try.checked) own started (by kernel_rfl) Try.func4
    (ChangeSpec.witness6 (enc := enc) (C := Try.checked) false ⟨#[], #[.slice none 0 0, .slice none 0 0], []⟩ 8 (by kernel_rfl) (by kernel_rfl) (by kernel_rfl) (by kernel_rfl)) ?_
  intro W base args ds gs before hval0 hW hcnd _
  have hval : ∀ (j : Nat) t v, Try.f4.params[j]? = some t → args[j]? = some v → Value.okWide Try.prog W .any base t v := hval0
  have hW' := hW
  obtain ⟨p, q, hA0, hV, rfl, hfz, hnd⟩ := hW
  have hA : DataW.TrodAll enc Try.prog W 0 (fun _ => true) true Try.f4.params.toList args.toList ds p := hA0
  rw [Try.params4] at hA hval
  obtain ⟨v0, vs0, d0, ds0, p0, q0, hargs, rfl, rfl, h0, r0⟩ := trodAll_cons hA
  obtain ⟨v1, vs1, d1, ds1, p1, q1, rfl, rfl, rfl, h1, r1⟩ := trodAll_cons r0
  obtain ⟨rfl, rfl, rfl⟩ := trodAll_nil r1
  obtain rfl : args = #[v0, v1] := by cases args; simp_all
  obtain ⟨rfl, rfl⟩ := trodVars_none hV
  obtain ⟨a0, len0, cap0, rfl⟩ := okWide_slice Try.underlying39 (hval 0 39 v0 rfl rfl)
  have k0 := h0
  have lt0 : ∀ x ∈ p0, x.block < W.heap.size := by obtain ⟨m, hm⟩ := k0; exact DataW.trod_lt m _ _ _ hm
  obtain ⟨l0, w0⟩ : ∃ l, IsI64 W a0 len0 l := by obtain ⟨fuel, hf⟩ := h0; exact open_i4 hf
  obtain ⟨a1, len1, cap1, rfl⟩ := okWide_slice Try.underlying39 (hval 1 39 v1 rfl rfl)
  have k1 := h1
  have lt1 : ∀ x ∈ p1, x.block < W.heap.size := by obtain ⟨m, hm⟩ := k1; exact DataW.trod_lt m _ _ _ hm
  obtain ⟨l1, w1⟩ : ∃ l, IsI64 W a1 len1 l := by obtain ⟨fuel, hf⟩ := h1; exact open_i4 hf
  clear hA0 hval0
  refine (walk a0 len0 cap0 l0 a1 len1 cap1 l1 W w0 w1).mono fun e W' ⟨he, bel⟩ => ?_
  subst he
  exact ⟨_, rfl, _, _, _, [], _, [], hW', trodAll_mk1 (shut_bool Try.underlying4 _), (trodAll_cons_mk (Below.trod laidOut (by kernel_rfl) (of_decide_eq_true (by kernel_rfl)) k0 bel lt0) (trodAll_cons_mk (Below.trod laidOut (by kernel_rfl) (of_decide_eq_true (by kernel_rfl)) k1 bel lt1) trodAll_mk0)), rfl, bel.frame _, fun h => by cases h⟩

/-- THE STATEMENT. -/
theorem proved : Rows.VnetPoolSaid :=
  OpenClaim.holds_of_wide 4 Try.f4 rfl rfl rfl rfl rfl rfl rfl ⟨rfl, rfl, rfl, rfl, rfl⟩ rfl rfl rfl rfl rfl (by kernel_rfl) Try.func4 (by kernel_rfl)
    (of_decide_eq_true (by kernel_rfl)) (by unfold Func.isWrapper; first | (rw [if_pos (by decide +kernel)]; kernel_rfl) | (rw [if_neg (by decide +kernel)]; exact ⟨rfl, rfl⟩))
    (fun os started H enc _ => lifted os started H enc)
#print axioms proved

end Go.Proofs.Ytmlicejhkdkhnaa.nxp
