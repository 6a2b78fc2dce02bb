/-
  Layer 5: a wheel's calls, in one list of timers; awake. Conditions: as said.
-/
import Derived.Test.YtbbmfgeagdblcaaWhM
namespace Go.Proofs.Ytbbmfgeagdblcaa
open Go.RowKit Go.Sort Go.Shelf

/-- A wheel with these timers, by number. -/
def IsW {X : Type} (TW TE : TypeId) (e : X → Value) (w : World) (O : Nat → Prop) (g : Nat) (now last : Int) (L : List (Tm X)) : Prop :=
  ∃ ls, Wh TW TE e w O g now last ls ∧ Rep now ls L ∧ 0 ≤ now ∧ now ≤ 9223372036854775807 ∧ 0 ≤ last ∧ (∀ t ∈ L, 1 ≤ t.id ∧ t.id ≤ last)
section
variable {X : Type} {TW TE : TypeId} {e : X → Value} {w w' : World} {O O' : Nat → Prop} {g : Nat} {now last : Int} {L : List (Tm X)}
theorem IsW.mono (h : IsW TW TE e w O g now last L) (k : ∀ j, j < w.heap.size → O j → O' j) : IsW TW TE e w O' g now last L := by
  obtain ⟨ls, h1, h2⟩ := h
  exact ⟨ls, h1.mono k, h2⟩
theorem IsW.kept (h : IsW TW TE e w O g now last L) (k : ∀ j, j < w.heap.size → O j → w'.heap[j]? = w.heap[j]?) : IsW TW TE e w' O g now last L := by
  obtain ⟨ls, h1, h2⟩ := h
  exact ⟨ls, h1.kept k, h2⟩
theorem IsW.turn (h : IsW TW TE e w O g now last L) (t : Turn w w' O') (k : ∀ j, O j → ¬ O' j) : IsW TW TE e w' O g now last L := h.kept (fun j hj ho => t.block j hj (k j ho))
theorem IsW.now0 (h : IsW TW TE e w O g now last L) : 0 ≤ now ∧ now ≤ 9223372036854775807 := by
  obtain ⟨ls, _, _, h1, h2, _⟩ := h
  exact ⟨h1, h2⟩
theorem IsW.ids (h : IsW TW TE e w O g now last L) : L.Pairwise (fun x y => x.id < y.id) ∧ ∀ t ∈ L, 1 ≤ t.id ∧ t.id ≤ last := by
  obtain ⟨ls, _, r, _, _, _, h2⟩ := h
  exact ⟨r.ids, h2⟩
end

/-- What may be turned behind a call: what could be ahead of it, and what is new. -/
def More (O : Nat → Prop) (w w' : World) : Nat → Prop := fun k => O k ∨ (w.heap.size ≤ k ∧ k < w'.heap.size)

abbrev IsWI (w : World) (O : Nat → Prop) (g : Nat) (now last : Int) (L : List (Tm Int)) : Prop := IsW 75 79 (Value.int .i64) w O g now last L
theorem bNewI (w : World) :
    Calls Try.prog 10 #[] w fun e w' => e = .returned (.pointer (some ⟨w.heap.size, 0, none⟩)) ∧ IsWI w' (fun k => k = w.heap.size) w.heap.size 0 0 [] ∧ Turn w w' (fun _ => False) ∧ w.heap.size < w'.heap.size :=
  (New_okI w).mono fun _ _ ⟨h1, h2, h3⟩ => ⟨h1, ⟨_, h2, Rep.empty 0, by omega, by omega, by omega, fun t ht => by cases ht⟩, h3, h2.lt⟩
theorem bSetI {w : World} {O : Nat → Prop} {g : Nat} {now last : Int} {L : List (Tm Int)} (h : IsWI w O g now last L) (due : Int) (x : Int) (hd : 0 ≤ due) (hd1 : due ≤ 9223372036854775807) (hl : last ≤ 1000000) (hf : L.length < 256) :
    Calls Try.prog 12 #[.pointer (some ⟨g, 0, none⟩), .int .i64 due, (Value.int .i64) x] w fun e w' => e = .returned (.tuple #[.int .i64 (last + 1), .int .i64 0]) ∧ IsWI w' (More O w w') g now (last + 1) (L ++ [⟨last + 1, due, x⟩]) ∧ Turn w w' O := by
  obtain ⟨ls, h1, r, n0, n1, l0, hi⟩ := h
  refine (set_okI h1 due x hd hd1 n0 n1 l0 hl (by rw [r.count]; exact hf) _ rfl).mono fun e w' ⟨e1, e2, e3⟩ => ⟨e1, ⟨_, e2, r.set ⟨last + 1, due, x⟩ (fun t ht => by have := (hi t ht).2; show t.id < last + 1; omega) _ rfl, n0, n1, by omega, fun t ht => ?_⟩, e3⟩
  rcases List.mem_append.1 ht with ht | ht
  · have := hi t ht; omega
  · obtain rfl := List.mem_singleton.1 ht
    show 1 ≤ last + 1 ∧ last + 1 ≤ last + 1
    omega
theorem bSetArgI {w : World} {O : Nat → Prop} {g : Nat} {now last : Int} {L : List (Tm Int)} (h : IsWI w O g now last L) (due : Int) (x : Int) (hd : due < 0) :
    Calls Try.prog 12 #[.pointer (some ⟨g, 0, none⟩), .int .i64 due, (Value.int .i64) x] w fun e w' => e = .returned (.tuple #[.int .i64 0, .int .i64 1]) ∧ w = w' := by
  obtain ⟨ls, h1, _⟩ := h
  exact set_argI h1 due x hd
theorem bSetFullI {w : World} {O : Nat → Prop} {g : Nat} {now last : Int} {L : List (Tm Int)} (h : IsWI w O g now last L) (due : Int) (x : Int) (hd : 0 ≤ due) (hf : 256 ≤ L.length) (hf1 : L.length ≤ 1000000) :
    Calls Try.prog 12 #[.pointer (some ⟨g, 0, none⟩), .int .i64 due, (Value.int .i64) x] w fun e w' => e = .returned (.tuple #[.int .i64 0, .int .i64 6]) ∧ w = w' := by
  obtain ⟨ls, h1, r, _⟩ := h
  exact set_fullI h1 due x hd (by rw [r.count]; exact hf) (by rw [r.count]; exact hf1)
theorem bAdvI {w : World} {O : Nat → Prop} {g : Nat} {now last : Int} {L : List (Tm Int)} (h : IsWI w O g now last L) (to_ : Int) (ht1 : to_ ≤ 9223372036854775807) (hf : L.length ≤ 10000) (N : Int) (hN : N = max now to_) :
    Calls Try.prog 17 #[.pointer (some ⟨g, 0, none⟩), .int .i64 to_] w fun e w' => ∃ v : Value, e = .returned v ∧
      w'.ownsRow w.heap.size 3 1 v (told N L).length ((told N L).map fun t => (Value.int .i64) t.x) ∧ IsWI w' (More O w w') g N last (rests N L) ∧ Turn w w' O := by
  obtain ⟨ls, h1, r, n0, n1, l0, hi⟩ := h
  have hK : (((min (N - now) 63 + 1).toNat : Nat) : Int) = min (N - now) 63 + 1 := by omega
  refine (adv_okI h1 to_ n0 n1 ht1 (by rw [r.count]; exact hf) N hN _ hK).mono ?_
  rintro e w' ⟨v, l', rfl, p1, p2, p3, p4, p5⟩
  have he := told_eq r n0 (by omega) hK p1 p2
  subst he
  exact ⟨v, rfl, p3, ⟨_, p4, r.adv n0 (by omega) hK, by omega, by omega, l0, fun t ht => hi t (mem_rests.1 ht).1⟩, p5⟩
theorem bLenI {w : World} {O : Nat → Prop} {g : Nat} {now last : Int} {L : List (Tm Int)} (h : IsWI w O g now last L) (hf : L.length ≤ 1000000) :
    Calls Try.prog 21 #[.pointer (some ⟨g, 0, none⟩)] w fun e w' => e = .returned (.int .i64 L.length) ∧ w = w' := by
  obtain ⟨ls, h1, r, _⟩ := h
  rw [← r.count]
  exact len_okI h1 (by rw [r.count]; exact hf)
theorem bNowI {w : World} {O : Nat → Prop} {g : Nat} {now last : Int} {L : List (Tm Int)} (h : IsWI w O g now last L) :
    Calls Try.prog 20 #[.pointer (some ⟨g, 0, none⟩)] w fun e w' => e = .returned (.int .i64 now) ∧ w = w' := by
  obtain ⟨ls, h1, _⟩ := h
  exact now_okI h1
theorem bNextI {w : World} {O : Nat → Prop} {g : Nat} {now last : Int} {L : List (Tm Int)} (h : IsWI w O g now last L) (hf : L.length ≤ 1000000) :
    Calls Try.prog 19 #[.pointer (some ⟨g, 0, none⟩)] w fun e w' => e = .returned (.tuple #[.int .i64 ((least L).getD 0), .bool (least L).isSome]) ∧ Turn w w' (fun _ => False) := by
  obtain ⟨ls, h1, r, _⟩ := h
  rw [← least_perm r.perm]
  exact next_okI h1 (by rw [r.count]; exact hf)
abbrev IsWS (w : World) (O : Nat → Prop) (g : Nat) (now last : Int) (L : List (Tm ByteArray)) : Prop := IsW 109 111 Value.string w O g now last L
theorem bNewS (w : World) :
    Calls Try.prog 32 #[] w fun e w' => e = .returned (.pointer (some ⟨w.heap.size, 0, none⟩)) ∧ IsWS w' (fun k => k = w.heap.size) w.heap.size 0 0 [] ∧ Turn w w' (fun _ => False) ∧ w.heap.size < w'.heap.size :=
  (New_okS w).mono fun _ _ ⟨h1, h2, h3⟩ => ⟨h1, ⟨_, h2, Rep.empty 0, by omega, by omega, by omega, fun t ht => by cases ht⟩, h3, h2.lt⟩
theorem bSetS {w : World} {O : Nat → Prop} {g : Nat} {now last : Int} {L : List (Tm ByteArray)} (h : IsWS w O g now last L) (due : Int) (x : ByteArray) (hd : 0 ≤ due) (hd1 : due ≤ 9223372036854775807) (hl : last ≤ 1000000) (hf : L.length < 256) :
    Calls Try.prog 33 #[.pointer (some ⟨g, 0, none⟩), .int .i64 due, Value.string x] w fun e w' => e = .returned (.tuple #[.int .i64 (last + 1), .int .i64 0]) ∧ IsWS w' (More O w w') g now (last + 1) (L ++ [⟨last + 1, due, x⟩]) ∧ Turn w w' O := by
  obtain ⟨ls, h1, r, n0, n1, l0, hi⟩ := h
  refine (set_okS h1 due x hd hd1 n0 n1 l0 hl (by rw [r.count]; exact hf) _ rfl).mono fun e w' ⟨e1, e2, e3⟩ => ⟨e1, ⟨_, e2, r.set ⟨last + 1, due, x⟩ (fun t ht => by have := (hi t ht).2; show t.id < last + 1; omega) _ rfl, n0, n1, by omega, fun t ht => ?_⟩, e3⟩
  rcases List.mem_append.1 ht with ht | ht
  · have := hi t ht; omega
  · obtain rfl := List.mem_singleton.1 ht
    show 1 ≤ last + 1 ∧ last + 1 ≤ last + 1
    omega
theorem bSetArgS {w : World} {O : Nat → Prop} {g : Nat} {now last : Int} {L : List (Tm ByteArray)} (h : IsWS w O g now last L) (due : Int) (x : ByteArray) (hd : due < 0) :
    Calls Try.prog 33 #[.pointer (some ⟨g, 0, none⟩), .int .i64 due, Value.string x] w fun e w' => e = .returned (.tuple #[.int .i64 0, .int .i64 1]) ∧ w = w' := by
  obtain ⟨ls, h1, _⟩ := h
  exact set_argS h1 due x hd
theorem bSetFullS {w : World} {O : Nat → Prop} {g : Nat} {now last : Int} {L : List (Tm ByteArray)} (h : IsWS w O g now last L) (due : Int) (x : ByteArray) (hd : 0 ≤ due) (hf : 256 ≤ L.length) (hf1 : L.length ≤ 1000000) :
    Calls Try.prog 33 #[.pointer (some ⟨g, 0, none⟩), .int .i64 due, Value.string x] w fun e w' => e = .returned (.tuple #[.int .i64 0, .int .i64 6]) ∧ w = w' := by
  obtain ⟨ls, h1, r, _⟩ := h
  exact set_fullS h1 due x hd (by rw [r.count]; exact hf) (by rw [r.count]; exact hf1)
theorem bAdvS {w : World} {O : Nat → Prop} {g : Nat} {now last : Int} {L : List (Tm ByteArray)} (h : IsWS w O g now last L) (to_ : Int) (ht1 : to_ ≤ 9223372036854775807) (hf : L.length ≤ 10000) (N : Int) (hN : N = max now to_) :
    Calls Try.prog 34 #[.pointer (some ⟨g, 0, none⟩), .int .i64 to_] w fun e w' => ∃ v : Value, e = .returned v ∧
      w'.ownsRow w.heap.size 9 1 v (told N L).length ((told N L).map fun t => Value.string t.x) ∧ IsWS w' (More O w w') g N last (rests N L) ∧ Turn w w' O := by
  obtain ⟨ls, h1, r, n0, n1, l0, hi⟩ := h
  have hK : (((min (N - now) 63 + 1).toNat : Nat) : Int) = min (N - now) 63 + 1 := by omega
  refine (adv_okS h1 to_ n0 n1 ht1 (by rw [r.count]; exact hf) N hN _ hK).mono ?_
  rintro e w' ⟨v, l', rfl, p1, p2, p3, p4, p5⟩
  have he := told_eq r n0 (by omega) hK p1 p2
  subst he
  exact ⟨v, rfl, p3, ⟨_, p4, r.adv n0 (by omega) hK, by omega, by omega, l0, fun t ht => hi t (mem_rests.1 ht).1⟩, p5⟩
theorem bLenS {w : World} {O : Nat → Prop} {g : Nat} {now last : Int} {L : List (Tm ByteArray)} (h : IsWS w O g now last L) (hf : L.length ≤ 1000000) :
    Calls Try.prog 53 #[.pointer (some ⟨g, 0, none⟩)] w fun e w' => e = .returned (.int .i64 L.length) ∧ w = w' := by
  obtain ⟨ls, h1, r, _⟩ := h
  rw [← r.count]
  exact len_okS h1 (by rw [r.count]; exact hf)

theorem Turn.step {w0 w w' : World} {O : Nat → Prop} (h : Turn w0 w (fun _ => False)) (k : Turn w w' O) (ho : ∀ j, O j → w0.heap.size ≤ j) : Turn w0 w' (fun _ => False) := h.trans' k (fun j hj hx => by have := ho j hx; omega)
theorem more_ge {w w' : World} {O : Nat → Prop} {B : Nat} (ho : ∀ j, O j → B ≤ j) (hB : B ≤ w.heap.size) : ∀ j, More O w w' j → B ≤ j := fun j hj => by
  rcases hj with hj | hj
  · exact ho j hj
  · omega
theorem Turn.below {w w' : World} (h : Turn w w' (fun _ => False)) : Below w.heap.size w w' := (Below.refl _ w).grown (h.grown (fun _ _ h => h)) (Nat.le_refl _) (fun k h => by cases h)

/-- A row of one-cell things, nothing of which is told but its length. -/
theorem own_len {w : World} {base : Nat} {E : TypeId} {v : Value} {n : Nat} {xs : List Value} (h : w.ownsRow base E 1 v n xs) : ∃ p c, v = .slice p n c := by
  rcases h.2 with ⟨h1, h2⟩ | ⟨g, cap, _, h1, _⟩
  · exact ⟨none, 0, by rw [h1, h2]⟩
  · exact ⟨_, cap, h1⟩
theorem own_cells {w : World} {base : Nat} {E : TypeId} {v : Value} {n : Nat} {xs : List Value} (h : w.ownsRow base E 1 v n xs) (hn : 0 < n) : ∃ b c, v = .slice (some ⟨b, 0, none⟩) n c ∧ base ≤ b ∧ b < w.heap.size ∧ ∀ j u, xs[j]? = some u → w.cell? ⟨b, j, none⟩ = some u := by
  rcases h.2 with ⟨h1, h2⟩ | ⟨b, cap, cur, rfl, hb, hh, _⟩
  · omega
  · refine ⟨b, cap, rfl, hb, (Array.getElem?_eq_some_iff.1 hh).1, fun j u hu => ?_⟩
    have := h.cells (g := b) rfl j u hu
    have ha : (⟨b, 0, none⟩ : Addr).add j = ⟨b, j, none⟩ := by unfold Addr.add; split <;> simp_all
    rw [ha] at this
    exact this

set_option maxRecDepth 100000 in
set_option maxHeartbeats 1000000 in
theorem awake_any (w : World) : Calls Try.prog 9 #[] w fun e w' => e = .returned (.bool true) ∧ Turn w w' (fun _ => False) := by
  have HA := Lib.hid (bNewS w)
  go_enter Try.func9, Try.ntmps9
  go_wp2_with fail
  refine HA.out.mono ?_
  rintro e w1 ⟨rfl, i1, t1, -⟩
  have hB := bSetS i1 5 ⟨#[97]⟩ (by omega) (by omega) (by omega) (by simp)
  have HB := Lib.hid hB
  clear hB i1 HA
  have T1 := Lib.hid t1
  clear t1
  go_wp2_with fail
  refine HB.out.mono ?_
  rintro e w2 ⟨rfl, i2, t2⟩
  have HC := Lib.hid (bSetS i2 3 ⟨#[98]⟩ (by omega) (by omega) (by omega) (by simp))
  have T2 := Lib.hid t2
  clear t2 i2 HB
  go_wp2_with fail
  refine HC.out.mono ?_
  rintro e w3 ⟨rfl, i3, t3⟩
  have HD := Lib.hid (bAdvS i3 2 (by omega) (by simp) 2 (by omega))
  have T3 := Lib.hid t3
  clear t3 i3 HC
  go_wp2_with fail
  refine HD.out.mono ?_
  rintro e w4 ⟨v4, rfl, o4, i4, t4⟩
  have HE := Lib.hid (bAdvS i4 5 (by omega) (by simp [rests, isDue]) 5 (by omega))
  have T4 := Lib.hid t4
  obtain ⟨p4, c4, h4⟩ := own_len o4
  have e4 : (told (X := ByteArray) 2 ([] ++ [⟨0 + 1, 5, ⟨#[97]⟩⟩] ++ [⟨0 + 1 + 1, 3, ⟨#[98]⟩⟩])).length = 0 := by rfl
  rw [e4] at h4
  subst h4
  clear t4 i4 HD o4 e4
  go_wp2_with fail
  refine HE.out.mono ?_
  rintro e w5 ⟨v5, rfl, o5, i5, t5⟩
  have T5 := Lib.hid t5
  have e5 : told (X := ByteArray) 5 (rests 2 ([] ++ [⟨0 + 1, 5, ⟨#[97]⟩⟩] ++ [⟨0 + 1 + 1, 3, ⟨#[98]⟩⟩])) = [⟨2, 3, ⟨#[98]⟩⟩, ⟨1, 5, ⟨#[97]⟩⟩] := by rfl
  rw [e5] at o5
  obtain ⟨b, c, rfl, _, _, hc⟩ := own_cells o5 (by decide)
  have c0 := hc 0 _ rfl
  have c1 := hc 1 _ rfl
  clear hc o5 t5 i5 HE e5
  go_wp2_with fail
  go_ret
  have z1 := T1.out.size
  have z2 := T2.out.size
  have z3 := T3.out.size
  have z4 := T4.out.size
  have o2 : ∀ j, (fun k => k = w.heap.size) j → w.heap.size ≤ j := fun j hj => Nat.le_of_eq hj.symm
  have o3 := more_ge (w := w1) (w' := w2) o2 (by omega)
  have o4 := more_ge (w := w2) (w' := w3) o3 (by omega)
  have o5 := more_ge (w := w3) (w' := w4) o4 (by omega)
  exact ⟨rfl, (((T1.out.step T2.out o2).step T3.out o3).step T4.out o4).step T5.out o5⟩

end Go.Proofs.Ytbbmfgeagdblcaa
