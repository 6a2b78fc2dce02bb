/-
  Layer 8: Put whatever comes; a joiner beside blocks that stay. Conditions: as said.
-/
import Derived.Test.YtbjoibgkhooljaaJoJ
import Derived.Test.YtbjoibgkhooljaaJoK
namespace Go.Proofs.Ytbjoibgkhooljaa
open Go.RowKit Go.Sort Go.Shelf
set_option linter.unusedVariables false

/-- Datagrams whose pieces are small, at most n of each. -/
def FineL (n : Nat) (L : List Da) : Prop := ∀ x ∈ L, x.ps.length ≤ n ∧ ∀ y ∈ x.ps, y.fine ∧ pEnd y ≤ 1200
theorem jput_any {w : World} {g : Nat} {lim : Int} {v : Value} {l : List Dg} (h : Jo w g lim v l) (hl : l.length ≤ 4) (hf : FineL 100000 (l.map Dg.da)) (f : Pd) (hz : f.da.size ≤ 140737488355328) :
    Calls Try.prog 14 #[.pointer (some ⟨g, 0, none⟩), .agg (pdC f)] w fun e w' => ∃ v' l', e = .returned (.tuple #[.agg (pdC (putA f (l.map Dg.da)).1), .bool (putA f (l.map Dg.da)).2.1]) ∧ JoT w w' g lim v l v' l' ∧ l'.map Dg.da = (putA f (l.map Dg.da)).2.2 := by
  have hf' : ∀ x ∈ l, x.ps.length ≤ 100000 ∧ ∀ y ∈ x.ps, y.fine ∧ pEnd y ≤ 1200 := fun x hx => hf x.da (List.mem_map_of_mem hx)
  cases hm : mayB f
  · refine (jput_bad h f hz hm).mono fun e w' ⟨e1, e2⟩ => ⟨v, l, ?_, e2, ?_⟩
    · rw [e1]; unfold putA; rw [if_pos hm]
    · unfold putA; rw [if_pos hm]
  · by_cases h0 : f.ps = 0
    · cases h1 : f.mo
      · have e : putA f (l.map Dg.da) = (f, true, l.map Dg.da) := by unfold putA; rw [if_neg (by rw [hm]; decide), if_pos ⟨h0, h1⟩]
        exact (jput_one h f hz hm h0 h1).mono fun e' w' ⟨e1, e2⟩ => ⟨v, l, by rw [e1, e], e2, by rw [e]⟩
      · exact jput_at0 h hl hf' f hz hm h0 h1
    · exact jput_atn h hl hf' f hz hm h0

theorem begA_len (s : Nm) {L : List Da} (hl : L.length ≤ 4) : (begA s L).1.length ≤ 4 := by
  unfold begA
  split
  · exact hl
  · show ((_ : List Da) ++ _).length ≤ 4
    split
    · rw [List.length_append, List.length_eraseIdx_of_lt (by omega)]; simp; omega
    · rw [List.length_append]; simp; omega
theorem begA_fine (s : Nm) {n : Nat} {L : List Da} (h : FineL n L) : FineL n (begA s L).1 := by
  unfold begA
  split
  · exact h
  · intro x hx
    rcases List.mem_append.1 hx with hx | hx
    · split at hx
      · exact h x (List.mem_of_mem_eraseIdx hx)
      · exact h x hx
    · rw [List.mem_singleton] at hx; subst hx; exact ⟨Nat.zero_le _, fun y hy => (by cases hy)⟩
theorem FineL.mono {n m : Nat} {L : List Da} (h : FineL n L) (k : n ≤ m) : FineL m L := fun x hx => ⟨Nat.le_trans (h x hx).1 k, (h x hx).2⟩
theorem mayP_end {l : List Pc} {x : Pc} (h : mayP l x = true) : pEnd x ≤ 1200 := by
  unfold mayP at h
  rw [Bool.and_eq_true] at h
  simpa using h.1
theorem putA_fine (f : Pd) {n : Nat} {L : List Da} (hl : L.length ≤ 4) (h : FineL n L) : (putA f L).2.2.length ≤ 4 ∧ FineL (n + 1) (putA f L).2.2 := by
  have h1 := begA_len (nmOf f) hl
  have h2 := begA_fine (nmOf f) h
  unfold putA
  split
  · exact ⟨hl, h.mono (Nat.le_succ _)⟩
  · rename_i hm
    have hm : mayB f = true := by simpa using hm
    split
    · exact ⟨hl, h.mono (Nat.le_succ _)⟩
    · split
      · exact ⟨hl, h.mono (Nat.le_succ _)⟩
      · rename_i d hd
        generalize (begA (nmOf f) L).1 = L1 at h1 h2 hd
        generalize (begA (nmOf f) L).2 = i at hd
        obtain ⟨hi, hdi⟩ := List.getElem?_eq_some_iff.1 hd
        have hdm : d ∈ L1 := by rw [← hdi]; exact List.getElem_mem hi
        have he : (L1.eraseIdx i).length ≤ 4 := Nat.le_trans (List.length_eraseIdx_le _ _) h1
        have hef : FineL (n + 1) (L1.eraseIdx i) := fun x hx => (h2.mono (Nat.le_succ _)) x (List.mem_of_mem_eraseIdx hx)
        unfold putI
        split
        · exact ⟨h1, h2.mono (Nat.le_succ _)⟩
        · split
          · exact ⟨he, hef⟩
          · rename_i hma
            have hma : mayP d.ps (pcOf f) = true := by simpa using hma
            split
            · exact ⟨he, hef⟩
            · refine ⟨by rw [List.length_set]; exact h1, fun x hx => ?_⟩
              rcases List.mem_or_eq_of_mem_set hx with hx | rfl
              · exact (h2.mono (Nat.le_succ _)) x hx
              · refine ⟨by show (d.ps ++ [pcOf f]).length ≤ n + 1; rw [List.length_append]; have := (h2 d hdm).1; simp; omega, fun y hy => ?_⟩
                rcases List.mem_append.1 hy with hy | hy
                · exact (h2 d hdm).2 y hy
                · rw [List.mem_singleton] at hy; subst hy; exact ⟨pcOf_fine hm, mayP_end hma⟩

/-- A joiner made since w, and blocks that stay as they are while it is used. -/
def JoS (w W : World) (F : List (Nat × Obj)) (g : Nat) (lim : Int) (L : List Da) : Prop := ∃ v l, Jo W g lim v l ∧ l.map Dg.da = L ∧ Below w.heap.size w W ∧ (∀ k, JoO g v l k → w.heap.size ≤ k) ∧ ∀ p ∈ F, W.heap[p.1]? = some p.2 ∧ ¬ JoO g v l p.1
section
variable {w W W' : World} {F : List (Nat × Obj)} {g : Nat} {lim : Int} {L : List Da}
theorem blk_lt {w : World} {n : Nat} {o : Obj} (h : w.heap[n]? = some o) : n < w.heap.size := (Array.getElem?_eq_some_iff.1 h).1
theorem JoS.bl (h : JoS w W F g lim L) : Below w.heap.size w W := by obtain ⟨v, l, h1, h2, h3, h4, h5⟩ := h; exact h3
theorem JoS.grow (h : JoS w W F g lim L) (b : Below W.heap.size W W') : JoS w W' F g lim L := by
  obtain ⟨v, l, h1, h2, h3, h4, h5⟩ := h
  exact ⟨v, l, h1.grow b, h2, h3.trans (b.mono h3.size), h4, fun p hp => ⟨(b.block p.1 (blk_lt (h5 p hp).1)).trans (h5 p hp).1, (h5 p hp).2⟩⟩
theorem JoS.get (h : JoS w W F g lim L) {n : Nat} {o : Obj} (hp : (n, o) ∈ F) : W.heap[n]? = some o := by obtain ⟨v, l, h1, h2, h3, h4, h5⟩ := h; exact (h5 _ hp).1
theorem JoS.alloc (h : JoS w W F g lim L) (o : Obj) : JoS w (W.alloc o) ((W.heap.size, o) :: F) g lim L := by
  obtain ⟨v, l, h1, h2, h3, h4, h5⟩ := h.grow ((Below.refl _ _).alloc (Nat.le_refl _) o)
  obtain ⟨v', l', g1, g2, g3, g4, g5⟩ := h
  have b : Below W.heap.size W (W.alloc o) := (Below.refl _ _).alloc (Nat.le_refl _) o
  refine ⟨v', l', g1.grow b, g2, g3.trans (b.mono g3.size), g4, fun p hp => ?_⟩
  rcases List.mem_cons.1 hp with rfl | hp
  · exact ⟨heap_alloc_new W o, fun ho => by have := g1.inn ho; have e : W.heap.size < W.heap.size := this; omega⟩
  · exact ⟨(b.block p.1 (blk_lt (g5 p hp).1)).trans (g5 p hp).1, (g5 p hp).2⟩
theorem JoS.drop (h : JoS w W F g lim L) {F' : List (Nat × Obj)} (hs : ∀ p ∈ F', p ∈ F) : JoS w W F' g lim L := by
  obtain ⟨v, l, h1, h2, h3, h4, h5⟩ := h
  exact ⟨v, l, h1, h2, h3, h4, fun p hp => h5 p (hs p hp)⟩
theorem JoS.turn {v v' : Value} {l l' : List Dg} (hb : Below w.heap.size w W) (ho : ∀ k, JoO g v l k → w.heap.size ≤ k) (hF : ∀ p ∈ F, W.heap[p.1]? = some p.2 ∧ ¬ JoO g v l p.1) (t : JoT W W' g lim v l v' l') (hL : l'.map Dg.da = L) : JoS w W' F g lim L := by
  refine ⟨v', l', t.jo, hL, ⟨t.tn.os.trans hb.os, t.tn.tape.trans hb.tape, t.tn.output.trans hb.output, Nat.le_trans hb.size t.tn.size, fun k hk => (t.tn.block k (Nat.lt_of_lt_of_le hk hb.size) (fun e => by have := ho k e; omega)).trans (hb.block k hk)⟩, fun k hk => ?_, fun p hp => ?_⟩
  · rcases t.nw k hk with e | e
    · exact ho k e
    · exact Nat.le_trans hb.size e
  · obtain ⟨f1, f2⟩ := hF p hp
    have hl := blk_lt f1
    refine ⟨(t.tn.block p.1 hl f2).trans f1, fun e => ?_⟩
    rcases t.nw _ e with e | e
    · exact f2 e
    · omega
theorem putS (h : JoS w W F g lim L) (hl : L.length ≤ 4) (hf : FineL 100000 L) (f : Pd) (hz : f.da.size ≤ 140737488355328) (P : Pd) (B : Bool) (L' : List Da) (hp : putA f L = (P, B, L')) :
    Calls Try.prog 14 #[.pointer (some ⟨g, 0, none⟩), .agg (pdC f)] W fun e w' => e = .returned (.tuple #[.agg (pdC P), .bool B]) ∧ JoS w w' F g lim L' := by
  obtain ⟨v, l, h1, h2, h3, h4, h5⟩ := h
  subst h2
  refine (jput_any h1 (by simpa using hl) hf f hz).mono ?_
  rintro e w' ⟨v', l', e1, e2, e3⟩
  rw [hp] at e1 e3
  exact ⟨e1, JoS.turn h3 h4 h5 e2 e3⟩
theorem lenS (h : JoS w W F g lim L) (hl : L.length ≤ 4) :
    Calls Try.prog 17 #[.pointer (some ⟨g, 0, none⟩)] W fun e w' => e = .returned (.int .i64 L.length) ∧ W = w' := by
  obtain ⟨v, l, h1, h2, h3, h4, h5⟩ := h
  subst h2
  rw [List.length_map] at hl ⊢
  exact jlen_ok h1 (by omega)
theorem newS (hw : Below w.heap.size w W) (hF : ∀ p ∈ F, W.heap[p.1]? = some p.2) (lim : Int) (h1 : 1 ≤ lim) (h2 : lim ≤ 1048576) :
    Calls Try.prog 12 #[.int .i64 lim] W fun e w' => ∃ g, e = .returned (.tuple #[.pointer (some ⟨g, 0, none⟩), .int .i64 0]) ∧ JoS w w' F g lim [] := by
  refine (jnew_ok W lim h1 h2).mono ?_
  rintro e w' ⟨e1, e2, e3⟩
  refine ⟨_, e1, .slice none 0 0, [], e2, rfl, hw.trans (e3.mono hw.size), fun k hk => ?_, fun p hp => ⟨(e3.block p.1 (blk_lt (hF p hp))).trans (hF p hp), fun ho => ?_⟩⟩
  · rcases hk with rfl | hk | ⟨x, hx, _⟩
    · exact hw.size
    · cases hk
    · cases hx
  · have hlt := blk_lt (hF p hp)
    rcases ho with e | e | ⟨x, hx, _⟩
    · omega
    · cases e
    · cases hx
end

end Go.Proofs.Ytbjoibgkhooljaa
