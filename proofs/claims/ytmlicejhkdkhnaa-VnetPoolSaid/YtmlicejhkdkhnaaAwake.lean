/-
  Layer 2: a queue and a port over one memory, and the contract of the statements' awake.
-/
import Derived.Test.YtmlicejhkdkhnaaNextDone
namespace Go.Proofs.Ytmlicejhkdkhnaa
open Go.RowKit Go.Sort

theorem QS.nep {w : World} {q g h : Nat} {lm : List UInt8} {base : Int} {n mb : Nat} {cs : List Oc} {off back : Int} {broken : Bool} (s : QS w q g h lm base n mb cs off back broken) {p g' : Nat} {b' n' t1 t2 : Int} (hp : PAt w p g' b' n' t1 t2) : q ≠ p ∧ mb ≠ p := by
  refine ⟨?_, ?_⟩
  · rintro rfl
    have h1 := s.at_
    unfold QAt at h1
    unfold PAt at hp
    rw [hp] at h1
    injection h1 with h1
    injection h1 with _ h1
    exact absurd h1 (by decide)
  · rintro rfl
    obtain ⟨es, clock, hb, _⟩ := s.tab
    unfold PAt at hp
    rw [hb] at hp
    injection hp with hp
    cases hp

theorem QS.other {w w' : World} {q g h : Nat} {lm lm' : List UInt8} {base : Int} {n mb : Nat} {cs : List Oc} {off back : Int} {broken : Bool} (s : QS w q g h lm base n mb cs off back broken) {p g' : Nat} {b' n' t1 t2 : Int} (hp : PAt w p g' b' n' t1 t2)
    (t : Turned (fun k => k = h ∨ k = p) w w') (m : Mem w' g h lm') (hl : lm'.length = lm.length) : QS w' q g h lm' base n mb cs off back broken := by
  obtain ⟨h1, h2⟩ := s.nep hp
  refine { s with mem := m, len := by rw [hl]; exact s.len, at_ := t.kept s.at_ ?_, tab := s.tab.kept (t.block _ s.lts.2.2.2 ?_), nums := fun x hx => ?_, b1 := by rw [hl]; exact s.b1 }
  · rintro (e | e); exact s.qh e; exact h1 e
  · rintro (e | e); exact s.mbne.2.2 e; exact h2 e
  · obtain ⟨a1, a2, a3⟩ := s.nums x hx
    refine ⟨a1, fun i hi => t.cell (a2 i hi) ?_, a3⟩
    rintro (e | e)
    · exact s.mem.not_u8 (a2 i hi) (fun x e => by cases e) e
    · have hc := a2 0 (by omega)
      rw [e, hp.c0] at hc
      cases hc

theorem PS.other {w w' : World} {p g h : Nat} {lm lm' : List UInt8} {base : Int} {n : Nat} {taken told : Int} (s : PS w p g h lm base n taken told) {q mb : Nat} (h1 : q ≠ p) (h2 : mb ≠ p) (t : Turned (QB q h mb) w w') (m : Mem w' g h lm') (hl : lm'.length = lm.length) : PS w' p g h lm' base n taken told :=
  { s with mem := m, len := by rw [hl]; exact s.len, at_ := t.kept s.at_ (by rintro (e | e | e); exact s.ph e; exact h1 e.symm; exact h2 e.symm), b1 := by rw [hl]; exact s.b1 }

/-- A queue and a port over one memory. -/
structure Both (w : World) (q p g h : Nat) (lm : List UInt8) (base : Int) (n mb : Nat) (cs : List Oc) (off back : Int) (broken : Bool) (taken told : Int) : Prop where
  qs : QS w q g h lm base n mb cs off back broken
  ps : PS w p g h lm base n taken told

section
variable {w w' : World} {q p g h : Nat} {lm : List UInt8} {base : Int} {n mb : Nat} {cs : List Oc} {off back : Int} {broken : Bool} {taken told : Int}
theorem Both.grown (s : Both w q p g h lm base n mb cs off back broken taken told) (k : w.grownBy w' none) : Both w' q p g h lm base n mb cs off back broken taken told := ⟨s.qs.grown k, s.ps.grown k⟩
/-- The driver's side has gone on. -/
theorem Both.driver (s : Both w q p g h lm base n mb cs off back broken taken told) {lm' : List UInt8} {cs' : List Oc} {off' back' : Int} {broken' : Bool} (s' : QS w' q g h lm' base n mb cs' off' back' broken') (t : Turned (QB q h mb) w w') (hl : lm'.length = lm.length) :
    Both w' q p g h lm' base n mb cs' off' back' broken' taken told := ⟨s', s.ps.other (s.qs.nep s.ps.at_).1 (s.qs.nep s.ps.at_).2 t s'.mem hl⟩
/-- The device's side has gone on. -/
theorem Both.device (s : Both w q p g h lm base n mb cs off back broken taken told) {lm' : List UInt8} {taken' told' : Int} (s' : PS w' p g h lm' base n taken' told') (t : Turned (fun k => k = h ∨ k = p) w w') (hl : lm'.length = lm.length) :
    Both w' q p g h lm' base n mb cs off back broken taken' told' := ⟨s.qs.other s.ps.at_ t s'.mem hl, s'⟩
end

/-- What the blocks of a queue, a port and a memory are that were all made since B. -/
def Since (B q p h mb : Nat) : Prop := B ≤ q ∧ B ≤ p ∧ B ≤ h ∧ B ≤ mb
theorem Since.qb {B q p h mb : Nat} (s : Since B q p h mb) {w0 w w' : World} (b : Below B w0 w) (t : Turned (QB q h mb) w w') (hB : B ≤ w.heap.size) : Below B w0 w' :=
  b.trans (t.below hB (by rintro k (rfl | rfl | rfl); exact s.2.2.1; exact s.1; exact s.2.2.2))
theorem Since.pb {B q p h mb : Nat} (s : Since B q p h mb) {w0 w w' : World} (b : Below B w0 w) (t : Turned (fun k => k = h ∨ k = p) w w') (hB : B ≤ w.heap.size) : Below B w0 w' :=
  b.trans (t.below hB (by rintro k (rfl | rfl); exact s.2.2.1; exact s.2.1))

def aM : List UInt8 := wipeL (List.replicate (4096 : Int).toNat 0) 0 4
def aL : List Bf := [⟨256, 16, false⟩, ⟨512, 64, true⟩]
def aM1 : List UInt8 := addL aM 0 (4 : Nat) 0 [0, 1] aL
def aM2 : List UInt8 := vdoneL aM1 0 (4 : Nat) 0 0 64
theorem a_len : aM.length = 4096 := by unfold aM; rw [wipeL_length, List.length_replicate]; rfl
theorem a_free : freeL [] 4 = [0, 1, 2, 3] := by decide +kernel
theorem a_refuse : refuseE aM aL 4 = 0 := by decide +kernel
theorem a_offI : offI aM1 0 4 = 1 := by decide +kernel
theorem a_offHead : offHead aM1 0 4 0 = 0 := by decide +kernel
theorem a_follow : (followF aM1 0 4 4 0 []).map (fun l => l.map fun x => (x.a, x.n, x.wr)) = some [(256, 16, false), (512, 64, true)] := by decide +kernel
theorem a_usedI : usedI aM2 0 4 = 1 := by decide +kernel
theorem a_usedNum : usedNum aM2 0 4 0 = 0 := by decide +kernel
theorem a_usedLen : usedLen aM2 0 4 0 = 64 := by decide +kernel

/-- A slice of buffers that has just been made. -/
theorem bufs_new (w : World) (l : List Bf) (t : TypeId) (cap : Nat) (hl : l.length ≤ 1000) : IsBufs (w.alloc (.cells (l.flatMap bfCells).toArray t)) (.slice (some ⟨w.heap.size, 0, none⟩) l.length cap) l := by
  refine ⟨_, cap, rfl, hl, fun _ => ⟨w.heap.size, 0, rfl, fun i hi => ?_⟩⟩
  have hb := heap_alloc_new w (.cells (l.flatMap bfCells).toArray t)
  have hc : ∀ j, j < 3 → (w.alloc (.cells (l.flatMap bfCells).toArray t)).cell? ⟨w.heap.size, 0 + (i * 3 + j), none⟩ = (bfCells l[i])[j]? := fun j hj => by
    rw [cell_of_block hb, Nat.zero_add, List.getElem?_toArray, bf_cell l i hi j hj]
  exact ⟨hc 0 (by omega), hc 1 (by omega), hc 2 (by omega)⟩

/-- A queue and a port of the sizes that may be, just made over one memory. -/
theorem both_made {w : World} {q p g h : Nat} {l : List UInt8} {base : Int} {n mb : Nat} (m : Mem w g h (wipeL l base n)) (hl : l.length ≤ 65536) (hq : QAt w q g base n (some mb) 0 0 false) (hb : IsTab w mb []) (hp : PAt w p g base n 0 0) (b0 : 0 ≤ base) (b1 : base + bytesOf n ≤ l.length) (hs : isSize n) :
    Both w q p g h (wipeL l base n) base n mb [] 0 0 false 0 0 :=
  ⟨⟨m, by rw [wipeL_length]; exact hl, hq, hb, (fun x hx => by cases hx), (fun x hx => by cases hx), (fun x hx => by cases hx), b0, by rw [wipeL_length]; exact b1, hs, by omega, by omega, by omega, by omega⟩,
   ⟨m, by rw [wipeL_length]; exact hl, hp, b0, by rw [wipeL_length]; exact b1, hs, by omega, by omega, by omega, by omega⟩⟩

theorem a_bar (l : List UInt8) (hl : l.length = 4096) : barOf l.length 0 4 = 0 := by rw [hl]; decide +kernel

theorem aL_of {l : List Bf} (h : l.map (fun x => (x.a, x.n, x.wr)) = [(256, 16, false), (512, 64, true)]) : l = aL := by
  match l with
  | [] => simp at h
  | [x] => simp at h
  | [⟨a, b, c⟩, ⟨d, e, f⟩] => simp at h; obtain ⟨⟨rfl, rfl, rfl⟩, rfl, rfl, rfl⟩ := h; rfl
  | x :: y :: z :: t => simp at h


end Go.Proofs.Ytmlicejhkdkhnaa
