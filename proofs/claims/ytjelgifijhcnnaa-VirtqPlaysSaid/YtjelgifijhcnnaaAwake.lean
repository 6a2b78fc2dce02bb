/-
  Layer 2: a queue and a port over one memory, and the contract of the statements' awake.
-/
import Derived.Test.YtjelgifijhcnnaaNextDone
namespace Go.Proofs.Ytjelgifijhcnnaa
open Go.RowKit Go.Sort

theorem QS.nep {w : World} {q g h : Nat} {lm : List UInt8} {base : Int} {n mb : Nat} {cs : List Oc} {off back : Int} {broken : Bool} (s : QS w q g h lm base n mb cs off back broken) {p g' : Nat} {b' n' t1 t2 : Int} (hp : PAt w p g' b' n' t1 t2) : q ≠ p ∧ mb ≠ p := by
  refine ⟨?_, ?_⟩
  · rintro rfl
    have h1 := s.at_
    unfold QAt at h1
    unfold PAt at hp
    rw [hp] at h1
    injection h1 with h1
    injection h1 with _ h1
    exact absurd h1 (by decide)
  · rintro rfl
    obtain ⟨es, clock, hb, _⟩ := s.tab
    unfold PAt at hp
    rw [hb] at hp
    injection hp with hp
    cases hp

theorem QS.other {w w' : World} {q g h : Nat} {lm lm' : List UInt8} {base : Int} {n mb : Nat} {cs : List Oc} {off back : Int} {broken : Bool} (s : QS w q g h lm base n mb cs off back broken) {p g' : Nat} {b' n' t1 t2 : Int} (hp : PAt w p g' b' n' t1 t2)
    (t : Turned (fun k => k = h ∨ k = p) w w') (m : Mem w' g h lm') (hl : lm'.length = lm.length) : QS w' q g h lm' base n mb cs off back broken := by
  obtain ⟨h1, h2⟩ := s.nep hp
  refine { s with mem := m, len := by rw [hl]; exact s.len, at_ := t.kept s.at_ ?_, tab := s.tab.kept (t.block _ s.lts.2.2.2 ?_), nums := fun x hx => ?_, b1 := by rw [hl]; exact s.b1 }
  · rintro (e | e); exact s.qh e; exact h1 e
  · rintro (e | e); exact s.mbne.2.2 e; exact h2 e
  · obtain ⟨a1, a2, a3⟩ := s.nums x hx
    refine ⟨a1, fun i hi => t.cell (a2 i hi) ?_, a3⟩
    rintro (e | e)
    · exact s.mem.not_u8 (a2 i hi) (fun x e => by cases e) e
    · have hc := a2 0 (by omega)
      rw [e, hp.c0] at hc
      cases hc

theorem PS.other {w w' : World} {p g h : Nat} {lm lm' : List UInt8} {base : Int} {n : Nat} {taken told : Int} (s : PS w p g h lm base n taken told) {q mb : Nat} (h1 : q ≠ p) (h2 : mb ≠ p) (t : Turned (QB q h mb) w w') (m : Mem w' g h lm') (hl : lm'.length = lm.length) : PS w' p g h lm' base n taken told :=
  { s with mem := m, len := by rw [hl]; exact s.len, at_ := t.kept s.at_ (by rintro (e | e | e); exact s.ph e; exact h1 e.symm; exact h2 e.symm), b1 := by rw [hl]; exact s.b1 }

/-- A queue and a port over one memory. -/
structure Both (w : World) (q p g h : Nat) (lm : List UInt8) (base : Int) (n mb : Nat) (cs : List Oc) (off back : Int) (broken : Bool) (taken told : Int) : Prop where
  qs : QS w q g h lm base n mb cs off back broken
  ps : PS w p g h lm base n taken told

section
variable {w w' : World} {q p g h : Nat} {lm : List UInt8} {base : Int} {n mb : Nat} {cs : List Oc} {off back : Int} {broken : Bool} {taken told : Int}
theorem Both.grown (s : Both w q p g h lm base n mb cs off back broken taken told) (k : w.grownBy w' none) : Both w' q p g h lm base n mb cs off back broken taken told := ⟨s.qs.grown k, s.ps.grown k⟩
/-- The driver's side has gone on. -/
theorem Both.driver (s : Both w q p g h lm base n mb cs off back broken taken told) {lm' : List UInt8} {cs' : List Oc} {off' back' : Int} {broken' : Bool} (s' : QS w' q g h lm' base n mb cs' off' back' broken') (t : Turned (QB q h mb) w w') (hl : lm'.length = lm.length) :
    Both w' q p g h lm' base n mb cs' off' back' broken' taken told := ⟨s', s.ps.other (s.qs.nep s.ps.at_).1 (s.qs.nep s.ps.at_).2 t s'.mem hl⟩
/-- The device's side has gone on. -/
theorem Both.device (s : Both w q p g h lm base n mb cs off back broken taken told) {lm' : List UInt8} {taken' told' : Int} (s' : PS w' p g h lm' base n taken' told') (t : Turned (fun k => k = h ∨ k = p) w w') (hl : lm'.length = lm.length) :
    Both w' q p g h lm' base n mb cs off back broken taken' told' := ⟨s.qs.other s.ps.at_ t s'.mem hl, s'⟩
end

/-- What the blocks of a queue, a port and a memory are that were all made since B. -/
def Since (B q p h mb : Nat) : Prop := B ≤ q ∧ B ≤ p ∧ B ≤ h ∧ B ≤ mb
theorem Since.qb {B q p h mb : Nat} (s : Since B q p h mb) {w0 w w' : World} (b : Below B w0 w) (t : Turned (QB q h mb) w w') (hB : B ≤ w.heap.size) : Below B w0 w' :=
  b.trans (t.below hB (by rintro k (rfl | rfl | rfl); exact s.2.2.1; exact s.1; exact s.2.2.2))
theorem Since.pb {B q p h mb : Nat} (s : Since B q p h mb) {w0 w w' : World} (b : Below B w0 w) (t : Turned (fun k => k = h ∨ k = p) w w') (hB : B ≤ w.heap.size) : Below B w0 w' :=
  b.trans (t.below hB (by rintro k (rfl | rfl); exact s.2.2.1; exact s.2.1))

def aM : List UInt8 := wipeL (List.replicate (4096 : Int).toNat 0) 0 4
def aL : List Bf := [⟨256, 16, false⟩, ⟨512, 64, true⟩]
def aM1 : List UInt8 := addL aM 0 (4 : Nat) 0 [0, 1] aL
def aM2 : List UInt8 := vdoneL aM1 0 (4 : Nat) 0 0 64
theorem a_len : aM.length = 4096 := by unfold aM; rw [wipeL_length, List.length_replicate]; rfl
theorem a_free : freeL [] 4 = [0, 1, 2, 3] := by decide +kernel
theorem a_refuse : refuseE aM aL 4 = 0 := by decide +kernel
theorem a_offI : offI aM1 0 4 = 1 := by decide +kernel
theorem a_offHead : offHead aM1 0 4 0 = 0 := by decide +kernel
theorem a_follow : (followF aM1 0 4 4 0 []).map (fun l => l.map fun x => (x.a, x.n, x.wr)) = some [(256, 16, false), (512, 64, true)] := by decide +kernel
theorem a_usedI : usedI aM2 0 4 = 1 := by decide +kernel
theorem a_usedNum : usedNum aM2 0 4 0 = 0 := by decide +kernel
theorem a_usedLen : usedLen aM2 0 4 0 = 64 := by decide +kernel

/-- A slice of buffers that has just been made. -/
theorem bufs_new (w : World) (l : List Bf) (t : TypeId) (cap : Nat) (hl : l.length ≤ 1000) : IsBufs (w.alloc (.cells (l.flatMap bfCells).toArray t)) (.slice (some ⟨w.heap.size, 0, none⟩) l.length cap) l := by
  refine ⟨_, cap, rfl, hl, fun _ => ⟨w.heap.size, 0, rfl, fun i hi => ?_⟩⟩
  have hb := heap_alloc_new w (.cells (l.flatMap bfCells).toArray t)
  have hc : ∀ j, j < 3 → (w.alloc (.cells (l.flatMap bfCells).toArray t)).cell? ⟨w.heap.size, 0 + (i * 3 + j), none⟩ = (bfCells l[i])[j]? := fun j hj => by
    rw [cell_of_block hb, Nat.zero_add, List.getElem?_toArray, bf_cell l i hi j hj]
  exact ⟨hc 0 (by omega), hc 1 (by omega), hc 2 (by omega)⟩

/-- A queue and a port of the sizes that may be, just made over one memory. -/
theorem both_made {w : World} {q p g h : Nat} {l : List UInt8} {base : Int} {n mb : Nat} (m : Mem w g h (wipeL l base n)) (hl : l.length ≤ 65536) (hq : QAt w q g base n (some mb) 0 0 false) (hb : IsTab w mb []) (hp : PAt w p g base n 0 0) (b0 : 0 ≤ base) (b1 : base + bytesOf n ≤ l.length) (hs : isSize n) :
    Both w q p g h (wipeL l base n) base n mb [] 0 0 false 0 0 :=
  ⟨⟨m, by rw [wipeL_length]; exact hl, hq, hb, (fun x hx => by cases hx), (fun x hx => by cases hx), (fun x hx => by cases hx), b0, by rw [wipeL_length]; exact b1, hs, by omega, by omega, by omega, by omega⟩,
   ⟨m, by rw [wipeL_length]; exact hl, hp, b0, by rw [wipeL_length]; exact b1, hs, by omega, by omega, by omega, by omega⟩⟩

theorem a_bar (l : List UInt8) (hl : l.length = 4096) : barOf l.length 0 4 = 0 := by rw [hl]; decide +kernel

theorem aL_of {l : List Bf} (h : l.map (fun x => (x.a, x.n, x.wr)) = [(256, 16, false), (512, 64, true)]) : l = aL := by
  match l with
  | [] => simp at h
  | [x] => simp at h
  | [⟨a, b, c⟩, ⟨d, e, f⟩] => simp at h; obtain ⟨⟨rfl, rfl, rfl⟩, rfl, rfl, rfl⟩ := h; rfl
  | x :: y :: z :: t => simp at h

set_option maxRecDepth 100000 in
set_option maxHeartbeats 1600000 in
theorem vawake_any (w : World) :
    Calls Try.prog 10 #[] w fun e w' => e = .returned (.bool true) ∧ Below w.heap.size w w' := by
  go_enter Try.func10, Try.ntmps10
  go_wp2_with fail
  refine (New_ok w 4096 (by omega) (by omega)).mono ?_
  rintro e w1 ⟨rfl, m1, k1⟩
  have z0 : (List.replicate (4096 : Int).toNat (0 : UInt8)).length = 4096 := by rw [List.length_replicate]; rfl
  go_wp2_with fail
  refine (vNew_ok w1 _ _ _ m1 0 4 (by rw [z0]; omega) (by rw [z0]; omega) (by omega) (by omega) (a_bar _ z0)).mono ?_
  rintro e w2 ⟨q, mb, rfl, hq, hmb, q2, b2, m2, t2⟩
  change Mem w2 _ _ aM at m2
  go_wp2_with fail
  refine (Open_ok w2 _ _ _ m2 0 4 (by rw [a_len]; omega) (by rw [a_len]; omega) (by omega) (by omega) (a_bar _ a_len)).mono ?_
  rintro e w3 ⟨p, rfl, hp, p3, k3⟩
  have s3 : Both w3 q p (w.heap.size + 1) w.heap.size aM 0 4 mb [] 0 0 false 0 0 :=
    both_made (m2.same k3) (by rw [z0]; omega) (q2.kept (k3.block _ (lt_of_block q2) (by simp))) (b2.kept (k3.block _ b2.lt (by simp))) p3 (by omega) (by rw [z0]; decide +kernel) (by decide +kernel)
  have bel3 : Below w.heap.size w w3 := ((Below.of_none k1).trans (t2.below k1.size (by rintro k rfl; omega))).trans ((Below.of_none k3).mono (by have := k1.size; have := t2.size; omega))
  have hz : w.heap.size ≤ w1.heap.size ∧ w1.heap.size ≤ w2.heap.size := ⟨k1.size, t2.size⟩
  have since : Since w.heap.size q p w.heap.size mb := ⟨by omega, by omega, by omega, by omega⟩
  clear m1 k1 q2 b2 m2 t2 p3 k3 hz hq hmb hp
  go_wp2_with fail
  have k4 := World.grownBy_alloc w3 (.cells #[.int .i64 256, .int .i64 16, .bool false, .int .i64 512, .int .i64 64, .bool true] 66) none
  have hv4 : IsBufs (w3.alloc (.cells #[.int .i64 256, .int .i64 16, .bool false, .int .i64 512, .int .i64 64, .bool true] 66)) (.slice (some ⟨w3.heap.size, 0, none⟩) 2 2) aL := bufs_new w3 aL 66 2 (by decide)
  have s4 := s3.grown k4
  have bel4 := bel3.alloc bel3.size (.cells #[.int .i64 256, .int .i64 16, .bool false, .int .i64 512, .int .i64 64, .bool true] 66)
  have AC := Lib.hid (Add_ok _ q _ _ aM 0 4 mb [] 0 0 s4.qs _ aL hv4 (by intro x hx; simp [aL] at hx; rcases hx with rfl | rfl <;> decide) (by show refuseE aM aL (freeL [] 4).length = 0; rw [a_free]; exact a_refuse))
  clear hv4 k4
  refine AC.out.mono ?_
  rintro e w5 ⟨x, rfl, hx, q5, t5⟩
  have hch : newCh [] 4 aL = ⟨0, [0, 1], 64⟩ := by unfold newCh; rw [show List.map Oc.c [] = [] from rfl, a_free]; rfl
  rw [hch] at hx
  obtain ⟨xc, xb, xk⟩ := x
  simp only at hx
  subst hx
  have s5 : Both w5 q p (w.heap.size + 1) w.heap.size aM1 0 4 mb [⟨⟨0, [0, 1], 64⟩, xb, xk⟩] 1 0 false 0 0 := s4.driver q5 t5 (by unfold aM1; rw [addL_length])
  have bel5 := since.qb bel4 t5 bel4.size
  clear AC q5 t5 s4 s3 bel3 bel4 hch
  go_wp2_with fail
  refine (vNext_any w5 p _ _ aM1 0 4 0 0 s5.ps).mono ?_
  intro e w6 hN
  rcases hN with ⟨h1, _⟩ | ⟨_, h1, _⟩ | ⟨l, v, _, _, h1, rfl, hv, p6, k6⟩
  · rw [a_offI] at h1; exact absurd h1 (by decide)
  · rw [a_offI, a_offHead] at h1
    rcases h1 with h1 | h1
    · exact absurd h1 (by decide)
    · have := a_follow; rw [h1] at this; cases this
  rw [a_offHead] at h1 ⊢
  have hl : l = aL := aL_of (by have := a_follow; rw [h1] at this; simpa using this)
  subst hl
  obtain ⟨vp, vc, rfl, _⟩ := hv
  have s6 := s5.device p6 (Turned.of k6 (fun j e => .inr (by injection e with e; exact e.symm))) rfl
  have bel6 := since.pb bel5 (Turned.of (S := fun k => k = w.heap.size ∨ k = p) k6 (fun j e => .inr (by injection e with e; exact e.symm))) bel5.size
  clear h1 p6 k6 s5 bel5
  go_wp2_with fail
  refine (vDone_any w6 p _ _ aM1 0 4 _ 0 s6.ps 0 64 (by omega) (by omega) (by omega) (by omega)).mono ?_
  rintro e w7 ⟨rfl, p7, t7⟩
  have s7 : Both w7 q p (w.heap.size + 1) w.heap.size aM2 0 4 mb [⟨⟨0, [0, 1], 64⟩, xb, xk⟩] 1 0 false 1 1 := s6.device p7 t7 (by unfold aM2; rw [vdoneL_length])
  have bel7 := since.pb bel6 t7 bel6.size
  clear p7 t7 s6 bel6
  go_wp2_with fail
  refine (Pop_any w7 q _ _ aM2 0 4 mb _ 1 0 s7.qs).mono ?_
  intro e w8 hP
  rcases hP with ⟨h1, _⟩ | ⟨_, h1, _⟩ | ⟨y, hy, _, _, _, _, rfl, q8, t8⟩
  · rw [a_usedI] at h1; exact absurd h1 (by decide)
  · rw [a_usedI, a_usedNum, a_usedLen] at h1
    rcases h1 with h1 | h1 | ⟨y, hy, _, h1⟩
    · exact absurd h1 (show ¬ ((1 : Int) < (1 - 0) % 65536) by decide)
    · exact absurd rfl (h1 _ (List.mem_singleton.2 rfl))
    · rw [List.mem_singleton] at hy; subst hy; exact absurd h1 (show ¬ ((64 : Int) < 64) by decide)
  rw [a_usedNum] at q8 ⊢
  rw [a_usedLen]
  have bel8 := since.qb bel7 t8 bel7.size
  have FC := Lib.hid (vFree_any w8 q _ 0 4 mb _ _ _ q8.at_ _ q8.tab q8.nums (by omega))
  have hfr : (freeL (([⟨⟨0, [0, 1], 64⟩, xb, xk⟩] : List Oc).filter (fun y => y.c.head != 0) |>.map Oc.c) 4).length = 4 := by
    rw [show ([⟨⟨0, [0, 1], 64⟩, xb, xk⟩] : List Oc).filter (fun y => y.c.head != 0) = [] from rfl, List.map_nil, a_free]; rfl
  rw [hfr] at FC
  clear hy q8 t8 s7 bel7 hfr
  go_wp2_with fail
  refine FC.out.mono ?_
  rintro e w9 ⟨rfl, k9⟩
  go_wp2_with fail
  go_ret
  exact ⟨rfl, bel8.grown k9 bel8.size (fun j e => by cases e)⟩

end Go.Proofs.Ytjelgifijhcnnaa
