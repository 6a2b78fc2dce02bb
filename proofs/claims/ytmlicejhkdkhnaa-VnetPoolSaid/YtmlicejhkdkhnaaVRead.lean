/-
  A chain that Add has put into the memory is what Next reads of it. Conditions: the chain's numbers are different ones of the queue's, its buffers lie in the memory and are in order.
-/
import Derived.Test.YtmlicejhkdkhnaaVFacts
namespace Go.Proofs.Ytmlicejhkdkhnaa
open Go.RowKit Go.Sort

theorem descs_other (base : Int) (j : Int) : ∀ (ks : List Int) (l : List Bf) (lm : List UInt8), j ∉ ks → Dsc (descs base ks l lm) base j = Dsc lm base j
  | [], _, _, _ => by unfold descs; rfl
  | _ :: _, [], _, _ => by unfold descs; rfl
  | k :: ks, b :: bs, lm, h => by
    unfold descs
    rw [descs_other base j ks bs _ (fun e => h (List.mem_cons_of_mem _ e)), dsc_other _ _ _ _ _ _ _ _ (fun e => h (by rw [e]; exact List.mem_cons_self))]

/-- A buffer lies in so many bytes. -/
def InLen (len : Nat) (b : Bf) : Prop := 0 ≤ b.a ∧ 1 ≤ b.n ∧ b.a + b.n ≤ len

theorem dX_of {M : List UInt8} {base k : Int} {b : Bf} {more : Bool} {nx : Nat} (hb : InLen M.length b) (hd : Dsc M base k = (b.a.toNat, b.n.toNat, (flagsOf b.wr more).toNat, nx)) :
    dX M base k = ((b.a, b.n, b.wr), true) ∧ ((getX M (base + 16 * k + 12) 2 : Int) % 2 = if more then 1 else 0) ∧ (getX M (base + 16 * k + 14) 2 : Int) = nx := by
  obtain ⟨h0, h1, h2⟩ := hb
  unfold Dsc at hd
  injection hd with d1 hd
  injection hd with d2 hd
  injection hd with d3 d4
  unfold dX dbuf
  rw [d1, d2, d3, d4, if_neg (by omega), Int.toNat_of_nonneg h0, Int.toNat_of_nonneg (by omega)]
  refine ⟨?_, ?_, rfl⟩
  · cases b.wr <;> cases more <;> rfl
  · cases b.wr <;> cases more <;> rfl

theorem follow_descs (base : Int) (n : Nat) (b0 : 0 ≤ base) (M : List UInt8) (hM : M.length ≤ 65536) (hn : base + 16 * n ≤ M.length) (hn64 : n ≤ 64) : ∀ (l : List Bf) (ks : List Int) (lm : List UInt8) (acc : List Bf) (f : Nat),
    ks.length = l.length → l ≠ [] → ks.Nodup → (∀ k ∈ ks, 0 ≤ k ∧ k < n) → (∀ b ∈ l, InLen M.length b) → l.length ≤ f → inOrd (acc ++ l) = true → lm.length = M.length →
    (∀ k ∈ ks, Dsc M base k = Dsc (descs base ks l lm) base k) → followF M base n f (ks.headD 0) acc = some (acc ++ l)
  | [], _, _, _, _, _, h, _, _, _, _, _, _, _ => absurd rfl h
  | b :: bs, [], _, _, _, h, _, _, _, _, _, _, _, _ => by simp at h
  | b :: bs, k :: ks, lm, acc, 0, _, _, _, _, _, h, _, _, _ => by simp at h
  | b :: bs, k :: ks, lm, acc, f + 1, hl, _, hnd, hk, hb, hf, ho, hlm, hD => by
    obtain ⟨hnk, hnd'⟩ := List.nodup_cons.1 hnd
    obtain ⟨k0, k1⟩ := hk k List.mem_cons_self
    have hbb := hb b List.mem_cons_self
    obtain ⟨i0, i1, i2⟩ := hbb
    have hD0 := hD k List.mem_cons_self
    unfold descs at hD0
    rw [descs_other base k ks bs _ hnk] at hD0
    have hfl : 0 ≤ flagsOf b.wr (!bs.isEmpty) ∧ flagsOf b.wr (!bs.isEmpty) ≤ 3 := by unfold flagsOf; cases b.wr <;> cases (!bs.isEmpty) <;> decide
    match bs, ks, hl, hnd', hk, hb, hf, ho, hD, hD0, hfl with
    | [], ks, hl, hnd', hk, hb, hf, ho, hD, hD0, hfl =>
      obtain ⟨d1, d2, d3, d4⟩ := dsc_same lm base k b.a b.n (flagsOf b.wr false) 0 (by omega) (by omega) i0 (by omega) (by omega) (by omega) hfl.1 (by have := hfl.2; simp at this; omega) (by omega) (by omega)
      have hd : Dsc M base k = (b.a.toNat, b.n.toNat, (flagsOf b.wr false).toNat, 0) := by
        rw [hD0]
        show Dsc (descL lm (base + 16 * k) b.a b.n (flagsOf b.wr false) 0) base k = _
        unfold Dsc
        rw [show getX (descL lm (base + 16 * k) b.a b.n (flagsOf b.wr false) 0) (base + 16 * k) 8 = b.a.toNat by omega, show getX (descL lm (base + 16 * k) b.a b.n (flagsOf b.wr false) 0) (base + 16 * k + 8) 4 = b.n.toNat by omega,
          show getX (descL lm (base + 16 * k) b.a b.n (flagsOf b.wr false) 0) (base + 16 * k + 12) 2 = (flagsOf b.wr false).toNat by omega, show getX (descL lm (base + 16 * k) b.a b.n (flagsOf b.wr false) 0) (base + 16 * k + 14) 2 = 0 by omega]
      obtain ⟨e1, e2, e3⟩ := dX_of ⟨i0, i1, i2⟩ hd
      show followF M base n (f + 1) k acc = _
      rw [followF_succ, if_pos k1, e1, if_pos rfl, if_pos (by rw [e2]; rfl)]
      exact if_pos ho
    | c :: cs, [], hl, _, _, _, _, _, _, _, _ => simp at hl
    | c :: cs, k2 :: ks, hl, hnd', hk, hb, hf, ho, hD, hD0, hfl =>
      obtain ⟨r0, r1⟩ := hk k2 (List.mem_cons_of_mem _ List.mem_cons_self)
      obtain ⟨d1, d2, d3, d4⟩ := dsc_same lm base k b.a b.n (flagsOf b.wr true) k2 (by omega) (by omega) i0 (by omega) (by omega) (by omega) hfl.1 (by have := hfl.2; simp at this; omega) r0 (by omega)
      have hd : Dsc M base k = (b.a.toNat, b.n.toNat, (flagsOf b.wr true).toNat, k2.toNat) := by
        rw [hD0]
        show Dsc (descL lm (base + 16 * k) b.a b.n (flagsOf b.wr true) k2) base k = _
        unfold Dsc
        rw [show getX (descL lm (base + 16 * k) b.a b.n (flagsOf b.wr true) k2) (base + 16 * k) 8 = b.a.toNat by omega, show getX (descL lm (base + 16 * k) b.a b.n (flagsOf b.wr true) k2) (base + 16 * k + 8) 4 = b.n.toNat by omega,
          show getX (descL lm (base + 16 * k) b.a b.n (flagsOf b.wr true) k2) (base + 16 * k + 12) 2 = (flagsOf b.wr true).toNat by omega, show getX (descL lm (base + 16 * k) b.a b.n (flagsOf b.wr true) k2) (base + 16 * k + 14) 2 = k2.toNat by omega]
      obtain ⟨e1, e2, e3⟩ := dX_of ⟨i0, i1, i2⟩ hd
      have IH := follow_descs base n b0 M hM hn hn64 (c :: cs) (k2 :: ks) (descL lm (base + 16 * k) b.a b.n (flagsOf b.wr true) k2) (acc ++ [b]) f (by simpa using hl) (by simp) hnd' (fun y hy => hk y (List.mem_cons_of_mem _ hy)) (fun y hy => hb y (List.mem_cons_of_mem _ hy))
        (by simpa using hf) (by rw [List.append_assoc]; exact ho) (by rw [descL_length]; exact hlm) (fun y hy => hD y (List.mem_cons_of_mem _ hy))
      show followF M base n (f + 1) k acc = _
      rw [followF_succ, if_pos k1, e1, if_pos rfl, if_neg (by rw [e2]; decide), e3, Int.toNat_of_nonneg r0]
      show followF M base n f k2 (acc ++ [b]) = _
      have IH' : followF M base n f k2 (acc ++ [b]) = some (acc ++ [b] ++ (c :: cs)) := IH
      rw [IH', List.append_assoc]
      rfl

section
variable (lm : List UInt8) (base : Int) (n : Nat) (b0 : 0 ≤ base) (n1 : 1 ≤ n) (n2 : n ≤ 64) (hl : base + usedAt n + 4 + 8 * n ≤ lm.length) (hM : lm.length ≤ 65536) (off : Int) (ks : List Int) (l : List Bf)
  (hkl : ks.length = l.length) (hl0 : l ≠ []) (hnd : ks.Nodup) (hk : ∀ k ∈ ks, 0 ≤ k ∧ k < n) (hb : ∀ b ∈ l, InLen lm.length b) (ho : inOrd l = true)
include b0 n1 n2 hl hM hk

omit hM b0 hl hk in
theorem addL_dsc (j : Int) (hj : j < n) : Dsc (addL lm base n off ks l) base j = Dsc (descs base ks l lm) base j := by
  have r0 : 0 ≤ off % (n : Int) := Int.emod_nonneg _ (by omega)
  unfold addL
  rw [dsc_put _ _ _ _ _ _ (by omega), dsc_put _ _ _ _ _ _ (by omega)]

include hkl hl0 hnd hb ho in
/-- Next reads what Add wrote. -/
theorem follow_add : followF (addL lm base n off ks l) base n n (ks.headD 0) [] = some l := by
  have hu := used_ge n
  have hlen : l.length ≤ n := by
    rw [← hkl]
    have h1 : (ks.map Int.toNat).Nodup := by
      rw [List.nodup_iff_pairwise_ne] at hnd ⊢
      rw [List.pairwise_map]
      refine hnd.imp_of_mem ?_
      intro a b ha hb' hab e
      have := hk a ha
      have := hk b hb'
      omega
    have h2 : (ks.map Int.toNat) ⊆ List.range n := by
      intro y hy
      obtain ⟨k, hk', rfl⟩ := List.mem_map.1 hy
      have := hk k hk'
      exact List.mem_range.2 (by omega)
    have h3 := h1.length_le_of_subset h2
    simpa using h3
  have h := follow_descs base n b0 (addL lm base n off ks l) (by rw [addL_length]; exact hM) (by rw [addL_length]; omega) n2 l ks lm [] n hkl hl0 hnd hk (by rw [addL_length]; exact hb) hlen (by simpa using ho) (by rw [addL_length])
    (fun k h' => addL_dsc lm base n n1 n2 off ks l k (hk k h').2)
  simpa using h

omit b0 n1 n2 hl hM in
/-- The descriptors lie ahead of what is offered. -/
theorem descs_far (a m : Int) (ha : base + 16 * n ≤ a) : getX (descs base ks l lm) a m = getX lm a m := by
  revert lm l
  induction ks with
  | nil => intro lm l; unfold descs; rfl
  | cons k ks ih =>
    intro lm l
    cases l with
    | nil => unfold descs; rfl
    | cons b bs =>
      have hk0 := hk k List.mem_cons_self
      unfold descs
      rw [ih (fun y hy => hk y (List.mem_cons_of_mem _ hy))]
      unfold descL
      rw [put_apart _ _ _ _ _ _ (by omega), put_apart _ _ _ _ _ _ (by omega), put_apart _ _ _ _ _ _ (by omega), put_apart _ _ _ _ _ _ (by omega)]
end

end Go.Proofs.Ytmlicejhkdkhnaa
