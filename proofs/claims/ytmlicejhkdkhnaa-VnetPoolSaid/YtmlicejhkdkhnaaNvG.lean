/-
  Layer 4: A DRIVER AND A DEVICE'S SIDE THAT KEEPS TO THE RULES, OVER ONE MEMORY, BEHIND A WORLD THAT STAYS (BI): a contract a call. Conditions: as said.
-/
import Derived.Test.YtmlicejhkdkhnaaNvF
namespace Go.Proofs.Ytmlicejhkdkhnaa
open Go.RowKit Go.Conc Go.Sort
set_option linter.unusedVariables false

theorem ua8 : usedAt ((8 : Nat) : Int) = 148 := by decide
theorem Same.offI {M M' : List UInt8} {base : Int} (s : Same M M' (base + 130) (base + 132)) : offI M' base 8 = offI M base 8 := by
  unfold Go.Proofs.Ytmlicejhkdkhnaa.offI
  rw [(s.sub (a' := base + 16 * ((8 : Nat) : Int) + 2) (b' := base + 16 * ((8 : Nat) : Int) + 2 + 2) (by omega) (by omega)).getX]
theorem Same.usedI {M M' : List UInt8} {base : Int} (s : Same M M' (base + 150) (base + 152)) : usedI M' base 8 = usedI M base 8 := by
  have e := ua8
  unfold Go.Proofs.Ytmlicejhkdkhnaa.usedI
  rw [(s.sub (a' := base + usedAt ((8 : Nat) : Int) + 2) (b' := base + usedAt ((8 : Nat) : Int) + 2 + 2) (by omega) (by omega)).getX]
theorem Same.used {M M' : List UInt8} {base t : Int} (s : Same M M' (base + 152 + 8 * (t % 8)) (base + 152 + 8 * (t % 8) + 8)) : usedNum M' base 8 t = usedNum M base 8 t ∧ usedLen M' base 8 t = usedLen M base 8 t := by
  have e : usedAt (8 : Int) = 148 := by decide
  have e8 : ((8 : Nat) : Int) = 8 := rfl
  unfold usedNum usedLen
  rw [e8] at *
  rw [(s.sub (a' := base + usedAt (8 : Int) + 4 + 8 * (t % 8)) (b' := base + usedAt (8 : Int) + 4 + 8 * (t % 8) + 4) (by omega) (by omega)).getX, (s.sub (a' := base + usedAt (8 : Int) + 4 + 8 * (t % 8) + 4) (b' := base + usedAt (8 : Int) + 4 + 8 * (t % 8) + 4 + 4) (by omega) (by omega)).getX]
  exact ⟨rfl, rfl⟩

/-- What goes: D was told and is not yet free again, W was sent and is not yet told. -/
structure GoI (v : Nv) (x : Dv) (D : List Int) (W : List (Int × List UInt8)) : Prop where
  hg : v.hg = D ++ W.map Prod.fst
  t0 : 0 ≤ x.tg ∧ x.tg < 65536
  g0 : 0 ≤ v.gb ∧ v.gb < 65536
  go : v.go = (x.tg + W.length) % 65536
  oi : offI v.lm (v.base + 224) 8 = v.go
  head : ∀ (p : Nat) (y : Int × List UInt8), W[p]? = some y → offHead v.lm (v.base + 224) 8 ((x.tg + p) % 65536) = y.1
  one : ∀ y ∈ W, OneAt v.lm (v.base + 224) y.1 ⟨bufA v.base (8 + v.outs.getD y.1.toNat 0), 12 + y.2.length, false⟩
  text : ∀ y ∈ W, textS v.lm (bufA v.base (8 + v.outs.getD y.1.toNat 0) + 12) y.2.length = y.2 ∧ 14 ≤ y.2.length ∧ y.2.length ≤ 600
  og : x.og = (v.gb + D.length) % 65536
  ui : usedI v.lm (v.base + 224) 8 = x.og
  used : ∀ (p : Nat) (y : Int), D[p]? = some y → usedNum v.lm (v.base + 224) 8 ((v.gb + p) % 65536) = y ∧ usedLen v.lm (v.base + 224) 8 ((v.gb + p) % 65536) = 0
  nd : (v.free ++ v.hg.map (fun j => v.outs.getD j.toNat 0)).Nodup
/-- What regain leaves. -/
structure KeepG (v v' : Nv) : Prop where
  lm : v'.lm = v.lm
  base : v'.base = v.base
  hc : v'.hc = v.hc
  co : v'.co = v.co
  cb : v'.cb = v.cb
  go : v'.go = v.go
  outs : v'.outs = v.outs
  drops : v'.drops = v.drops
  resets : v'.resets = v.resets
theorem KeepG.refl (v : Nv) : KeepG v v := ⟨rfl, rfl, rfl, rfl, rfl, rfl, rfl, rfl, rfl⟩
theorem GoI.len {v : Nv} {x : Dv} {D : List Int} {W : List (Int × List UInt8)} (h : GoI v x D W) (o : NvOk v) : v.free.length + D.length + W.length = 8 := by
  have := o.fl
  rw [h.hg, List.length_append, List.length_map] at this
  omega
theorem GoI.mem {v : Nv} {x : Dv} {D : List Int} {W : List (Int × List UInt8)} (h : GoI v x D W) {y : Int × List UInt8} (hy : y ∈ W) : y.1 ∈ v.hg := by
  rw [h.hg]
  exact List.mem_append.2 (.inr (List.mem_map.2 ⟨y, hy, rfl⟩))
theorem NvOk.outR {v : Nv} (o : NvOk v) : ∀ j : Int, 0 ≤ v.outs.getD j.toNat 0 ∧ v.outs.getD j.toNat 0 < 8 := fun j => by
  rw [List.getD_eq_getElem?_getD]
  cases hj : v.outs[j.toNat]? with
  | none => simp
  | some y => exact o.ou y (List.mem_of_getElem? hj)
theorem filter_head {d : Int} {l : List Int} (nd : (d :: l).Nodup) : (d :: l).filter (fun y => y != d) = l := by
  obtain ⟨na, _⟩ := List.nodup_cons.1 nd
  rw [List.filter_cons_of_neg (by simp)]
  exact List.filter_eq_self.2 fun z hz => by
    have : z ≠ d := fun e => na (by rw [← e]; exact hz)
    simpa using this
theorem GoI.reg {x : Dv} {W : List (Int × List UInt8)} : ∀ (D : List Int) (f : Nat) (v : Nv), GoI v x D W → NvOk v → D.length < f → GoI (regF f v) x [] W ∧ NvOk (regF f v) ∧ KeepG v (regF f v)
  | [], f, v, h, o, hf => by
    obtain ⟨f, rfl⟩ : ∃ g, f = g + 1 := ⟨f - 1, by simp only [List.length_nil] at hf; omega⟩
    have e : usedI v.lm (v.base + 224) 8 = v.gb := by rw [h.ui, h.og]; have := h.g0; simp only [List.length_nil]; omega
    have : regF (f + 1) v = v := by rw [regF, if_pos e]
    rw [this]
    exact ⟨h, o, KeepG.refl v⟩
  | d :: D, f, v, h, o, hf => by
    obtain ⟨f, rfl⟩ : ∃ g, f = g + 1 := ⟨f - 1, by simp only [List.length_cons] at hf; omega⟩
    have hl := h.len o
    have g0 := h.g0
    rw [List.length_cons] at hl hf
    have hog := h.og
    rw [List.length_cons] at hog
    have e : ¬ usedI v.lm (v.base + 224) 8 = v.gb := by rw [h.ui, hog]; omega
    obtain ⟨u1, u2⟩ := h.used 0 d rfl
    have eg : (v.gb + ((0 : Nat) : Int)) % 65536 = v.gb := by omega
    rw [eg] at u1 u2
    have hgl : v.hg.length = D.length + 1 + W.length := by rw [h.hg, List.length_append, List.length_cons, List.length_map]
    have np : ¬ popBad v.lm (v.base + 224) 0 v.hg v.gb := by
      unfold popBad
      rw [u1, u2, h.ui, hog]
      rintro (h1 | h1 | h1)
      · omega
      · exact h1 (by rw [h.hg]; exact List.mem_append.2 (.inl List.mem_cons_self))
      · omega
    have hnd := o.nd
    have hb : (backG v).hg = D ++ W.map Prod.fst := by
      show v.hg.filter _ = _
      rw [u1]
      rw [h.hg] at hnd ⊢
      exact filter_head hnd
    have hfr : (backG v).free = v.free ++ [v.outs.getD d.toNat 0] := by show v.free ++ _ = _; rw [u1]
    have G : GoI (backG v) x D W := by
      refine ⟨hb, h.t0, by show 0 ≤ (v.gb + 1) % 65536 ∧ (v.gb + 1) % 65536 < 65536; omega, h.go, h.oi, h.head, h.one, h.text, ?_, h.ui, fun p y hy => ?_, ?_⟩
      · show x.og = ((v.gb + 1) % 65536 + D.length) % 65536
        rw [hog]; omega
      · have := h.used (p + 1) y hy
        show usedNum v.lm (v.base + 224) 8 (((v.gb + 1) % 65536 + p) % 65536) = y ∧ usedLen v.lm (v.base + 224) 8 (((v.gb + 1) % 65536 + p) % 65536) = 0
        rw [show ((v.gb + 1) % 65536 + p) % 65536 = (v.gb + ((p + 1 : Nat) : Int)) % 65536 by omega]
        exact this
      · rw [hfr, hb]
        have := h.nd
        rw [h.hg, List.cons_append, List.map_cons] at this
        show (v.free ++ [v.outs.getD d.toNat 0] ++ (D ++ W.map Prod.fst).map (fun j => v.outs.getD j.toNat 0)).Nodup
        rw [List.append_assoc]
        exact this
    obtain ⟨r1, r2, r3⟩ := GoI.reg D f (backG v) G (o.back np).1 (by omega)
    have e3 : regF (f + 1) v = regF f (backG v) := by rw [regF, if_neg e, if_neg np]
    rw [e3]
    exact ⟨r1, r2, ⟨r3.lm, r3.base, r3.hc, r3.co, r3.cb, r3.go, r3.outs, r3.drops, r3.resets⟩⟩

/-- What goes stays where neither its queue nor its buffers are turned. -/
theorem GoI.keep {v v' : Nv} {x x' : Dv} {D : List Int} {W : List (Int × List UInt8)} (h : GoI v x D W) (o : NvOk v) (eb : v'.base = v.base) (eh : v'.hg = v.hg) (eo : v'.go = v.go) (eg : v'.gb = v.gb) (ef : v'.free = v.free) (eu : v'.outs = v.outs) (et : x'.tg = x.tg) (eog : x'.og = x.og)
    (s1 : Same v.lm v'.lm (v.base + 224) (v.base + 440)) (s2 : Same v.lm v'.lm (v.base + 5376) (v.base + 10304)) : GoI v' x' D W := by
  have hr := o.outR
  refine ⟨by rw [eh]; exact h.hg, by rw [et]; exact h.t0, by rw [eg]; exact h.g0, by rw [eo, et]; exact h.go, ?_, fun p y hy => ?_, fun y hy => ?_, fun y hy => ?_, by rw [eog, eg]; exact h.og, ?_, fun p y hy => ?_, by rw [ef, eh, eu]; exact h.nd⟩
  · rw [eb, eo, (s1.sub (by omega) (by omega)).offI]; exact h.oi
  · rw [eb, et, (s1.sub (by omega) (by omega)).head]; exact h.head p y hy
  · rw [eb, eu]
    obtain ⟨k0, k1⟩ := o.hg y.1 (h.mem hy)
    exact (h.one y hy).same (s1.sub (by omega) (by omega))
  · rw [eb, eu]
    have := hr y.1
    obtain ⟨t1, t2, t3⟩ := h.text y hy
    refine ⟨?_, t2, t3⟩
    rw [(s2.sub (a' := bufA v.base (8 + v.outs.getD y.1.toNat 0) + 12) (b' := bufA v.base (8 + v.outs.getD y.1.toNat 0) + 12 + y.2.length) (by unfold bufA; omega) (by unfold bufA; omega)).textS]
    exact t1
  · rw [eb, eog, (s1.sub (by omega) (by omega)).usedI]; exact h.ui
  · rw [eb, eg]
    obtain ⟨a1, a2⟩ := (s1.sub (a' := v.base + 224 + 152 + 8 * ((v.gb + p) % 65536 % 8)) (b' := v.base + 224 + 152 + 8 * ((v.gb + p) % 65536 % 8) + 8) (by omega) (by omega)).used
    rw [a1, a2]
    exact h.used p y hy
end Go.Proofs.Ytmlicejhkdkhnaa

namespace Go.Proofs.Ytmlicejhkdkhnaa
open Go.RowKit Go.Conc Go.Sort
set_option linter.unusedVariables false

/-- The memory is large enough. -/
structure Fit (M : List UInt8) (base : Int) : Prop where
  b0 : 0 ≤ base
  b1 : base + 10304 ≤ M.length
  b2 : M.length ≤ 65536
theorem textOf_len (s : List UInt8) : (textOf s).length = 12 + s.length := by unfold textOf; rw [List.length_append, List.length_replicate]
/-- One more frame goes. -/
theorem GoI.sendB {u : Nv} {x : Dv} {W : List (Int × List UInt8)} (h : GoI u x [] W) (o : NvOk u) (F : Fit u.lm u.base) {i : Int} {fs : List Int} (hf : u.free = i :: fs) {j : Int} {js : List Int} (hj : freeH u.hg = j :: js) (s : List UInt8) (h1 : 14 ≤ s.length) (h2 : s.length ≤ 600) :
    GoI (Go.Proofs.Ytmlicejhkdkhnaa.sendB u i fs j s) x [] (W ++ [(j, s)]) ∧ (∀ a b : Int, (b ≤ u.base + 224 ∨ (u.base + 448 ≤ a ∧ b ≤ u.base + 5376)) → Same u.lm (Go.Proofs.Ytmlicejhkdkhnaa.sendB u i fs j s).lm a b) := by
  obtain ⟨b0, b1, b2⟩ := F
  have hlen := h.len o
  rw [hf] at hlen
  simp only [List.length_cons, List.length_nil] at hlen
  have hjm : j ∈ freeH u.hg := by rw [hj]; exact List.mem_cons_self
  obtain ⟨j0, j1, j2⟩ := freeH_range hjm
  obtain ⟨i0, i1⟩ := o.fr i (by rw [hf]; exact List.mem_cons_self)
  have hnd := h.nd
  rw [hf, List.cons_append, List.nodup_cons] at hnd
  have hou : ∀ y ∈ u.hg, (u.outs.set j.toNat i).getD y.toNat 0 = u.outs.getD y.toNat 0 := fun y hy => by
    have hr := o.hg y hy
    have hne : j.toNat ≠ y.toNat := fun e => j2 (by rw [show j = y by omega]; exact hy)
    rw [List.getD_eq_getElem?_getD, List.getD_eq_getElem?_getD, List.getElem?_set_ne hne]
  have hoj : (u.outs.set j.toNat i).getD j.toNat 0 = i := by
    rw [List.getD_eq_getElem?_getD, List.getElem?_set_self (by rw [o.ol]; omega)]
    rfl
  have hap : ∀ y ∈ u.hg, u.outs.getD y.toNat 0 ≠ i := fun y hy e => hnd.1 (List.mem_append.2 (.inr (List.mem_map.2 ⟨y, hy, e⟩)))
  have hlT := textOf_len s
  obtain ⟨A, hA⟩ : ∃ A, A = bufA u.base (8 + i) := ⟨_, rfl⟩
  have hAv : A = u.base + 448 + 616 * (8 + i) := hA
  obtain ⟨M1, hM1⟩ : ∃ M1, M1 = writeL u.lm A (textOf s) := ⟨_, rfl⟩
  have l1 : M1.length = u.lm.length := by rw [hM1, writeL_length]
  have s1 : ∀ a b : Int, (b ≤ A ∨ A + 12 + s.length ≤ a) → Same u.lm M1 a b := fun a b hab => by rw [hM1]; exact same_write _ _ _ _ _ (by omega)
  obtain ⟨M2, hM2⟩ : ∃ M2, M2 = addL M1 (u.base + 224) 8 u.go [j] [⟨A, 12 + s.length, false⟩] := ⟨_, rfl⟩
  have s2 : ∀ a b : Int, (b ≤ u.base + 224 + 16 * j ∨ u.base + 224 + 16 * j + 16 ≤ a) → (b ≤ u.base + 224 + 132 + 2 * (u.go % 8) ∨ u.base + 224 + 132 + 2 * (u.go % 8) + 2 ≤ a) → (b ≤ u.base + 224 + 130 ∨ u.base + 224 + 132 ≤ a) → Same M1 M2 a b := fun a b q1 q2 q3 => by rw [hM2]; exact same_add _ _ _ _ _ _ _ q1 q2 q3
  have em : (Go.Proofs.Ytmlicejhkdkhnaa.sendB u i fs j s).lm = M2 := by rw [hM2, hM1, hA]; rfl
  obtain ⟨a1, a2⟩ := add_head M1 (u.base + 224) u.go j ⟨A, 12 + s.length, false⟩ (by omega) (by omega) j0 j1
  rw [← hM2] at a1 a2
  have t0 := h.t0
  have hgo := h.go
  have sw : ∀ a b : Int, (b ≤ u.base + 224 ∨ (u.base + 448 ≤ a ∧ b ≤ u.base + 5376)) → Same u.lm M2 a b := fun a b hab => (s1 a b (by omega)).trans (s2 a b (by omega) (by omega) (by omega))
  have hgW : u.hg = W.map Prod.fst := by rw [h.hg]; rfl
  refine ⟨⟨?_, h.t0, h.g0, ?_, ?_, fun p y hy => ?_, fun y hy => ?_, fun y hy => ?_, h.og, ?_, fun p y hy => (by cases hy), ?_⟩, fun a b hab => by rw [em]; exact sw a b hab⟩
  · show u.hg ++ [j] = [] ++ (W ++ [(j, s)]).map Prod.fst
    rw [hgW, List.map_append]
    rfl
  · show (u.go + 1) % 65536 = (x.tg + (W ++ [(j, s)]).length) % 65536
    rw [List.length_append, List.length_singleton, hgo]
    omega
  · rw [em]
    exact a2
  · rw [em]
    show offHead M2 (u.base + 224) 8 ((x.tg + p) % 65536) = y.1
    by_cases hp : p < W.length
    · rw [List.getElem?_append_left hp] at hy
      rw [(s2 _ _ (by omega) (by omega) (by omega)).head, (s1 _ _ (by omega)).head]
      exact h.head p y hy
    · have hpl : p < (W ++ [(j, s)]).length := (List.getElem?_eq_some_iff.1 hy).1
      rw [List.length_append, List.length_singleton] at hpl
      obtain rfl : p = W.length := by omega
      rw [List.getElem?_append_right (Nat.le_refl _), Nat.sub_self] at hy
      injection hy with hy
      rw [← hgo, ← hy]
      exact a1
  · rw [em]
    show OneAt M2 (u.base + 224) y.1 ⟨bufA u.base (8 + (u.outs.set j.toNat i).getD y.1.toNat 0), 12 + y.2.length, false⟩
    rcases List.mem_append.1 hy with hy | hy
    · have hm := h.mem hy
      have hr := o.hg _ hm
      have hne : y.1 ≠ j := fun e => j2 (by rw [← e]; exact hm)
      rw [hou _ hm]
      exact ((h.one y hy).same (s1 _ _ (by omega))).same (s2 _ _ (by omega) (by omega) (by omega))
    · rw [List.mem_singleton.1 hy, hoj, ← hA, hM2]
      exact OneAt.made M1 (u.base + 224) u.go j _ (by omega) (by omega) (by omega) j0 j1 ⟨by show 0 ≤ A; omega, by show (1 : Int) ≤ 12 + s.length; omega, by show A + (12 + (s.length : Int)) ≤ M1.length; omega⟩
  · rw [em]
    show textS M2 (bufA u.base (8 + (u.outs.set j.toNat i).getD y.1.toNat 0) + 12) y.2.length = y.2 ∧ 14 ≤ y.2.length ∧ y.2.length ≤ 600
    rcases List.mem_append.1 hy with hy | hy
    · have hm := h.mem hy
      have hr := o.hg _ hm
      have hb := o.outR y.1
      have hne := hap _ hm
      obtain ⟨t1, t2, t3⟩ := h.text y hy
      rw [hou _ hm]
      refine ⟨?_, t2, t3⟩
      generalize u.outs.getD y.1.toNat 0 = b at hb hne t1 ⊢
      have hbv : bufA u.base (8 + b) = u.base + 448 + 616 * (8 + b) := rfl
      rw [(s2 (bufA u.base (8 + b) + 12) (bufA u.base (8 + b) + 12 + y.2.length) (by omega) (by omega) (by omega)).textS, (s1 (bufA u.base (8 + b) + 12) (bufA u.base (8 + b) + 12 + y.2.length) (by omega)).textS]
      exact t1
    · rw [List.mem_singleton.1 hy, hoj, ← hA]
      refine ⟨?_, h1, h2⟩
      rw [(s2 (A + 12) (A + 12 + s.length) (by omega) (by omega) (by omega)).textS, hM1]
      have tw := text_write u.lm A (textOf s) (by omega) (by omega) 12 (by omega)
      rw [hlT] at tw
      rw [show (s.length : Int) = ((12 + s.length : Nat) : Int) - ((12 : Nat) : Int) by omega]
      refine Eq.trans tw ?_
      unfold textOf
      rw [List.drop_append_of_le_length (by rw [List.length_replicate]; exact Nat.le_refl _)]
      simp
  · rw [em]
    show usedI M2 (u.base + 224) 8 = x.og
    rw [(s2 _ _ (by omega) (by omega) (by omega)).usedI, (s1 _ _ (by omega)).usedI]
    exact h.ui
  · show (fs ++ (u.hg ++ [j]).map (fun y => (u.outs.set j.toNat i).getD y.toNat 0)).Nodup
    rw [List.map_append, List.map_congr_left hou, List.map_singleton, hoj, ← List.append_assoc]
    exact (List.perm_append_singleton _ _).nodup_iff.2 (List.nodup_cons.2 hnd)

/-- The device tells one more. -/
theorem GoI.tell {v : Nv} {x : Dv} {D : List Int} {y : Int × List UInt8} {W : List (Int × List UInt8)} (h : GoI v x D (y :: W)) (o : NvOk v) (F : Fit v.lm v.base) :
    takeF v.lm (v.base + 224) x.tg = some [⟨bufA v.base (8 + v.outs.getD y.1.toNat 0), 12 + y.2.length, false⟩] ∧ offHead v.lm (v.base + 224) 8 x.tg = y.1 ∧
    pframeF v.lm [⟨bufA v.base (8 + v.outs.getD y.1.toNat 0), 12 + y.2.length, false⟩] = some y.2 ∧
    GoI { v with lm := vdoneL v.lm (v.base + 224) 8 x.og y.1 0 } { x with tg := (x.tg + 1) % 65536, og := (x.og + 1) % 65536 } (D ++ [y.1]) W := by
  obtain ⟨b0, b1, b2⟩ := F
  have hlen := h.len o
  rw [List.length_cons] at hlen
  have t0 := h.t0
  have g0 := h.g0
  have hgo := h.go
  rw [List.length_cons] at hgo
  have hog := h.og
  have hm := h.mem (y := y) List.mem_cons_self
  have hr := o.hg _ hm
  have hoR := o.outR y.1
  have hh := h.head 0 y rfl
  rw [show (x.tg + ((0 : Nat) : Int)) % 65536 = x.tg by omega] at hh
  have h1 := h.one y List.mem_cons_self
  obtain ⟨t1, t2, t3⟩ := h.text y List.mem_cons_self
  have e8 : ((8 : Nat) : Int) = 8 := rfl
  have eu := ua8
  have sd : ∀ a b : Int, (b ≤ v.base + 224 + 152 + 8 * (x.og % 8) ∨ v.base + 224 + 152 + 8 * (x.og % 8) + 8 ≤ a) → (b ≤ v.base + 224 + 150 ∨ v.base + 224 + 152 ≤ a) → Same v.lm (vdoneL v.lm (v.base + 224) 8 x.og y.1 0) a b := fun a b q1 q2 => same_done _ _ _ _ _ _ _ q1 q2
  have hU : v.base + 224 + usedAt ((8 : Nat) : Int) + 4 + 8 * ((8 : Nat) : Int) ≤ v.lm.length := by rw [eu, e8]; omega
  refine ⟨?_, hh, ?_, ⟨?_, ?_, h.g0, ?_, ?_, fun p z hz => ?_, fun z hz => ?_, fun z hz => ?_, ?_, ?_, fun p z hz => ?_, h.nd⟩⟩
  · unfold takeF
    rw [h.oi, hgo, if_neg (by omega), hh]
    exact h1.follow hr.2
  · obtain ⟨q1, q2, q3⟩ := h1.inl
    dsimp only at q1 q2 q3
    unfold pframeF
    dsimp only
    have ee : (12 + (y.2.length : Int)) - 12 = y.2.length := by omega
    rw [ee, if_pos ⟨rfl, by omega, by unfold textE; rw [if_neg (by omega)]⟩, t1]
  · show v.hg = (D ++ [y.1]) ++ W.map Prod.fst
    rw [h.hg, List.append_assoc]
    rfl
  · show 0 ≤ (x.tg + 1) % 65536 ∧ (x.tg + 1) % 65536 < 65536
    omega
  · show v.go = ((x.tg + 1) % 65536 + W.length) % 65536
    rw [hgo]; omega
  · show offI (vdoneL v.lm (v.base + 224) 8 x.og y.1 0) (v.base + 224) 8 = v.go
    rw [(sd _ _ (by omega) (by omega)).offI]
    exact h.oi
  · show offHead (vdoneL v.lm (v.base + 224) 8 x.og y.1 0) (v.base + 224) 8 (((x.tg + 1) % 65536 + p) % 65536) = z.1
    rw [(sd _ _ (by omega) (by omega)).head, show ((x.tg + 1) % 65536 + p) % 65536 = (x.tg + ((p + 1 : Nat) : Int)) % 65536 by omega]
    exact h.head (p + 1) z hz
  · have hm2 := o.hg _ (h.mem (List.mem_cons_of_mem _ hz))
    exact (h.one z (List.mem_cons_of_mem _ hz)).same (sd _ _ (by omega) (by omega))
  · have hz2 := List.mem_cons_of_mem y hz
    have hb := o.outR z.1
    obtain ⟨u1, u2, u3⟩ := h.text z hz2
    refine ⟨?_, u2, u3⟩
    show textS (vdoneL v.lm (v.base + 224) 8 x.og y.1 0) (bufA v.base (8 + v.outs.getD z.1.toNat 0) + 12) z.2.length = z.2
    generalize v.outs.getD z.1.toNat 0 = b at hb u1 ⊢
    have hbv : bufA v.base (8 + b) = v.base + 448 + 616 * (8 + b) := rfl
    rw [(sd (bufA v.base (8 + b) + 12) (bufA v.base (8 + b) + 12 + z.2.length) (by omega) (by omega)).textS]
    exact u1
  · show (x.og + 1) % 65536 = (v.gb + (D ++ [y.1]).length) % 65536
    rw [List.length_append, List.length_singleton, hog]
    omega
  · exact vdone_usedI v.lm (v.base + 224) 8 (by omega) (by omega) (by omega) hU x.og y.1 0
  · show usedNum (vdoneL v.lm (v.base + 224) 8 x.og y.1 0) (v.base + 224) 8 ((v.gb + p) % 65536) = z ∧ usedLen (vdoneL v.lm (v.base + 224) 8 x.og y.1 0) (v.base + 224) 8 ((v.gb + p) % 65536) = 0
    by_cases hp : p < D.length
    · rw [List.getElem?_append_left hp] at hz
      obtain ⟨a1, a2⟩ := (sd (v.base + 224 + 152 + 8 * ((v.gb + p) % 65536 % 8)) (v.base + 224 + 152 + 8 * ((v.gb + p) % 65536 % 8) + 8) (by omega) (by omega)).used
      rw [a1, a2]
      exact h.used p z hz
    · have hpl : p < (D ++ [y.1]).length := (List.getElem?_eq_some_iff.1 hz).1
      rw [List.length_append, List.length_singleton] at hpl
      obtain rfl : p = D.length := by omega
      rw [List.getElem?_append_right (Nat.le_refl _), Nat.sub_self] at hz
      injection hz with hz
      rw [← hog, ← hz]
      exact ⟨vdone_num v.lm (v.base + 224) 8 (by omega) (by omega) (by omega) hU x.og y.1 0 hr.1 (by omega), vdone_len v.lm (v.base + 224) 8 (by omega) (by omega) (by omega) hU x.og y.1 0 (by omega) (by omega)⟩

/-- What Sent tells. -/
theorem GoI.sent : ∀ (W : List (Int × List UInt8)) (f : Nat) (v : Nv) (x : Dv) (D : List Int) (l : List (List UInt8)), GoI v x D W → NvOk v → Fit v.lm v.base → W.length < f →
    ∃ lm' x', sentF v.base f v.lm x l = ((lm', x'), l ++ W.map Prod.snd) ∧ GoI { v with lm := lm' } x' (D ++ W.map Prod.fst) [] ∧ lm'.length = v.lm.length ∧ x'.tc = x.tc ∧ x'.oc = x.oc ∧ (∀ a b : Int, (b ≤ v.base + 224 ∨ v.base + 440 ≤ a) → Same v.lm lm' a b)
  | [], f, v, x, D, l, h, o, F, hf => by
    obtain ⟨f, rfl⟩ : ∃ g, f = g + 1 := ⟨f - 1, by simp only [List.length_nil] at hf; omega⟩
    have t0 := h.t0
    have hgo := h.go
    have e : takeF v.lm (v.base + 224) x.tg = none := by
      unfold takeF
      rw [if_pos (.inl (by rw [h.oi, hgo]; simp only [List.length_nil]; omega))]
    refine ⟨v.lm, x, ?_, ?_, rfl, rfl, rfl, fun a b _ => Same.refl _ _ _⟩
    · rw [sentF_no e]
      simp
    · simpa using h
  | y :: W, f, v, x, D, l, h, o, F, hf => by
    obtain ⟨f, rfl⟩ : ∃ g, f = g + 1 := ⟨f - 1, by simp only [List.length_cons] at hf; omega⟩
    obtain ⟨a1, a2, a3, a4⟩ := h.tell o F
    have hl : (vdoneL v.lm (v.base + 224) 8 x.og y.1 0).length = v.lm.length := vdoneL_length _ _ _ _ _ _
    have hg0 : 0 ≤ x.og % 8 ∧ x.og % 8 < 8 := by omega
    obtain ⟨lm', x', r1, r2, r3, r4, r5, r6⟩ := GoI.sent W f { v with lm := vdoneL v.lm (v.base + 224) 8 x.og y.1 0 } { x with tg := (x.tg + 1) % 65536, og := (x.og + 1) % 65536 } (D ++ [y.1]) (l ++ [y.2]) a4 ⟨o.fl, o.hg, o.nd, o.fr, o.ou, o.ol, o.r0, o.d0⟩ ⟨F.b0, by show v.base + 10304 ≤ _; rw [hl]; exact F.b1, by show (vdoneL v.lm (v.base + 224) 8 x.og y.1 0).length ≤ _; rw [hl]; exact F.b2⟩ (by simp only [List.length_cons] at hf; omega)
    refine ⟨lm', x', ?_, ?_, r3.trans hl, r4, r5, fun a b hab => Same.trans (same_done v.lm (v.base + 224) x.og y.1 0 a b (by omega) (by omega)) (r6 a b hab)⟩
    · rw [sentF_yes a1, a2, a3]
      refine Eq.trans r1 ?_
      simp
    · rw [List.map_cons, show D ++ y.1 :: W.map Prod.fst = (D ++ [y.1]) ++ W.map Prod.fst by simp]
      exact r2
end Go.Proofs.Ytmlicejhkdkhnaa

namespace Go.Proofs.Ytmlicejhkdkhnaa
open Go.RowKit Go.Conc Go.Sort
set_option linter.unusedVariables false

/-- What comes: A is offered and not yet taken, C was delivered and is not yet received. -/
structure CoI (v : Nv) (x : Dv) (A : List Int) (C : List (Int × List UInt8)) : Prop where
  t0 : 0 ≤ x.tc ∧ x.tc < 65536
  c0 : 0 ≤ v.cb ∧ v.cb < 65536
  co : v.co = (x.tc + A.length) % 65536
  oi : offI v.lm v.base 8 = v.co
  head : ∀ (p : Nat) (y : Int), A[p]? = some y → offHead v.lm v.base 8 ((x.tc + p) % 65536) = y
  one : ∀ k : Int, 0 ≤ k → k < 8 → OneAt v.lm v.base k ⟨bufA v.base k, 612, true⟩
  oc : x.oc = (v.cb + C.length) % 65536
  ui : usedI v.lm v.base 8 = x.oc
  used : ∀ (p : Nat) (y : Int × List UInt8), C[p]? = some y → usedNum v.lm v.base 8 ((v.cb + p) % 65536) = y.1 ∧ usedLen v.lm v.base 8 ((v.cb + p) % 65536) = 12 + y.2.length ∧ y.2.length ≤ 600 ∧ textS v.lm (bufA v.base y.1 + 12) y.2.length = y.2 ∧ getX v.lm (bufA v.base y.1 + 1) 1 = 0
  nd : (A ++ C.map Prod.fst).Nodup
  rg : ∀ y ∈ A ++ C.map Prod.fst, 0 ≤ y ∧ y < 8
  ln : A.length + C.length = 8
theorem CoI.rgC {v : Nv} {x : Dv} {A : List Int} {C : List (Int × List UInt8)} (h : CoI v x A C) {p : Nat} {y : Int × List UInt8} (hy : C[p]? = some y) : 0 ≤ y.1 ∧ y.1 < 8 :=
  h.rg _ (List.mem_append.2 (.inr (List.mem_map.2 ⟨y, List.mem_of_getElem? hy, rfl⟩)))
theorem HcOk.has {v : Nv} (o : HcOk v) {k : Int} (k0 : 0 ≤ k) (k1 : k < 8) : k ∈ v.hc := Decidable.byContradiction fun hne => by
  have := len_sub (l := k :: v.hc) (m := allB) (List.nodup_cons.2 ⟨hne, o.nd⟩) (fun y hy => by
    rcases List.mem_cons.1 hy with e | e
    · rw [e]; exact mem_all k0 k1
    · exact mem_all (o.rg y e).1 (o.rg y e).2)
  rw [List.length_cons, o.len] at this
  exact absurd this (by decide)
/-- What comes stays where neither its queue nor its buffers are turned. -/
theorem CoI.keep {v v' : Nv} {x x' : Dv} {A : List Int} {C : List (Int × List UInt8)} (h : CoI v x A C) (eb : v'.base = v.base) (eo : v'.co = v.co) (eg : v'.cb = v.cb) (et : x'.tc = x.tc) (eog : x'.oc = x.oc)
    (s1 : Same v.lm v'.lm v.base (v.base + 216)) (s2 : Same v.lm v'.lm (v.base + 448) (v.base + 5376)) : CoI v' x' A C := by
  refine ⟨by rw [et]; exact h.t0, by rw [eg]; exact h.c0, by rw [eo, et]; exact h.co, ?_, fun p y hy => ?_, fun k k0 k1 => ?_, by rw [eog, eg]; exact h.oc, ?_, fun p y hy => ?_, h.nd, h.rg, h.ln⟩
  · rw [eb, eo, (s1.sub (by omega) (by omega)).offI]; exact h.oi
  · rw [eb, et, (s1.sub (by omega) (by omega)).head]; exact h.head p y hy
  · rw [eb]
    exact (h.one k k0 k1).same (s1.sub (by omega) (by omega))
  · rw [eb, eog, (s1.sub (by omega) (by omega)).usedI]; exact h.ui
  · rw [eb, eg]
    have hr := h.rgC hy
    obtain ⟨a1, a2⟩ := (s1.sub (a' := v.base + 152 + 8 * ((v.cb + p) % 65536 % 8)) (b' := v.base + 152 + 8 * ((v.cb + p) % 65536 % 8) + 8) (by omega) (by omega)).used
    obtain ⟨u1, u2, u3, u4, u5⟩ := h.used p y hy
    have hbv : bufA v.base y.1 = v.base + 448 + 616 * y.1 := rfl
    rw [a1, a2, (s2.sub (a' := bufA v.base y.1 + 12) (b' := bufA v.base y.1 + 12 + y.2.length) (by omega) (by omega)).textS, (s2.sub (a' := bufA v.base y.1 + 1) (b' := bufA v.base y.1 + 1 + 1) (by omega) (by omega)).getX]
    exact ⟨u1, u2, u3, u4, u5⟩
theorem many_zero (M : List UInt8) (a : Int) (s : List UInt8) (h0 : 0 ≤ a) (h1 : a + 12 + s.length ≤ M.length) : getX (writeL M a (textOf s)) (a + 1) 1 = 0 := by
  have hlT := textOf_len s
  have e : textE M a (textOf s).length = 0 := by unfold textE; rw [if_neg (by omega)]
  have hL : (lay M a.toNat (textOf s)).length = M.length := by unfold lay; simp; omega
  have e2 : putE (lay M a.toNat (textOf s)) (a + 1) 1 = 0 := by
    rcases putE_cases (lay M a.toNat (textOf s)) (a + 1) 1 with ⟨_, _⟩ | ⟨_, _, _, _⟩ | ⟨_, _, _, _, e⟩
    · omega
    · omega
    · exact e
  unfold writeL
  rw [if_pos e]
  unfold getX
  rw [if_pos e2]
  have hb : ((lay M a.toNat (textOf s)).drop (a + 1).toNat).take (1 : Int).toNat = [0] := by
    apply List.ext_getElem?
    intro i
    by_cases hi : i < 1
    · obtain rfl : i = 0 := by omega
      rw [List.getElem?_take_of_lt (by decide), List.getElem?_drop, vlay_get M a.toNat _ (by omega), if_pos (by omega), show (a + 1).toNat + 0 - a.toNat = 1 by omega]
      unfold textOf
      rw [List.getElem?_append_left (by rw [List.length_replicate]; decide)]
      rfl
    · rw [List.getElem?_eq_none (by rw [List.length_take]; show min 1 _ ≤ i; omega), List.getElem?_eq_none (by show 1 ≤ i; omega)]
  rw [hb]
  decide

/-- The device delivers one more. -/
theorem CoI.deliv {v : Nv} {x : Dv} {k : Int} {A : List Int} {C : List (Int × List UInt8)} (h : CoI v x (k :: A) C) (F : Fit v.lm v.base) (s : List UInt8) (hs : s.length ≤ 600) :
    delivF v.lm v.base x s = ((vdoneL (writeL v.lm (bufA v.base k) (textOf s)) v.base 8 x.oc k (12 + s.length), { x with tc := (x.tc + 1) % 65536, oc := (x.oc + 1) % 65536 }), 0) ∧
    CoI { v with lm := vdoneL (writeL v.lm (bufA v.base k) (textOf s)) v.base 8 x.oc k (12 + s.length) } { x with tc := (x.tc + 1) % 65536, oc := (x.oc + 1) % 65536 } A (C ++ [(k, s)]) ∧
    (∀ a b : Int, (v.base + 216 ≤ a ∧ b ≤ v.base + 448 ∨ v.base + 5376 ≤ a) → Same v.lm (vdoneL (writeL v.lm (bufA v.base k) (textOf s)) v.base 8 x.oc k (12 + s.length)) a b) := by
  obtain ⟨b0, b1, b2⟩ := F
  have hlT := textOf_len s
  have t0 := h.t0
  have c0 := h.c0
  have hco := h.co
  have hoc := h.oc
  have hln := h.ln
  rw [List.length_cons] at hco hln
  obtain ⟨k0, k1⟩ := h.rg k (by simp)
  have hnd := h.nd
  rw [List.cons_append, List.nodup_cons] at hnd
  have hh := h.head 0 k rfl
  rw [show (x.tc + ((0 : Nat) : Int)) % 65536 = x.tc by omega] at hh
  have h1 := h.one k k0 k1
  have e8 : ((8 : Nat) : Int) = 8 := rfl
  have eu := ua8
  have hAv : bufA v.base k = v.base + 448 + 616 * k := rfl
  have htake : takeF v.lm v.base x.tc = some [⟨bufA v.base k, 612, true⟩] := by
    unfold takeF
    rw [h.oi, hco, if_neg (by omega), hh]
    exact h1.follow k1
  obtain ⟨M1, hM1⟩ : ∃ M1, M1 = writeL v.lm (bufA v.base k) (textOf s) := ⟨_, rfl⟩
  have l1 : M1.length = v.lm.length := by rw [hM1, writeL_length]
  have s1 : ∀ a b : Int, (b ≤ bufA v.base k ∨ bufA v.base k + 12 + s.length ≤ a) → Same v.lm M1 a b := fun a b hab => by rw [hM1]; exact same_write _ _ _ _ _ (by omega)
  have hU : v.base + usedAt ((8 : Nat) : Int) + 4 + 8 * ((8 : Nat) : Int) ≤ M1.length := by rw [eu, e8]; omega
  obtain ⟨M2, hM2⟩ : ∃ M2, M2 = vdoneL M1 v.base 8 x.oc k (12 + s.length) := ⟨_, rfl⟩
  have s2 : ∀ a b : Int, (b ≤ v.base + 152 + 8 * (x.oc % 8) ∨ v.base + 152 + 8 * (x.oc % 8) + 8 ≤ a) → (b ≤ v.base + 150 ∨ v.base + 152 ≤ a) → Same M1 M2 a b := fun a b q1 q2 => by rw [hM2]; exact same_done _ _ _ _ _ _ _ q1 q2
  have htx : textS M1 (bufA v.base k + 12) s.length = s := by
    have tw := text_write v.lm (bufA v.base k) (textOf s) (by omega) (by omega) 12 (by omega)
    rw [hlT, ← hM1] at tw
    rw [show (s.length : Int) = ((12 + s.length : Nat) : Int) - ((12 : Nat) : Int) by omega]
    refine Eq.trans tw ?_
    unfold textOf
    rw [List.drop_append_of_le_length (by rw [List.length_replicate]; exact Nat.le_refl _)]
    simp
  have hmz : getX M1 (bufA v.base k + 1) 1 = 0 := by rw [hM1]; exact many_zero v.lm _ s (by omega) (by omega)
  refine ⟨?_, ?_, ?_⟩
  · unfold delivF
    rw [if_neg (by omega), h.oi, hco, if_neg (by omega), htake]
    dsimp only
    unfold delivB
    dsimp only
    rw [if_pos ⟨rfl, rfl⟩, hh]
  · rw [← hM1, ← hM2]
    refine ⟨by show 0 ≤ (x.tc + 1) % 65536 ∧ (x.tc + 1) % 65536 < 65536; omega, h.c0, ?_, ?_, fun p y hy => ?_, fun j j0 j1 => ?_, ?_, ?_, fun p y hy => ?_, ?_, ?_, ?_⟩
    · show v.co = ((x.tc + 1) % 65536 + A.length) % 65536
      rw [hco]; omega
    · show offI M2 v.base 8 = v.co
      rw [(s2 _ _ (by omega) (by omega)).offI, (s1 _ _ (by omega)).offI]
      exact h.oi
    · show offHead M2 v.base 8 (((x.tc + 1) % 65536 + p) % 65536) = y
      rw [(s2 _ _ (by omega) (by omega)).head, (s1 _ _ (by omega)).head, show ((x.tc + 1) % 65536 + p) % 65536 = (x.tc + ((p + 1 : Nat) : Int)) % 65536 by omega]
      exact h.head (p + 1) y hy
    · exact ((h.one j j0 j1).same (s1 _ _ (by omega))).same (s2 _ _ (by omega) (by omega))
    · show (x.oc + 1) % 65536 = (v.cb + (C ++ [(k, s)]).length) % 65536
      rw [List.length_append, List.length_singleton, hoc]
      omega
    · show usedI M2 v.base 8 = (x.oc + 1) % 65536
      rw [hM2]
      exact vdone_usedI M1 v.base 8 (by omega) (by omega) (by omega) hU x.oc k _
    · show usedNum M2 v.base 8 ((v.cb + p) % 65536) = y.1 ∧ usedLen M2 v.base 8 ((v.cb + p) % 65536) = 12 + y.2.length ∧ y.2.length ≤ 600 ∧ textS M2 (bufA v.base y.1 + 12) y.2.length = y.2 ∧ getX M2 (bufA v.base y.1 + 1) 1 = 0
      by_cases hp : p < C.length
      · rw [List.getElem?_append_left hp] at hy
        have hr := h.rgC hy
        have hne : y.1 ≠ k := fun e => hnd.1 (List.mem_append.2 (.inr (List.mem_map.2 ⟨y, List.mem_of_getElem? hy, e⟩)))
        have hbv : bufA v.base y.1 = v.base + 448 + 616 * y.1 := rfl
        obtain ⟨u1, u2, u3, u4, u5⟩ := h.used p y hy
        obtain ⟨a1, a2⟩ := (s2 (v.base + 152 + 8 * ((v.cb + p) % 65536 % 8)) (v.base + 152 + 8 * ((v.cb + p) % 65536 % 8) + 8) (by omega) (by omega)).used
        obtain ⟨d1, d2⟩ := (s1 (v.base + 152 + 8 * ((v.cb + p) % 65536 % 8)) (v.base + 152 + 8 * ((v.cb + p) % 65536 % 8) + 8) (by omega)).used
        rw [a1, a2, d1, d2, (s2 (bufA v.base y.1 + 12) (bufA v.base y.1 + 12 + y.2.length) (by omega) (by omega)).textS, (s1 (bufA v.base y.1 + 12) (bufA v.base y.1 + 12 + y.2.length) (by omega)).textS, (s2 (bufA v.base y.1 + 1) (bufA v.base y.1 + 1 + 1) (by omega) (by omega)).getX, (s1 (bufA v.base y.1 + 1) (bufA v.base y.1 + 1 + 1) (by omega)).getX]
        exact ⟨u1, u2, u3, u4, u5⟩
      · have hpl : p < (C ++ [(k, s)]).length := (List.getElem?_eq_some_iff.1 hy).1
        rw [List.length_append, List.length_singleton] at hpl
        obtain rfl : p = C.length := by omega
        rw [List.getElem?_append_right (Nat.le_refl _), Nat.sub_self] at hy
        injection hy with hy
        rw [← hoc, ← hy]
        dsimp only
        rw [(s2 (bufA v.base k + 12) (bufA v.base k + 12 + s.length) (by omega) (by omega)).textS, (s2 (bufA v.base k + 1) (bufA v.base k + 1 + 1) (by omega) (by omega)).getX, hM2]
        exact ⟨vdone_num M1 v.base 8 (by omega) (by omega) (by omega) hU x.oc k _ k0 (by omega), vdone_len M1 v.base 8 (by omega) (by omega) (by omega) hU x.oc k _ (by omega) (by omega), hs, htx, hmz⟩
    · have := h.nd
      rw [List.cons_append] at this
      rw [List.map_append, List.map_singleton, ← List.append_assoc]
      exact (List.perm_append_singleton _ _).nodup_iff.2 this
    · intro y hy
      refine h.rg y ?_
      rw [List.map_append, List.map_singleton, ← List.append_assoc] at hy
      rcases List.mem_append.1 hy with hy | hy
      · exact List.mem_cons_of_mem _ hy
      · rw [List.mem_singleton.1 hy]; exact List.mem_cons_self
    · rw [List.length_append, List.length_singleton]; omega
  · intro a b hab
    rw [← hM1, ← hM2]
    exact (s1 a b (by omega)).trans (s2 a b (by omega) (by omega))
/-- .. where there is no buffer. -/
theorem CoI.full {v : Nv} {x : Dv} {C : List (Int × List UInt8)} (h : CoI v x [] C) (s : List UInt8) (hs : s.length ≤ 600) : delivF v.lm v.base x s = ((v.lm, x), 6) := by
  have t0 := h.t0
  have hco := h.co
  unfold delivF
  rw [if_neg (by omega), h.oi, hco, if_pos (by simp only [List.length_nil]; omega)]

/-- One is received. -/
theorem CoI.again {v : Nv} {x : Dv} {A : List Int} {y : Int × List UInt8} {C : List (Int × List UInt8)} (h : CoI v x A (y :: C)) (F : Fit v.lm v.base) :
    CoI (againC v) x (A ++ [y.1]) C ∧ (∀ a b : Int, v.base + 148 ≤ a → Same v.lm (againC v).lm a b) ∧ usedNum v.lm v.base 8 v.cb = y.1 ∧ usedLen v.lm v.base 8 v.cb = 12 + y.2.length ∧ y.2.length ≤ 600 ∧ textS v.lm (bufA v.base y.1 + 12) y.2.length = y.2 ∧ getX v.lm (bufA v.base y.1 + 1) 1 = 0 := by
  obtain ⟨b0, b1, b2⟩ := F
  have t0 := h.t0
  have c0 := h.c0
  have hco := h.co
  have hoc := h.oc
  have hln := h.ln
  rw [List.length_cons] at hoc hln
  obtain ⟨u1, u2, u3, u4, u5⟩ := h.used 0 y rfl
  rw [show (v.cb + ((0 : Nat) : Int)) % 65536 = v.cb by omega] at u1 u2
  obtain ⟨k0, k1⟩ := h.rgC (p := 0) (y := y) rfl
  obtain ⟨k, hk⟩ : ∃ k, k = y.1 := ⟨_, rfl⟩
  rw [← hk] at k0 k1 u1
  have hAv : bufA v.base k = v.base + 448 + 616 * k := rfl
  obtain ⟨M2, hM2⟩ : ∃ M2, M2 = addL v.lm v.base 8 v.co [k] [⟨bufA v.base k, 612, true⟩] := ⟨_, rfl⟩
  have em : (againC v).lm = M2 := by rw [hM2, ← u1]; rfl
  have s2 : ∀ a b : Int, (b ≤ v.base + 16 * k ∨ v.base + 16 * k + 16 ≤ a) → (b ≤ v.base + 132 + 2 * (v.co % 8) ∨ v.base + 132 + 2 * (v.co % 8) + 2 ≤ a) → (b ≤ v.base + 130 ∨ v.base + 132 ≤ a) → Same v.lm M2 a b := fun a b q1 q2 q3 => by rw [hM2]; exact same_add _ _ _ _ _ _ _ q1 q2 q3
  obtain ⟨a1, a2⟩ := add_head v.lm v.base v.co k ⟨bufA v.base k, 612, true⟩ b0 (by omega) k0 k1
  rw [← hM2] at a1 a2
  refine ⟨⟨h.t0, by show 0 ≤ (v.cb + 1) % 65536 ∧ (v.cb + 1) % 65536 < 65536; omega, ?_, ?_, fun p z hz => ?_, fun j j0 j1 => ?_, ?_, ?_, fun p z hz => ?_, ?_, ?_, ?_⟩, fun a b ha => by rw [em]; exact s2 a b (by omega) (by omega) (by omega), by rw [u1, hk], u2, u3, u4, u5⟩
  · show (v.co + 1) % 65536 = (x.tc + (A ++ [y.1]).length) % 65536
    rw [List.length_append, List.length_singleton, hco]
    omega
  · rw [em]; exact a2
  · rw [em]
    show offHead M2 v.base 8 ((x.tc + p) % 65536) = z
    by_cases hp : p < A.length
    · rw [List.getElem?_append_left hp] at hz
      rw [(s2 _ _ (by omega) (by omega) (by omega)).head]
      exact h.head p z hz
    · have hpl : p < (A ++ [y.1]).length := (List.getElem?_eq_some_iff.1 hz).1
      rw [List.length_append, List.length_singleton] at hpl
      obtain rfl : p = A.length := by omega
      rw [List.getElem?_append_right (Nat.le_refl _), Nat.sub_self] at hz
      injection hz with hz
      rw [← hco, ← hz, ← hk]
      exact a1
  · rw [em]
    show OneAt M2 v.base j ⟨bufA v.base j, 612, true⟩
    by_cases e : j = k
    · rw [e, hM2]
      exact OneAt.made v.lm v.base v.co k _ b0 (by omega) b2 k0 k1 ⟨by show 0 ≤ bufA v.base k; omega, by show (1 : Int) ≤ 612; omega, by show bufA v.base k + 612 ≤ v.lm.length; omega⟩
    · exact (h.one j j0 j1).same (s2 _ _ (by omega) (by omega) (by omega))
  · show x.oc = ((v.cb + 1) % 65536 + C.length) % 65536
    rw [hoc]; omega
  · rw [em]
    show usedI M2 v.base 8 = x.oc
    rw [(s2 _ _ (by omega) (by omega) (by omega)).usedI]
    exact h.ui
  · rw [em]
    show usedNum M2 v.base 8 (((v.cb + 1) % 65536 + p) % 65536) = z.1 ∧ usedLen M2 v.base 8 (((v.cb + 1) % 65536 + p) % 65536) = 12 + z.2.length ∧ z.2.length ≤ 600 ∧ textS M2 (bufA v.base z.1 + 12) z.2.length = z.2 ∧ getX M2 (bufA v.base z.1 + 1) 1 = 0
    have hr := h.rgC (p := p + 1) (y := z) hz
    have hbv : bufA v.base z.1 = v.base + 448 + 616 * z.1 := rfl
    obtain ⟨g1, g2⟩ := (s2 (v.base + 152 + 8 * ((v.cb + ((p + 1 : Nat) : Int)) % 65536 % 8)) (v.base + 152 + 8 * ((v.cb + ((p + 1 : Nat) : Int)) % 65536 % 8) + 8) (by omega) (by omega) (by omega)).used
    rw [show ((v.cb + 1) % 65536 + p) % 65536 = (v.cb + ((p + 1 : Nat) : Int)) % 65536 by omega, g1, g2, (s2 (bufA v.base z.1 + 12) (bufA v.base z.1 + 12 + z.2.length) (by omega) (by omega) (by omega)).textS, (s2 (bufA v.base z.1 + 1) (bufA v.base z.1 + 1 + 1) (by omega) (by omega) (by omega)).getX]
    exact h.used (p + 1) z hz
  · have := h.nd
    rw [List.map_cons] at this
    rw [List.append_assoc]
    exact this
  · intro z hz
    refine h.rg z ?_
    rw [List.append_assoc] at hz
    exact hz
  · rw [List.length_append, List.length_singleton]; omega
theorem fitsE_ok (n : Int) (h1 : 14 ≤ n) (h2 : n ≤ 600) : fitsE n = 0 := by unfold fitsE; rw [if_neg (by omega), if_neg (by omega)]
theorem fitsE_lo (n : Int) (h1 : n < 14) : fitsE n = 7 := by unfold fitsE; rw [if_pos (by omega)]
theorem fitsE_hi (n : Int) (h1 : 600 < n) : fitsE n = 3 := by unfold fitsE; rw [if_neg (by omega), if_pos h1]
/-- The frames that may go. -/
def mayGo (s : List UInt8) : Bool := decide (14 ≤ s.length)
/-- What Receive tells. -/
theorem CoI.recv {x : Dv} : ∀ (C : List (Int × List UInt8)) (f : Nat) (v : Nv) (A : List Int) (l : List (List UInt8)), CoI v x A C → HcOk v → Fit v.lm v.base → C.length < f →
    ∃ v', recvF f v l = (v', l ++ (C.map Prod.snd).filter mayGo) ∧ CoI v' x (A ++ C.map Prod.fst) [] ∧ HcOk v' ∧ v'.lm.length = v.lm.length ∧ v'.base = v.base ∧ v'.hg = v.hg ∧ v'.go = v.go ∧ v'.gb = v.gb ∧ v'.free = v.free ∧ v'.outs = v.outs ∧ v'.resets = v.resets ∧
      v'.drops = v.drops + ((C.map Prod.snd).filter fun s => !mayGo s).length ∧ (∀ a b : Int, v.base + 148 ≤ a → Same v.lm v'.lm a b)
  | [], f, v, A, l, h, o, F, hf => by
    obtain ⟨f, rfl⟩ : ∃ g, f = g + 1 := ⟨f - 1, by simp only [List.length_nil] at hf; omega⟩
    have c0 := h.c0
    have hoc := h.oc
    have e : usedI v.lm v.base 8 = v.cb := by rw [h.ui, hoc]; simp only [List.length_nil]; omega
    refine ⟨v, ?_, by simpa using h, o, rfl, rfl, rfl, rfl, rfl, rfl, rfl, rfl, by simp, fun a b _ => Same.refl _ _ _⟩
    rw [recvF, if_pos e]
    simp
  | y :: C, f, v, A, l, h, o, F, hf => by
    obtain ⟨f, rfl⟩ : ∃ g, f = g + 1 := ⟨f - 1, by simp only [List.length_cons] at hf; omega⟩
    have c0 := h.c0
    have hoc := h.oc
    have hln := h.ln
    rw [List.length_cons] at hoc hln
    have hr := h.rgC (p := 0) (y := y) rfl
    obtain ⟨g1, g2, u1, u2, u3, u4, u5⟩ := h.again F
    have e : ¬ usedI v.lm v.base 8 = v.cb := by rw [h.ui, hoc]; omega
    have hmem : usedNum v.lm v.base 8 v.cb ∈ v.hc := by rw [u1]; exact o.has hr.1 hr.2
    have np : ¬ popBad v.lm v.base 612 v.hc v.cb := by
      unfold popBad
      rw [h.ui, hoc, u2, o.len]
      rintro (h1 | h1 | h1)
      · omega
      · exact h1 hmem
      · omega
    have hl : (againC v).lm.length = v.lm.length := by show (offL _ _ _ _ _).length = _; unfold offL; exact addL_length _ _ _ _ _ _
    have F' : Fit (againC v).lm v.base := ⟨F.b0, by rw [hl]; exact F.b1, by rw [hl]; exact F.b2⟩
    have hfit : frameF v.lm v.base (usedNum v.lm v.base 8 v.cb) (usedLen v.lm v.base 8 v.cb) = if mayGo y.2 = true then some y.2 else none := by
      unfold frameF
      rw [u1, u2, u5, show (12 + (y.2.length : Int)) - 12 = y.2.length by omega]
      unfold mayGo
      by_cases hm : 14 ≤ y.2.length
      · rw [fitsE_ok _ (by omega) (by omega), if_pos ⟨rfl, rfl⟩, if_pos (by simpa using hm), u4]
      · rw [fitsE_lo _ (by omega), if_neg (by rintro ⟨_, h2⟩; exact absurd h2 (by decide)), if_neg (by simpa using hm)]
    by_cases hm : mayGo y.2 = true
    · rw [if_pos hm] at hfit
      obtain ⟨v', r1, r2, r3, r4, r5, r6, r7, r8, r9, r10, r11, r12, r13⟩ := CoI.recv C f (againC v) (A ++ [y.1]) (l ++ [y.2]) g1 (o.again hmem) F' (by simp only [List.length_cons] at hf; omega)
      refine ⟨v', ?_, ?_, r3, r4.trans hl, r5, r6, r7, r8, r9, r10, r11, ?_, fun a b ha => (g2 a b ha).trans (r13 a b ha)⟩
      · rw [recvF, if_neg e, if_neg np, hfit]
        refine Eq.trans r1 ?_
        rw [List.map_cons, List.filter_cons_of_pos hm]
        simp
      · rw [List.map_cons, show A ++ y.1 :: C.map Prod.fst = (A ++ [y.1]) ++ C.map Prod.fst by simp]
        exact r2
      · rw [r12, List.map_cons, List.filter_cons_of_neg (by simp [hm])]
        rfl
    · rw [if_neg hm] at hfit
      have g1' : CoI (againC { v with drops := v.drops + 1 }) x (A ++ [y.1]) C := ⟨g1.t0, g1.c0, g1.co, g1.oi, g1.head, g1.one, g1.oc, g1.ui, g1.used, g1.nd, g1.rg, g1.ln⟩
      have o' : HcOk (againC { v with drops := v.drops + 1 }) := ⟨(o.again hmem).nd, (o.again hmem).len, (o.again hmem).rg⟩
      obtain ⟨v', r1, r2, r3, r4, r5, r6, r7, r8, r9, r10, r11, r12, r13⟩ := CoI.recv C f (againC { v with drops := v.drops + 1 }) (A ++ [y.1]) l g1' o' F' (by simp only [List.length_cons] at hf; omega)
      refine ⟨v', ?_, ?_, r3, r4.trans hl, r5, r6, r7, r8, r9, r10, r11, ?_, fun a b ha => (g2 a b ha).trans (r13 a b ha)⟩
      · rw [recvF, if_neg e, if_neg np, hfit]
        refine Eq.trans r1 ?_
        rw [List.map_cons, List.filter_cons_of_neg hm]
      · rw [List.map_cons, show A ++ y.1 :: C.map Prod.fst = (A ++ [y.1]) ++ C.map Prod.fst by simp]
        exact r2
      · rw [r12, List.map_cons, List.filter_cons_of_pos (by simp [hm]), List.length_cons]
        show v.drops + 1 + _ = _
        omega
end Go.Proofs.Ytmlicejhkdkhnaa

namespace Go.Proofs.Ytmlicejhkdkhnaa
open Go.RowKit Go.Conc Go.Sort
set_option linter.unusedVariables false

/-- The kinds of a driver's and a device's blocks. -/
def ownKs : List Nat := [5, 68, 53, 112, 100000, 97, 100001, 56, 114]
/-- The block is of such a kind. -/
def OwnK (w : World) (j : Nat) : Prop := ∃ kk ∈ ownKs, Kd w j kk
theorem NS.ownK {w : World} {k : Bk} {v : Nv} {bc bg : Bool} (s : NS w k v bc bg) : ∀ j, k.all j → OwnK w j := by
  rintro j (e | e | e | e | e | e | e | e) <;> rw [e]
  · exact ⟨_, by decide, s.mem.kh⟩
  · exact ⟨_, by decide, s.nic.kd⟩
  · exact ⟨_, by decide, s.c.kq⟩
  · exact ⟨_, by decide, s.c.km⟩
  · exact ⟨_, by decide, s.g.kq⟩
  · exact ⟨_, by decide, s.g.km⟩
  · exact ⟨_, by decide, s.pool.kp⟩
  · exact ⟨_, by decide, s.pool.kc⟩
theorem DS.ownK {w : World} {d : Dk} {lm : List UInt8} {base : Int} {x : Dv} (s : DS w d lm base x) : ∀ j, d.all j → OwnK w j := by
  rintro j (e | e | e | e) <;> rw [e]
  · exact ⟨_, by decide, s.mem.kh⟩
  · exact ⟨_, by decide, s.pt.kd⟩
  · exact ⟨_, by decide, s.c.kp⟩
  · exact ⟨_, by decide, s.g.kp⟩
theorem OwnK.no {w : World} {j : Nat} {o : Obj} (h : w.heap[j]? = some o) (hk : kd o ∉ ownKs) : ¬ OwnK w j := by
  rintro ⟨kk, hm, x, hx, e⟩
  rw [h] at hx
  injection hx with hx
  rw [hx, e] at hk
  exact hk hm
/-- What of the statement's own stays. -/
theorem Turned.foreign {w w' : World} (t : Turned (OwnK w) w w') {j : Nat} {o : Obj} (h : w.heap[j]? = some o) (hk : kd o ∉ ownKs) : w'.heap[j]? = some o := t.kept h (OwnK.no h hk)
theorem SRow.far {w w' : World} {v : Value} {l : List (List UInt8)} (h : SRow w v l) (t : Turned (OwnK w) w w') : SRow w' v l := h.carry t (fun j hj hk => by
  obtain ⟨o, ho, ek⟩ := hk
  exact OwnK.no ho (by rw [ek]; decide) hj)

/-- A driver and a device's side, behind the world w0: these frames go, these come; so many were dropped. -/
structure BI (w0 w : World) (n p g : Nat) (L : Nat) (base : Int) (Gs Cs : List (List UInt8)) (dr : Int) : Prop where
  ex : ∃ (k : Bk) (d : Dk) (v : Nv) (x : Dv) (D : List Int) (W : List (Int × List UInt8)) (A : List Int) (C : List (Int × List UInt8)),
    k.n = n ∧ d.p = p ∧ k.g = g ∧ BD w k d v x ∧ GoI v x D W ∧ CoI v x A C ∧ NvOk v ∧ HcOk v ∧ Fit v.lm v.base ∧ v.base = base ∧ v.lm.length = L ∧ W.map Prod.snd = Gs ∧ C.map Prod.snd = Cs ∧ v.drops = dr ∧ v.resets = 0 ∧ (∀ j, k.all j ∨ d.all j → w0.heap.size ≤ j)
  bl : Below w0.heap.size w0 w
section
variable {w0 w w' : World} {n p g L : Nat} {base : Int} {Gs Cs : List (List UInt8)} {dr : Int}
theorem BI.lens (b : BI w0 w n p g L base Gs Cs dr) : Gs.length ≤ 8 ∧ Cs.length ≤ 8 := by
  obtain ⟨k, d, v, x, D, W, A, C, h1, h2, hgg, h3, h4, h5, h6, h7, h8, h9, h10, h11, h12, h13, h14, h15⟩ := b.ex
  have a := h4.len h6
  have c := h5.ln
  rw [← h11, ← h12, List.length_map, List.length_map]
  omega
theorem BI.grown (b : BI w0 w n p g L base Gs Cs dr) (gr : w.grownBy w' none) : BI w0 w' n p g L base Gs Cs dr := by
  obtain ⟨k, d, v, x, D, W, A, C, h1, h2, hgg, h3, h⟩ := b.ex
  exact ⟨⟨k, d, v, x, D, W, A, C, h1, h2, hgg, h3.grown gr, h⟩, b.bl.trans (Turned.below (Turned.of (S := fun _ => False) gr (fun j e => by cases e)) b.bl.size (fun k h => h.elim))⟩
/-- The statement's own have turned: the driver and the device stay. -/
theorem NS.away {k : Bk} {v : Nv} {bc bg : Bool} (s : NS w k v bc bg) {S : Nat → Prop} (t : Turned S w w') (hS : ∀ j, S j → ¬ OwnK w j) (hI : NotI w S) : NS w' k v bc bg :=
  s.other t (fun j hj ho => hS j hj (s.ownK j (.inr ho))) hI (t.mem s.mem (fun e => hS _ e ⟨_, by decide, s.mem.kg⟩) (fun e => hS _ e ⟨_, by decide, s.mem.kh⟩)) rfl
theorem BI.away (b : BI w0 w n p g L base Gs Cs dr) {S : Nat → Prop} (t : Turned S w w') (hS : ∀ j, S j → ¬ OwnK w j) (hI : NotI w S) (h0 : ∀ j, S j → w0.heap.size ≤ j) : BI w0 w' n p g L base Gs Cs dr := by
  obtain ⟨k, d, v, x, D, W, A, C, h1, h2, hgg, h3, h⟩ := b.ex
  refine ⟨⟨k, d, v, x, D, W, A, C, h1, h2, hgg, ⟨h3.ni.away t hS hI, ?_, h3.eg, h3.eh⟩, h⟩, b.bl.trans (t.below b.bl.size h0)⟩
  exact h3.de.other t (fun j hj ho => hS j hj (h3.de.ownK j (.inr ho))) (t.mem h3.de.mem (fun e => hS _ e ⟨_, by decide, h3.de.mem.kg⟩) (fun e => hS _ e ⟨_, by decide, h3.de.mem.kh⟩)) rfl
theorem BI.row (b : BI w0 w n p g L base Gs Cs dr) {y : Value} {l : List (List UInt8)} (h : SRow w y l) (gr : w.grownBy w' y.ownBlock) (h0 : ∀ j, y.ownBlock = some j → w0.heap.size ≤ j) : BI w0 w' n p g L base Gs Cs dr :=
  b.away (S := fun j => y.ownBlock = some j) (Turned.of gr (fun j e => e)) (fun j e ho => by
    obtain ⟨o, ho2, ek⟩ := StrRow.kd h.row e
    exact OwnK.no ho2 (by rw [ek]; decide) ho) (fun j e x => h.ni j e x) h0
def sendE (m n : Int) : Int := if fitsE n ≠ 0 then fitsE n else if m = 8 then 6 else 0
theorem sendE_ok {m n : Int} : sendE m n = 0 ↔ (14 ≤ n ∧ n ≤ 600 ∧ m ≠ 8) := by
  unfold sendE fitsE
  split <;> split <;> (try split) <;> simp_all <;> omega
theorem iSend (b : BI w0 w n p g L base Gs Cs dr) (S : ByteArray) (E : Int) (hE : sendE Gs.length S.size = E) :
    Calls Try.prog 12 #[.pointer (some ⟨n, 0, none⟩), .string S] w fun e w' => e = .returned (.int .i64 E) ∧ BI w0 w' n p g L base (if E = 0 then Gs ++ [S.data.toList] else Gs) Cs dr ∧ Turned (OwnK w) w w' := by
  obtain ⟨k, d, v, x, D, W, A, C, rfl, h2, hgg, h3, h4, h5, h6, h7, h8, h9, h10, h11, h12, h13, h14, h15⟩ := b.ex
  have hsz : S.data.toList.length = S.size := by rw [Array.length_toList]; rfl
  refine (send_any h3.ni h6 (by rw [h14]; omega) S).mono fun e w' ⟨e1, e2⟩ => ?_
  have hGl : Gs.length = W.length := by rw [← h11, List.length_map]
  have key : (sendF v S.data.toList).2 = E ∧ ∃ (D' : List Int) (W' : List (Int × List UInt8)), GoI (sendF v S.data.toList).1 x D' W' ∧ CoI (sendF v S.data.toList).1 x A C ∧ NvOk (sendF v S.data.toList).1 ∧ HcOk (sendF v S.data.toList).1 ∧ (sendF v S.data.toList).1.base = v.base ∧ (sendF v S.data.toList).1.lm.length = v.lm.length ∧ (sendF v S.data.toList).1.drops = v.drops ∧ (sendF v S.data.toList).1.resets = v.resets ∧ W'.map Prod.snd = (if E = 0 then Gs ++ [S.data.toList] else Gs) := by
    unfold sendF
    rw [hsz]
    unfold sendE at hE
    by_cases hf : fitsE S.size = 0
    · rw [if_pos hf]
      rw [if_neg (by rw [hf]; simp)] at hE
      have hb1 : 14 ≤ (S.size : Int) ∧ (S.size : Int) ≤ 600 := by
        unfold fitsE at hf
        split at hf
        · cases hf
        · split at hf
          · cases hf
          · omega
      have hgl : v.hg.length = D.length + W.length := by rw [h4.hg, List.length_append, List.length_map]
      obtain ⟨r1, r2, r3⟩ := GoI.reg D (v.hg.length + 1) v h4 h6 (by omega)
      generalize regF (v.hg.length + 1) v = u at r1 r2 r3 ⊢
      have hc : CoI u x A C := h5.keep r3.base r3.co r3.cb rfl rfl (by rw [r3.lm]; exact Same.refl _ _ _) (by rw [r3.lm]; exact Same.refl _ _ _)
      have hh : HcOk u := ⟨by rw [r3.hc]; exact h7.nd, by rw [r3.hc]; exact h7.len, by rw [r3.hc]; exact h7.rg⟩
      have hl := r1.len r2
      rw [List.length_nil] at hl
      unfold sendR
      cases hfr : u.free with
      | nil =>
        rw [hfr] at hl
        rw [List.length_nil] at hl
        rw [if_pos (by omega)] at hE
        subst hE
        exact ⟨rfl, [], W, r1, hc, r2, hh, r3.base, by rw [r3.lm], r3.drops, r3.resets, by rw [if_neg (by decide)]; exact h11⟩
      | cons i fs =>
        rw [hfr, List.length_cons] at hl
        rw [if_neg (by omega)] at hE
        subst hE
        have hhl : u.hg.length < 8 := by rw [r1.hg]; simp; omega
        obtain ⟨j, js, hj⟩ := free_some (hs := u.hg) hhl
        have hj0 : (freeH u.hg).headD 0 = j := by rw [hj]; rfl
        have F : Fit u.lm u.base := by rw [r3.lm, r3.base]; exact h8
        obtain ⟨q1, q2⟩ := r1.sendB r2 F hfr hj S.data.toList (by omega) (by omega)
        dsimp only
        rw [hj0]
        have hlen : (Go.Proofs.Ytmlicejhkdkhnaa.sendB u i fs j S.data.toList).lm.length = u.lm.length := by
          show (addL _ _ _ _ _ _).length = _
          rw [addL_length, writeL_length]
        refine ⟨rfl, [], W ++ [(j, S.data.toList)], q1, hc.keep rfl rfl rfl rfl rfl (q2 _ _ (.inl (by omega))) (q2 _ _ (.inr ⟨by omega, by omega⟩)), r2.send hfr hj _, ⟨hh.nd, hh.len, hh.rg⟩, r3.base, by rw [hlen, r3.lm], r3.drops, r3.resets, ?_⟩
        rw [if_pos rfl, List.map_append, h11]
        rfl
    · rw [if_neg hf]
      rw [if_pos hf] at hE
      subst hE
      exact ⟨rfl, D, W, h4, h5, h6, h7, rfl, rfl, rfl, rfl, by rw [if_neg hf]; exact h11⟩
  obtain ⟨kE, D', W', k1, k2, k3, k4, k5, k6, k7, k8, k9⟩ := key
  rw [kE] at e1
  obtain ⟨k', bd, kt, tu⟩ := h3.nic e2 k5 k6
  have T : Turned (OwnK w) w w' := tu.mono (fun j _ hj => h3.ni.ownK j hj)
  refine ⟨e1, ⟨⟨k', d, _, x, D', W', A, C, kt.n, h2, kt.g.trans hgg, bd, k1, k2, k3, k4, ⟨by rw [k5]; exact h8.b0, by rw [k5, k6]; exact h8.b1, by rw [k6]; exact h8.b2⟩, k5.trans h9, k6.trans h10, k9, h12, k7.trans h13, k8.trans h14, fun j hj => ?_⟩, b.bl.trans (tu.below b.bl.size (fun j hj => h15 j (.inl hj)))⟩, T⟩
  rcases hj with hj | hj
  · rcases kt.all j hj with h | h
    · exact h15 j (.inl h)
    · exact Nat.le_trans b.bl.size h
  · exact h15 j (.inr hj)
def delivE (m n : Int) : Int := if 600 < n then 3 else if m = 8 then 6 else 0
theorem iDeliv (b : BI w0 w n p g L base Gs Cs dr) (S : ByteArray) (hS : S.size ≤ 1000000) (E : Int) (hE : delivE Cs.length S.size = E) :
    Calls Try.prog 14 #[.pointer (some ⟨p, 0, none⟩), .string S] w fun e w' => e = .returned (.int .i64 E) ∧ BI w0 w' n p g L base Gs (if E = 0 then Cs ++ [S.data.toList] else Cs) dr ∧ Turned (OwnK w) w w' := by
  obtain ⟨k, d, v, x, D, W, A, C, h1, rfl, hgg, h3, h4, h5, h6, h7, h8, h9, h10, h11, h12, h13, h14, h15⟩ := b.ex
  have hsz : S.data.toList.length = S.size := by rw [Array.length_toList]; rfl
  refine (deliv_any h3.de S hS _ rfl).mono fun e w' ⟨e1, e2⟩ => ?_
  have hCl : Cs.length = C.length := by rw [← h12, List.length_map]
  have hln := h5.ln
  have key : (delivF v.lm v.base x S.data.toList).2 = E ∧ ∃ (A' : List Int) (C' : List (Int × List UInt8)), GoI { v with lm := (delivF v.lm v.base x S.data.toList).1.1 } (delivF v.lm v.base x S.data.toList).1.2 D W ∧ CoI { v with lm := (delivF v.lm v.base x S.data.toList).1.1 } (delivF v.lm v.base x S.data.toList).1.2 A' C' ∧ C'.map Prod.snd = (if E = 0 then Cs ++ [S.data.toList] else Cs) := by
    unfold delivE at hE
    by_cases hb6 : 600 < (S.size : Int)
    · rw [if_pos hb6] at hE
      subst hE
      have hF : delivF v.lm v.base x S.data.toList = ((v.lm, x), 3) := by unfold delivF; rw [hsz, if_pos (by omega)]
      rw [hF, if_neg (by decide)]
      exact ⟨rfl, A, C, h4, h5, h12⟩
    · rw [if_neg hb6] at hE
      cases A with
      | nil =>
        rw [List.length_nil] at hln
        rw [if_pos (by omega)] at hE
        subst hE
        rw [h5.full S.data.toList (by omega), if_neg (by decide)]
        exact ⟨rfl, [], C, h4, h5, h12⟩
      | cons kk A =>
        rw [List.length_cons] at hln
        rw [if_neg (by omega)] at hE
        subst hE
        obtain ⟨q1, q2, q3⟩ := h5.deliv h8 S.data.toList (by omega)
        rw [q1, if_pos rfl]
        refine ⟨rfl, A, C ++ [(kk, S.data.toList)], h4.keep h6 rfl rfl rfl rfl rfl rfl rfl rfl (q3 _ _ (.inl ⟨by omega, by omega⟩)) (q3 _ _ (.inr (by omega))), q2, ?_⟩
        rw [List.map_append, h12]
        rfl
  obtain ⟨kE, A', C', k1, k2, k3⟩ := key
  rw [kE] at e1
  obtain ⟨e2, e3, e4⟩ := e2
  have T : Turned (OwnK w) w w' := e4.mono (fun j _ hj => h3.de.ownK j hj)
  refine ⟨e1, ⟨⟨k, d, _, _, D, W, A', C', h1, rfl, hgg, h3.dev e2 e3 e4, k1, k2, ⟨h6.fl, h6.hg, h6.nd, h6.fr, h6.ou, h6.ol, h6.r0, h6.d0⟩, ⟨h7.nd, h7.len, h7.rg⟩, ⟨h8.b0, by show v.base + 10304 ≤ _; rw [e3]; exact h8.b1, by show (delivF v.lm v.base x S.data.toList).1.1.length ≤ _; rw [e3]; exact h8.b2⟩, h9, e3.trans h10, h11, k3, h13, h14, h15⟩, b.bl.trans (e4.below b.bl.size (fun j hj => h15 j (.inr hj)))⟩, T⟩
theorem iSent (b : BI w0 w n p g L base Gs Cs dr) :
    Calls Try.prog 13 #[.pointer (some ⟨p, 0, none⟩)] w fun e w' => ∃ y, e = .returned y ∧ SRow w' y Gs ∧ (∀ b, y.ownBlock = some b → w.heap.size ≤ b) ∧ BI w0 w' n p g L base [] Cs dr ∧ Turned (OwnK w) w w' := by
  obtain ⟨k, d, v, x, D, W, A, C, h1, rfl, hgg, h3, h4, h5, h6, h7, h8, h9, h10, h11, h12, h13, h14, h15⟩ := b.ex
  refine (sent_any h3.de _ rfl).mono fun e w' ⟨y, e1, e2, e3, e4, e5, e6⟩ => ?_
  have t0 := h4.t0
  have hlen := h4.len h6
  have hU : ((offI v.lm (v.base + 224) 8 - x.tg) % 65536).toNat = W.length := by rw [h4.oi, h4.go]; omega
  rw [hU] at e2 e4 e5
  obtain ⟨lm', x', r1, r2, r3, r4, r5, r6⟩ := GoI.sent W (W.length + 1) v x D [] h4 h6 h8 (by omega)
  rw [r1] at e2 e4 e5
  dsimp only at e2 e4 e5
  rw [List.nil_append, h11] at e2
  have T : Turned (OwnK w) w w' := e6.mono (fun j _ hj => h3.de.ownK j hj)
  have k2 : CoI { v with lm := lm' } x' A C := h5.keep rfl rfl rfl r4 r5 (r6 _ _ (.inl (by omega))) (r6 _ _ (.inr (by omega)))
  refine ⟨y, e1, e2, e3, ⟨⟨k, d, _, _, _, [], A, C, h1, rfl, hgg, h3.dev e4 r3 e6, r2, k2, ⟨h6.fl, h6.hg, h6.nd, h6.fr, h6.ou, h6.ol, h6.r0, h6.d0⟩, ⟨h7.nd, h7.len, h7.rg⟩, ⟨h8.b0, by show v.base + 10304 ≤ _; rw [r3]; exact h8.b1, by show lm'.length ≤ _; rw [r3]; exact h8.b2⟩, h9, r3.trans h10, rfl, h12, h13, h14, h15⟩, b.bl.trans (e6.below b.bl.size (fun j hj => h15 j (.inr hj)))⟩, T⟩
theorem iRecv (b : BI w0 w n p g L base Gs Cs dr) (hd : 0 ≤ dr ∧ dr < 2305843009213693952) (dr' : Int) (hdr : dr' = dr + (Cs.filter fun s => !mayGo s).length) :
    Calls Try.prog 15 #[.pointer (some ⟨n, 0, none⟩)] w fun e w' => ∃ y, e = .returned y ∧ SRow w' y (Cs.filter mayGo) ∧ (∀ b, y.ownBlock = some b → w.heap.size ≤ b) ∧ BI w0 w' n p g L base Gs [] dr' ∧ Turned (OwnK w) w w' := by
  obtain ⟨k, d, v, x, D, W, A, C, rfl, h2, hgg, h3, h4, h5, h6, h7, h8, h9, h10, h11, h12, h13, h14, h15⟩ := b.ex
  refine (recv_any h3.ni h7 (by rw [h14]; exact Int.le_refl _) (by rw [h14]; omega) (by rw [h13]; exact hd.1) (by rw [h13]; exact hd.2) _ rfl).mono fun e w' ⟨y, e1, e2, e3, e4⟩ => ?_
  have c0 := h5.c0
  have hln := h5.ln
  have hU : ((usedI v.lm v.base 8 - v.cb) % 65536).toNat = C.length := by rw [h5.ui, h5.oc]; omega
  rw [hU] at e2 e4
  obtain ⟨v', r1, r2, r3, r4, r5, r6, r7, r8, r9, r10, r11, r12, r13⟩ := CoI.recv C (C.length + 1) v A [] h5 h7 h8 (by omega)
  rw [r1] at e2 e4
  dsimp only at e2 e4
  rw [List.nil_append, h12] at e2
  rw [h12] at r12
  obtain ⟨k', bd, kt, tu⟩ := h3.nic e4 r5 r4
  have T : Turned (OwnK w) w w' := tu.mono (fun j _ hj => h3.ni.ownK j hj)
  have k1 : GoI v' x D W := h4.keep h6 r5 r6 r7 r8 r9 r10 rfl rfl (r13 _ _ (by omega)) (r13 _ _ (by omega))
  have o' : NvOk v' := ⟨by rw [r9, r6]; exact h6.fl, by rw [r6]; exact h6.hg, by rw [r6]; exact h6.nd, by rw [r9]; exact h6.fr, by rw [r10]; exact h6.ou, by rw [r10]; exact h6.ol, by rw [r11]; exact h6.r0, by rw [r12]; have := h6.d0; omega⟩
  refine ⟨y, e1, e2, e3, ⟨⟨k', d, v', x, D, W, _, [], kt.n, h2, kt.g.trans hgg, bd, k1, r2, o', r3, ⟨by rw [r5]; exact h8.b0, by rw [r5, r4]; exact h8.b1, by rw [r4]; exact h8.b2⟩, r5.trans h9, r4.trans h10, h11, rfl, by rw [r12, h13, hdr], r11.trans h14, fun j hj => ?_⟩, b.bl.trans (tu.below b.bl.size (fun j hj => h15 j (.inl hj)))⟩, T⟩
  rcases hj with hj | hj
  · rcases kt.all j hj with h | h
    · exact h15 j (.inl h)
    · exact Nat.le_trans b.bl.size h
  · exact h15 j (.inr hj)
theorem BI.mem (b : BI w0 w n p g L base Gs Cs dr) : ∃ h lm, Mem w g h lm ∧ lm.length = L ∧ w0.heap.size ≤ h := by
  obtain ⟨k, d, v, x, D, W, A, C, h1, h2, rfl, h3, h4, h5, h6, h7, h8, h9, h10, h11, h12, h13, h14, h15⟩ := b.ex
  exact ⟨k.h, v.lm, h3.ni.mem, h10, h15 _ (.inl (.inl rfl))⟩
theorem iDrops (b : BI w0 w n p g L base Gs Cs dr) : Calls Try.prog 17 #[.pointer (some ⟨n, 0, none⟩)] w fun e w' => e = .returned (.int .i64 dr) ∧ w = w' := by
  obtain ⟨k, d, v, x, D, W, A, C, rfl, h2, hgg, h3, h4, h5, h6, h7, h8, h9, h10, h11, h12, h13, h14, h15⟩ := b.ex
  rw [← h13]
  exact drops_any4 h3.ni
theorem iResets (b : BI w0 w n p g L base Gs Cs dr) : Calls Try.prog 25 #[.pointer (some ⟨n, 0, none⟩)] w fun e w' => e = .returned (.int .i64 0) ∧ w = w' := by
  obtain ⟨k, d, v, x, D, W, A, C, rfl, h2, hgg, h3, h4, h5, h6, h7, h8, h9, h10, h11, h12, h13, h14, h15⟩ := b.ex
  rw [← h14]
  exact resets_any4 h3.ni
end
/-- A driver that is new, and a device's side opened. -/
theorem bi_new {w0 w : World} {k : Bk} {d : Dk} {lm : List UInt8} {base : Int} (n : NS w k (newV lm base) false false) (s : DS w d (newV lm base).lm base ⟨0, 0, 0, 0⟩) (eg : d.g = k.g) (eh : d.h = k.h) (b0 : 0 ≤ base) (b1 : base + 10304 ≤ lm.length) (b2 : lm.length ≤ 65536) (h0 : ∀ j, k.all j ∨ d.all j → w0.heap.size ≤ j) (bl : Below w0.heap.size w0 w) :
    BI w0 w k.n d.p k.g lm.length base [] [] 0 := by
  have hl : (newV lm base).lm.length = lm.length := by show (offN base 8 (newL lm base)).length = _; rw [offN_length, newL_length]
  obtain ⟨l1, l2, l3, l4⟩ := new_lies lm base b0 b1 b2
  obtain ⟨o1, o2, o3⟩ := offN_lies base (newL lm base) b0 (by rw [newL_length]; exact b1) (by rw [newL_length]; exact b2) 8 (by omega)
  refine ⟨⟨k, d, newV lm base, ⟨0, 0, 0, 0⟩, [], [], allB, [], rfl, rfl, rfl, ⟨n, s, eg, eh⟩, ⟨rfl, by decide, ⟨by show (0 : Int) ≤ 0; decide, by show (0 : Int) < 65536; decide⟩, rfl, l2, fun p y hy => (by cases hy), fun y hy => (by cases hy), fun y hy => (by cases hy), rfl, l3, fun p y hy => (by cases hy), by show (allB ++ ([] : List Int)).Nodup; decide⟩, ⟨by decide, ⟨by show (0 : Int) ≤ 0; decide, by show (0 : Int) < 65536; decide⟩, rfl, l4, fun p y hy => ?_, fun j j0 j1 => ?_, rfl, l1, fun p y hy => (by cases hy), by decide, by decide, by decide⟩, newV_ok lm base, newV_hc lm base, ⟨b0, by rw [hl]; exact b1, by rw [hl]; exact b2⟩, rfl, hl, rfl, rfl, rfl, rfl, h0⟩, bl⟩
  · have hp : p < 8 := (List.getElem?_eq_some_iff.1 hy).1
    have hy2 : y = (p : Int) := by
      rcases (show p = 0 ∨ p = 1 ∨ p = 2 ∨ p = 3 ∨ p = 4 ∨ p = 5 ∨ p = 6 ∨ p = 7 by omega) with rfl | rfl | rfl | rfl | rfl | rfl | rfl | rfl <;> (injection hy with hy; exact hy.symm)
    rw [hy2]
    have := (o1 p hp).2
    rw [show ((0 : Int) + p) % 65536 = p by omega]
    exact this
  · obtain ⟨m, rfl⟩ := Int.eq_ofNat_of_zero_le j0
    exact (o1 m (by omega)).1
end Go.Proofs.Ytmlicejhkdkhnaa
