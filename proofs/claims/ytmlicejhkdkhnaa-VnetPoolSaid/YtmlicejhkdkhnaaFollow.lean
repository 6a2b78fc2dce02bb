/-
  The contract of package virtq's follow: the buffers of a chain that begins with a descriptor. Conditions: the port is one that Open made over a memory of at most 65536 bytes.
-/
import Derived.Test.YtmlicejhkdkhnaaPop
import Derived.Deep.CutRange
namespace Go.Proofs.Ytmlicejhkdkhnaa
open Go.RowKit Go.Sort

/-- A port that Open made over a memory. -/
structure PS (w : World) (p g h : Nat) (lm : List UInt8) (base : Int) (n : Nat) (taken told : Int) : Prop where
  mem : Mem w g h lm
  len : lm.length ≤ 65536
  at_ : PAt w p g base n taken told
  b0 : 0 ≤ base
  b1 : base + bytesOf n ≤ lm.length
  size : isSize n
  taken0 : 0 ≤ taken
  taken1 : taken ≤ 65535
  told0 : 0 ≤ told
  told1 : told ≤ 65535

section
variable {w : World} {p g h : Nat} {lm : List UInt8} {base : Int} {n : Nat} {taken told : Int}
theorem PS.n1 (s : PS w p g h lm base n taken told) : 1 ≤ n ∧ n ≤ 64 := by have := s.size.range; omega
theorem PS.bl (s : PS w p g h lm base n taken told) : base ≤ 65536 := by have := s.len; have := s.b1; have := (bytesOf_bd n).1; omega
theorem PS.ph (s : PS w p g h lm base n taken told) : p ≠ h := s.mem.not_u8 s.at_.c0 (fun x e => by cases e)
theorem PS.pg (s : PS w p g h lm base n taken told) : g ≠ p := by
  rintro rfl
  have h1 := s.mem.1
  have h2 := s.at_
  unfold PAt at h2
  rw [h1] at h2
  injection h2 with h2
  injection h2 with _ h2
  exact absurd h2 (by decide)
theorem PS.grown (s : PS w p g h lm base n taken told) {w' : World} (k : w.grownBy w' none) : PS w' p g h lm base n taken told :=
  { s with mem := s.mem.same k, at_ := s.at_.kept (k.block _ (lt_of_block s.at_) (by simp)) }
end

/-- The buffer that descriptor i tells of, whether it lies in the memory, its flags, the next one's number. -/
def dX (lm : List UInt8) (base i : Int) : (Int × Int × Bool) × Bool := dbuf lm.length (getX lm (base + 16 * i) 8) (getX lm (base + 16 * i + 8) 4) (getX lm (base + 16 * i + 12) 2)
def bfOf (x : Int × Int × Bool) : Bf := ⟨x.1, x.2.1, x.2.2⟩
/-- The chain from descriptor i on, behind those that were read, of at most f more. -/
def followF (lm : List UInt8) (base : Int) (n : Nat) : Nat → Int → List Bf → Option (List Bf)
  | 0, _, _ => none
  | f + 1, i, acc =>
    if i < n then
      if (dX lm base i).2 then
        if (getX lm (base + 16 * i + 12) 2 : Int) % 2 = 0 then
          if inOrd (acc ++ [bfOf (dX lm base i).1]) then some (acc ++ [bfOf (dX lm base i).1]) else none
        else followF lm base n f (getX lm (base + 16 * i + 14) 2) (acc ++ [bfOf (dX lm base i).1])
      else none
    else none

theorem followF_succ (lm : List UInt8) (base : Int) (n f : Nat) (i : Int) (acc : List Bf) : followF lm base n (f + 1) i acc =
    if i < n then
      if (dX lm base i).2 then
        if (getX lm (base + 16 * i + 12) 2 : Int) % 2 = 0 then
          if inOrd (acc ++ [bfOf (dX lm base i).1]) then some (acc ++ [bfOf (dX lm base i).1]) else none
        else followF lm base n f (getX lm (base + 16 * i + 14) 2) (acc ++ [bfOf (dX lm base i).1])
      else none
    else none := rfl
theorem own_type_ne {w : World} {base : Nat} {e t : TypeId} {size : Nat} {v : Value} {n : Nat} {xs : List Value} (h : w.ownsRow base e size v n xs) {d : Nat} {cs : Array Value} {m : Nat × Nat} (hd : w.heap[d]? = some (.cells cs t m)) (ht : e ≠ t) : some d ≠ v.ownBlock := by
  intro hv
  rcases h.2 with ⟨rfl, _⟩ | ⟨g, cap, cur, rfl, _, hh, _⟩
  · cases hv
  · have hg : d = g := by simpa [Value.ownBlock] using hv
    subst hg
    rw [hh] at hd
    injection hd with hd
    injection hd with _ hd
    exact ht hd

theorem bfs_len (l : List Bf) : (l.flatMap bfCells).length = l.length * 3 := by
  induction l with
  | nil => rfl
  | cons x l ih => simp only [List.flatMap_cons, List.length_append, ih, List.length_cons]; simp [bfCells]; omega
theorem bf_cell : ∀ (l : List Bf) (i : Nat) (h : i < l.length) (j : Nat), j < 3 → (l.flatMap bfCells)[i * 3 + j]? = (bfCells l[i])[j]?
  | [], i, h, _, _ => by simp at h
  | x :: l, 0, _, j, hj => by
    rw [List.flatMap_cons, List.getElem?_append_left (by simp [bfCells]; omega), Nat.zero_mul, Nat.zero_add]
    rfl
  | x :: l, i + 1, h, j, hj => by
    rw [List.flatMap_cons, List.getElem?_append_right (by simp [bfCells]; omega)]
    have e : (i + 1) * 3 + j - (bfCells x).length = i * 3 + j := by simp [bfCells]; omega
    rw [e, bf_cell l i (by simpa using h) j hj]
    rfl
theorem bufs_of_own {w : World} {base : Nat} {e : TypeId} {v : Value} {l : List Bf} (h : w.ownsRow base e 3 v l.length (l.flatMap bfCells)) (hl : l.length ≤ 1000) : IsBufs w v l := by
  rcases h.2 with ⟨rfl, h0⟩ | ⟨g, cap, cur, rfl, _⟩
  · exact ⟨none, 0, by rw [h0], hl, fun hp => absurd hp (by omega)⟩
  · refine ⟨some ⟨g, 0, none⟩, cap, rfl, hl, fun _ => ⟨g, 0, rfl, fun i hi => ?_⟩⟩
    refine ⟨?_, ?_, ?_⟩
    · have := h.cellAt (i * 3 + 0) (by omega)
      rw [bf_cell l i hi 0 (by omega)] at this
      rw [Nat.zero_add]; exact this
    · have := h.cellAt (i * 3 + 1) (by omega)
      rw [bf_cell l i hi 1 (by omega)] at this
      rw [Nat.zero_add]; exact this
    · have := h.cellAt (i * 3 + 2) (by omega)
      rw [bf_cell l i hi 2 (by omega)] at this
      rw [Nat.zero_add]; exact this
theorem three_new (w : World) (x y z : Value) (t : TypeId) : ∀ j u, [x, y, z][j]? = some u → (w.alloc (.cells #[x, y, z] t)).cell? ((⟨w.heap.size, 0, none⟩ : Addr).add j) = some u := by
  intro j u hu
  have hb := heap_alloc_new w (.cells #[x, y, z] t)
  have e1 : (⟨w.heap.size, 0, none⟩ : Addr).add j = ⟨w.heap.size, j, none⟩ := by rw [Addr.add_mid, Nat.zero_add]
  rw [e1, cell_of_block hb]
  simpa using hu
theorem info_buf : (Try.prog.info? 83).map (fun i => (i.zero, i.size, i.bytes)) = some (some (.agg #[.int .i64 0, .int .i64 0, .bool false]), 3, 24) := by kernel_rfl

theorem three_block {w : World} {g : Nat} {t : TypeId} {y0 y1 y2 : Value} (h : w.heap[g]? = some (.cells #[y0, y1, y2] t (0, 0))) (x0 x1 x2 : Value) :
    (((w.setCell ⟨g, 0, none⟩ x0).setCell ⟨g, 1, none⟩ x1).setCell ⟨g, 2, none⟩ x2).heap[g]? = some (.cells #[x0, x1, x2] t (0, 0)) :=
  set_block (set_block (set_block h 0 x0) 1 x1) 2 x2

/-- What the loads of follow's region read. -/
def FolS (w : World) (p g : Nat) (base : Int) (n : Nat) (taken told : Int) (d : Nat) (x1 x2 x3 x4 : Int) : Prop := PAt w p g base n taken told ∧ DescAt w d x1 x2 x3 x4
theorem FolS.next {w w' : World} {p g : Nat} {base : Int} {n : Nat} {taken told : Int} {d : Nat} {x1 x2 x3 x4 : Int} (s : FolS w p g base n taken told d x1 x2 x3 x4) (k : w.grownBy w' none) : FolS w' p g base n taken told d x1 x2 x3 x4 :=
  ⟨s.1.kept (k.block _ (lt_of_block s.1) (by simp)), (k.block _ (lt_of_block s.2) (by simp)).trans s.2⟩

/-- What follow comes to. -/
def FollowPost (w : World) (r : Option (List Bf)) (e : Ending) (w' : World) : Prop :=
  w.grownBy w' none ∧ ((r = none ∧ ∃ v, e = .returned (.tuple #[v, .bool false])) ∨ ∃ l v, r = some l ∧ e = .returned (.tuple #[v, .bool true]) ∧ IsBufs w' v l)

set_option maxRecDepth 100000 in
set_option maxHeartbeats 1600000 in
theorem follow_any (w : World) (p g h : Nat) (lm : List UInt8) (base : Int) (n : Nat) (taken told : Int) (s : PS w p g h lm base n taken told) (i : Int) (hi0 : 0 ≤ i) (hi1 : i ≤ 65535) :
    Calls Try.prog 75 #[.pointer (some ⟨p, 0, none⟩), .int .i64 i] w (FollowPost w (followF lm base n n i [])) := by
  obtain ⟨n1, n2⟩ := s.n1
  have hb0 := s.b0
  have hb1 := s.bl
  have hlen := s.len
  obtain ⟨R, hR⟩ : ∃ R, R = followF lm base n n i [] := ⟨_, rfl⟩
  rw [← hR]
  have HR := Lib.hid hR
  have S0 := Lib.hid s
  have ho0 : (w.alloc (.cells #[] 83)).ownsRow w.heap.size 83 3 (.slice (some ⟨w.heap.size, 0, none⟩) 0 0) ([] : List Bf).length (([] : List Bf).flatMap bfCells) :=
    ⟨rfl, .inr ⟨w.heap.size, 0, #[], rfl, Nat.le_refl _, heap_alloc_new w _, Nat.le_refl _, Nat.zero_le _, rfl, rfl⟩⟩
  have hbel := (Below.refl w.heap.size w).alloc (Nat.le_refl _) (.cells #[] 83)
  have s1 := s.grown (World.grownBy_alloc w (.cells #[] 83) none)
  have c2 := s1.at_.c2
  obtain ⟨j0, hj, hz0, hz1, hz2⟩ := info_parts info_buf
  clear hR s s1
  go_enter Try.func75, Try.ntmps75
  go_wp2_with fail
  generalize w.alloc (.cells #[] 83) = W1 at ho0 hbel c2 ⊢
  clear c2
  go_loopw [1, 6, 16] (fun iv lv cv wr => ∃ (c : Nat) (i : Int) (acc : List Bf), cv = .int .i64 c ∧ c ≤ n ∧ iv = .int .i64 i ∧ 0 ≤ i ∧ i ≤ 65535 ∧ acc.length = c ∧ wr.ownsRow w.heap.size 83 3 lv acc.length (acc.flatMap bfCells) ∧ Hid (R = followF lm base n (n - c) i acc) ∧ Below w.heap.size w wr) (fun _ _ cv _ => n - (intOf cv).toNat)
  case atStart => exact ⟨0, i, [], rfl, Nat.zero_le _, rfl, hi0, hi1, rfl, ho0, HR, hbel⟩
  case round =>
    clear ho0 hbel hi0 hi1
    obtain ⟨c, i, acc, rfl, hc, rfl, hi0, hi1, hacc, hown, HF, hB⟩ := hrel
    have kB : w.grownBy wr none := ⟨hB.os, hB.tape, hB.output, hB.size, fun j hj _ => hB.block j hj⟩
    have sr := S0.out.grown kB
    have c0 := sr.at_.c0
    have c1 := sr.at_.c1
    have c2 := sr.at_.c2
    have SR := Lib.hid sr
    clear sr
    by_cases hlt : c < n
    · have hstep := followF_succ lm base n (n - (c + 1)) i acc
      rw [show n - (c + 1) + 1 = n - c by omega, ← HF.out] at hstep
      by_cases hin : i < n
      · rw [if_pos hin] at hstep
        have hid : decide ((n : Int) ≤ i) = false := decide_eq_false (by omega)
        obtain ⟨x1, hx1⟩ : ∃ x : Int, x = getX lm (base + 16 * i) 8 := ⟨_, rfl⟩
        obtain ⟨x2, hx2⟩ : ∃ x : Int, x = getX lm (base + 16 * i + 8) 4 := ⟨_, rfl⟩
        obtain ⟨x3, hx3, x30, x31⟩ := getX2 lm (base + 16 * i + 12)
        obtain ⟨x4, hx4, x40, x41⟩ := getX2 lm (base + 16 * i + 14)
        have x10 : 0 ≤ x1 := by omega
        have x20 : 0 ≤ x2 := by omega
        have DC := fun w m => descriptor_any w g h lm m base n hlen hb0 hb1 i hi0 hi1
        rw [← hx1, ← hx2, ← hx3, ← hx4] at DC
        unfold dX at hstep
        rw [← hx1, ← hx2, ← hx3, ← hx4] at hstep
        have BC := fun w m => buf_any w g h lm m base n hlen x1 x2 x3 x4 x10 x20 x30 x31
        obtain ⟨D, hD⟩ : ∃ D, dbuf lm.length x1 x2 x3 = D := ⟨_, rfl⟩
        rw [hD] at BC hstep
        obtain ⟨⟨ba, bn, bw⟩, ok⟩ := D
        simp only at BC hstep
        have hf1 := and_one x3 x30 x31
        have DC' := Lib.hid DC
        have BC' := Lib.hid BC
        have HS := Lib.hid hstep
        have HF1 := Lib.hid hf1
        clear DC BC hstep hx1 hx2 hx3 hx4 hD hf1 x10 x20
        go_upto_region 7 with (go_at_call 98; refine (DC'.out _ SR.out.mem).mono ?_; rintro e w3 ⟨rfl, k3⟩)
        have d3 := heap_alloc_new w3 (.cells #[.int .u64 x1, .int .u64 x2, .int .u64 x3, .int .u64 x4] 154)
        have k4 := k3.trans (World.grownBy_alloc w3 (.cells #[.int .u64 x1, .int .u64 x2, .int .u64 x3, .int .u64 x4] 154) none)
        generalize w3.alloc _ = W4 at d3 k4 ⊢
        have s4 := SR.out.grown k4
        have S4 := Lib.hid s4
        have hs4 : FolS W4 p g base n taken told w3.heap.size x1 x2 x3 x4 := ⟨s4.at_, d3⟩
        have HS4 := Lib.hid hs4
        have hd4 := lt_of_block d3
        have hown4 := hown.kept k4 (Classical.em _)
        have HOWN := Lib.hid hown4
        clear s4 hs4 c0 c1 c2 d3 k3 hown4 hown SR DC'
        go_cut [8, 9] from 17 to 56 (fun v8 v9 w' => ∃ X, v8 = .pointer (some ⟨X, 0, none⟩) ∧ v9 = .bool ok ∧ w'.heap[X]? = some (.cells #[.int .i64 ba, .int .i64 bn, .bool bw] 83 (0, 0)) ∧ W4.grownBy w' none)
        case first =>
          refine wp_region_noPanic ?_
          refine region_held (S := fun w' => FolS w' p g base n taken told w3.heap.size x1 x2 x3 x4) (by kernel_rfl) (fun V d => HS4.out.next d.grown) (fun V5 d5 hS => ?_)
          refine wpAnyH_take (i := 0) (v := (.pointer (some ⟨p, 0, none⟩))) rfl (by kernel_rfl) (by kernel_rfl) (by kernel_rfl) (fun _ _ _ h => h) (Or.inl ⟨by rfl, fun w' h' => ?_⟩) hS ?_
          · go_simp
          simp only [Act.put]
          refine wpAnyH_take (i := 1) (v := (.pointer (some ⟨p, 0, none⟩))) rfl (by kernel_rfl) (by kernel_rfl) (by kernel_rfl) (fun _ _ _ h => h) (Or.inl ⟨by rfl, fun w' h' => ?_⟩) hS ?_
          · go_simp
          simp only [Act.put]
          refine wpAnyH_take (i := 2) (v := (.pointer (some ⟨p, 0, none⟩))) rfl (by kernel_rfl) (by kernel_rfl) (by kernel_rfl) (fun _ _ _ h => h) (Or.inl ⟨by rfl, fun w' h' => ?_⟩) hS ?_
          · go_simp
          simp only [Act.put]
          refine wpAnyH_take (i := 3) (v := (.agg #[.pointer (some ⟨g, 0, none⟩), .int .i64 base, .int .i64 n])) rfl (by kernel_rfl) (by kernel_rfl) (by kernel_rfl) (fun _ _ _ h => h) (Or.inl ⟨by rfl, fun w' h' => ?_⟩) hS ?_
          · have c0 := h'.1.c0
            have c1 := h'.1.c1
            have c2 := h'.1.c2
            clear h'
            go_simp
          simp only [Act.put]
          refine wpAnyH_take (i := 4) (v := (.agg #[.int .u64 x1, .int .u64 x2, .int .u64 x3, .int .u64 x4])) rfl (by kernel_rfl) (by kernel_rfl) (by kernel_rfl) (fun _ _ _ h => h) (Or.inl ⟨by rfl, fun w' h' => ?_⟩) hS ?_
          · have c0 := cell_of_block (i := 0) h'.2
            have c1 := cell_of_block (i := 1) h'.2
            have c2 := cell_of_block (i := 2) h'.2
            have c3 := cell_of_block (i := 3) h'.2
            clear h'
            go_simp
          simp only [Act.put]
          have k5 := d5.grown
          have m5 := (S4.out.grown k5).mem
          have HS5 := Lib.hid hS
          clear d5 hS
          refine wpAnyH_ready (rs := [5, 9]) (by kernel_rfl) (by simp) ?_
          refine AllReadyH.cons rfl (fun K hK => ?_) (AllReadyH.cons rfl (fun K hK => ?_) AllReadyH.nil)
          · go_simp
            refine (BC'.out V5 m5).mono ?_
            rintro e w6 ⟨rfl, k6⟩
            have h6 := HS5.out.next k6
            have k56 := k5.trans k6
            go_simp
            refine hK.out _ _ h6 (fun _ => ?_)
            clear hK K
            refine wpAnyH_take (i := 6) (v := (.tuple #[.agg #[.int .i64 ba, .int .i64 bn, .bool bw], .bool ok])) rfl (by kernel_rfl) (by kernel_rfl) (by kernel_rfl) (fun _ _ _ h => h) (Or.inl ⟨by rfl, fun w' h' => ?_⟩) h6 ?_
            · go_simp
            simp only [Act.put]
            refine wpAnyH_take (i := 7) (v := (.agg #[.int .i64 ba, .int .i64 bn, .bool bw])) rfl (by kernel_rfl) (by kernel_rfl) (by kernel_rfl) (fun _ _ _ h => h) (Or.inl ⟨by rfl, fun w' h' => ?_⟩) h6 ?_
            · go_simp
            simp only [Act.put]
            refine wpAnyH_take (i := 8) (v := (.bool ok)) rfl (by kernel_rfl) (by kernel_rfl) (by kernel_rfl) (fun _ _ _ h => h) (Or.inl ⟨by rfl, fun w' h' => ?_⟩) h6 ?_
            · go_simp
            simp only [Act.put]
            have h7 := h6.next (World.grownBy_alloc w6 (.cells #[.int .i64 0, .int .i64 0, .bool false] 83) none)
            have h8 := h6.next (World.grownBy_alloc w6 (.cells #[.int .i64 ba, .int .i64 bn, .bool bw] 83) none)
            have b8 := heap_alloc_new w6 (.cells #[.int .i64 ba, .int .i64 bn, .bool bw] 83)
            have k8 := k56.trans (World.grownBy_alloc w6 (.cells #[.int .i64 ba, .int .i64 bn, .bool bw] 83) none)
            refine wpAnyH_ready (rs := [9]) (by kernel_rfl) (by simp) ?_
            refine AllReadyH.cons rfl (fun K hK => ?_) AllReadyH.nil
            go_simp
            refine hK.out _ _ h7 (fun _ => ?_)
            clear hK K
            refine wpAnyH_ready (rs := [10]) (by kernel_rfl) (by simp) ?_
            refine AllReadyH.cons rfl (fun K hK => ?_) AllReadyH.nil
            go_simp
            refine hK.out _ _ h8 (fun _ => ?_)
            clear hK K
            refine wpAnyH_ready (rs := [11]) (by kernel_rfl) (by simp) ?_
            refine AllReadyH.cons rfl (fun K hK => ?_) AllReadyH.nil
            go_simp
            refine hK.out _ _ h8 (fun _ => ?_)
            clear hK K
            refine wpAnyH_done (by kernel_rfl) (NoPanic.normal ?_) _
            go_wp2_with fail
            go_meet
            case rel => exact ⟨w6.heap.size, rfl, rfl, b8, k8⟩
          · go_simp
            have k6 := World.grownBy_alloc V5 (.cells #[.int .i64 0, .int .i64 0, .bool false] 83) none
            have h6 := HS5.out.next k6
            refine hK.out _ _ h6 (fun _ => ?_)
            clear hK K
            have b6 := heap_alloc_new V5 (.cells #[.int .i64 0, .int .i64 0, .bool false] 83)
            have m6 := m5.same k6
            refine wpAnyH_ready (rs := [5]) (by kernel_rfl) (by simp) ?_
            refine AllReadyH.cons rfl (fun K hK => ?_) AllReadyH.nil
            go_simp
            refine (BC'.out _ m6).mono ?_
            rintro e w7 ⟨rfl, k7⟩
            have h7 := h6.next k7
            have b7 := (k7.block _ (lt_of_block b6) (by simp)).trans b6
            have k57 := (k5.trans k6).trans k7
            go_simp
            refine hK.out _ _ h7 (fun _ => ?_)
            clear hK K
            refine wpAnyH_take (i := 6) (v := (.tuple #[.agg #[.int .i64 ba, .int .i64 bn, .bool bw], .bool ok])) rfl (by kernel_rfl) (by kernel_rfl) (by kernel_rfl) (fun _ _ _ h => h) (Or.inl ⟨by rfl, fun w' h' => ?_⟩) h7 ?_
            · go_simp
            simp only [Act.put]
            refine wpAnyH_take (i := 7) (v := (.agg #[.int .i64 ba, .int .i64 bn, .bool bw])) rfl (by kernel_rfl) (by kernel_rfl) (by kernel_rfl) (fun _ _ _ h => h) (Or.inl ⟨by rfl, fun w' h' => ?_⟩) h7 ?_
            · go_simp
            simp only [Act.put]
            refine wpAnyH_take (i := 8) (v := (.bool ok)) rfl (by kernel_rfl) (by kernel_rfl) (by kernel_rfl) (fun _ _ _ h => h) (Or.inl ⟨by rfl, fun w' h' => ?_⟩) h7 ?_
            · go_simp
            simp only [Act.put]
            have e0 := cell_of_block (i := 0) b7
            have e1 := cell_of_block (i := 1) b7
            have e2 := cell_of_block (i := 2) b7
            have g0 := frozen_of_block (i := 0) b7
            have g1 := frozen_of_block (i := 1) b7
            have g2 := frozen_of_block (i := 2) b7
            have b8 := three_block b7 (.int .i64 ba) (.int .i64 bn) (.bool bw)
            have hne : p ≠ V5.heap.size ∧ w3.heap.size ≠ V5.heap.size := ⟨Nat.ne_of_lt (lt_of_block HS5.out.1), Nat.ne_of_lt (lt_of_block HS5.out.2)⟩
            have h8 : FolS (((w7.setCell ⟨V5.heap.size, 0, none⟩ (.int .i64 ba)).setCell ⟨V5.heap.size, 1, none⟩ (.int .i64 bn)).setCell ⟨V5.heap.size, 2, none⟩ (.bool bw)) p g base n taken told w3.heap.size x1 x2 x3 x4 := by
              refine ⟨h7.1.kept ?_, Eq.trans ?_ h7.2⟩
              · rw [Below.heap_setCell _ _ _ _ hne.1, Below.heap_setCell _ _ _ _ hne.1, Below.heap_setCell _ _ _ _ hne.1]
              · rw [Below.heap_setCell _ _ _ _ hne.2, Below.heap_setCell _ _ _ _ hne.2, Below.heap_setCell _ _ _ _ hne.2]
            have k8 := three_grown k57 (by have := k5.size; omega) (.int .i64 ba) (.int .i64 bn) (.bool bw)
            clear hne
            refine wpAnyH_ready (rs := [10]) (by kernel_rfl) (by simp) ?_
            refine AllReadyH.cons rfl (fun K hK => ?_) AllReadyH.nil
            go_simp
            refine hK.out _ _ h8 (fun _ => ?_)
            clear hK K
            refine wpAnyH_ready (rs := [11]) (by kernel_rfl) (by simp) ?_
            refine AllReadyH.cons rfl (fun K hK => ?_) AllReadyH.nil
            go_simp
            refine hK.out _ _ h8 (fun _ => ?_)
            clear hK K
            refine wpAnyH_done (by kernel_rfl) (NoPanic.normal ?_) _
            go_wp2_with fail
            go_meet
            case rel => exact ⟨V5.heap.size, rfl, rfl, b8, k8⟩
        case rest =>
          obtain ⟨X, rfl, rfl, bX, kX⟩ := hcut
          have kc := k4.trans kX
          have kwc := kB.trans kc
          have dC := (kX.block _ (lt_of_block HS4.out.2) (by simp)).trans HS4.out.2
          have hownc := HOWN.out.kept kX (Classical.em _)
          cases ok with
          | false =>
            have hz : R = none := by rw [HS.out]; rfl
            subst hz
            clear bX dC
            go_wp2_with fail
            go_ret2
            exact ⟨kwc, .inl ⟨rfl, _, rfl⟩⟩
          | true =>
            have hst := HS.out
            rw [if_pos rfl] at hst
            have c0 := cell_of_block (i := 0) bX
            have c1 := cell_of_block (i := 1) bX
            have c2 := cell_of_block (i := 2) bX
            have hbc := hB.trans (show Below w.heap.size wr wc from ⟨kc.os, kc.tape, kc.output, kc.size, fun j hj => kc.block j (by have := kB.size; omega) (by simp)⟩)
            have hbs := hbc.size
            have hne := own_type_ne hownc dC (by decide)
            have hlen3 : acc.length ≤ 64 := by omega
            have HST := Lib.hid hst
            clear bX hst
            go_wp2_with (at_builtin; refine wpList_append_own _ rfl _ _ 84 rfl w.heap.size 83 j0 (.agg #[.int .i64 0, .int .i64 0, .bool false]) 3 24 Try.underlying84 hj hz0 hz1 hz2 rfl (by decide) _ _ _ rfl (hownc.alloc _) ⟨wc.heap.size, 0, none⟩ 1 1 [.int .i64 ba, .int .i64 bn, .bool bw] rfl rfl ?c1 ?c2 ?c3 ?c4 ?c5 ?_)
            case c2 => first | rfl | (simp [Value.oneCell']; done)
            case c3 => unfold maxLen; omega
            case c4 => omega
            case c5 => first | omega | (simp; omega)
            intro v' w5 hown' hgrow _
            have hb5 : Below w.heap.size w w5 := (hbc.alloc hbc.size _).grown hgrow (by simp; omega) (own_ge hownc)
            have dA := Below.heap_alloc wc (.cells #[.int .i64 ba, .int .i64 bn, .bool bw] 83) _ (lt_of_block dC)
            have d5 := (hgrow.block _ (by simp; have := lt_of_block dC; omega) hne).trans (dA.trans dC)
            have e2 := cell_of_block (i := 2) d5
            have e3 := cell_of_block (i := 3) d5
            have hl2 : (acc ++ [(⟨ba, bn, bw⟩ : Bf)]).length = acc.length + 1 := by simp
            have hf2 : (acc ++ [(⟨ba, bn, bw⟩ : Bf)]).flatMap bfCells = acc.flatMap bfCells ++ [.int .i64 ba, .int .i64 bn, .bool bw] := by rw [List.flatMap_append]; rfl
            have hown2 : w5.ownsRow w.heap.size 83 3 v' (acc ++ [(⟨ba, bn, bw⟩ : Bf)]).length ((acc ++ [(⟨ba, bn, bw⟩ : Bf)]).flatMap bfCells) := by rw [hl2, hf2, hacc]; exact hown'
            have HL2 := Lib.hid hl2
            have kw5 : w.grownBy w5 none := ⟨hb5.os, hb5.tape, hb5.output, hb5.size, fun j hj _ => hb5.block j hj⟩
            clear hl2 hf2 hown' hgrow hne dA d5 dC c0 c1 c2 hownc hbc
            by_cases hz : x3 % 2 = 0
            · have hb1' : (bits .and .u64 x3 1 == 0) = true := by rw [HF1.out, hz]; rfl
              have hrv := HST.out
              rw [if_pos hz] at hrv
              have IC := Lib.hid (inOrder_any w5 v' _ (bufs_of_own hown2 (by have := HL2.out; omega)))
              have hfin := bufs_of_own hown2 (by have := HL2.out; omega)
              have HB5 := Lib.hid hfin
              change R = if inOrd (acc ++ [(⟨ba, bn, bw⟩ : Bf)]) then some (acc ++ [(⟨ba, bn, bw⟩ : Bf)]) else none at hrv
              have HRV := Lib.hid hrv
              clear hz hrv hfin hown2
              go_wp2_with fail
              refine IC.out.mono ?_
              rintro e w6 ⟨rfl, k6⟩
              have kw6 := kw5.trans k6
              have HB6 := Lib.hid (HB5.out.grown k6)
              cases hio : inOrd (acc ++ [(⟨ba, bn, bw⟩ : Bf)]) with
              | true =>
                have hRv := HRV.out
                rw [hio, if_pos rfl] at hRv
                subst hRv
                go_wp2_with fail
                go_ret2
                exact ⟨kw6, .inr ⟨_, _, rfl, rfl, HB6.out⟩⟩
              | false =>
                have hRv := HRV.out
                rw [hio, if_neg (by decide)] at hRv
                subst hRv
                go_wp2_with fail
                go_ret2
                exact ⟨kw6, .inl ⟨rfl, _, rfl⟩⟩
            · have hb1' : (bits .and .u64 x3 1 == 0) = false := by rw [HF1.out]; exact beq_eq_false_iff_ne.2 hz
              have hrv := HST.out
              rw [if_neg hz] at hrv
              have HRV : Hid (R = followF lm base n (n - (c + 1)) x4 (acc ++ [(⟨ba, bn, bw⟩ : Bf)])) := Lib.hid hrv
              clear hz hrv
              go_wp2_with fail
              go_roundw
              case rel => exact ⟨c + 1, x4, acc ++ [(⟨ba, bn, bw⟩ : Bf)], by go_num, by omega, rfl, x40, x41, by rw [HL2.out]; omega, hown2, HRV, hb5⟩
              case measure => simp [intOf]; omega
      · rw [if_neg hin] at hstep
        have hid : decide ((n : Int) ≤ i) = true := decide_eq_true (by omega)
        subst hstep
        clear hin
        go_wp2_with fail
        go_ret2
        exact ⟨kB, .inl ⟨rfl, _, rfl⟩⟩
    · have hz : R = none := by rw [HF.out, show n - c = 0 by omega]; rfl
      have hd : decide ((c : Int) < n) = false := decide_eq_false (by omega)
      have hd2 : decide (c < n) = false := decide_eq_false hlt
      subst hz
      clear hlt
      go_wp2_with fail
      go_ret2
      exact ⟨kB, .inl ⟨rfl, _, rfl⟩⟩

end Go.Proofs.Ytmlicejhkdkhnaa
