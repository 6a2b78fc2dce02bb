/-
  The contract of package virtq's Pop. Conditions: the queue is one that New made over a memory of at most 65536 bytes, in which it lies.
-/
import Derived.Test.YtmlicejhkdkhnaaAdd
namespace Go.Proofs.Ytmlicejhkdkhnaa
open Go.RowKit Go.Sort

/-- The used index, and the next used entry. -/
def usedI (lm : List UInt8) (base : Int) (n : Nat) : Int := getX lm (base + usedAt n + 2) 2
def usedNum (lm : List UInt8) (base : Int) (n : Nat) (back : Int) : Int := getX lm (base + usedAt n + 4 + 8 * (back % n)) 4
def usedLen (lm : List UInt8) (base : Int) (n : Nat) (back : Int) : Int := getX lm (base + usedAt n + 4 + 8 * (back % n) + 4) 4

theorem usedI_bd (lm : List UInt8) (base : Int) (n : Nat) : 0 ≤ usedI lm base n ∧ usedI lm base n ≤ 65535 := by
  obtain ⟨X, hX, h0, h1⟩ := getX2 lm (base + usedAt n + 2)
  unfold usedI
  rw [← hX]
  exact ⟨h0, h1⟩
theorem usedNum_bd (lm : List UInt8) (base : Int) (n : Nat) (back : Int) : 0 ≤ usedNum lm base n back ∧ usedNum lm base n back ≤ 4294967295 := by
  obtain ⟨X, hX, h0, h1⟩ := getX4 lm (base + usedAt n + 4 + 8 * (back % n))
  unfold usedNum
  rw [← hX]
  exact ⟨h0, h1⟩
theorem usedLen_bd (lm : List UInt8) (base : Int) (n : Nat) (back : Int) : 0 ≤ usedLen lm base n back ∧ usedLen lm base n back ≤ 4294967295 := by
  obtain ⟨X, hX, h0, h1⟩ := getX4 lm (base + usedAt n + 4 + 8 * (back % n) + 4)
  unfold usedLen
  rw [← hX]
  exact ⟨h0, h1⟩

set_option maxHeartbeats 400000 in
theorem Pop_broken (w : World) (q g : Nat) (base n : Int) (mp : Option Nat) (off back : Int) (h : QAt w q g base n mp off back true) :
    Calls Try.prog 46 #[.pointer (some ⟨q, 0, none⟩)] w fun e w' => e = .returned (.tuple #[.int .i64 0, .int .i64 0, .int .i64 11]) ∧ w = w' := by
  have CC := Lib.hid (closed_any w q g base n mp off back true h)
  go_enter Try.func46, Try.ntmps46
  go_wp2_with fail
  refine CC.out.mono ?_
  rintro e w1 ⟨rfl, rfl⟩
  go_wp2_with fail
  go_ret3
  exact ⟨rfl, rfl⟩

/-- What Pop comes to. -/
def PopPost (w : World) (q g h : Nat) (lm : List UInt8) (base : Int) (n mb : Nat) (cs : List Oc) (off back : Int) (e : Ending) (w' : World) : Prop :=
  (usedI lm base n = back ∧ e = .returned (.tuple #[.int .i64 0, .int .i64 0, .int .i64 4]) ∧ w.grownBy w' none) ∨
  (usedI lm base n ≠ back ∧ ((cs.length : Int) < (usedI lm base n - back) % 65536 ∨ (∀ x ∈ cs, x.c.head ≠ usedNum lm base n back) ∨ (∃ x ∈ cs, x.c.head = usedNum lm base n back ∧ x.c.most < usedLen lm base n back)) ∧
    e = .returned (.tuple #[.int .i64 0, .int .i64 0, .int .i64 8]) ∧ QS w' q g h lm base n mb cs off back true ∧ Turned (QB q h mb) w w') ∨
  (∃ x ∈ cs, usedI lm base n ≠ back ∧ (usedI lm base n - back) % 65536 ≤ cs.length ∧ x.c.head = usedNum lm base n back ∧ usedLen lm base n back ≤ x.c.most ∧
    e = .returned (.tuple #[.int .i64 (usedNum lm base n back), .int .i64 (usedLen lm base n back), .int .i64 0]) ∧ QS w' q g h lm base n mb (cs.filter fun y => y.c.head != usedNum lm base n back) off ((back + 1) % 65536) false ∧ Turned (QB q h mb) w w')

theorem zero_chain (w : World) : (zeroValue 133).run Try.prog w = .ok (.agg #[.slice none 0 0, .int .i64 0]) w := by kernel_rfl

theorem QS.setBroken {w : World} {q g h : Nat} {lm : List UInt8} {base : Int} {n mb : Nat} {cs : List Oc} {off back : Int} {broken : Bool} (s : QS w q g h lm base n mb cs off back broken) : QS (w.setCell ⟨q, 6, none⟩ (.bool true)) q g h lm base n mb cs off back true := by
  have k := grown_setCell w q 6 (.bool true)
  exact { s with
    mem := s.mem.kept k (fun e => s.qg (by injection e)) (fun e => s.qh (by injection e with e; exact e.symm))
    at_ := set_block s.at_ 6 (.bool true)
    tab := s.tab.kept (k.block _ s.lts.2.2.2 (fun e => s.mbne.1 (by injection e)))
    nums := fun x hx => s.numsTurned (Turned.of k (fun j e => .inr (.inl (by injection e with e; exact e.symm)))) hx }

set_option maxRecDepth 100000 in
set_option maxHeartbeats 1600000 in
theorem Pop_any (w : World) (q g h : Nat) (lm : List UInt8) (base : Int) (n mb : Nat) (cs : List Oc) (off back : Int) (s : QS w q g h lm base n mb cs off back false) :
    Calls Try.prog 46 #[.pointer (some ⟨q, 0, none⟩)] w (PopPost w q g h lm base n mb cs off back) := by
  have CC := Lib.hid (closed_any w q g base n (some mb) off back false s.at_)
  obtain ⟨n1, n2⟩ := s.n1
  have hb1 := s.bl
  have hb0 := s.b0
  have back0 := s.back0
  have back1 := s.back1
  have hqh := s.qh
  have hqg := s.qg
  obtain ⟨mq, mg, mh⟩ := s.mbne
  have hu := usedAt_bd (n := (n : Int)) (by omega) (by omega)
  obtain ⟨u0, u1⟩ := hu
  have hlen := s.len
  have hr0 : 0 ≤ back % (n : Int) := Int.emod_nonneg _ (by omega)
  have hr1 : back % (n : Int) < n := Int.emod_lt_of_pos _ (by omega)
  obtain ⟨I, hI⟩ : ∃ I, I = usedI lm base n := ⟨_, rfl⟩
  obtain ⟨N, hN⟩ : ∃ N, N = usedNum lm base n back := ⟨_, rfl⟩
  obtain ⟨L, hL⟩ : ∃ L, L = usedLen lm base n back := ⟨_, rfl⟩
  have hIb := usedI_bd lm base n
  have hNb := usedNum_bd lm base n back
  have hLb := usedLen_bd lm base n back
  rw [← hI] at hIb
  rw [← hN] at hNb
  rw [← hL] at hLb
  obtain ⟨I0, I1⟩ := hIb
  obtain ⟨N0, N1⟩ := hNb
  obtain ⟨L0, L1⟩ := hLb
  have UC := fun w m => usedIndex_any w g h lm m base n hlen hb0 hb1 (by omega) (by omega)
  have AC := fun w => vusedAt_any w g base n hb0 hb1 (by omega) (by omega) back back0 back1
  have GC := fun w m a k => aget_any w g h lm m base n a k hlen
  unfold PopPost
  rw [← hI, ← hN, ← hL]
  unfold usedI at hI
  unfold usedNum at hN
  unfold usedLen at hL
  rw [← hI] at UC
  obtain ⟨ro, hro⟩ : ∃ r, back % (n : Int) = r := ⟨_, rfl⟩
  rw [hro] at hr0 hr1 hN hL AC
  obtain ⟨at_, hat⟩ : ∃ a, a = base + usedAt n + 4 + 8 * ro := ⟨_, rfl⟩
  rw [← hat] at hN hL AC
  have at0 : 0 ≤ at_ := by omega
  have at1 : at_ ≤ 100000 := by omega
  have GN := fun w m => GC w m at_ 4
  have GL := fun w m => GC w m (at_ + 4) 4
  rw [← hN] at GN
  rw [← hL] at GL
  have hw16 := wrap_u16 (I - back)
  obtain ⟨D, hD⟩ : ∃ D, (I - back) % 65536 = D := ⟨_, rfl⟩
  rw [hD] at hw16 ⊢
  have D0 : 0 ≤ D := by omega
  have D1 : D ≤ 65535 := by omega
  have hDz : D = 0 ↔ I = back := by omega
  have UC' := Lib.hid UC
  have AC' := Lib.hid AC
  have GN' := Lib.hid GN
  have GL' := Lib.hid GL
  have S0 := Lib.hid s
  have q0 := s.at_
  have HDZ := Lib.hid hDz
  clear UC AC GN GL GC hI hN hL hro hat hD hDz s
  go_enter Try.func46, Try.ntmps46
  go_wp2_with fail
  refine CC.out.mono ?_
  rintro e w1 ⟨rfl, rfl⟩
  go_wp2_with fail
  refine wp_region_noPanic ?_
  refine region_held (S := fun w' => QAt w' q g base n (some mb) off back false) (by kernel_rfl) (fun V d => q0.kept (d.block _)) (fun V1 d1 hS => ?_)
  refine wpAnyH_take (i := 0) (v := (.pointer (some ⟨q, 0, none⟩))) rfl (by kernel_rfl) (by kernel_rfl) (by kernel_rfl) (fun _ _ _ h => h) (Or.inl ⟨by rfl, fun w' h' => ?_⟩) hS ?_
  · go_simp
  simp only [Act.put]
  refine wpAnyH_take (i := 1) (v := (.pointer (some ⟨q, 0, none⟩))) rfl (by kernel_rfl) (by kernel_rfl) (by kernel_rfl) (fun _ _ _ h => h) (Or.inl ⟨by rfl, fun w' h' => ?_⟩) hS ?_
  · go_simp
  simp only [Act.put]
  refine wpAnyH_take (i := 2) (v := (.pointer (some ⟨q, 0, none⟩))) rfl (by kernel_rfl) (by kernel_rfl) (by kernel_rfl) (fun _ _ _ h => h) (Or.inl ⟨by rfl, fun w' h' => ?_⟩) hS ?_
  · go_simp
  simp only [Act.put]
  refine wpAnyH_take (i := 3) (v := (.agg #[.pointer (some ⟨g, 0, none⟩), .int .i64 base, .int .i64 n])) rfl (by kernel_rfl) (by kernel_rfl) (by kernel_rfl) (fun _ _ _ h => h) (Or.inl ⟨by rfl, fun w' h' => ?_⟩) hS ?_
  · have c0 := h'.c0
    have c1 := h'.c1
    have c2 := h'.c2
    clear h'
    go_simp
  simp only [Act.put]
  refine wpAnyH_take (i := 5) (v := (.pointer (some ⟨q, 0, none⟩))) rfl (by kernel_rfl) (by kernel_rfl) (by kernel_rfl) (fun _ _ _ h => h) (Or.inl ⟨by rfl, fun w' h' => ?_⟩) hS ?_
  · go_simp
  simp only [Act.put]
  refine wpAnyH_take (i := 6) (v := (.pointer (some ⟨q, 0, none⟩))) rfl (by kernel_rfl) (by kernel_rfl) (by kernel_rfl) (fun _ _ _ h => h) (Or.inl ⟨by rfl, fun w' h' => ?_⟩) hS ?_
  · go_simp
  simp only [Act.put]
  refine wpAnyH_take (i := 7) (v := (.pointer (some ⟨q, 5, none⟩))) rfl (by kernel_rfl) (by kernel_rfl) (by kernel_rfl) (fun _ _ _ h => h) (Or.inl ⟨by rfl, fun w' h' => ?_⟩) hS ?_
  · go_simp
  simp only [Act.put]
  refine wpAnyH_take (i := 8) (v := (.int .u16 back)) rfl (by kernel_rfl) (by kernel_rfl) (by kernel_rfl) (fun _ _ _ h => h) (Or.inl ⟨by rfl, fun w' h' => ?_⟩) hS ?_
  · have c0 := h'.c5
    clear h'
    go_simp
  simp only [Act.put]
  have s1 := S0.out.grown d1.grown
  have k1 := d1.grown
  clear d1 hS q0
  refine wpAnyH_ready (rs := [4]) (by kernel_rfl) (by simp) ?_
  refine AllReadyH.cons rfl (fun K hK => ?_) AllReadyH.nil
  go_simp
  refine (UC'.out V1 s1.mem).mono ?_
  rintro e w2 ⟨rfl, k2⟩
  have s2 := s1.grown k2
  have k2' := k1.trans k2
  go_simp
  refine hK.out _ _ s2.at_ (fun _ => ?_)
  clear hK K
  refine wpAnyH_ready (rs := [9]) (by kernel_rfl) (by simp) ?_
  refine AllReadyH.cons rfl (fun K hK => ?_) AllReadyH.nil
  go_simp
  refine hK.out _ _ s2.at_ (fun _ => ?_)
  clear hK K
  refine wpAnyH_ready (rs := [10]) (by kernel_rfl) (by simp) ?_
  refine AllReadyH.cons rfl (fun K hK => ?_) AllReadyH.nil
  go_simp
  refine hK.out _ _ s2.at_ (fun _ => ?_)
  clear hK K
  refine wpAnyH_ready (rs := [11]) (by kernel_rfl) (by simp) ?_
  refine AllReadyH.cons rfl (fun K hK => ?_) AllReadyH.nil
  go_simp
  refine hK.out _ _ s2.at_ (fun _ => ?_)
  clear hK K
  refine wpAnyH_done (by kernel_rfl) (NoPanic.normal ?_) _
  have S2 := Lib.hid s2
  have K2 := Lib.hid k2'
  clear k1 k2 k2' s1 s2 UC' CC
  by_cases hz : D = 0
  · have hzb : (D == 0) = true := beq_iff_eq.2 hz
    have hIe := HDZ.out.1 hz
    have HIe := Lib.hid hIe
    clear hz hIe
    go_wp2_with fail
    go_ret3
    exact .inl ⟨HIe.out, rfl, K2.out⟩
  · have hzb : (D == 0) = false := beq_eq_false_iff_ne.2 hz
    have HIe : Hid (I ≠ back) := Lib.hid (fun e => hz (HDZ.out.2 e))
    clear hz
    go_wp2_with fail
    refine region_tail 8 (by kernel_rfl) (by kernel_rfl) (fun V3 d3 => ?_)
    have s3 := S2.out.grown d3.grown
    have k3 := K2.out.trans d3.grown
    have c0 := s3.at_.c0
    have c1 := s3.at_.c1
    have c2 := s3.at_.c2
    have c5 := s3.at_.c5
    have S3 := Lib.hid s3
    clear d3 s3
    simp only [List.take_succ_cons, List.take_zero, List.drop_succ_cons, List.drop_zero]
    repeat still_step
    refine wpStill_nil ?_
    go_wp2_with fail
    refine (AC'.out V3).mono ?_
    rintro e w4 ⟨rfl, k4⟩
    have s4 := S3.out.grown k4
    have k4' := k3.trans k4
    have q4 := s4.at_
    clear c0 c1 c2 c5
    go_wp2_with fail
    have hw4 : IntKind.i64.wrap (at_ + 4) = at_ + 4 := IntWalk.i64_in _ (by omega)
    refine wp_region_noPanic ?_
    refine region_held (S := fun w' => QAt w' q g base n (some mb) off back false) (by kernel_rfl) (fun V d => q4.kept (d.block _)) (fun V5 d5 hS => ?_)
    refine wpAnyH_take (i := 0) (v := (.pointer (some ⟨q, 0, none⟩))) rfl (by kernel_rfl) (by kernel_rfl) (by kernel_rfl) (fun _ _ _ h => h) (Or.inl ⟨by rfl, fun w' h' => ?_⟩) hS ?_
    · go_simp
    simp only [Act.put]
    refine wpAnyH_take (i := 1) (v := (.pointer (some ⟨q, 0, none⟩))) rfl (by kernel_rfl) (by kernel_rfl) (by kernel_rfl) (fun _ _ _ h => h) (Or.inl ⟨by rfl, fun w' h' => ?_⟩) hS ?_
    · go_simp
    simp only [Act.put]
    refine wpAnyH_take (i := 2) (v := (.pointer (some ⟨q, 0, none⟩))) rfl (by kernel_rfl) (by kernel_rfl) (by kernel_rfl) (fun _ _ _ h => h) (Or.inl ⟨by rfl, fun w' h' => ?_⟩) hS ?_
    · go_simp
    simp only [Act.put]
    refine wpAnyH_take (i := 3) (v := (.agg #[.pointer (some ⟨g, 0, none⟩), .int .i64 base, .int .i64 n])) rfl (by kernel_rfl) (by kernel_rfl) (by kernel_rfl) (fun _ _ _ h => h) (Or.inl ⟨by rfl, fun w' h' => ?_⟩) hS ?_
    · have c0 := h'.c0
      have c1 := h'.c1
      have c2 := h'.c2
      clear h'
      go_simp
    simp only [Act.put]
    refine wpAnyH_take (i := 4) (v := (.int .i64 at_)) rfl (by kernel_rfl) (by kernel_rfl) (by kernel_rfl) (fun _ _ _ h => h) (Or.inl ⟨by rfl, fun w' h' => ?_⟩) hS ?_
    · go_simp
    simp only [Act.put]
    refine wpAnyH_take (i := 6) (v := (.pointer (some ⟨q, 0, none⟩))) rfl (by kernel_rfl) (by kernel_rfl) (by kernel_rfl) (fun _ _ _ h => h) (Or.inl ⟨by rfl, fun w' h' => ?_⟩) hS ?_
    · go_simp
    simp only [Act.put]
    refine wpAnyH_take (i := 7) (v := (.pointer (some ⟨q, 0, none⟩))) rfl (by kernel_rfl) (by kernel_rfl) (by kernel_rfl) (fun _ _ _ h => h) (Or.inl ⟨by rfl, fun w' h' => ?_⟩) hS ?_
    · go_simp
    simp only [Act.put]
    refine wpAnyH_take (i := 8) (v := (.pointer (some ⟨q, 0, none⟩))) rfl (by kernel_rfl) (by kernel_rfl) (by kernel_rfl) (fun _ _ _ h => h) (Or.inl ⟨by rfl, fun w' h' => ?_⟩) hS ?_
    · go_simp
    simp only [Act.put]
    refine wpAnyH_take (i := 9) (v := (.agg #[.pointer (some ⟨g, 0, none⟩), .int .i64 base, .int .i64 n])) rfl (by kernel_rfl) (by kernel_rfl) (by kernel_rfl) (fun _ _ _ h => h) (Or.inl ⟨by rfl, fun w' h' => ?_⟩) hS ?_
    · have c0 := h'.c0
      have c1 := h'.c1
      have c2 := h'.c2
      clear h'
      go_simp
    simp only [Act.put]
    refine wpAnyH_take (i := 10) (v := (.int .i64 at_)) rfl (by kernel_rfl) (by kernel_rfl) (by kernel_rfl) (fun _ _ _ h => h) (Or.inl ⟨by rfl, fun w' h' => ?_⟩) hS ?_
    · go_simp
    simp only [Act.put]
    refine wpAnyH_take (i := 11) (v := (.int .i64 (at_ + 4))) rfl (by kernel_rfl) (by kernel_rfl) (by kernel_rfl) (fun _ _ _ h => h) (Or.inl ⟨by rfl, fun w' h' => ?_⟩) hS ?_
    · go_simp
    simp only [Act.put]
    have s5 := s4.grown d5.grown
    have k5 := k4'.trans d5.grown
    clear d5 hS q4 s4 k4 k4' k3 hw4
    refine wpAnyH_ready (rs := [5]) (by kernel_rfl) (by simp) ?_
    refine AllReadyH.cons rfl (fun K hK => ?_) AllReadyH.nil
    go_simp
    refine (GN'.out V5 s5.mem).mono ?_
    rintro e w6 ⟨rfl, k6⟩
    have s6 := s5.grown k6
    have k6' := k5.trans k6
    go_simp
    refine hK.out _ _ s6.at_ (fun _ => ?_)
    clear hK K
    refine wpAnyH_ready (rs := [12]) (by kernel_rfl) (by simp) ?_
    refine AllReadyH.cons rfl (fun K hK => ?_) AllReadyH.nil
    go_simp
    refine (GL'.out w6 s6.mem).mono ?_
    rintro e w7 ⟨rfl, k7⟩
    have s7 := s6.grown k7
    have k7' := k6'.trans k7
    go_simp
    refine hK.out _ _ s7.at_ (fun _ => ?_)
    clear hK K
    refine wpAnyH_ready (rs := [13]) (by kernel_rfl) (by simp) ?_
    refine AllReadyH.cons rfl (fun K hK => ?_) AllReadyH.nil
    go_simp
    refine hK.out _ _ s7.at_ (fun _ => ?_)
    clear hK K
    refine wpAnyH_ready (rs := [14]) (by kernel_rfl) (by simp) ?_
    refine AllReadyH.cons rfl (fun K hK => ?_) AllReadyH.nil
    go_simp
    refine hK.out _ _ s7.at_ (fun _ => ?_)
    clear hK K
    refine wpAnyH_done (by kernel_rfl) (NoPanic.normal ?_) _
    have S7 := Lib.hid s7
    have K7 := Lib.hid k7'
    have c3 := s7.at_.c3
    have t7 := s7.tab
    clear k5 k6 k6' k7 k7' s5 s6 s7
    by_cases hfound : ∃ x ∈ cs, x.c.head = N
    · obtain ⟨x, hx, hxN⟩ := hfound
      obtain ⟨r0, r1⟩ := S7.out.rooms x hx
      have hmem : (N, (.agg #[.slice (some ⟨x.blk, 0, none⟩) x.c.of.length x.cap, .int .i64 x.c.most] : Value)) ∈ cs.map Oc.ent := List.mem_map.2 ⟨x, hx, by rw [← hxN]; rfl⟩
      have hrun := t7.look_yes (P := Try.prog) Try.underlying110 Try.underlying3 hmem
      have HXN := Lib.hid hxN
      have HX := Lib.hid hx
      clear hmem t7 hxN hx
      have s8 := S7.out.grown (World.grownBy_alloc w7 (.cells #[.slice (some ⟨x.blk, 0, none⟩) x.c.of.length x.cap, .int .i64 x.c.most] 133) none)
      have k8 := K7.out.trans (World.grownBy_alloc w7 (.cells #[.slice (some ⟨x.blk, 0, none⟩) x.c.of.length x.cap, .int .i64 x.c.most] 133) none)
      have t8 := s8.tab
      have d3 := s8.at_.c3
      have d5 := s8.at_.c5
      have d6 := s8.at_.c6
      have f5 := s8.at_.fz 5
      have f6 := s8.at_.fz 6
      have S8 := Lib.hid s8
      clear s8
      by_cases hlen : (cs.length : Int) < D
      · have hl1 : decide (((cs.map Oc.ent).length : Int) < D) = true := by rw [List.length_map]; exact decide_eq_true hlen
        have hl2 : decide ((cs.length : Int) < D) = true := decide_eq_true hlen
        have hbk := grown_setCell (w7.alloc (.cells #[.slice (some ⟨x.blk, 0, none⟩) x.c.of.length x.cap, .int .i64 x.c.most] 133)) q 6 (.bool true)
        have hfin := S8.out.setBroken
        have htr := (Turned.of (S := QB q h mb) k8 (fun j e => by cases e)).step hbk (fun j e => .inl (.inr (.inl (by injection e with e; exact e.symm))))
        have HFIN := Lib.hid hfin
        have HTR := Lib.hid htr
        clear hfin htr hbk
        have HL := Lib.hid hlen
        clear hlen
        go_wp2_with (first | (at_lookup; refine wpList_lookup_tab _ rfl _ _ 110 rfl mb N (.agg #[.slice (some ⟨x.blk, 0, none⟩) x.c.of.length x.cap, .int .i64 x.c.most]) true rfl rfl hrun ?_) | (at_len; refine wpList_len_tab _ rfl _ 110 rfl 3 133 Try.underlying110 mb (cs.map Oc.ent) t8 rfl ?_))
        go_ret3
        exact .inr (.inl ⟨HIe.out, .inl HL.out, rfl, HFIN.out, HTR.out⟩)
      · have hl1 : decide (((cs.map Oc.ent).length : Int) < D) = false := by rw [List.length_map]; exact decide_eq_false hlen
        have hl2 : decide ((cs.length : Int) < D) = false := decide_eq_false hlen
        have HL : Hid (D ≤ cs.length) := Lib.hid (by omega)
        clear hlen
        by_cases hw : x.c.most < L
        · have hw1 : decide (x.c.most < L) = true := decide_eq_true hw
          have hbk := grown_setCell (w7.alloc (.cells #[.slice (some ⟨x.blk, 0, none⟩) x.c.of.length x.cap, .int .i64 x.c.most] 133)) q 6 (.bool true)
          have hfin := S8.out.setBroken
          have htr := (Turned.of (S := QB q h mb) k8 (fun j e => by cases e)).step hbk (fun j e => .inl (.inr (.inl (by injection e with e; exact e.symm))))
          have HFIN := Lib.hid hfin
          have HTR := Lib.hid htr
          clear hfin htr hbk
          have HW := Lib.hid hw
          clear hw
          go_wp2_with (first | (at_lookup; refine wpList_lookup_tab _ rfl _ _ 110 rfl mb N (.agg #[.slice (some ⟨x.blk, 0, none⟩) x.c.of.length x.cap, .int .i64 x.c.most]) true rfl rfl hrun ?_) | (at_len; refine wpList_len_tab _ rfl _ 110 rfl 3 133 Try.underlying110 mb (cs.map Oc.ent) t8 rfl ?_))
          go_ret3
          exact .inr (.inl ⟨HIe.out, .inr (.inr ⟨x, HX.out, HXN.out, HW.out⟩), rfl, HFIN.out, HTR.out⟩)
        · have hw1 : decide (x.c.most < L) = false := decide_eq_false hw
          have HW : Hid (L ≤ x.c.most) := Lib.hid (by omega)
          clear hw
          have hwb := wrap_u16 (back + 1)
          go_wp2_with (first | (at_lookup; refine wpList_lookup_tab _ rfl _ _ 110 rfl mb N (.agg #[.slice (some ⟨x.blk, 0, none⟩) x.c.of.length x.cap, .int .i64 x.c.most]) true rfl rfl hrun ?_) | (at_len; refine wpList_len_tab _ rfl _ 110 rfl 3 133 Try.underlying110 mb (cs.map Oc.ent) t8 rfl ?_) | (at_delete; refine wpList_delete_tab _ rfl _ _ 110 3 rfl 133 Try.underlying110 Try.underlying3 mb N (cs.map Oc.ent) t8 (WalkArith.wf_i64 (by omega)) rfl rfl ?_; intro w9 b9 k9; have q9 := S8.out.at_.kept (k9.block _ (lt_of_block S8.out.at_) (fun e => mq (by injection e with e; exact e.symm))); have m9 := S8.out.mem.kept k9 (fun e => mg (by injection e with e; exact e.symm)) (fun e => mh (by injection e with e; exact e.symm)); have e5 := q9.c5; have g5 := q9.fz 5; have B9 := Lib.hid b9; have Q9 := Lib.hid q9; clear b9 q9))
          have k10 := grown_setCell w9 q 5 (.int .u16 ((back + 1) % 65536))
          have t10 := ((Turned.refl (QB q h mb) _).step k9 (fun j e => .inl (.inr (.inr (by injection e with e; exact e.symm))))).step k10 (fun j e => .inl (.inr (.inl (by injection e with e; exact e.symm))))
          have t11 := (Turned.of (S := QB q h mb) k8 (fun j e => by cases e)).trans t10
          have hsub : ∀ {y : Oc}, y ∈ cs.filter (fun y => y.c.head != N) → y ∈ cs := fun hy => (List.mem_filter.1 hy).1
          have hfin : QS (w9.setCell ⟨q, 5, none⟩ (.int .u16 ((back + 1) % 65536))) q g h lm base n mb (cs.filter fun y => y.c.head != N) off ((back + 1) % 65536) false := by
            refine ⟨m9.kept k10 (fun e => hqg (by injection e)) (fun e => hqh (by injection e with e; exact e.symm)), S8.out.len, set_block Q9.out 5 _, ?_, fun y hy => S8.out.numsTurned t10 (hsub hy), fun y hy => S8.out.heads y (hsub hy), fun y hy => S8.out.rooms y (hsub hy), hb0, S8.out.b1, S8.out.size, S8.out.off0, S8.out.off1, by omega, by omega⟩
            have hb := B9.out.kept (k10.block _ B9.out.lt (fun e => mq (by injection e)))
            rw [List.filter_map] at hb
            exact hb
          have HFIN := Lib.hid hfin
          have HT11 := Lib.hid t11
          clear hfin t10 t11 k10 hsub
          go_ret3
          exact .inr (.inr ⟨x, HX.out, HIe.out, HL.out, HXN.out, HW.out, rfl, HFIN.out, HT11.out⟩)
    · have hno : ∀ c ∈ cs.map Oc.ent, c.1 ≠ N := by
        rintro c hc rfl
        obtain ⟨x, hx, rfl⟩ := List.mem_map.1 hc
        exact hfound ⟨x, hx, rfl⟩
      have hrun := t7.look_no (P := Try.prog) Try.underlying110 Try.underlying3 (zero_chain w7) (WalkArith.wf_i64 (by omega)) hno
      have HNO : Hid (∀ x ∈ cs, x.c.head ≠ N) := Lib.hid fun x hx e => hfound ⟨x, hx, e⟩
      clear hno t7 hfound
      have s8 := S7.out.grown (World.grownBy_alloc w7 (.cells #[.slice none 0 0, .int .i64 0] 133) none)
      have k8 := K7.out.trans (World.grownBy_alloc w7 (.cells #[.slice none 0 0, .int .i64 0] 133) none)
      have t8 := s8.tab
      have d3 := s8.at_.c3
      have d5 := s8.at_.c5
      have d6 := s8.at_.c6
      have f5 := s8.at_.fz 5
      have f6 := s8.at_.fz 6
      have S8 := Lib.hid s8
      clear s8
      have hbk := grown_setCell (w7.alloc (.cells #[.slice none 0 0, .int .i64 0] 133)) q 6 (.bool true)
      have hfin := S8.out.setBroken
      have htr := (Turned.of (S := QB q h mb) k8 (fun j e => by cases e)).step hbk (fun j e => .inl (.inr (.inl (by injection e with e; exact e.symm))))
      have HFIN := Lib.hid hfin
      have HTR := Lib.hid htr
      clear hfin htr hbk
      by_cases hlen : (cs.length : Int) < D
      · have hl1 : decide (((cs.map Oc.ent).length : Int) < D) = true := by rw [List.length_map]; exact decide_eq_true hlen
        have hl2 : decide ((cs.length : Int) < D) = true := decide_eq_true hlen
        clear hlen
        go_wp2_with (first | (at_lookup; refine wpList_lookup_tab _ rfl _ _ 110 rfl mb N (.agg #[.slice none 0 0, .int .i64 0]) false rfl rfl hrun ?_) | (at_len; refine wpList_len_tab _ rfl _ 110 rfl 3 133 Try.underlying110 mb (cs.map Oc.ent) t8 rfl ?_))
        go_ret3
        exact .inr (.inl ⟨HIe.out, .inr (.inl HNO.out), rfl, HFIN.out, HTR.out⟩)
      · have hl1 : decide (((cs.map Oc.ent).length : Int) < D) = false := by rw [List.length_map]; exact decide_eq_false hlen
        have hl2 : decide ((cs.length : Int) < D) = false := decide_eq_false hlen
        clear hlen
        go_wp2_with (first | (at_lookup; refine wpList_lookup_tab _ rfl _ _ 110 rfl mb N (.agg #[.slice none 0 0, .int .i64 0]) false rfl rfl hrun ?_) | (at_len; refine wpList_len_tab _ rfl _ 110 rfl 3 133 Try.underlying110 mb (cs.map Oc.ent) t8 rfl ?_))
        go_ret3
        exact .inr (.inl ⟨HIe.out, .inr (.inl HNO.out), rfl, HFIN.out, HTR.out⟩)

end Go.Proofs.Ytmlicejhkdkhnaa
