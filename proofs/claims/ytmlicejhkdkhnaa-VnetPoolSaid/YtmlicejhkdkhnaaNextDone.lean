/-
  The contracts of package virtq's Next and Done: a device's side. Conditions: the port is one that Open made over a memory of at most 65536 bytes, in which its queue lies.
-/
import Derived.Test.YtmlicejhkdkhnaaFollow
namespace Go.Proofs.Ytmlicejhkdkhnaa
open Go.RowKit Go.Sort

theorem IsBufs.kept_at {w w' : World} {v : Value} {l : List Bf} (h : IsBufs w v l) (k : ∀ b i u, w.cell? ⟨b, i, none⟩ = some u → ((∃ z, u = .int .i64 z) ∨ ∃ z, u = .bool z) → w'.cell? ⟨b, i, none⟩ = some u) : IsBufs w' v l := by
  obtain ⟨p, cap, rfl, hl, hc⟩ := h
  refine ⟨p, cap, rfl, hl, fun hp => ?_⟩
  obtain ⟨b, o, rfl, hi⟩ := hc hp
  refine ⟨b, o, rfl, fun i h => ?_⟩
  obtain ⟨h1, h2, h3⟩ := hi i h
  exact ⟨k _ _ _ h1 (.inl ⟨_, rfl⟩), k _ _ _ h2 (.inl ⟨_, rfl⟩), k _ _ _ h3 (.inr ⟨_, rfl⟩)⟩

/-- The offered index, and the next chain's head. -/
def offI (lm : List UInt8) (base : Int) (n : Nat) : Int := getX lm (base + 16 * n + 2) 2
def offHead (lm : List UInt8) (base : Int) (n : Nat) (taken : Int) : Int := getX lm (base + 16 * n + 4 + 2 * (taken % n)) 2
theorem offI_bd (lm : List UInt8) (base : Int) (n : Nat) : 0 ≤ offI lm base n ∧ offI lm base n ≤ 65535 := by
  obtain ⟨X, hX, h0, h1⟩ := getX2 lm (base + 16 * n + 2)
  unfold offI
  rw [← hX]
  exact ⟨h0, h1⟩
theorem offHead_bd (lm : List UInt8) (base : Int) (n : Nat) (taken : Int) : 0 ≤ offHead lm base n taken ∧ offHead lm base n taken ≤ 65535 := by
  obtain ⟨X, hX, h0, h1⟩ := getX2 lm (base + 16 * n + 4 + 2 * (taken % n))
  unfold offHead
  rw [← hX]
  exact ⟨h0, h1⟩

/-- What Next comes to. -/
def VNextPost (w : World) (p g h : Nat) (lm : List UInt8) (base : Int) (n : Nat) (taken told : Int) (e : Ending) (w' : World) : Prop :=
  (offI lm base n = taken ∧ e = .returned (.tuple #[.int .i64 0, .slice none 0 0, .int .i64 4]) ∧ w.grownBy w' none) ∨
  (offI lm base n ≠ taken ∧ ((n : Int) < (offI lm base n - taken) % 65536 ∨ followF lm base n n (offHead lm base n taken) [] = none) ∧ e = .returned (.tuple #[.int .i64 0, .slice none 0 0, .int .i64 8]) ∧ w.grownBy w' none) ∨
  (∃ l v, offI lm base n ≠ taken ∧ (offI lm base n - taken) % 65536 ≤ n ∧ followF lm base n n (offHead lm base n taken) [] = some l ∧ e = .returned (.tuple #[.int .i64 (offHead lm base n taken), v, .int .i64 0]) ∧ IsBufs w' v l ∧
    PS w' p g h lm base n ((taken + 1) % 65536) told ∧ w.grownBy w' (some p))

theorem bufs_setPort {w : World} {v : Value} {l : List Bf} (hv : IsBufs w v l) {p g : Nat} {base n taken told : Int} (hp : PAt w p g base n taken told) (x : Int) : IsBufs (w.setCell ⟨p, 3, none⟩ (.int .u16 x)) v l := by
  refine hv.kept_at fun b i u hu hb => ?_
  by_cases hbp : b = p
  · subst hbp
    have hi3 : i ≠ 3 := by
      rintro rfl
      rw [hp.c3] at hu
      rcases hb with ⟨z, rfl⟩ | ⟨z, rfl⟩ <;> cases hu
    rw [World.cell?_setCell_other _ _ _ _ (fun e => hi3 (by injection e with _ e; exact e.symm))]
    exact hu
  · rw [World.cell?_setCell_far _ _ _ _ (by simpa using fun e => hbp e.symm)]
    exact hu

set_option maxRecDepth 100000 in
set_option maxHeartbeats 1600000 in
theorem vNext_any (w : World) (p g h : Nat) (lm : List UInt8) (base : Int) (n : Nat) (taken told : Int) (s : PS w p g h lm base n taken told) :
    Calls Try.prog 43 #[.pointer (some ⟨p, 0, none⟩)] w (VNextPost w p g h lm base n taken told) := by
  have h5 := s.at_.c5
  obtain ⟨n1, n2⟩ := s.n1
  have hb1 := s.bl
  have hb0 := s.b0
  have taken0 := s.taken0
  have taken1 := s.taken1
  have hph := s.ph
  have hpg := s.pg
  have hlen := s.len
  have hr0 : 0 ≤ taken % (n : Int) := Int.emod_nonneg _ (by omega)
  have hr1 : taken % (n : Int) < n := Int.emod_lt_of_pos _ (by omega)
  obtain ⟨I, hI⟩ : ∃ I, I = offI lm base n := ⟨_, rfl⟩
  obtain ⟨H, hH⟩ : ∃ H, H = offHead lm base n taken := ⟨_, rfl⟩
  have hIb := offI_bd lm base n
  have hHb := offHead_bd lm base n taken
  rw [← hI] at hIb
  rw [← hH] at hHb
  obtain ⟨I0, I1⟩ := hIb
  obtain ⟨H0, H1⟩ := hHb
  have UC := fun w m => offeredIndex_any w g h lm m base n hlen hb0 hb1 (by omega) (by omega)
  have AC := fun w => offeredAt_any w g base n hb0 hb1 (by omega) (by omega) taken taken0 taken1
  have GC := fun w m a k => aget_any w g h lm m base n a k hlen
  obtain ⟨R, hR⟩ : ∃ R, R = followF lm base n n H [] := ⟨_, rfl⟩
  have FC := fun w s => follow_any w p g h lm base n taken told s H H0 H1
  rw [← hR] at FC
  unfold VNextPost
  rw [← hI, ← hH, ← hR]
  unfold offI at hI
  unfold offHead at hH
  rw [← hI] at UC
  obtain ⟨ro, hro⟩ : ∃ r, taken % (n : Int) = r := ⟨_, rfl⟩
  rw [hro] at hr0 hr1 hH AC
  obtain ⟨at_, hat⟩ : ∃ a, a = base + 16 * n + 4 + 2 * ro := ⟨_, rfl⟩
  rw [← hat] at hH AC
  have GN := fun w m => GC w m at_ 2
  rw [← hH] at GN
  have hw16 := wrap_u16 (I - taken)
  obtain ⟨D, hD⟩ : ∃ D, (I - taken) % 65536 = D := ⟨_, rfl⟩
  rw [hD] at hw16 ⊢
  have D0 : 0 ≤ D := by omega
  have D1 : D ≤ 65535 := by omega
  have hDz : D = 0 ↔ I = taken := by omega
  have UC' := Lib.hid UC
  have AC' := Lib.hid AC
  have GN' := Lib.hid GN
  have FC' := Lib.hid FC
  have S0 := Lib.hid s
  have q0 := s.at_
  have HDZ := Lib.hid hDz
  clear UC AC GN GC FC hI hH hR hro hat hD hDz s
  go_enter Try.func43, Try.ntmps43
  go_wp2_with (go_at_call 72; refine (pnone_no _ _ h5).mono ?_; rintro e w' ⟨rfl, rfl⟩)
  refine wp_region_noPanic ?_
  refine region_held (S := fun w' => PAt w' p g base n taken told) (by kernel_rfl) (fun V d => q0.kept (d.block _)) (fun V1 d1 hS => ?_)
  refine wpAnyH_take (i := 0) (v := (.pointer (some ⟨p, 0, none⟩))) rfl (by kernel_rfl) (by kernel_rfl) (by kernel_rfl) (fun _ _ _ h => h) (Or.inl ⟨by rfl, fun w' h' => ?_⟩) hS ?_
  · go_simp
  simp only [Act.put]
  refine wpAnyH_take (i := 1) (v := (.pointer (some ⟨p, 0, none⟩))) rfl (by kernel_rfl) (by kernel_rfl) (by kernel_rfl) (fun _ _ _ h => h) (Or.inl ⟨by rfl, fun w' h' => ?_⟩) hS ?_
  · go_simp
  simp only [Act.put]
  refine wpAnyH_take (i := 2) (v := (.pointer (some ⟨p, 0, none⟩))) rfl (by kernel_rfl) (by kernel_rfl) (by kernel_rfl) (fun _ _ _ h => h) (Or.inl ⟨by rfl, fun w' h' => ?_⟩) hS ?_
  · go_simp
  simp only [Act.put]
  refine wpAnyH_take (i := 3) (v := (.agg #[.pointer (some ⟨g, 0, none⟩), .int .i64 base, .int .i64 n])) rfl (by kernel_rfl) (by kernel_rfl) (by kernel_rfl) (fun _ _ _ h => h) (Or.inl ⟨by rfl, fun w' h' => ?_⟩) hS ?_
  · have c0 := h'.c0
    have c1 := h'.c1
    have c2 := h'.c2
    clear h'
    go_simp
  simp only [Act.put]
  refine wpAnyH_take (i := 5) (v := (.pointer (some ⟨p, 0, none⟩))) rfl (by kernel_rfl) (by kernel_rfl) (by kernel_rfl) (fun _ _ _ h => h) (Or.inl ⟨by rfl, fun w' h' => ?_⟩) hS ?_
  · go_simp
  simp only [Act.put]
  refine wpAnyH_take (i := 6) (v := (.pointer (some ⟨p, 0, none⟩))) rfl (by kernel_rfl) (by kernel_rfl) (by kernel_rfl) (fun _ _ _ h => h) (Or.inl ⟨by rfl, fun w' h' => ?_⟩) hS ?_
  · go_simp
  simp only [Act.put]
  refine wpAnyH_take (i := 7) (v := (.pointer (some ⟨p, 3, none⟩))) rfl (by kernel_rfl) (by kernel_rfl) (by kernel_rfl) (fun _ _ _ h => h) (Or.inl ⟨by rfl, fun w' h' => ?_⟩) hS ?_
  · go_simp
  simp only [Act.put]
  refine wpAnyH_take (i := 8) (v := (.int .u16 taken)) rfl (by kernel_rfl) (by kernel_rfl) (by kernel_rfl) (fun _ _ _ h => h) (Or.inl ⟨by rfl, fun w' h' => ?_⟩) hS ?_
  · have c0 := h'.c3
    clear h'
    go_simp
  simp only [Act.put]
  have s1 := S0.out.grown d1.grown
  have k1 := d1.grown
  clear d1 hS q0 h5
  refine wpAnyH_ready (rs := [4]) (by kernel_rfl) (by simp) ?_
  refine AllReadyH.cons rfl (fun K hK => ?_) AllReadyH.nil
  go_simp
  refine (UC'.out V1 s1.mem).mono ?_
  rintro e w2 ⟨rfl, k2⟩
  have s2 := s1.grown k2
  have k2' := k1.trans k2
  go_simp
  refine hK.out _ _ s2.at_ (fun _ => ?_)
  clear hK K
  refine wpAnyH_ready (rs := [9]) (by kernel_rfl) (by simp) ?_
  refine AllReadyH.cons rfl (fun K hK => ?_) AllReadyH.nil
  go_simp
  refine hK.out _ _ s2.at_ (fun _ => ?_)
  clear hK K
  refine wpAnyH_ready (rs := [10]) (by kernel_rfl) (by simp) ?_
  refine AllReadyH.cons rfl (fun K hK => ?_) AllReadyH.nil
  go_simp
  refine hK.out _ _ s2.at_ (fun _ => ?_)
  clear hK K
  refine wpAnyH_ready (rs := [11]) (by kernel_rfl) (by simp) ?_
  refine AllReadyH.cons rfl (fun K hK => ?_) AllReadyH.nil
  go_simp
  refine hK.out _ _ s2.at_ (fun _ => ?_)
  clear hK K
  refine wpAnyH_done (by kernel_rfl) (NoPanic.normal ?_) _
  have S2 := Lib.hid s2
  have K2 := Lib.hid k2'
  have q2 := s2.at_
  clear k1 k2 k2' s1 s2 UC'
  by_cases hz : D = 0
  · have hzb : (D == 0) = true := beq_iff_eq.2 hz
    have hIe := HDZ.out.1 hz
    have HIe := Lib.hid hIe
    clear hz hIe
    go_wp2_with fail
    go_ret3
    exact .inl ⟨HIe.out, rfl, K2.out⟩
  · have hzb : (D == 0) = false := beq_eq_false_iff_ne.2 hz
    have HIe : Hid (I ≠ taken) := Lib.hid (fun e => hz (HDZ.out.2 e))
    clear hz
    go_wp2_with fail
    refine wp_region_noPanic ?_
    refine region_held (S := fun w' => PAt w' p g base n taken told) (by kernel_rfl) (fun V d => q2.kept (d.block _)) (fun V3 d3 hS => ?_)
    refine wpAnyH_take (i := 0) (v := (.pointer (some ⟨p, 0, none⟩))) rfl (by kernel_rfl) (by kernel_rfl) (by kernel_rfl) (fun _ _ _ h => h) (Or.inl ⟨by rfl, fun w' h' => ?_⟩) hS ?_
    · go_simp
    simp only [Act.put]
    refine wpAnyH_take (i := 1) (v := (.pointer (some ⟨p, 0, none⟩))) rfl (by kernel_rfl) (by kernel_rfl) (by kernel_rfl) (fun _ _ _ h => h) (Or.inl ⟨by rfl, fun w' h' => ?_⟩) hS ?_
    · go_simp
    simp only [Act.put]
    refine wpAnyH_take (i := 2) (v := (.pointer (some ⟨p, 0, none⟩))) rfl (by kernel_rfl) (by kernel_rfl) (by kernel_rfl) (fun _ _ _ h => h) (Or.inl ⟨by rfl, fun w' h' => ?_⟩) hS ?_
    · go_simp
    simp only [Act.put]
    refine wpAnyH_take (i := 3) (v := (.agg #[.pointer (some ⟨g, 0, none⟩), .int .i64 base, .int .i64 n])) rfl (by kernel_rfl) (by kernel_rfl) (by kernel_rfl) (fun _ _ _ h => h) (Or.inl ⟨by rfl, fun w' h' => ?_⟩) hS ?_
    · have c0 := h'.c0
      have c1 := h'.c1
      have c2 := h'.c2
      clear h'
      go_simp
    simp only [Act.put]
    refine wpAnyH_take (i := 4) (v := (.pointer (some ⟨p, 0, none⟩))) rfl (by kernel_rfl) (by kernel_rfl) (by kernel_rfl) (fun _ _ _ h => h) (Or.inl ⟨by rfl, fun w' h' => ?_⟩) hS ?_
    · go_simp
    simp only [Act.put]
    refine wpAnyH_take (i := 5) (v := (.pointer (some ⟨p, 0, none⟩))) rfl (by kernel_rfl) (by kernel_rfl) (by kernel_rfl) (fun _ _ _ h => h) (Or.inl ⟨by rfl, fun w' h' => ?_⟩) hS ?_
    · go_simp
    simp only [Act.put]
    refine wpAnyH_take (i := 6) (v := (.pointer (some ⟨p, 0, none⟩))) rfl (by kernel_rfl) (by kernel_rfl) (by kernel_rfl) (fun _ _ _ h => h) (Or.inl ⟨by rfl, fun w' h' => ?_⟩) hS ?_
    · go_simp
    simp only [Act.put]
    refine wpAnyH_take (i := 7) (v := (.agg #[.pointer (some ⟨g, 0, none⟩), .int .i64 base, .int .i64 n])) rfl (by kernel_rfl) (by kernel_rfl) (by kernel_rfl) (fun _ _ _ h => h) (Or.inl ⟨by rfl, fun w' h' => ?_⟩) hS ?_
    · have c0 := h'.c0
      have c1 := h'.c1
      have c2 := h'.c2
      clear h'
      go_simp
    simp only [Act.put]
    refine wpAnyH_take (i := 8) (v := (.pointer (some ⟨p, 0, none⟩))) rfl (by kernel_rfl) (by kernel_rfl) (by kernel_rfl) (fun _ _ _ h => h) (Or.inl ⟨by rfl, fun w' h' => ?_⟩) hS ?_
    · go_simp
    simp only [Act.put]
    refine wpAnyH_take (i := 9) (v := (.pointer (some ⟨p, 0, none⟩))) rfl (by kernel_rfl) (by kernel_rfl) (by kernel_rfl) (fun _ _ _ h => h) (Or.inl ⟨by rfl, fun w' h' => ?_⟩) hS ?_
    · go_simp
    simp only [Act.put]
    refine wpAnyH_take (i := 10) (v := (.pointer (some ⟨p, 3, none⟩))) rfl (by kernel_rfl) (by kernel_rfl) (by kernel_rfl) (fun _ _ _ h => h) (Or.inl ⟨by rfl, fun w' h' => ?_⟩) hS ?_
    · go_simp
    simp only [Act.put]
    refine wpAnyH_take (i := 11) (v := (.int .u16 taken)) rfl (by kernel_rfl) (by kernel_rfl) (by kernel_rfl) (fun _ _ _ h => h) (Or.inl ⟨by rfl, fun w' h' => ?_⟩) hS ?_
    · have c0 := h'.c3
      clear h'
      go_simp
    simp only [Act.put]
    have s3 := S2.out.grown d3.grown
    have k3 := K2.out.trans d3.grown
    clear d3 hS q2
    refine wpAnyH_ready (rs := [12]) (by kernel_rfl) (by simp) ?_
    refine AllReadyH.cons rfl (fun K hK => ?_) AllReadyH.nil
    go_simp
    refine (AC'.out V3).mono ?_
    rintro e w4 ⟨rfl, k4⟩
    have s4 := s3.grown k4
    have k4' := k3.trans k4
    go_simp
    refine hK.out _ _ s4.at_ (fun _ => ?_)
    clear hK K
    refine wpAnyH_ready (rs := [13]) (by kernel_rfl) (by simp) ?_
    refine AllReadyH.cons rfl (fun K hK => ?_) AllReadyH.nil
    go_simp
    refine (GN'.out w4 s4.mem).mono ?_
    rintro e w5 ⟨rfl, k5⟩
    have s5 := s4.grown k5
    have k5' := k4'.trans k5
    go_simp
    refine hK.out _ _ s5.at_ (fun _ => ?_)
    clear hK K
    refine wpAnyH_ready (rs := [14]) (by kernel_rfl) (by simp) ?_
    refine AllReadyH.cons rfl (fun K hK => ?_) AllReadyH.nil
    go_simp
    refine hK.out _ _ s5.at_ (fun _ => ?_)
    clear hK K
    refine wpAnyH_ready (rs := [15]) (by kernel_rfl) (by simp) ?_
    refine AllReadyH.cons rfl (fun K hK => ?_) AllReadyH.nil
    go_simp
    refine hK.out _ _ s5.at_ (fun _ => ?_)
    clear hK K
    refine wpAnyH_done (by kernel_rfl) (NoPanic.normal ?_) _
    have S5 := Lib.hid s5
    have K5 := Lib.hid k5'
    clear k3 k4 k4' k5 k5' s3 s4 s5
    go_wp2_with fail
    refine (FC'.out w5 S5.out).mono ?_
    rintro e w6 ⟨k6, hres⟩
    have s6 := S5.out.grown k6
    have k6' := K5.out.trans k6
    have c2 := s6.at_.c2
    have c3 := s6.at_.c3
    have f3 := s6.at_.fz 3
    have S6 := Lib.hid s6
    have K6 := Lib.hid k6'
    clear s6 k6 k6'
    rcases hres with ⟨hRn, v, rfl⟩ | ⟨l, v, hRs, rfl, hv⟩
    · have HRn := Lib.hid hRn
      clear hRn
      by_cases hlt : (n : Int) < D
      · have hd : decide ((n : Int) < D) = true := decide_eq_true hlt
        have HL := Lib.hid hlt
        clear hlt
        go_wp2_with fail
        go_ret3
        exact .inr (.inl ⟨HIe.out, .inl HL.out, rfl, K6.out⟩)
      · have hd : decide ((n : Int) < D) = false := decide_eq_false hlt
        clear hlt
        go_wp2_with fail
        go_ret3
        exact .inr (.inl ⟨HIe.out, .inr HRn.out, rfl, K6.out⟩)
    · obtain ⟨pp, cap, rfl, _⟩ := hv.form
      have HRs := Lib.hid hRs
      have HV := Lib.hid hv
      clear hRs hv
      by_cases hlt : (n : Int) < D
      · have hd : decide ((n : Int) < D) = true := decide_eq_true hlt
        have HL := Lib.hid hlt
        clear hlt
        go_wp2_with fail
        go_ret3
        exact .inr (.inl ⟨HIe.out, .inl HL.out, rfl, K6.out⟩)
      · have hd : decide ((n : Int) < D) = false := decide_eq_false hlt
        have HL : Hid (D ≤ n) := Lib.hid (by omega)
        have hwb := wrap_u16 (taken + 1)
        clear hlt
        go_wp2_with fail
        have k7 := grown_setCell w6 p 3 (.int .u16 ((taken + 1) % 65536))
        have hfin : PS (w6.setCell ⟨p, 3, none⟩ (.int .u16 ((taken + 1) % 65536))) p g h lm base n ((taken + 1) % 65536) told :=
          { S6.out with
            mem := S6.out.mem.kept k7 (fun e => hpg (by injection e)) (fun e => hph (by injection e with e; exact e.symm))
            at_ := set_block S6.out.at_ 3 _
            taken0 := by omega
            taken1 := by omega }
        have hvb : IsBufs (w6.setCell ⟨p, 3, none⟩ (.int .u16 ((taken + 1) % 65536))) (.slice pp l.length cap) l := bufs_setPort HV.out S6.out.at_ _
        have HFIN := Lib.hid hfin
        have HVB := Lib.hid hvb
        have hkf := (K6.out.but (some p)).trans k7
        clear hfin hvb k7
        go_ret3
        exact .inr (.inr ⟨l, _, HIe.out, HL.out, HRs.out, rfl, HVB.out, HFIN.out, hkf⟩)

/-- The bytes behind Done. -/
def vdoneL (lm : List UInt8) (base : Int) (n : Nat) (told head len : Int) : List UInt8 :=
  putL (putL (putL lm (base + usedAt n + 4 + 8 * (told % n)) 4 head) (base + usedAt n + 4 + 8 * (told % n) + 4) 4 len) (base + usedAt n + 2) 2 ((told + 1) % 65536)
theorem vdoneL_length (lm : List UInt8) (base : Int) (n : Nat) (told head len : Int) : (vdoneL lm base n told head len).length = lm.length := by unfold vdoneL; simp [putL_length]

set_option maxRecDepth 100000 in
set_option maxHeartbeats 1600000 in
theorem vDone_any (w : World) (p g h : Nat) (lm : List UInt8) (base : Int) (n : Nat) (taken told : Int) (s : PS w p g h lm base n taken told) (head len : Int) (hh0 : 0 ≤ head) (hh1 : head ≤ 4294967295) (hk0 : 0 ≤ len) (hk1 : len ≤ 4294967295) :
    Calls Try.prog 45 #[.pointer (some ⟨p, 0, none⟩), .int .u32 head, .int .u32 len] w
      fun e w' => e = .returned (.int .i64 0) ∧ PS w' p g h (vdoneL lm base n told head len) base n taken ((told + 1) % 65536) ∧ Turned (fun k => k = h ∨ k = p) w w' := by
  have h5 := s.at_.c5
  obtain ⟨n1, n2⟩ := s.n1
  have hb1 := s.bl
  have hb0 := s.b0
  have told0 := s.told0
  have told1 := s.told1
  have hph := s.ph
  have hpg := s.pg
  have hlen := s.len
  have hu := usedAt_bd (n := (n : Int)) (by omega) (by omega)
  obtain ⟨u0, u1⟩ := hu
  have hr0 : 0 ≤ told % (n : Int) := Int.emod_nonneg _ (by omega)
  have hr1 : told % (n : Int) < n := Int.emod_lt_of_pos _ (by omega)
  have AC := fun w => vusedAt_any w g base n hb0 hb1 (by omega) (by omega) told told0 told1
  obtain ⟨ro, hro⟩ : ∃ r, told % (n : Int) = r := ⟨_, rfl⟩
  rw [hro] at hr0 hr1 AC
  obtain ⟨at_, hat⟩ : ∃ a, a = base + usedAt n + 4 + 8 * ro := ⟨_, rfl⟩
  rw [← hat] at AC
  have at0 : 0 ≤ at_ := by omega
  have at1 : at_ ≤ 100000 := by omega
  obtain ⟨L1, hL1⟩ : ∃ L, L = putL lm at_ 4 head := ⟨_, rfl⟩
  obtain ⟨L2, hL2⟩ : ∃ L, L = putL L1 (at_ + 4) 4 len := ⟨_, rfl⟩
  have z1 : L1.length ≤ 65536 := by rw [hL1, putL_length]; exact hlen
  have z2 : L2.length ≤ 65536 := by rw [hL2, putL_length]; exact z1
  have hw16 := wrap_u16 (told + 1)
  obtain ⟨o2, ho2⟩ : ∃ o, (told + 1) % 65536 = o := ⟨_, rfl⟩
  have o20 : 0 ≤ o2 := by omega
  have o21 : o2 ≤ 65535 := by omega
  have hD : vdoneL lm base n told head len = putL L2 (base + usedAt n + 2) 2 o2 := by unfold vdoneL; rw [hro, ← hat, ← hL1, ← hL2, ho2]
  rw [ho2] at hw16 ⊢
  rw [hD]
  have AC' := Lib.hid AC
  have HL1 := Lib.hid hL1
  have HL2 := Lib.hid hL2
  have HD := Lib.hid hD
  have S0 := Lib.hid s
  have q0 := s.at_
  clear AC hro hat hL1 hL2 ho2 hD s
  go_enter Try.func45, Try.ntmps45
  go_wp2_with (go_at_call 72; refine (pnone_no _ _ h5).mono ?_; rintro e w' ⟨rfl, rfl⟩)
  refine region_tail 8 (by kernel_rfl) (by kernel_rfl) (fun V1 d1 => ?_)
  have s1 := S0.out.grown d1.grown
  have k1 := d1.grown
  have c0 := s1.at_.c0
  have c1 := s1.at_.c1
  have c2 := s1.at_.c2
  have c4 := s1.at_.c4
  have S1 := Lib.hid s1
  clear d1 s1 q0 h5
  simp only [List.take_succ_cons, List.take_zero, List.drop_succ_cons, List.drop_zero]
  repeat still_step
  refine wpStill_nil ?_
  go_wp2_with fail
  refine (AC'.out V1).mono ?_
  rintro e w2 ⟨rfl, k2⟩
  have s2 := S1.out.grown k2
  have t2 := (Turned.of (S := fun k => k = h ∨ k = p) k1 (fun j e => by cases e)).step k2 (fun j e => by cases e)
  have m2 := s2.mem
  have q2 := s2.at_
  have c0 := q2.c0
  have Q2 := Lib.hid q2
  clear s2 q2 k1 k2 c1 c2 c4
  go_wp2_with fail
  refine (Put_all w2 g h lm m2 (by omega) _ 4 head hh0).mono ?_
  rintro e w3 ⟨rfl, m3, k3⟩
  rw [← HL1.out] at m3
  have q3 := Q2.out.kept (k3.block _ (lt_of_block Q2.out) (fun e => hph (by injection e)))
  have t3 := t2.step k3 (fun j e => .inl (.inl (by injection e with e; exact e.symm)))
  have c0 := q3.c0
  have Q3 := Lib.hid q3
  clear q3 k3 m2 t2 Q2
  go_wp2_with fail
  refine (Put_all w3 g h L1 m3 (by omega) _ 4 len hk0).mono ?_
  rintro e w4 ⟨rfl, m4, k4⟩
  rw [← HL2.out] at m4
  have q4 := Q3.out.kept (k4.block _ (lt_of_block Q3.out) (fun e => hph (by injection e)))
  have t4 := t3.step k4 (fun j e => .inl (.inl (by injection e with e; exact e.symm)))
  have c4 := q4.c4
  have f4 := q4.fz 4
  have Q4 := Lib.hid q4
  clear q4 k4 m3 t3 Q3 c0
  go_wp2_with fail
  have k5 := grown_setCell w4 p 4 (.int .u16 o2)
  have q5 : PAt (w4.setCell ⟨p, 4, none⟩ (.int .u16 o2)) p g base n taken o2 := set_block Q4.out 4 (.int .u16 o2)
  generalize w4.setCell ⟨p, 4, none⟩ (.int .u16 o2) = w5 at k5 q5 ⊢
  have m5 := m4.kept k5 (fun e => hpg (by injection e)) (fun e => hph (by injection e with e; exact e.symm))
  have t5 := t4.step k5 (fun j e => .inl (.inr (by injection e with e; exact e.symm)))
  clear c4 f4 m4 t4 Q4 k5
  refine region_tail 8 (by kernel_rfl) (by kernel_rfl) (fun V8 d8 => ?_)
  have q9 := q5.kept (d8.block _)
  have m9 := m5.same d8.grown
  have t9 := t5.step d8.grown (fun j e => by cases e)
  have c0 := q9.c0
  have c1 := q9.c1
  have c2 := q9.c2
  have c4 := q9.c4
  have Q9 := Lib.hid q9
  clear q5 m5 t5 d8 q9
  simp only [List.take_succ_cons, List.take_zero, List.drop_succ_cons, List.drop_zero]
  repeat still_step
  refine wpStill_nil ?_
  go_wp2_with fail
  refine (putUsedIndex_any V8 g h L2 m9 base n z2 hb0 hb1 (by omega) (by omega) o2 o20 o21).mono ?_
  rintro e w9 ⟨rfl, m10, k10⟩
  have q10 := Q9.out.kept (k10.block _ (lt_of_block Q9.out) (fun e => hph (by injection e)))
  have t10 := t9.step k10 (fun j e => .inl (.inl (by injection e with e; exact e.symm)))
  have hln : (putL L2 (base + usedAt n + 2) 2 o2).length = lm.length := by rw [putL_length, HL2.out, putL_length, HL1.out, putL_length]
  have hfin : PS w9 p g h (putL L2 (base + usedAt n + 2) 2 o2) base n taken o2 :=
    ⟨m10, by rw [hln]; exact hlen, q10, hb0, by rw [hln]; exact S0.out.b1, S0.out.size, S0.out.taken0, S0.out.taken1, o20, o21⟩
  have HFIN := Lib.hid hfin
  clear hfin q10 m10 hln c0 c1 c2 c4
  go_wp2_with fail
  go_ret
  exact ⟨rfl, HFIN.out, t10⟩

end Go.Proofs.Ytmlicejhkdkhnaa
