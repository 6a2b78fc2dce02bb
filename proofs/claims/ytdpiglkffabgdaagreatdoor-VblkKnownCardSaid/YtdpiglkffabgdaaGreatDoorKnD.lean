/-
  VblkKnown: the chapter's examples hold. A closed statement: no conditions.
-/
import Derived.Test.YtdpiglkffabgdaaGreatDoorKnC
import Derived.Test.YtdpiglkffabgdaaGreatDoorKnB
import Derived.Test.YtdpiglkffabgdaaGreatDoorCards
import Derived.Test.YtdpiglkffabgdaaGreatDoorTie
import Derived.ProofKit
import Derived.OpenShut
import Derived.LaidMore
import Derived.Stop.Joined
import Derived.Lib.SmallJoins
import Derived.ShutString
import Derived.ChangeOld
import Derived.Below
import Derived.SevenTiedAt
namespace Go.Proofs.YtdpiglkffabgdaaGreatDoor
open Go.RowKit Go.Sort
set_option linter.unusedVariables false

theorem OwnDns.form9 {B : Nat} {w : World} {v : Value} (h : OwnDns B w v []) : ∃ p c, v = .slice p 0 c := by
  rcases h.1.2 with ⟨rfl, h0⟩ | ⟨g, cap, cur, rfl, _⟩
  · exact ⟨_, _, rfl⟩
  · exact ⟨_, _, rfl⟩
/-- What lies there at the answer. -/
structure LS9 (B0 : Nat) (w0 : World) (b g q u ga gb gx : Nat) (w : World) : Prop where
  a1 : At3 B0 w ga kD2
  a2 : At3 B0 w gb kD1
  a3 : At3 B0 w gx ⟨3, false, ⟨#[]⟩⟩
  sh : Shapes w
  kat : ∃ L N, KAt w b g 0 8 3 q u L N true
  bel : Below w0.heap.size w0 w
theorem LS9.grow {B0 : Nat} {w0 w w' : World} {b g q u ga gb gx : Nat} (s : LS9 B0 w0 b g q u ga gb gx w) (t : Below w.heap.size w w') : LS9 B0 w0 b g q u ga gb gx w' :=
  ⟨s.a1.grow t, s.a2.grow t, s.a3.grow t, s.sh.kept (t.block 0 s.sh.pos), (by obtain ⟨L, N, k⟩ := s.kat; exact ⟨L, N, k.kept (t.block b (lt_of_block k))⟩), s.bel.trans (t.mono s.bel.size)⟩
set_option maxRecDepth 100000 in
set_option maxHeartbeats 8000000 in
theorem bknown_any (w0 : World) (hS : Shapes w0) :
    Calls Tryz.prog 3 #[] w0 fun e w' => e = .returned (.bool true) ∧ Below w0.heap.size w0 w' := by
  obtain ⟨FS, hFS⟩ : ∃ FS, FS = fullS 1 := ⟨_, rfl⟩
  have HFS := Lib.hid hFS
  have HMkO1 : Hid (mayOrd 8 kO1 = true) := Lib.hid (by decide +kernel)
  have HMkO2 : Hid (mayOrd 8 kO2 = true) := Lib.hid (by decide +kernel)
  have HMkO3 : Hid (mayOrd 8 kO3 = true) := Lib.hid (by decide +kernel)
  have HS := Lib.hid hS
  have hpos := hS.pos
  clear hFS hS
  go_enter Tryz.func3, Tryz.ntmps3
  go_wp2_with fail
  refine (New_ok w0 4096 (by omega) (by omega)).mono ?_
  rintro e w1 ⟨rfl, m1, k1⟩
  obtain ⟨g, hg⟩ : ∃ g, g = w0.heap.size + 1 := ⟨_, rfl⟩
  obtain ⟨h, hh⟩ : ∃ h, h = w0.heap.size := ⟨_, rfl⟩
  rw [← hg, ← hh] at m1
  rw [← hg]
  have HGH := Lib.hid (And.intro hg hh)
  clear hg hh
  have z0 : (List.replicate (4096 : Int).toNat (0 : UInt8)).length = 4096 := by rw [List.length_replicate]; rfl
  have bel1 := Below.of_none k1
  have z1 := k1.size
  go_wp2_with fail
  refine (bNew_ok w1 _ _ _ m1 (by rw [z0]; omega) (by rw [z0]; omega) 0 8 3 (by rw [show ((List.replicate (4096 : Int).toNat (0 : UInt8)).length : Int) = 4096 from by rw [z0]; rfl]; decide +kernel) (by omega) (by omega) (by omega) (by omega)).mono ?_
  rintro e w2 ⟨b, q, mb, u, rfl, hb, hq, hmb, hu, s2, t2⟩
  change KS w2 b g h q u mb bM0 0 8 3 [] [] 0 0 false 0 0 false at s2
  have bel2 := bel1.trans (t2.below z1 (by rintro k rfl; have := HGH.out.2; omega))
  have z2 := t2.size
  have S2 := Lib.hid s2
  have HB2 := Lib.hid (And.intro hb (And.intro hq (And.intro hmb hu)))
  clear m1 k1 s2 t2 bel1 hb hq hmb hu
  go_wp2_with fail
  refine (bOpen_ok w2 _ _ _ S2.out.qs.mem (by rw [bM0_len]; omega) (by rw [bM0_len]; omega) 0 (b_bar _ bM0_len)).mono ?_
  rintro e w3 ⟨r, p, v, rfl, hr, hp, hv, r3, k3⟩
  have K3 : Hid (KW w0 w3 w3.heap.size b g h q u mb r p v bM0 [] [] 0 0 0 0 0 0 []) := by
    obtain ⟨hg, hh⟩ := HGH.out
    obtain ⟨hb, hq, hmb, hu⟩ := HB2.out
    obtain ⟨lb, lg, lh, lq, lu, lmb⟩ := S2.out.lts
    have l3 := r3.lts
    have z3 := k3.size
    exact Lib.hid { ks := S2.out.grown k3, rs := r3, bel := bel2.grown k3 bel2.size (fun j e => by cases e), kb := fun k hk => by (rcases hk with e | e | e | e | e <;> omega), rb := fun k hk => by (rcases hk with e | e | e <;> omega), ne := by omega, nr := ⟨fun hk => by (rcases hk with e | e | e | e | e <;> omega), fun hk => by (rcases hk with e | e | e | e | e <;> omega), fun hk => by (rcases hk with e | e | e | e | e <;> omega)⟩, B1 := Nat.le_refl _, len := bM0_len, sh := HS.out, p0 := by omega }
  clear r3 k3 S2 bel2 z0 z1 z2 hr hp hv HGH HB2
  obtain ⟨B0, hB0⟩ : ∃ B0, B0 = w3.heap.size := ⟨_, rfl⟩
  rw [← hB0] at K3
  clear hB0
  go_wp2_with fail
  refine (full_any w3 1 1 rfl).mono ?_
  rintro e w4 ⟨rfl, b9⟩
  rw [← HFS.out]
  have bb : Below w3.heap.size w3 w4 := b9
  have K4 := Lib.hid (K3.out.grow bb)
  clear bb K3
  clear b9
  have SC := Submit_ok w4 b g h q u mb bM0 0 8 3 [] [] 0 0 false 0 0 false K4.out.ks kO1 rfl K4.out.shapes 1 (by decide) rfl HMkO1.out (by simp) rfl (by decide) (by decide)
  unfold kO1 Ord.val at SC
  simp only at SC
  rw [← HFS.out] at SC
  have SC2 := Lib.hid SC
  clear SC
  go_wp2_with fail
  refine SC2.out.mono ?_
  clear SC2
  rintro e w5 ⟨ya, xa, rfl, y1, y2, y3, y4, y5, y6, hx, s9, tt⟩
  have hsl := slot_zero y5 y6
  rw [hsl] at hx s9
  rw [show (0 : Int) + 848 + 96 * 0 = 848 from rfl, k_chain1] at hx s9
  rw [k_new1] at hx
  rw [hx] at s9
  rw [HFS.out] at s9
  change KS w5 b g h q u mb kM1 0 8 3 [ya] [xa] 1 0 false 1 0 false at s9
  have HYA : Hid (ya.hd = 0 ∧ ya.id = 1 ∧ ya.kind = 2 ∧ ya.slot = 0) := Lib.hid ⟨by rw [y4, hx], y1, y2, hsl⟩
  have HXA := Lib.hid hx
  clear y1 y2 y3 y4 y5 y6 hx hsl
  have K5 := Lib.hid (K4.out.driver tt s9 kM1_len)
  clear tt s9 K4
  have SC := Submit_ok w5 b g h q u mb kM1 0 8 3 [ya] [xa] 1 0 false 1 0 false K5.out.ks kO2 rfl K5.out.shapes 0 (by decide) rfl HMkO2.out (by simp) rfl (by decide) (by decide)
  unfold kO2 Ord.val at SC
  simp only at SC
  have SC2 := Lib.hid SC
  clear SC
  go_wp2_with fail
  refine SC2.out.mono ?_
  clear SC2
  rintro e w6 ⟨yb, xb, rfl, y1, y2, y3, y4, y5, y6, hx, s9, tt⟩
  have hsl := slot_one HYA.out.2.2.2 y5 y6
  rw [hsl] at hx s9
  rw [show (0 : Int) + 848 + 96 * 1 = 944 from rfl, k_chain2] at hx s9
  rw [k_new2 HXA.out] at hx
  rw [hx] at s9
  change KS w6 b g h q u mb kM2 0 8 3 [ya, yb] [xa, xb] 2 0 false 2 0 false at s9
  have HYB : Hid (yb.hd = 3 ∧ yb.id = 2 ∧ yb.kind = 1 ∧ yb.slot = 1) := Lib.hid ⟨by rw [y4, hx], y1, y2, hsl⟩
  have HXB := Lib.hid hx
  clear y1 y2 y3 y4 y5 y6 hx hsl
  have K6 := Lib.hid (K5.out.driver tt s9 kM2_len)
  clear tt s9 K5
  go_wp2_with fail
  refine (kflight_any w6 b g 0 8 3 q u 2 0 false K6.out.ks.kat _ K6.out.ks.tab).mono ?_
  rintro e w' ⟨rfl, rfl⟩
  rw [show (([ya, yb].map Snt.ent).length : Int) = 2 from rfl]
  have NC := RNext_ok w6 r g h p v kM2 0 0 0 [] K6.out.shapes K6.out.p0 K6.out.rs 0 kC1 kO1 (by rw [k_offI]; decide) (by rw [k_offI]; decide) (Lib.hid k_offHead0) (Lib.hid k_fol0) (Lib.hid k_askO1) (by simp)
  have NC2 := Lib.hid NC
  clear NC
  go_wp2_with fail
  refine NC2.out.mono ?_
  clear NC2
  rintro e w7 ⟨rfl, r9, tt⟩
  unfold kO1 Ord.val
  simp only
  rw [← HFS.out]
  change RS w7 r g h p v kM2 0 1 0 [(0, kT1)] at r9
  have K7 := Lib.hid (K6.out.device tt r9 kM2_len)
  clear tt r9 K6
  have HO9 := Lib.hid (heap_alloc_new w7 (.cells #[.int .i64 2, .int .i64 2, .string FS] 36))
  go_upto_region 8 with fail
  obtain ⟨oa, hn9⟩ : ∃ z, z = w7.heap.size := ⟨_, rfl⟩
  have bb : Below w7.heap.size w7 (w7.alloc (.cells #[.int .i64 2, .int .i64 2, .string FS] 36)) := (Below.refl _ _).alloc (Nat.le_refl _) _
  have ge9 : B0 ≤ oa := by rw [hn9]; exact K7.out.B1
  generalize w7.alloc _ = w8 at HO9 bb ⊢
  rw [← hn9] at HO9 ⊢
  clear hn9
  have K8 := Lib.hid (K7.out.grow bb)
  have Ooa_8 : Hid (AtO B0 w8 oa ⟨2, 2, FS⟩) := Lib.hid ⟨ge9, HO9.out⟩
  clear bb ge9 HO9 K7
  have NC := RNext_ok w8 r g h p v kM2 0 1 0 [(0, kT1)] K8.out.shapes K8.out.p0 K8.out.rs 3 kC2 kO2 (by rw [k_offI]; decide) (by rw [k_offI]; decide) (Lib.hid k_offHead1) (Lib.hid k_fol3) (Lib.hid k_askO2) (by simp)
  have NC2 := Lib.hid NC
  clear NC
  go_wp2_with fail
  refine NC2.out.mono ?_
  clear NC2
  rintro e w9 ⟨rfl, r9, tt⟩
  unfold kO2 Ord.val
  simp only
  change RS w9 r g h p v kM2 0 2 0 [(0, kT1), (3, kT2)] at r9
  have Ooa_9 := Lib.hid (Ooa_8.out.kept (K8.out.stayR tt _ Ooa_8.out.ge Ooa_8.out.lt))
  clear Ooa_8
  have K9 := Lib.hid (K8.out.device tt r9 kM2_len)
  clear tt r9 K8
  have HO9 := Lib.hid (heap_alloc_new w9 (.cells #[.int .i64 1, .int .i64 2, .string ⟨#[]⟩] 36))
  go_upto_region 9 with fail
  obtain ⟨ob, hn9⟩ : ∃ z, z = w9.heap.size := ⟨_, rfl⟩
  have bb : Below w9.heap.size w9 (w9.alloc (.cells #[.int .i64 1, .int .i64 2, .string ⟨#[]⟩] 36)) := (Below.refl _ _).alloc (Nat.le_refl _) _
  have ge9 : B0 ≤ ob := by rw [hn9]; exact K9.out.B1
  generalize w9.alloc _ = w10 at HO9 bb ⊢
  rw [← hn9] at HO9 ⊢
  clear hn9
  have Ooa_10 := Lib.hid (Ooa_9.out.grow bb)
  clear Ooa_9
  have K10 := Lib.hid (K9.out.grow bb)
  have Oob_10 : Hid (AtO B0 w10 ob ⟨1, 2, ⟨#[]⟩⟩) := Lib.hid ⟨ge9, HO9.out⟩
  clear bb ge9 HO9 K9
  go_wp2_with fail
  refine (full_any w10 1 1 rfl).mono ?_
  rintro e w11 ⟨rfl, b9⟩
  rw [← HFS.out]
  have bb : Below w10.heap.size w10 w11 := b9
  have Ooa_11 := Lib.hid (Ooa_10.out.grow bb)
  clear Ooa_10
  have Oob_11 := Lib.hid (Oob_10.out.grow bb)
  clear Oob_10
  have K11 := Lib.hid (K10.out.grow bb)
  clear bb K10
  clear b9
  have DC := RDone_ok w11 r g h p v kM2 0 2 0 [(0, kT1), (3, kT2)] K11.out.rs 3 (by omega) (by omega) kT2 (by simp) true (fullS 1) (by unfold mayAns; rw [fullS_size]; rfl)
  have DC2 := Lib.hid DC
  clear DC
  rw [← HFS.out] at DC2
  go_wp2_with fail
  refine DC2.out.mono ?_
  clear DC2
  rintro e w12 ⟨rfl, r9, tt⟩
  rw [HFS.out] at r9
  change RS w12 r g h p v kM3 0 2 1 [(0, kT1)] at r9
  have Ooa_12 := Lib.hid (Ooa_11.out.kept (K11.out.stayR tt _ Ooa_11.out.ge Ooa_11.out.lt))
  clear Ooa_11
  have Oob_12 := Lib.hid (Oob_11.out.kept (K11.out.stayR tt _ Oob_11.out.ge Oob_11.out.lt))
  clear Oob_11
  have K12 := Lib.hid (K11.out.device tt r9 kM3_len)
  clear tt r9 K11
  have PC := Lib.hid (Poll_live w12 b g h q u mb kM3 0 8 3 [ya, yb] [xa, xb] 2 0 2 0 K12.out.ks (fun l os' cs' back' d ht => (k_told3 HYA.out HYB.out HXA.out HXB.out ht).1))
  go_wp2_with fail
  refine PC.out.mono ?_
  clear PC
  rintro e w13 ⟨lv, l, os', cs', back', rfl, ho, ht, s9, tt⟩
  obtain ⟨_, hl, h1, h2, h3⟩ := k_told3 HYA.out HYB.out HXA.out HXB.out ht
  subst hl h1 h2 h3
  obtain ⟨ga, capga, rfl, hgb, g0, g1, g2⟩ := own_one ho
  have hlt9 := World.block_lt_of_cell? w13 _ g0
  have A9 : Hid (At3 B0 w13 ga kD2) := Lib.hid ⟨Nat.le_trans K12.out.B1 hgb, hlt9, g0, g1, g2⟩
  clear g0 g1 g2 hgb hlt9
  clear ho ht
  have Ooa_13 := Lib.hid (Ooa_12.out.kept (K12.out.stayK tt _ Ooa_12.out.ge Ooa_12.out.lt))
  clear Ooa_12
  have Oob_13 := Lib.hid (Oob_12.out.kept (K12.out.stayK tt _ Oob_12.out.ge Oob_12.out.lt))
  clear Oob_12
  have K13 := Lib.hid (K12.out.driver tt s9 kM3_len)
  clear tt s9 K12
  have Aga_13 := A9
  clear A9
  have DC := RDone_ok w13 r g h p v kM3 0 2 1 [(0, kT1)] K13.out.rs 0 (by omega) (by omega) kT1 (by simp) false ⟨#[]⟩ (by first | decide +kernel | (unfold mayAns; simp; done) | (unfold mayAns ByteArray.toList; simp [ByteArray.toList.loop]; done))
  have DC2 := Lib.hid DC
  clear DC
  go_wp2_with fail
  refine DC2.out.mono ?_
  clear DC2
  rintro e w14 ⟨rfl, r9, tt⟩
  change RS w14 r g h p v kM4 0 2 2 [] at r9
  have Ooa_14 := Lib.hid (Ooa_13.out.kept (K13.out.stayR tt _ Ooa_13.out.ge Ooa_13.out.lt))
  clear Ooa_13
  have Oob_14 := Lib.hid (Oob_13.out.kept (K13.out.stayR tt _ Oob_13.out.ge Oob_13.out.lt))
  clear Oob_13
  have Aga_14 := Lib.hid (Aga_13.out.kept (K13.out.stayR tt _ Aga_13.out.ge Aga_13.out.lt) tt.size)
  clear Aga_13
  have K14 := Lib.hid (K13.out.device tt r9 kM4_len)
  clear tt r9 K13
  have PC := Lib.hid (Poll_live w14 b g h q u mb kM4 0 8 3 [ya] [xa] 2 1 2 0 K14.out.ks (fun l os' cs' back' d ht => (k_told4 HYA.out HXA.out ht).1))
  go_wp2_with fail
  refine PC.out.mono ?_
  clear PC
  rintro e w15 ⟨lv, l, os', cs', back', rfl, ho, ht, s9, tt⟩
  obtain ⟨_, hl, h1, h2, h3⟩ := k_told4 HYA.out HXA.out ht
  subst hl h1 h2 h3
  obtain ⟨gb, capgb, rfl, hgb, g0, g1, g2⟩ := own_one ho
  have hlt9 := World.block_lt_of_cell? w15 _ g0
  have A9 : Hid (At3 B0 w15 gb kD1) := Lib.hid ⟨Nat.le_trans K14.out.B1 hgb, hlt9, g0, g1, g2⟩
  clear g0 g1 g2 hgb hlt9
  clear ho ht
  have Ooa_15 := Lib.hid (Ooa_14.out.kept (K14.out.stayK tt _ Ooa_14.out.ge Ooa_14.out.lt))
  clear Ooa_14
  have Oob_15 := Lib.hid (Oob_14.out.kept (K14.out.stayK tt _ Oob_14.out.ge Oob_14.out.lt))
  clear Oob_14
  have Aga_15 := Lib.hid (Aga_14.out.kept (K14.out.stayK tt _ Aga_14.out.ge Aga_14.out.lt) tt.size)
  clear Aga_14
  have K15 := Lib.hid (K14.out.driver tt s9 kM4_len)
  clear tt s9 K14
  have Agb_15 := A9
  clear A9
  have PC := Lib.hid (Poll_live w15 b g h q u mb kM4 0 8 3 [] [] 2 2 2 0 K15.out.ks (fun l os' cs' back' d ht => (k_none ht).1))
  go_wp2_with fail
  refine PC.out.mono ?_
  clear PC
  rintro e w16 ⟨lv, l, os', cs', back', rfl, ho, ht, s9, tt⟩
  obtain ⟨_, hl, h1, h2, h3⟩ := k_none ht
  subst hl h1 h2 h3
  obtain ⟨pz, cz, hz9⟩ := ho.form9
  subst hz9
  clear ho ht
  have Ooa_16 := Lib.hid (Ooa_15.out.kept (K15.out.stayK tt _ Ooa_15.out.ge Ooa_15.out.lt))
  clear Ooa_15
  have Oob_16 := Lib.hid (Oob_15.out.kept (K15.out.stayK tt _ Oob_15.out.ge Oob_15.out.lt))
  clear Oob_15
  have Aga_16 := Lib.hid (Aga_15.out.kept (K15.out.stayK tt _ Aga_15.out.ge Aga_15.out.lt) tt.size)
  clear Aga_15
  have Agb_16 := Lib.hid (Agb_15.out.kept (K15.out.stayK tt _ Agb_15.out.ge Agb_15.out.lt) tt.size)
  clear Agb_15
  have K16 := Lib.hid (K15.out.driver tt s9 kM4_len)
  clear tt s9 K15
  go_upto_region 14 with fail
  refine wp_region_noPanic ?_
  refine region_held (S := (fun V => V.heap[oa]? = some (.cells #[.int .i64 2, .int .i64 2, .string FS] 36 (0, 0)) ∧ V.heap[ob]? = some (.cells #[.int .i64 1, .int .i64 2, .string ⟨#[]⟩] 36 (0, 0)))) (by kernel_rfl) (fun V d => ⟨(d.block _).trans Ooa_16.out.at_, (d.block _).trans Oob_16.out.at_⟩) (fun V d hS => ?_)
  have bb : Below w16.heap.size w16 V := Below.of_none d.grown
  have Aga_17 := Lib.hid (Aga_16.out.grow bb)
  clear Aga_16
  have Agb_17 := Lib.hid (Agb_16.out.grow bb)
  clear Agb_16
  have KV := Lib.hid (K16.out.grow bb)
  clear bb d K16 Ooa_16 Oob_16
  refine wpAnyH_take (i := 0) (oi := ⟨some 75, Op.move (Operand.tmp 8), _, _, _, none⟩) (v := (.int .i64 0)) rfl (by kernel_rfl) (by kernel_rfl) (by kernel_rfl) (fun _ _ _ h => h) (Or.inl ⟨by rfl, fun w' h' => ?_⟩) hS ?_
  · clear h'
    go_simp
  simp only [Act.put]
  refine wpAnyH_take (i := 1) (oi := ⟨some 76, Op.binOp BinOp.neq 3 (Operand.tmp 75) (Operand.const (Value.int IntKind.i64 0)) 3, _, _, _, none⟩) (v := (.bool false)) rfl (by kernel_rfl) (by kernel_rfl) (by kernel_rfl) (fun _ _ _ h => h) (Or.inl ⟨by rfl, fun w' h' => ?_⟩) hS ?_
  · clear h'
    go_simp
  simp only [Act.put]
  refine wpAnyH_take (i := 2) (oi := ⟨some 77, Op.move (Operand.tmp 76), _, _, _, none⟩) (v := (.bool false)) rfl (by kernel_rfl) (by kernel_rfl) (by kernel_rfl) (fun _ _ _ h => h) (Or.inl ⟨by rfl, fun w' h' => ?_⟩) hS ?_
  · clear h'
    go_simp
  simp only [Act.put]
  refine wpAnyH_take (i := 3) (oi := ⟨some 78, Op.load 36 (Operand.tmp 9), _, _, _, some (2, false)⟩) (v := (.agg #[.int .i64 2, .int .i64 2, .string FS])) rfl (by kernel_rfl) (by kernel_rfl) (by kernel_rfl) (fun _ _ _ h => h) (Or.inl ⟨by kernel_rfl, fun w' h' => ?_⟩) hS ?_
  · have c0 := cell_of_block (i := 0) h'.1
    have c1 := cell_of_block (i := 1) h'.1
    have c2 := cell_of_block (i := 2) h'.1
    clear h'
    go_simp
  simp only [Act.put]
  refine wpAnyH_ready (rs := [4]) (by kernel_rfl) (by simp) ?_
  refine AllReadyH.cons rfl (fun K hK => ?_) AllReadyH.nil
  go_simp
  refine (full_any V 1 1 rfl).mono ?_
  rintro e w18 ⟨rfl, b9⟩
  rw [← HFS.out]
  have S9 : (fun V => V.heap[oa]? = some (.cells #[.int .i64 2, .int .i64 2, .string FS] 36 (0, 0)) ∧ V.heap[ob]? = some (.cells #[.int .i64 1, .int .i64 2, .string ⟨#[]⟩] 36 (0, 0))) w18 := ⟨(b9.block _ (lt_of_block hS.1)).trans hS.1, (b9.block _ (lt_of_block hS.2)).trans hS.2⟩
  have bb : Below V.heap.size V w18 := b9
  have Aga_18 := Lib.hid (Aga_17.out.grow bb)
  clear Aga_17
  have Agb_18 := Lib.hid (Agb_17.out.grow bb)
  clear Agb_17
  have K18 := Lib.hid (KV.out.grow bb)
  clear bb KV
  clear b9
  go_simp
  refine hK.out _ _ S9 (fun _ => ?_)
  clear hK K
  refine wpAnyH_take (i := 5) (oi := ⟨some 80, Op.build 36 #[(0, Operand.const (Value.int IntKind.i64 2)), (1, Operand.const (Value.int IntKind.i64 2)), (2, (Operand.tmp 79))], _, _, _, some (2, false)⟩) (v := (.agg #[.int .i64 2, .int .i64 2, .string FS])) rfl (by kernel_rfl) (by kernel_rfl) (by kernel_rfl) (fun _ _ _ h => h) (Or.inl ⟨by kernel_rfl, fun w' h' => ?_⟩) S9 ?_
  · clear h'
    go_simp
  simp only [Act.put]
  refine wpAnyH_take (i := 6) (oi := ⟨some 81, Op.binOp BinOp.neq 36 (Operand.tmp 78) (Operand.tmp 80) 36, _, _, _, some (2, false)⟩) (v := (.bool false)) rfl (by kernel_rfl) (by kernel_rfl) (by kernel_rfl) (fun _ _ _ h => h) (Or.inl ⟨by kernel_rfl, fun w' h' => ?_⟩) S9 ?_
  · clear h'
    go_simp
  simp only [Act.put]
  refine wpAnyH_take (i := 7) (oi := ⟨some 82, Op.pick (Operand.tmp 77) (Operand.const (Value.bool true)) (Operand.tmp 81), _, _, _, none⟩) (v := (.bool false)) rfl (by kernel_rfl) (by kernel_rfl) (by kernel_rfl) (fun _ _ _ h => h) (Or.inl ⟨by rfl, fun w' h' => ?_⟩) S9 ?_
  · clear h'
    go_simp
  simp only [Act.put]
  refine wpAnyH_take (i := 8) (oi := ⟨some 83, Op.move (Operand.tmp 82), _, _, _, none⟩) (v := (.bool false)) rfl (by kernel_rfl) (by kernel_rfl) (by kernel_rfl) (fun _ _ _ h => h) (Or.inl ⟨by rfl, fun w' h' => ?_⟩) S9 ?_
  · clear h'
    go_simp
  simp only [Act.put]
  refine wpAnyH_take (i := 9) (oi := ⟨some 84, Op.move (Operand.tmp 11), _, _, _, some (8, false)⟩) (v := (.int .i64 3)) rfl (by kernel_rfl) (by kernel_rfl) (by kernel_rfl) (fun _ _ _ h => h) (Or.inl ⟨by kernel_rfl, fun w' h' => ?_⟩) S9 ?_
  · clear h'
    go_simp
  simp only [Act.put]
  refine wpAnyH_take (i := 10) (oi := ⟨some 85, Op.binOp BinOp.neq 3 (Operand.tmp 84) (Operand.const (Value.int IntKind.i64 3)) 3, _, _, _, some (8, false)⟩) (v := (.bool false)) rfl (by kernel_rfl) (by kernel_rfl) (by kernel_rfl) (fun _ _ _ h => h) (Or.inl ⟨by kernel_rfl, fun w' h' => ?_⟩) S9 ?_
  · clear h'
    go_simp
  simp only [Act.put]
  refine wpAnyH_take (i := 11) (oi := ⟨some 86, Op.pick (Operand.tmp 83) (Operand.const (Value.bool true)) (Operand.tmp 85), _, _, _, none⟩) (v := (.bool false)) rfl (by kernel_rfl) (by kernel_rfl) (by kernel_rfl) (fun _ _ _ h => h) (Or.inl ⟨by rfl, fun w' h' => ?_⟩) S9 ?_
  · clear h'
    go_simp
  simp only [Act.put]
  refine wpAnyH_take (i := 12) (oi := ⟨some 87, Op.move (Operand.tmp 86), _, _, _, none⟩) (v := (.bool false)) rfl (by kernel_rfl) (by kernel_rfl) (by kernel_rfl) (fun _ _ _ h => h) (Or.inl ⟨by rfl, fun w' h' => ?_⟩) S9 ?_
  · clear h'
    go_simp
  simp only [Act.put]
  refine wpAnyH_take (i := 13) (oi := ⟨some 88, Op.load 36 (Operand.tmp 12), _, _, _, some (12, false)⟩) (v := (.agg #[.int .i64 1, .int .i64 2, .string ⟨#[]⟩])) rfl (by kernel_rfl) (by kernel_rfl) (by kernel_rfl) (fun _ _ _ h => h) (Or.inl ⟨by kernel_rfl, fun w' h' => ?_⟩) S9 ?_
  · have c0 := cell_of_block (i := 0) h'.2
    have c1 := cell_of_block (i := 1) h'.2
    have c2 := cell_of_block (i := 2) h'.2
    clear h'
    go_simp
  simp only [Act.put]
  refine wpAnyH_take (i := 14) (oi := ⟨some 89, Op.build 36 #[(0, Operand.const (Value.int IntKind.i64 1)), (1, Operand.const (Value.int IntKind.i64 2))], _, _, _, some (12, false)⟩) (v := (.agg #[.int .i64 1, .int .i64 2, .string ⟨#[]⟩])) rfl (by kernel_rfl) (by kernel_rfl) (by kernel_rfl) (fun _ _ _ h => h) (Or.inl ⟨by kernel_rfl, fun w' h' => ?_⟩) S9 ?_
  · clear h'
    go_simp
  simp only [Act.put]
  refine wpAnyH_take (i := 15) (oi := ⟨some 90, Op.binOp BinOp.neq 36 (Operand.tmp 88) (Operand.tmp 89) 36, _, _, _, some (12, false)⟩) (v := (.bool false)) rfl (by kernel_rfl) (by kernel_rfl) (by kernel_rfl) (fun _ _ _ h => h) (Or.inl ⟨by kernel_rfl, fun w' h' => ?_⟩) S9 ?_
  · clear h'
    go_simp
  simp only [Act.put]
  refine wpAnyH_take (i := 16) (oi := ⟨some 91, Op.pick (Operand.tmp 87) (Operand.const (Value.bool true)) (Operand.tmp 90), _, _, _, none⟩) (v := (.bool false)) rfl (by kernel_rfl) (by kernel_rfl) (by kernel_rfl) (fun _ _ _ h => h) (Or.inl ⟨by rfl, fun w' h' => ?_⟩) S9 ?_
  · clear h'
    go_simp
  simp only [Act.put]
  refine wpAnyH_take (i := 17) (oi := ⟨some 92, Op.move (Operand.tmp 91), _, _, _, none⟩) (v := (.bool false)) rfl (by kernel_rfl) (by kernel_rfl) (by kernel_rfl) (fun _ _ _ h => h) (Or.inl ⟨by rfl, fun w' h' => ?_⟩) S9 ?_
  · clear h'
    go_simp
  simp only [Act.put]
  refine wpAnyH_take (i := 18) (oi := ⟨some 93, Op.move (Operand.tmp 14), _, _, _, some (17, false)⟩) (v := (.slice (some ⟨ga, 0, none⟩) 1 capga)) rfl (by kernel_rfl) (by kernel_rfl) (by kernel_rfl) (fun _ _ _ h => h) (Or.inl ⟨by kernel_rfl, fun w' h' => ?_⟩) S9 ?_
  · clear h'
    go_simp
  simp only [Act.put]
  refine wpAnyH_take (i := 19) (oi := ⟨some 94, Op.call { callee := Callee.builtin Builtin.len, args := #[(Operand.tmp 93)], argTypes := #[41] }, _, _, _, some (17, false)⟩) (v := (.int .i64 1)) rfl (by kernel_rfl) (by kernel_rfl) (by kernel_rfl) (fun _ _ _ h => h) (Or.inl ⟨by kernel_rfl, fun w' h' => ?_⟩) S9 ?_
  · clear h'
    go_simp
  simp only [Act.put]
  refine wpAnyH_take (i := 20) (oi := ⟨some 95, Op.binOp BinOp.neq 3 (Operand.tmp 94) (Operand.const (Value.int IntKind.i64 1)) 3, _, _, _, some (17, false)⟩) (v := (.bool false)) rfl (by kernel_rfl) (by kernel_rfl) (by kernel_rfl) (fun _ _ _ h => h) (Or.inl ⟨by kernel_rfl, fun w' h' => ?_⟩) S9 ?_
  · clear h'
    go_simp
  simp only [Act.put]
  refine wpAnyH_take (i := 21) (oi := ⟨some 96, Op.pick (Operand.tmp 92) (Operand.const (Value.bool true)) (Operand.tmp 95), _, _, _, none⟩) (v := (.bool false)) rfl (by kernel_rfl) (by kernel_rfl) (by kernel_rfl) (fun _ _ _ h => h) (Or.inl ⟨by rfl, fun w' h' => ?_⟩) S9 ?_
  · clear h'
    go_simp
  simp only [Act.put]
  refine wpAnyH_take (i := 22) (oi := ⟨some 97, Op.move (Operand.tmp 96), _, _, _, none⟩) (v := (.bool false)) rfl (by kernel_rfl) (by kernel_rfl) (by kernel_rfl) (fun _ _ _ h => h) (Or.inl ⟨by rfl, fun w' h' => ?_⟩) S9 ?_
  · clear h'
    go_simp
  simp only [Act.put]
  refine wpAnyH_take (i := 23) (oi := ⟨some 98, Op.move (Operand.tmp 15), _, _, _, some (22, false)⟩) (v := (.slice (some ⟨gb, 0, none⟩) 1 capgb)) rfl (by kernel_rfl) (by kernel_rfl) (by kernel_rfl) (fun _ _ _ h => h) (Or.inl ⟨by kernel_rfl, fun w' h' => ?_⟩) S9 ?_
  · clear h'
    go_simp
  simp only [Act.put]
  refine wpAnyH_take (i := 24) (oi := ⟨some 99, Op.call { callee := Callee.builtin Builtin.len, args := #[(Operand.tmp 98)], argTypes := #[41] }, _, _, _, some (22, false)⟩) (v := (.int .i64 1)) rfl (by kernel_rfl) (by kernel_rfl) (by kernel_rfl) (fun _ _ _ h => h) (Or.inl ⟨by kernel_rfl, fun w' h' => ?_⟩) S9 ?_
  · clear h'
    go_simp
  simp only [Act.put]
  refine wpAnyH_take (i := 25) (oi := ⟨some 100, Op.binOp BinOp.neq 3 (Operand.tmp 99) (Operand.const (Value.int IntKind.i64 1)) 3, _, _, _, some (22, false)⟩) (v := (.bool false)) rfl (by kernel_rfl) (by kernel_rfl) (by kernel_rfl) (fun _ _ _ h => h) (Or.inl ⟨by kernel_rfl, fun w' h' => ?_⟩) S9 ?_
  · clear h'
    go_simp
  simp only [Act.put]
  refine wpAnyH_take (i := 26) (oi := ⟨some 101, Op.pick (Operand.tmp 97) (Operand.const (Value.bool true)) (Operand.tmp 100), _, _, _, none⟩) (v := (.bool false)) rfl (by kernel_rfl) (by kernel_rfl) (by kernel_rfl) (fun _ _ _ h => h) (Or.inl ⟨by rfl, fun w' h' => ?_⟩) S9 ?_
  · clear h'
    go_simp
  simp only [Act.put]
  refine wpAnyH_take (i := 27) (oi := ⟨some 102, Op.move (Operand.tmp 101), _, _, _, none⟩) (v := (.bool false)) rfl (by kernel_rfl) (by kernel_rfl) (by kernel_rfl) (fun _ _ _ h => h) (Or.inl ⟨by rfl, fun w' h' => ?_⟩) S9 ?_
  · clear h'
    go_simp
  simp only [Act.put]
  refine wpAnyH_take (i := 28) (oi := ⟨some 103, Op.move (Operand.tmp 16), _, _, _, some (27, false)⟩) (v := (.slice pz 0 cz)) rfl (by kernel_rfl) (by kernel_rfl) (by kernel_rfl) (fun _ _ _ h => h) (Or.inl ⟨by kernel_rfl, fun w' h' => ?_⟩) S9 ?_
  · clear h'
    go_simp
  simp only [Act.put]
  refine wpAnyH_take (i := 29) (oi := ⟨some 104, Op.call { callee := Callee.builtin Builtin.len, args := #[(Operand.tmp 103)], argTypes := #[41] }, _, _, _, some (27, false)⟩) (v := (.int .i64 0)) rfl (by kernel_rfl) (by kernel_rfl) (by kernel_rfl) (fun _ _ _ h => h) (Or.inl ⟨by kernel_rfl, fun w' h' => ?_⟩) S9 ?_
  · clear h'
    go_simp
  simp only [Act.put]
  refine wpAnyH_take (i := 30) (oi := ⟨some 105, Op.binOp BinOp.neq 3 (Operand.tmp 104) (Operand.const (Value.int IntKind.i64 0)) 3, _, _, _, some (27, false)⟩) (v := (.bool false)) rfl (by kernel_rfl) (by kernel_rfl) (by kernel_rfl) (fun _ _ _ h => h) (Or.inl ⟨by kernel_rfl, fun w' h' => ?_⟩) S9 ?_
  · clear h'
    go_simp
  simp only [Act.put]
  refine wpAnyH_take (i := 31) (oi := ⟨some 106, Op.pick (Operand.tmp 102) (Operand.const (Value.bool true)) (Operand.tmp 105), _, _, _, none⟩) (v := (.bool false)) rfl (by kernel_rfl) (by kernel_rfl) (by kernel_rfl) (fun _ _ _ h => h) (Or.inl ⟨by rfl, fun w' h' => ?_⟩) S9 ?_
  · clear h'
    go_simp
  simp only [Act.put]
  refine wpAnyH_done (by kernel_rfl) (NoPanic.normal ?_) _
  simp only [List.setIfInBounds_toArray, List.set_cons_zero, List.set_cons_succ]
  clear S9 hS
  have EC0 := Submit_arg w18 b g h q u mb _ 0 8 3 _ _ _ _ _ _ _ _ K18.out.ks ⟨1, 8, ⟨#[]⟩⟩ rfl K18.out.shapes 0 (by decide) rfl (by decide +kernel)
  unfold Ord.val at EC0
  simp only at EC0
  have EC := Lib.hid EC0
  clear EC0
  go_wp2_with fail
  refine EC.out.mono ?_
  clear EC
  rintro e w19 ⟨rfl, k9⟩
  have bb : Below w18.heap.size w18 w19 := Below.of_none k9
  have Aga_19 := Lib.hid (Aga_18.out.grow bb)
  clear Aga_18
  have Agb_19 := Lib.hid (Agb_18.out.grow bb)
  clear Agb_18
  have K19 := Lib.hid (K18.out.grow bb)
  clear bb K18
  clear k9
  have EC0 := Submit_arg w19 b g h q u mb _ 0 8 3 _ _ _ _ _ _ _ _ K19.out.ks ⟨2, 1, ⟨#[97, 98]⟩⟩ rfl K19.out.shapes 1 (by decide) rfl (by decide +kernel)
  unfold Ord.val at EC0
  simp only at EC0
  have EC := Lib.hid EC0
  clear EC0
  go_wp2_with fail
  refine EC.out.mono ?_
  clear EC
  rintro e w20 ⟨rfl, k9⟩
  have bb : Below w19.heap.size w19 w20 := Below.of_none k9
  have Aga_20 := Lib.hid (Aga_19.out.grow bb)
  clear Aga_19
  have Agb_20 := Lib.hid (Agb_19.out.grow bb)
  clear Agb_19
  have K20 := Lib.hid (K19.out.grow bb)
  clear bb K19
  clear k9
  have EC0 := Submit_kind w20 b g h q u mb _ 0 8 3 _ _ _ _ _ _ _ _ K20.out.ks ⟨6, 0, ⟨#[]⟩⟩ rfl K20.out.shapes (by decide)
  unfold Ord.val at EC0
  simp only at EC0
  have EC := Lib.hid EC0
  clear EC0
  go_wp2_with fail
  refine EC.out.mono ?_
  clear EC
  rintro e w21 ⟨rfl, k9⟩
  have bb : Below w20.heap.size w20 w21 := Below.of_none k9
  have Aga_21 := Lib.hid (Aga_20.out.grow bb)
  clear Aga_20
  have Agb_21 := Lib.hid (Agb_20.out.grow bb)
  clear Agb_20
  have K21 := Lib.hid (K20.out.grow bb)
  clear bb K20
  clear k9
  have SC := Submit_ok w21 b g h q u mb kM4 0 8 3 [] [] 2 2 false 2 0 false K21.out.ks kO3 rfl K21.out.shapes 2 (by decide) rfl HMkO3.out (by simp) rfl (by decide) (by decide)
  unfold kO3 Ord.val at SC
  simp only at SC
  have SC2 := Lib.hid SC
  clear SC
  go_wp2_with fail
  refine SC2.out.mono ?_
  clear SC2
  rintro e w22 ⟨yc, xc, rfl, y1, y2, y3, y4, y5, y6, hx, s9, tt⟩
  have HYC : Hid (yc.id = 3 ∧ yc.since = 0) := Lib.hid ⟨by omega, by omega⟩
  clear y1 y2 y3 y4 y5 y6 hx
  generalize hL5 : addL _ 0 32 2 _ _ = L5 at s9
  have hl5 : L5.length = 4096 := by rw [← hL5, addL_length, slotL_length, kM4_len]
  have HL5 := Lib.hid hl5
  clear hL5 hl5
  have Aga_22 := Lib.hid (Aga_21.out.kept (K21.out.stayK tt _ Aga_21.out.ge Aga_21.out.lt) tt.size)
  clear Aga_21
  have Agb_22 := Lib.hid (Agb_21.out.kept (K21.out.stayK tt _ Agb_21.out.ge Agb_21.out.lt) tt.size)
  clear Agb_21
  have K22 := Lib.hid (K21.out.driver tt s9 HL5.out)
  clear tt s9 K21
  have TC := Lib.hid (Tick_any w22 b g h q u mb L5 0 8 3 _ _ _ _ _ _ _ _ K22.out.ks (by omega))
  go_wp2_with fail
  refine TC.out.mono ?_
  clear TC
  rintro e w23 ⟨rfl, s9, t9⟩
  have tt : Turned (KB b q h mb u) w22 w23 := ⟨t9.os, t9.tape, t9.output, t9.size, fun j hj hn => t9.block j hj (fun e => hn (.inr (.inr (.inr (.inl e)))))⟩
  clear t9
  rw [show (false || ([] ++ [yc] : List Snt).any fun x => decide ((3 : Int) ≤ 0 + 1 - x.since)) = false from by simp [HYC.out.2]] at s9
  have Aga_23 := Lib.hid (Aga_22.out.kept (K22.out.stayK tt _ Aga_22.out.ge Aga_22.out.lt) tt.size)
  clear Aga_22
  have Agb_23 := Lib.hid (Agb_22.out.kept (K22.out.stayK tt _ Agb_22.out.ge Agb_22.out.lt) tt.size)
  clear Agb_22
  have K23 := Lib.hid (K22.out.driver tt s9 HL5.out)
  clear tt s9 K22
  have TC := Lib.hid (Tick_any w23 b g h q u mb L5 0 8 3 _ _ _ _ _ _ _ _ K23.out.ks (by omega))
  go_wp2_with fail
  refine TC.out.mono ?_
  clear TC
  rintro e w24 ⟨rfl, s9, t9⟩
  have tt : Turned (KB b q h mb u) w23 w24 := ⟨t9.os, t9.tape, t9.output, t9.size, fun j hj hn => t9.block j hj (fun e => hn (.inr (.inr (.inr (.inl e)))))⟩
  clear t9
  rw [show (false || ([] ++ [yc] : List Snt).any fun x => decide ((3 : Int) ≤ (0 + 1) + 1 - x.since)) = false from by simp [HYC.out.2]] at s9
  have Aga_24 := Lib.hid (Aga_23.out.kept (K23.out.stayK tt _ Aga_23.out.ge Aga_23.out.lt) tt.size)
  clear Aga_23
  have Agb_24 := Lib.hid (Agb_23.out.kept (K23.out.stayK tt _ Agb_23.out.ge Agb_23.out.lt) tt.size)
  clear Agb_23
  have K24 := Lib.hid (K23.out.driver tt s9 HL5.out)
  clear tt s9 K23
  go_wp2_with fail
  refine (kdead_any w24 b g _ _ _ _ _ _ _ false K24.out.ks.kat).mono ?_
  rintro e w' ⟨rfl, rfl⟩
  have TC := Lib.hid (Tick_any w24 b g h q u mb L5 0 8 3 _ _ _ _ _ _ _ _ K24.out.ks (by omega))
  go_wp2_with fail
  refine TC.out.mono ?_
  clear TC
  rintro e w25 ⟨rfl, s9, t9⟩
  have tt : Turned (KB b q h mb u) w24 w25 := ⟨t9.os, t9.tape, t9.output, t9.size, fun j hj hn => t9.block j hj (fun e => hn (.inr (.inr (.inr (.inl e)))))⟩
  clear t9
  rw [show (false || ([] ++ [yc] : List Snt).any fun x => decide ((3 : Int) ≤ 0 + 1 + 1 + 1 - x.since)) = true from by simp [HYC.out.2]] at s9
  have Aga_25 := Lib.hid (Aga_24.out.kept (K24.out.stayK tt _ Aga_24.out.ge Aga_24.out.lt) tt.size)
  clear Aga_24
  have Agb_25 := Lib.hid (Agb_24.out.kept (K24.out.stayK tt _ Agb_24.out.ge Agb_24.out.lt) tt.size)
  clear Agb_24
  have SH := Lib.hid (K24.out.shapes)
  have BL := Lib.hid (K24.out.bel.trans (tt.below K24.out.bel.size (fun j hj => (K24.out.kb j hj).1)))
  have NB : Hid (b < B0 ∧ u < B0 ∧ w0.heap.size ≤ b ∧ w0.heap.size ≤ u) := Lib.hid ⟨(K24.out.kb b (.inr (.inr (.inr (.inl rfl))))).2, (K24.out.kb u (.inr (.inr (.inr (.inr rfl))))).2, (K24.out.kb b (.inr (.inr (.inr (.inl rfl))))).1, (K24.out.kb u (.inr (.inr (.inr (.inr rfl))))).1⟩
  have BZ := Lib.hid (Nat.le_trans K24.out.B1 tt.size)
  have SD := Lib.hid s9
  clear s9 tt K24
  have EC0 := Submit_dead w25 b g h q u mb _ 0 8 3 _ _ _ _ _ _ _ _ SD.out ⟨3, 0, ⟨#[]⟩⟩ rfl
  unfold Ord.val at EC0
  simp only at EC0
  have EC := Lib.hid EC0
  clear EC0
  go_wp2_with fail
  refine EC.out.mono ?_
  clear EC
  rintro e w26 ⟨rfl, k9⟩
  have bb := Below.of_none k9
  have Aga_26 := Lib.hid (Aga_25.out.grow bb)
  clear Aga_25
  have Agb_26 := Lib.hid (Agb_25.out.grow bb)
  clear Agb_25
  have SE := Lib.hid (SD.out.grown k9)
  have BL2 := Lib.hid (BL.out.trans (bb.mono BL.out.size))
  have BZ2 := Lib.hid (Nat.le_trans BZ.out bb.size)
  clear k9 bb SD BL BZ
  have PC := Lib.hid (Poll_dead w26 b g 0 8 3 q u _ _ _ SE.out.kat SE.out.tab SE.out.ub.1 (by simp) (by simp))
  go_wp2_with fail
  refine PC.out.mono ?_
  clear PC
  rintro e w27 ⟨lv, l, rfl, ho, hp, hpw, t9⟩
  have hl : l = [⟨3, false, ⟨#[]⟩⟩] := by
    have h9 : l.Perm [⟨yc.id, false, ⟨#[]⟩⟩] := hp
    rw [HYC.out.1] at h9
    exact List.perm_singleton.1 h9
  subst hl
  obtain ⟨gx, capgx, rfl, hgb, g0, g1, g2⟩ := own_one ho
  have hlt9 := World.block_lt_of_cell? w27 _ g0
  have A9 : Hid (At3 B0 w27 gx ⟨3, false, ⟨#[]⟩⟩) := Lib.hid ⟨Nat.le_trans BZ2.out hgb, hlt9, g0, g1, g2⟩
  clear g0 g1 g2 hgb hlt9 ho hp hpw
  have Aga_27 := Lib.hid (Aga_26.out.kept (t9.block _ Aga_26.out.lt (fun e => by have := Aga_26.out.ge; have := NB.out.2.1; omega)) t9.size)
  clear Aga_26
  have Agb_27 := Lib.hid (Agb_26.out.kept (t9.block _ Agb_26.out.lt (fun e => by have := Agb_26.out.ge; have := NB.out.2.1; omega)) t9.size)
  clear Agb_26
  have KA := Lib.hid (SE.out.kat.kept (t9.block b (by have := NB.out.1; have := BZ2.out; omega) (fun e => SE.out.ub.1 e.symm)))
  have BL3 := Lib.hid (BL2.out.trans (t9.below BL2.out.size (by rintro k rfl; exact NB.out.2.2.2)))
  clear t9 SE BL2 BZ2
  have S0 := Lib.hid (show LS9 B0 w0 b g q u ga gb gx w27 from ⟨Aga_27.out, Agb_27.out, A9.out, HS.out.kept (BL3.out.block 0 hpos), ⟨_, _, KA.out⟩, BL3.out⟩)
  clear Aga_27 Agb_27 A9 KA BL3 NB
  go_upto_region 26 with fail
  refine wp_region_noPanic ?_
  refine region_held (S := LS9 B0 w0 b g q u ga gb gx) (by kernel_rfl) (fun V d => S0.out.grow (Below.of_none d.grown)) (fun V d hS => ?_)
  clear d S0
  refine wpAnyH_ready (rs := [0]) (by kernel_rfl) (by simp) ?_
  refine AllReadyH.cons rfl (fun K hK => ?_) AllReadyH.nil
  go_simp
  refine (bawake_any V hS.sh).mono ?_
  rintro e va ⟨rfl, ba⟩
  have sa := hS.grow ba
  go_simp
  refine hK.out _ _ sa (fun _ => ?_)
  clear hK K
  refine wpAnyH_take (i := 1) (oi := ⟨some 149, Op.move (Operand.tmp 148), _, _, _, none⟩) (v := (.bool true)) rfl (by kernel_rfl) (by kernel_rfl) (by kernel_rfl) (fun _ _ _ h => h) (Or.inl ⟨by rfl, fun w' h' => ?_⟩) sa ?_
  · clear h'
    go_simp
  simp only [Act.put]
  refine wpAnyH_take (i := 2) (oi := ⟨some 150, Op.move (Operand.tmp 7), _, _, _, some (1, true)⟩) (v := (.int .i64 2)) rfl (by kernel_rfl) (by kernel_rfl) (by kernel_rfl) (fun _ _ _ h => h) (Or.inl ⟨by kernel_rfl, fun w' h' => ?_⟩) sa ?_
  · clear h'
    go_simp
  simp only [Act.put]
  refine wpAnyH_take (i := 3) (oi := ⟨some 151, Op.binOp BinOp.eql 3 (Operand.tmp 150) (Operand.const (Value.int IntKind.i64 2)) 3, _, _, _, some (1, true)⟩) (v := (.bool true)) rfl (by kernel_rfl) (by kernel_rfl) (by kernel_rfl) (fun _ _ _ h => h) (Or.inl ⟨by kernel_rfl, fun w' h' => ?_⟩) sa ?_
  · clear h'
    go_simp
  simp only [Act.put]
  refine wpAnyH_take (i := 4) (oi := ⟨some 152, Op.pick (Operand.tmp 149) (Operand.tmp 151) (Operand.const (Value.bool false)), _, _, _, none⟩) (v := (.bool true)) rfl (by kernel_rfl) (by kernel_rfl) (by kernel_rfl) (fun _ _ _ h => h) (Or.inl ⟨by rfl, fun w' h' => ?_⟩) sa ?_
  · clear h'
    go_simp
  simp only [Act.put]
  refine wpAnyH_take (i := 5) (oi := ⟨some 153, Op.move (Operand.tmp 152), _, _, _, none⟩) (v := (.bool true)) rfl (by kernel_rfl) (by kernel_rfl) (by kernel_rfl) (fun _ _ _ h => h) (Or.inl ⟨by rfl, fun w' h' => ?_⟩) sa ?_
  · clear h'
    go_simp
  simp only [Act.put]
  refine wpAnyH_take (i := 6) (oi := ⟨some 154, Op.move (Operand.tmp 14), _, _, _, some (5, true)⟩) (v := (.slice (some ⟨ga, 0, none⟩) 1 capga)) rfl (by kernel_rfl) (by kernel_rfl) (by kernel_rfl) (fun _ _ _ h => h) (Or.inl ⟨by kernel_rfl, fun w' h' => ?_⟩) sa ?_
  · clear h'
    go_simp
  simp only [Act.put]
  refine wpAnyH_take (i := 7) (oi := ⟨some 155, Op.indexAddr 41 (Operand.tmp 154) (Operand.const (Value.int IntKind.i64 0)), _, _, _, some (5, true)⟩) (v := (.pointer (some ⟨ga, 0, none⟩))) rfl (by kernel_rfl) (by kernel_rfl) (by kernel_rfl) (fun _ _ _ h => h) (Or.inl ⟨by kernel_rfl, fun w' h' => ?_⟩) sa ?_
  · clear h'
    go_simp
  simp only [Act.put]
  refine wpAnyH_take (i := 8) (oi := ⟨some 156, Op.load 45 (Operand.tmp 155), _, _, _, some (5, true)⟩) (v := (.agg #[.int .i64 2, .bool true, .string FS])) rfl (by kernel_rfl) (by kernel_rfl) (by kernel_rfl) (fun _ _ _ h => h) (Or.inl ⟨by kernel_rfl, fun w' h' => ?_⟩) sa ?_
  · have c0 := (show w'.cell? ⟨ga, 0, none⟩ = some (.int .i64 2) from h'.a1.c0)
    have c1 := (show w'.cell? ⟨ga, 1, none⟩ = some (.bool true) from h'.a1.c1)
    have c2 := (show w'.cell? ⟨ga, 2, none⟩ = some (.string FS) from by rw [HFS.out]; exact h'.a1.c2)
    clear h'
    go_simp
  simp only [Act.put]
  refine wpAnyH_ready (rs := [9]) (by kernel_rfl) (by simp) ?_
  refine AllReadyH.cons rfl (fun K hK => ?_) AllReadyH.nil
  go_simp
  refine (full_any va 1 1 rfl).mono ?_
  rintro e vb ⟨rfl, b9⟩
  rw [← HFS.out]
  have sb := sa.grow b9
  go_simp
  refine hK.out _ _ sb (fun _ => ?_)
  clear hK K
  refine wpAnyH_take (i := 10) (oi := ⟨some 158, Op.build 45 #[(0, Operand.const (Value.int IntKind.i64 2)), (1, Operand.const (Value.bool true)), (2, (Operand.tmp 157))], _, _, _, some (5, true)⟩) (v := (.agg #[.int .i64 2, .bool true, .string FS])) rfl (by kernel_rfl) (by kernel_rfl) (by kernel_rfl) (fun _ _ _ h => h) (Or.inl ⟨by kernel_rfl, fun w' h' => ?_⟩) sb ?_
  · clear h'
    go_simp
  simp only [Act.put]
  refine wpAnyH_take (i := 11) (oi := ⟨some 159, Op.binOp BinOp.eql 45 (Operand.tmp 156) (Operand.tmp 158) 45, _, _, _, some (5, true)⟩) (v := (.bool true)) rfl (by kernel_rfl) (by kernel_rfl) (by kernel_rfl) (fun _ _ _ h => h) (Or.inl ⟨by kernel_rfl, fun w' h' => ?_⟩) sb ?_
  · clear h'
    go_simp
  simp only [Act.put]
  refine wpAnyH_take (i := 12) (oi := ⟨some 160, Op.pick (Operand.tmp 153) (Operand.tmp 159) (Operand.const (Value.bool false)), _, _, _, none⟩) (v := (.bool true)) rfl (by kernel_rfl) (by kernel_rfl) (by kernel_rfl) (fun _ _ _ h => h) (Or.inl ⟨by rfl, fun w' h' => ?_⟩) sb ?_
  · clear h'
    go_simp
  simp only [Act.put]
  refine wpAnyH_take (i := 13) (oi := ⟨some 161, Op.move (Operand.tmp 160), _, _, _, none⟩) (v := (.bool true)) rfl (by kernel_rfl) (by kernel_rfl) (by kernel_rfl) (fun _ _ _ h => h) (Or.inl ⟨by rfl, fun w' h' => ?_⟩) sb ?_
  · clear h'
    go_simp
  simp only [Act.put]
  refine wpAnyH_take (i := 14) (oi := ⟨some 162, Op.move (Operand.tmp 15), _, _, _, some (13, true)⟩) (v := (.slice (some ⟨gb, 0, none⟩) 1 capgb)) rfl (by kernel_rfl) (by kernel_rfl) (by kernel_rfl) (fun _ _ _ h => h) (Or.inl ⟨by kernel_rfl, fun w' h' => ?_⟩) sb ?_
  · clear h'
    go_simp
  simp only [Act.put]
  refine wpAnyH_take (i := 15) (oi := ⟨some 163, Op.indexAddr 41 (Operand.tmp 162) (Operand.const (Value.int IntKind.i64 0)), _, _, _, some (13, true)⟩) (v := (.pointer (some ⟨gb, 0, none⟩))) rfl (by kernel_rfl) (by kernel_rfl) (by kernel_rfl) (fun _ _ _ h => h) (Or.inl ⟨by kernel_rfl, fun w' h' => ?_⟩) sb ?_
  · clear h'
    go_simp
  simp only [Act.put]
  refine wpAnyH_take (i := 16) (oi := ⟨some 164, Op.load 45 (Operand.tmp 163), _, _, _, some (13, true)⟩) (v := (.agg #[.int .i64 1, .bool false, .string ⟨#[]⟩])) rfl (by kernel_rfl) (by kernel_rfl) (by kernel_rfl) (fun _ _ _ h => h) (Or.inl ⟨by kernel_rfl, fun w' h' => ?_⟩) sb ?_
  · have c0 := (show w'.cell? ⟨gb, 0, none⟩ = some (.int .i64 1) from h'.a2.c0)
    have c1 := (show w'.cell? ⟨gb, 1, none⟩ = some (.bool false) from h'.a2.c1)
    have c2 := (show w'.cell? ⟨gb, 2, none⟩ = some (.string ⟨#[]⟩) from h'.a2.c2)
    clear h'
    go_simp
  simp only [Act.put]
  refine wpAnyH_take (i := 17) (oi := ⟨some 165, Op.build 45 #[(0, Operand.const (Value.int IntKind.i64 1))], _, _, _, some (13, true)⟩) (v := (.agg #[.int .i64 1, .bool false, .string ⟨#[]⟩])) rfl (by kernel_rfl) (by kernel_rfl) (by kernel_rfl) (fun _ _ _ h => h) (Or.inl ⟨by kernel_rfl, fun w' h' => ?_⟩) sb ?_
  · clear h'
    go_simp
  simp only [Act.put]
  refine wpAnyH_take (i := 18) (oi := ⟨some 166, Op.binOp BinOp.eql 45 (Operand.tmp 164) (Operand.tmp 165) 45, _, _, _, some (13, true)⟩) (v := (.bool true)) rfl (by kernel_rfl) (by kernel_rfl) (by kernel_rfl) (fun _ _ _ h => h) (Or.inl ⟨by kernel_rfl, fun w' h' => ?_⟩) sb ?_
  · clear h'
    go_simp
  simp only [Act.put]
  refine wpAnyH_take (i := 19) (oi := ⟨some 167, Op.pick (Operand.tmp 161) (Operand.tmp 166) (Operand.const (Value.bool false)), _, _, _, none⟩) (v := (.bool true)) rfl (by kernel_rfl) (by kernel_rfl) (by kernel_rfl) (fun _ _ _ h => h) (Or.inl ⟨by rfl, fun w' h' => ?_⟩) sb ?_
  · clear h'
    go_simp
  simp only [Act.put]
  refine wpAnyH_take (i := 20) (oi := ⟨some 168, Op.move (Operand.tmp 167), _, _, _, none⟩) (v := (.bool true)) rfl (by kernel_rfl) (by kernel_rfl) (by kernel_rfl) (fun _ _ _ h => h) (Or.inl ⟨by rfl, fun w' h' => ?_⟩) sb ?_
  · clear h'
    go_simp
  simp only [Act.put]
  refine wpAnyH_take (i := 21) (oi := ⟨some 169, Op.move (Operand.tmp 18), _, _, _, some (20, true)⟩) (v := (.int .i64 1)) rfl (by kernel_rfl) (by kernel_rfl) (by kernel_rfl) (fun _ _ _ h => h) (Or.inl ⟨by kernel_rfl, fun w' h' => ?_⟩) sb ?_
  · clear h'
    go_simp
  simp only [Act.put]
  refine wpAnyH_take (i := 22) (oi := ⟨some 170, Op.binOp BinOp.eql 23 (Operand.tmp 169) (Operand.const (Value.int IntKind.i64 1)) 23, _, _, _, some (20, true)⟩) (v := (.bool true)) rfl (by kernel_rfl) (by kernel_rfl) (by kernel_rfl) (fun _ _ _ h => h) (Or.inl ⟨by kernel_rfl, fun w' h' => ?_⟩) sb ?_
  · clear h'
    go_simp
  simp only [Act.put]
  refine wpAnyH_take (i := 23) (oi := ⟨some 171, Op.pick (Operand.tmp 168) (Operand.tmp 170) (Operand.const (Value.bool false)), _, _, _, none⟩) (v := (.bool true)) rfl (by kernel_rfl) (by kernel_rfl) (by kernel_rfl) (fun _ _ _ h => h) (Or.inl ⟨by rfl, fun w' h' => ?_⟩) sb ?_
  · clear h'
    go_simp
  simp only [Act.put]
  refine wpAnyH_take (i := 24) (oi := ⟨some 172, Op.move (Operand.tmp 171), _, _, _, none⟩) (v := (.bool true)) rfl (by kernel_rfl) (by kernel_rfl) (by kernel_rfl) (fun _ _ _ h => h) (Or.inl ⟨by rfl, fun w' h' => ?_⟩) sb ?_
  · clear h'
    go_simp
  simp only [Act.put]
  refine wpAnyH_take (i := 25) (oi := ⟨some 173, Op.move (Operand.tmp 20), _, _, _, some (24, true)⟩) (v := (.int .i64 1)) rfl (by kernel_rfl) (by kernel_rfl) (by kernel_rfl) (fun _ _ _ h => h) (Or.inl ⟨by kernel_rfl, fun w' h' => ?_⟩) sb ?_
  · clear h'
    go_simp
  simp only [Act.put]
  refine wpAnyH_take (i := 26) (oi := ⟨some 174, Op.binOp BinOp.eql 23 (Operand.tmp 173) (Operand.const (Value.int IntKind.i64 1)) 23, _, _, _, some (24, true)⟩) (v := (.bool true)) rfl (by kernel_rfl) (by kernel_rfl) (by kernel_rfl) (fun _ _ _ h => h) (Or.inl ⟨by kernel_rfl, fun w' h' => ?_⟩) sb ?_
  · clear h'
    go_simp
  simp only [Act.put]
  refine wpAnyH_take (i := 27) (oi := ⟨some 175, Op.pick (Operand.tmp 172) (Operand.tmp 174) (Operand.const (Value.bool false)), _, _, _, none⟩) (v := (.bool true)) rfl (by kernel_rfl) (by kernel_rfl) (by kernel_rfl) (fun _ _ _ h => h) (Or.inl ⟨by rfl, fun w' h' => ?_⟩) sb ?_
  · clear h'
    go_simp
  simp only [Act.put]
  refine wpAnyH_take (i := 28) (oi := ⟨some 176, Op.move (Operand.tmp 175), _, _, _, none⟩) (v := (.bool true)) rfl (by kernel_rfl) (by kernel_rfl) (by kernel_rfl) (fun _ _ _ h => h) (Or.inl ⟨by rfl, fun w' h' => ?_⟩) sb ?_
  · clear h'
    go_simp
  simp only [Act.put]
  refine wpAnyH_take (i := 29) (oi := ⟨some 177, Op.move (Operand.tmp 22), _, _, _, some (28, true)⟩) (v := (.int .i64 10)) rfl (by kernel_rfl) (by kernel_rfl) (by kernel_rfl) (fun _ _ _ h => h) (Or.inl ⟨by kernel_rfl, fun w' h' => ?_⟩) sb ?_
  · clear h'
    go_simp
  simp only [Act.put]
  refine wpAnyH_take (i := 30) (oi := ⟨some 178, Op.binOp BinOp.eql 23 (Operand.tmp 177) (Operand.const (Value.int IntKind.i64 10)) 23, _, _, _, some (28, true)⟩) (v := (.bool true)) rfl (by kernel_rfl) (by kernel_rfl) (by kernel_rfl) (fun _ _ _ h => h) (Or.inl ⟨by kernel_rfl, fun w' h' => ?_⟩) sb ?_
  · clear h'
    go_simp
  simp only [Act.put]
  refine wpAnyH_take (i := 31) (oi := ⟨some 179, Op.pick (Operand.tmp 176) (Operand.tmp 178) (Operand.const (Value.bool false)), _, _, _, none⟩) (v := (.bool true)) rfl (by kernel_rfl) (by kernel_rfl) (by kernel_rfl) (fun _ _ _ h => h) (Or.inl ⟨by rfl, fun w' h' => ?_⟩) sb ?_
  · clear h'
    go_simp
  simp only [Act.put]
  refine wpAnyH_take (i := 32) (oi := ⟨some 180, Op.move (Operand.tmp 179), _, _, _, none⟩) (v := (.bool true)) rfl (by kernel_rfl) (by kernel_rfl) (by kernel_rfl) (fun _ _ _ h => h) (Or.inl ⟨by rfl, fun w' h' => ?_⟩) sb ?_
  · clear h'
    go_simp
  simp only [Act.put]
  refine wpAnyH_take (i := 33) (oi := ⟨some 181, Op.move (Operand.tmp 24), _, _, _, some (32, true)⟩) (v := (.int .i64 0)) rfl (by kernel_rfl) (by kernel_rfl) (by kernel_rfl) (fun _ _ _ h => h) (Or.inl ⟨by kernel_rfl, fun w' h' => ?_⟩) sb ?_
  · clear h'
    go_simp
  simp only [Act.put]
  refine wpAnyH_take (i := 34) (oi := ⟨some 182, Op.binOp BinOp.eql 23 (Operand.tmp 181) (Operand.const (Value.int IntKind.i64 0)) 23, _, _, _, some (32, true)⟩) (v := (.bool true)) rfl (by kernel_rfl) (by kernel_rfl) (by kernel_rfl) (fun _ _ _ h => h) (Or.inl ⟨by kernel_rfl, fun w' h' => ?_⟩) sb ?_
  · clear h'
    go_simp
  simp only [Act.put]
  refine wpAnyH_take (i := 35) (oi := ⟨some 183, Op.pick (Operand.tmp 180) (Operand.tmp 182) (Operand.const (Value.bool false)), _, _, _, none⟩) (v := (.bool true)) rfl (by kernel_rfl) (by kernel_rfl) (by kernel_rfl) (fun _ _ _ h => h) (Or.inl ⟨by rfl, fun w' h' => ?_⟩) sb ?_
  · clear h'
    go_simp
  simp only [Act.put]
  refine wpAnyH_take (i := 36) (oi := ⟨some 184, Op.move (Operand.tmp 183), _, _, _, none⟩) (v := (.bool true)) rfl (by kernel_rfl) (by kernel_rfl) (by kernel_rfl) (fun _ _ _ h => h) (Or.inl ⟨by rfl, fun w' h' => ?_⟩) sb ?_
  · clear h'
    go_simp
  simp only [Act.put]
  refine wpAnyH_take (i := 37) (oi := ⟨some 185, Op.move (Operand.tmp 25), _, _, _, some (36, true)⟩) (v := (.bool true)) rfl (by kernel_rfl) (by kernel_rfl) (by kernel_rfl) (fun _ _ _ h => h) (Or.inl ⟨by kernel_rfl, fun w' h' => ?_⟩) sb ?_
  · clear h'
    go_simp
  simp only [Act.put]
  refine wpAnyH_take (i := 38) (oi := ⟨some 186, Op.pick (Operand.tmp 184) (Operand.tmp 185) (Operand.const (Value.bool false)), _, _, _, none⟩) (v := (.bool true)) rfl (by kernel_rfl) (by kernel_rfl) (by kernel_rfl) (fun _ _ _ h => h) (Or.inl ⟨by rfl, fun w' h' => ?_⟩) sb ?_
  · clear h'
    go_simp
  simp only [Act.put]
  refine wpAnyH_take (i := 39) (oi := ⟨some 187, Op.move (Operand.tmp 186), _, _, _, none⟩) (v := (.bool true)) rfl (by kernel_rfl) (by kernel_rfl) (by kernel_rfl) (fun _ _ _ h => h) (Or.inl ⟨by rfl, fun w' h' => ?_⟩) sb ?_
  · clear h'
    go_simp
  simp only [Act.put]
  refine wpAnyH_take (i := 40) (oi := ⟨some 188, Op.move (Operand.tmp 3), _, _, _, some (39, true)⟩) (v := (.pointer (some ⟨b, 0, none⟩))) rfl (by kernel_rfl) (by kernel_rfl) (by kernel_rfl) (fun _ _ _ h => h) (Or.inl ⟨by kernel_rfl, fun w' h' => ?_⟩) sb ?_
  · clear h'
    go_simp
  simp only [Act.put]
  refine wpAnyH_ready (rs := [41]) (by kernel_rfl) (by simp) ?_
  refine AllReadyH.cons rfl (fun K hK => ?_) AllReadyH.nil
  go_simp
  obtain ⟨L9, N9, kt⟩ := sb.kat
  refine (kdead_any vb b g _ _ _ _ _ _ _ true kt).mono ?_
  rintro e w' ⟨rfl, rfl⟩
  go_simp
  refine hK.out _ _ sb (fun _ => ?_)
  clear hK K
  refine wpAnyH_take (i := 42) (oi := ⟨some 190, Op.pick (Operand.tmp 187) (Operand.tmp 189) (Operand.const (Value.bool false)), _, _, _, none⟩) (v := (.bool true)) rfl (by kernel_rfl) (by kernel_rfl) (by kernel_rfl) (fun _ _ _ h => h) (Or.inl ⟨by rfl, fun w' h' => ?_⟩) sb ?_
  · clear h'
    go_simp
  simp only [Act.put]
  refine wpAnyH_take (i := 43) (oi := ⟨some 191, Op.move (Operand.tmp 190), _, _, _, none⟩) (v := (.bool true)) rfl (by kernel_rfl) (by kernel_rfl) (by kernel_rfl) (fun _ _ _ h => h) (Or.inl ⟨by rfl, fun w' h' => ?_⟩) sb ?_
  · clear h'
    go_simp
  simp only [Act.put]
  refine wpAnyH_take (i := 44) (oi := ⟨some 192, Op.move (Operand.tmp 27), _, _, _, some (43, true)⟩) (v := (.int .i64 14)) rfl (by kernel_rfl) (by kernel_rfl) (by kernel_rfl) (fun _ _ _ h => h) (Or.inl ⟨by kernel_rfl, fun w' h' => ?_⟩) sb ?_
  · clear h'
    go_simp
  simp only [Act.put]
  refine wpAnyH_take (i := 45) (oi := ⟨some 193, Op.binOp BinOp.eql 23 (Operand.tmp 192) (Operand.const (Value.int IntKind.i64 14)) 23, _, _, _, some (43, true)⟩) (v := (.bool true)) rfl (by kernel_rfl) (by kernel_rfl) (by kernel_rfl) (fun _ _ _ h => h) (Or.inl ⟨by kernel_rfl, fun w' h' => ?_⟩) sb ?_
  · clear h'
    go_simp
  simp only [Act.put]
  refine wpAnyH_take (i := 46) (oi := ⟨some 194, Op.pick (Operand.tmp 191) (Operand.tmp 193) (Operand.const (Value.bool false)), _, _, _, none⟩) (v := (.bool true)) rfl (by kernel_rfl) (by kernel_rfl) (by kernel_rfl) (fun _ _ _ h => h) (Or.inl ⟨by rfl, fun w' h' => ?_⟩) sb ?_
  · clear h'
    go_simp
  simp only [Act.put]
  refine wpAnyH_take (i := 47) (oi := ⟨some 195, Op.move (Operand.tmp 194), _, _, _, none⟩) (v := (.bool true)) rfl (by kernel_rfl) (by kernel_rfl) (by kernel_rfl) (fun _ _ _ h => h) (Or.inl ⟨by rfl, fun w' h' => ?_⟩) sb ?_
  · clear h'
    go_simp
  simp only [Act.put]
  refine wpAnyH_take (i := 48) (oi := ⟨some 196, Op.move (Operand.tmp 28), _, _, _, some (47, true)⟩) (v := (.slice (some ⟨gx, 0, none⟩) 1 capgx)) rfl (by kernel_rfl) (by kernel_rfl) (by kernel_rfl) (fun _ _ _ h => h) (Or.inl ⟨by kernel_rfl, fun w' h' => ?_⟩) sb ?_
  · clear h'
    go_simp
  simp only [Act.put]
  refine wpAnyH_take (i := 49) (oi := ⟨some 197, Op.call { callee := Callee.builtin Builtin.len, args := #[(Operand.tmp 196)], argTypes := #[41] }, _, _, _, some (47, true)⟩) (v := (.int .i64 1)) rfl (by kernel_rfl) (by kernel_rfl) (by kernel_rfl) (fun _ _ _ h => h) (Or.inl ⟨by kernel_rfl, fun w' h' => ?_⟩) sb ?_
  · clear h'
    go_simp
  simp only [Act.put]
  refine wpAnyH_take (i := 50) (oi := ⟨some 198, Op.binOp BinOp.eql 3 (Operand.tmp 197) (Operand.const (Value.int IntKind.i64 1)) 3, _, _, _, some (47, true)⟩) (v := (.bool true)) rfl (by kernel_rfl) (by kernel_rfl) (by kernel_rfl) (fun _ _ _ h => h) (Or.inl ⟨by kernel_rfl, fun w' h' => ?_⟩) sb ?_
  · clear h'
    go_simp
  simp only [Act.put]
  refine wpAnyH_take (i := 51) (oi := ⟨some 199, Op.pick (Operand.tmp 195) (Operand.tmp 198) (Operand.const (Value.bool false)), _, _, _, none⟩) (v := (.bool true)) rfl (by kernel_rfl) (by kernel_rfl) (by kernel_rfl) (fun _ _ _ h => h) (Or.inl ⟨by rfl, fun w' h' => ?_⟩) sb ?_
  · clear h'
    go_simp
  simp only [Act.put]
  refine wpAnyH_take (i := 52) (oi := ⟨some 200, Op.move (Operand.tmp 199), _, _, _, none⟩) (v := (.bool true)) rfl (by kernel_rfl) (by kernel_rfl) (by kernel_rfl) (fun _ _ _ h => h) (Or.inl ⟨by rfl, fun w' h' => ?_⟩) sb ?_
  · clear h'
    go_simp
  simp only [Act.put]
  refine wpAnyH_take (i := 53) (oi := ⟨some 201, Op.move (Operand.tmp 28), _, _, _, some (52, true)⟩) (v := (.slice (some ⟨gx, 0, none⟩) 1 capgx)) rfl (by kernel_rfl) (by kernel_rfl) (by kernel_rfl) (fun _ _ _ h => h) (Or.inl ⟨by kernel_rfl, fun w' h' => ?_⟩) sb ?_
  · clear h'
    go_simp
  simp only [Act.put]
  refine wpAnyH_take (i := 54) (oi := ⟨some 202, Op.indexAddr 41 (Operand.tmp 201) (Operand.const (Value.int IntKind.i64 0)), _, _, _, some (52, true)⟩) (v := (.pointer (some ⟨gx, 0, none⟩))) rfl (by kernel_rfl) (by kernel_rfl) (by kernel_rfl) (fun _ _ _ h => h) (Or.inl ⟨by kernel_rfl, fun w' h' => ?_⟩) sb ?_
  · clear h'
    go_simp
  simp only [Act.put]
  refine wpAnyH_take (i := 55) (oi := ⟨some 203, Op.load 45 (Operand.tmp 202), _, _, _, some (52, true)⟩) (v := (.agg #[.int .i64 3, .bool false, .string ⟨#[]⟩])) rfl (by kernel_rfl) (by kernel_rfl) (by kernel_rfl) (fun _ _ _ h => h) (Or.inl ⟨by kernel_rfl, fun w' h' => ?_⟩) sb ?_
  · have c0 := (show w'.cell? ⟨gx, 0, none⟩ = some (.int .i64 3) from h'.a3.c0)
    have c1 := (show w'.cell? ⟨gx, 1, none⟩ = some (.bool false) from h'.a3.c1)
    have c2 := (show w'.cell? ⟨gx, 2, none⟩ = some (.string ⟨#[]⟩) from h'.a3.c2)
    clear h'
    go_simp
  simp only [Act.put]
  refine wpAnyH_take (i := 56) (oi := ⟨some 204, Op.build 45 #[(0, Operand.const (Value.int IntKind.i64 3))], _, _, _, some (52, true)⟩) (v := (.agg #[.int .i64 3, .bool false, .string ⟨#[]⟩])) rfl (by kernel_rfl) (by kernel_rfl) (by kernel_rfl) (fun _ _ _ h => h) (Or.inl ⟨by kernel_rfl, fun w' h' => ?_⟩) sb ?_
  · clear h'
    go_simp
  simp only [Act.put]
  refine wpAnyH_take (i := 57) (oi := ⟨some 205, Op.binOp BinOp.eql 45 (Operand.tmp 203) (Operand.tmp 204) 45, _, _, _, some (52, true)⟩) (v := (.bool true)) rfl (by kernel_rfl) (by kernel_rfl) (by kernel_rfl) (fun _ _ _ h => h) (Or.inl ⟨by kernel_rfl, fun w' h' => ?_⟩) sb ?_
  · clear h'
    go_simp
  simp only [Act.put]
  refine wpAnyH_take (i := 58) (oi := ⟨some 206, Op.pick (Operand.tmp 200) (Operand.tmp 205) (Operand.const (Value.bool false)), _, _, _, none⟩) (v := (.bool true)) rfl (by kernel_rfl) (by kernel_rfl) (by kernel_rfl) (fun _ _ _ h => h) (Or.inl ⟨by rfl, fun w' h' => ?_⟩) sb ?_
  · clear h'
    go_simp
  simp only [Act.put]
  refine wpAnyH_take (i := 59) (oi := ⟨some 207, Op.move (Operand.tmp 206), _, _, _, none⟩) (v := (.bool true)) rfl (by kernel_rfl) (by kernel_rfl) (by kernel_rfl) (fun _ _ _ h => h) (Or.inl ⟨by rfl, fun w' h' => ?_⟩) sb ?_
  · clear h'
    go_simp
  simp only [Act.put]
  refine wpAnyH_take (i := 60) (oi := ⟨some 208, Op.pick (Operand.tmp 207) (Operand.const (Value.bool true)) (Operand.const (Value.bool false)), _, _, _, none⟩) (v := (.bool true)) rfl (by kernel_rfl) (by kernel_rfl) (by kernel_rfl) (fun _ _ _ h => h) (Or.inl ⟨by rfl, fun w' h' => ?_⟩) sb ?_
  · clear h'
    go_simp
  simp only [Act.put]
  refine wpAnyH_take (i := 61) (oi := ⟨some 209, Op.move (Operand.tmp 208), _, _, _, none⟩) (v := (.bool true)) rfl (by kernel_rfl) (by kernel_rfl) (by kernel_rfl) (fun _ _ _ h => h) (Or.inl ⟨by rfl, fun w' h' => ?_⟩) sb ?_
  · clear h'
    go_simp
  simp only [Act.put]
  refine wpAnyH_take (i := 62) (oi := ⟨some 210, Op.pick (Operand.tmp 209) (Operand.const (Value.bool true)) (Operand.const (Value.bool false)), _, _, _, none⟩) (v := (.bool true)) rfl (by kernel_rfl) (by kernel_rfl) (by kernel_rfl) (fun _ _ _ h => h) (Or.inl ⟨by rfl, fun w' h' => ?_⟩) sb ?_
  · clear h'
    go_simp
  simp only [Act.put]
  refine wpAnyH_take (i := 63) (oi := ⟨some 211, Op.move (Operand.tmp 210), _, _, _, none⟩) (v := (.bool true)) rfl (by kernel_rfl) (by kernel_rfl) (by kernel_rfl) (fun _ _ _ h => h) (Or.inl ⟨by rfl, fun w' h' => ?_⟩) sb ?_
  · clear h'
    go_simp
  simp only [Act.put]
  refine wpAnyH_take (i := 64) (oi := ⟨some 212, Op.pick (Operand.tmp 211) (Operand.const (Value.bool true)) (Operand.const (Value.bool false)), _, _, _, none⟩) (v := (.bool true)) rfl (by kernel_rfl) (by kernel_rfl) (by kernel_rfl) (fun _ _ _ h => h) (Or.inl ⟨by rfl, fun w' h' => ?_⟩) sb ?_
  · clear h'
    go_simp
  simp only [Act.put]
  refine wpAnyH_take (i := 65) (oi := ⟨some 0, Op.assign (Operand.tmp 212), _, _, _, none⟩) (v := (.bool true)) rfl (by kernel_rfl) (by kernel_rfl) (by kernel_rfl) (fun _ _ _ h => h) (Or.inl ⟨by rfl, fun w' h' => ?_⟩) sb ?_
  · clear h'
    go_simp
  simp only [Act.put]
  refine wpAnyH_done (by kernel_rfl) (NoPanic.normal ?_) _
  simp only [List.setIfInBounds_toArray, List.set_cons_zero, List.set_cons_succ]
  go_wp2_with fail
  go_ret
  exact ⟨rfl, sb.bel⟩

end Go.Proofs.YtdpiglkffabgdaaGreatDoor

namespace Go.Proofs.YtdpiglkffabgdaaGreatDoor
open Go.ChangeShapes Go.WideShapes Go.ChangeAt Go.RowKit

def shapesLaid : List (String × DataW Unit) := [("blockyard/vblk.shapes", Rows.laid_blockyard_vblk_shapes)]
theorem own_b : ownKnob Tryz.prog.godebug = none := by kernel_rfl
theorem gShapes : Tryz.prog.globalNamed "blockyard/vblk.shapes" = some 0 := by kernel_rfl
theorem tShapes : (Tryz.prog.globals[0]?).map (·.type) = some 116 := by kernel_rfl
theorem laidOut_b : laidOutB Tryz.prog = true := by kernel_rfl
theorem cInt : Tryz.prog.cellsOf 3 = 1 := by kernel_rfl
theorem cU64 : Tryz.prog.cellsOf 57 = 1 := by kernel_rfl
theorem cBool : Tryz.prog.cellsOf 4 = 1 := by kernel_rfl
theorem cShape : Tryz.prog.cellsOf 81 = 5 := by kernel_rfl

set_option maxRecDepth 100000 in
theorem shape_of {H : Type} {enc : TypeId × Value → H} {w : World} {base : Nat} {sp : Nat → Bool} {hd : Bool} {fuel : Nat} {cs : List Value} {x : DataW H × List MemPlace} (s : Shp) (ht : DataW.trod enc Tryz.prog w base sp hd fuel 81 cs = some x)
    (hx : x.1 = .agg [.lit (.int .i64 s.kind), .lit (.int .u64 s.num), .lit (.int .i64 s.len), .lit (.bool s.back), .lit (.int .i64 s.sec)]) : cs = s.cells := by
  obtain ⟨xs, n, _, rfl, hl, hxl, hf⟩ := DataW.trod_struct Tryz.underlying81 ht
  rw [cShape] at hl
  have hx5 : xs.length = 5 := hxl
  match cs, hl, xs, hx5 with
  | [c0, c1, c2, c3, c4], _, [x0, x1, x2, x3, x4], _ =>
    have g0 : DataW.trod enc Tryz.prog w base sp hd n 3 (List.take (Tryz.prog.cellsOf 3) (List.drop 0 [c0, c1, c2, c3, c4])) = some x0 := hf 0 _ rfl
    rw [cInt] at g0
    obtain ⟨k0, e0, q0, _⟩ := DataW.trod_int Tryz.underlying3 g0
    have g1 : DataW.trod enc Tryz.prog w base sp hd n 57 (List.take (Tryz.prog.cellsOf 57) (List.drop 1 [c0, c1, c2, c3, c4])) = some x1 := hf 1 _ rfl
    rw [cU64] at g1
    obtain ⟨k1, e1, q1, _⟩ := DataW.trod_int Tryz.underlying57 g1
    have g2 : DataW.trod enc Tryz.prog w base sp hd n 3 (List.take (Tryz.prog.cellsOf 3) (List.drop 2 [c0, c1, c2, c3, c4])) = some x2 := hf 2 _ rfl
    rw [cInt] at g2
    obtain ⟨k2, e2, q2, _⟩ := DataW.trod_int Tryz.underlying3 g2
    have g3 : DataW.trod enc Tryz.prog w base sp hd n 4 (List.take (Tryz.prog.cellsOf 4) (List.drop 3 [c0, c1, c2, c3, c4])) = some x3 := hf 3 _ rfl
    rw [cBool] at g3
    obtain ⟨k3, e3, q3⟩ := DataW.trod_bool Tryz.underlying4 g3
    have g4 : DataW.trod enc Tryz.prog w base sp hd n 3 (List.take (Tryz.prog.cellsOf 3) (List.drop 4 [c0, c1, c2, c3, c4])) = some x4 := hf 4 _ rfl
    rw [cInt] at g4
    obtain ⟨k4, e4, q4, _⟩ := DataW.trod_int Tryz.underlying3 g4
    simp at e0 e1 e2 e3 e4
    subst e0 e1 e2 e3 e4 q0 q1 q2 q3 q4
    simp at hx
    obtain ⟨h0, h1, h2, h3, h4⟩ := hx
    subst h0 h1 h2 h3 h4
    rfl

/-- WHAT THE CONDITION GIVES THE WALKS. -/
theorem shapes_of {W : World} (h : laidMetH Tryz.prog shapesLaid W) : Shapes W := by
  rw [MakeChecks.laidMetH_plain _ _ _ (by kernel_rfl)] at h
  obtain ⟨ps, ⟨g0, t0, cs0, f0, p0, q0, hg0, ht0, hv0, hd0, _, _⟩, _, _⟩ := h
  obtain rfl := Option.some.inj (gShapes.symm.trans hg0)
  obtain rfl := Option.some.inj (tShapes.symm.trans ht0)
  obtain ⟨xs, m, _, hx, hlen, hn, hel⟩ := DataW.trod_array Tryz.underlying116 hd0
  rw [cShape] at hel
  have hlen2 : cs0.toList.length = 25 := by rw [hlen]; kernel_rfl
  injection hx with hx _
  unfold Rows.laid_blockyard_vblk_shapes at hx
  injection hx with hx
  match xs, hn, hx with
  | [x0, x1, x2, x3, x4], _, hx =>
    simp only [List.map_cons, List.map_nil, List.cons.injEq, and_true] at hx
    obtain ⟨a0, a1, a2, a3, a4⟩ := hx
    have e0 := shape_of shp1 (hel 0 (by decide)) a0.symm
    have e1 := shape_of shp2 (hel 1 (by decide)) a1.symm
    have e2 := shape_of shp3 (hel 2 (by decide)) a2.symm
    have e3 := shape_of shp4 (hel 3 (by decide)) a3.symm
    have e4 := shape_of shp5 (hel 4 (by decide)) a4.symm
    have hl : cs0.toList = [shp1, shp2, shp3, shp4, shp5].flatMap Shp.cells := by
      have s0 := List.take_append_drop 5 cs0.toList
      have s1 := List.take_append_drop 5 (cs0.toList.drop 5)
      have s2 := List.take_append_drop 5 (cs0.toList.drop 10)
      have s3 := List.take_append_drop 5 (cs0.toList.drop 15)
      have s4 := List.take_append_drop 5 (cs0.toList.drop 20)
      have s5 : cs0.toList.drop 25 = [] := List.drop_eq_nil_of_le (by omega)
      rw [List.drop_drop] at s1 s2 s3 s4
      simp only [Nat.zero_mul, Nat.one_mul, Nat.reduceMul, List.drop_zero, Nat.reduceAdd] at e0 e1 e2 e3 e4 s1 s2 s3 s4
      rw [← s0, e0, ← s1, e1, ← s2, e2, ← s3, e3, ← s4, e4, s5]
      rfl
    intro j v hv
    rw [← hl] at hv
    have := World.var?_cell hg0 hv0 j
    rw [this]
    simpa using hv

/-- The door's own heap meets the condition. -/
theorem door_met (os : Os) (args : Array Value) : laidMetH Tryz.prog shapesLaid ((World.doorLaid Tryz.prog 400 os).forCall (fun _ _ => 0) ⟨#[], args, []⟩).memory :=
  laidMetH_of_parts3 (fuel := 8) (laidMet_of_run' 8 (by kernel_rfl) (by kernel_rfl)) (by kernel_rfl) (by kernel_rfl)

end Go.Proofs.YtdpiglkffabgdaaGreatDoor

namespace Go.Proofs.YtdpiglkffabgdaaGreatDoor.bkn
open Go.ChangeShapes Go.WideShapes Go.ChangeAt Go.RowKit Go.Sort
open Go.ChangeMaps (open_string shut_string)
set_option linter.unusedVariables false

set_option maxRecDepth 100000 in
theorem lifted (os : Os) (started : os.Started) (H : Type) (enc : TypeId × Value → H) :
    ReturnsInHanded {} Tryz.checked os 3 .any (fun w args => (Rows.vblkKnownSpec.pre enc Tryz.prog Tryz.f3 Rows.vblkKnownRow.domain false w args ∧ laidMetH Tryz.prog shapesLaid w) ∧ sizedMet enc Tryz.prog Tryz.f3 (OpenSpec.ofChange Rows.vblkKnownSpec) false w args)
      (Rows.vblkKnownSpec.post enc Tryz.prog Tryz.f3 false true false false) := by
  refine returnsInHanded_of_change_and (C := Tryz.checked) (X := fun w _ => laidMetH Tryz.prog shapesLaid w) (fun _ _ _ hh h => h.of_heap hh) own_b started (by kernel_rfl) Tryz.func3
    (ChangeSpec.witness_shaped (enc := enc) (C := Tryz.checked) (os := os) (X := fun w _ => laidMetH Tryz.prog shapesLaid w) false (World.doorLaid Tryz.prog 400 os) #[] 8 rfl (World.shaped_of_RefB (by kernel_rfl) (by kernel_rfl)) (by kernel_rfl) (by kernel_rfl) (by kernel_rfl) (door_met os _)) ?_
  intro W base args ds gs before hval0 hW _ _ hL _
  have hW' := hW
  obtain ⟨p, q, hA0, hV, rfl, hfz, hnd⟩ := hW
  have hA : DataW.TrodAll enc Tryz.prog W 0 (fun _ => true) true Tryz.f3.params.toList args.toList ds p := hA0
  rw [Tryz.params3] at hA
  obtain ⟨rfl, rfl, rfl⟩ := trodAll_none hA
  obtain ⟨rfl, rfl⟩ := trodVars_none hV
  clear hA0 hval0
  refine (bknown_any W (shapes_of hL)).mono fun e W' ⟨he, bel⟩ => ?_
  subst he
  exact ⟨_, rfl, _, _, _, [], _, [], hW', trodAll_mk1 (shut_bool Tryz.underlying4 _), trodAll_mk0, rfl, bel.frame _, fun h => by cases h⟩

theorem row_holds : Rows.VblkKnownSaid :=
  OpenClaim.holds_of_wide 3 Tryz.f3 rfl rfl rfl rfl rfl rfl rfl ⟨rfl, rfl, rfl, rfl, rfl⟩ rfl rfl rfl rfl rfl (by kernel_rfl) Tryz.func3 (by kernel_rfl)
    (of_decide_eq_true (by kernel_rfl)) (by unfold Func.isWrapper; first | (rw [if_pos (by decide +kernel)]; kernel_rfl) | (rw [if_neg (by decide +kernel)]; exact ⟨rfl, rfl⟩))
    (fun os started H enc _ => lifted os started H enc)

/-- THE STATEMENT. -/
theorem proved : Rows.VblkKnownCardSaid :=
  Claim7.holds_tied_plain_at .later [] [.data] true (true, "51126c4aecbaf233efc26e7ad75d2ab458dfd2ff1c2e6b45982303188187b0e4") false
    row_holds (fun _ h => by cases h) (by kernel_rfl) (fun _ h => by cases h) vblkKnown_row_tie rfl ⟨rfl, rfl⟩ (by kernel_rfl) rfl
    (fun f fn hf hfn => by
      obtain rfl : f = 3 := Option.some.inj ((show Tryz.prog.funcNamed "blockyard/blockyardlaw03.VblkKnown" = some 3 by kernel_rfl).symm.trans hf) |>.symm
      obtain rfl : fn = Tryz.f3 := (Option.some.inj (Tryz.func3.symm.trans hfn)).symm
      exact ⟨by kernel_rfl, fun j t ht => by
        rw [Tryz.params3] at ht
        simp at ht⟩)
    (by kernel_rfl)
#print axioms proved

end Go.Proofs.YtdpiglkffabgdaaGreatDoor.bkn
