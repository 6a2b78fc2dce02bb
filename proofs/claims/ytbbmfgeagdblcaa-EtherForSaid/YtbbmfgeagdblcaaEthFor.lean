/-
  EtherFor: a frame is for whom it goes to; what goes to everybody is for all. No conditions.
-/
import Derived.Test.YtbbmfgeagdblcaaEthI
import Derived.ProofKit
import Derived.OpenShut
import Derived.ShutString
import Derived.ChangeOld
import Derived.Below
namespace Go.Proofs.Ytbbmfgeagdblcaa.etf
open Go.ChangeShapes Go.WideShapes Go.ChangeAt Go.RowKit
open Go.ChangeMaps (open_string shut_string)
set_option linter.unusedVariables false

/-- What the last test reads. -/
def EfS (w : World) (n : Nat) (f : Fr) (me other : Mac6) : Prop := FrAt w n ⟨Mac6.all, f.fr, f.ty, f.da⟩ ∧ MacAt w (n + 1) me ∧ MacAt w (n + 2) other
theorem efS_grow {w w' : World} {n : Nat} {f : Fr} {me other : Mac6} (h : EfS w n f me other) (b : Below w.heap.size w w') : EfS w' n f me other := ⟨h.1.grow b, h.2.1.grow b, h.2.2.grow b⟩
theorem efS_drew {w w' : World} {n : Nat} {f : Fr} {me other : Mac6} (h : EfS w n f me other) (d : EDrew w w') : EfS w' n f me other := efS_grow h d.below
theorem For_yes (w : World) (f : Fr) (me : Mac6) (h : forB f me = true) :
    Calls Try.prog 26 #[.agg #[.int .u8 (f.to.a.toNat : Int), .int .u8 (f.to.b.toNat : Int), .int .u8 (f.to.c.toNat : Int), .int .u8 (f.to.d.toNat : Int), .int .u8 (f.to.e.toNat : Int), .int .u8 (f.to.f.toNat : Int), .int .u8 (f.fr.a.toNat : Int), .int .u8 (f.fr.b.toNat : Int), .int .u8 (f.fr.c.toNat : Int), .int .u8 (f.fr.d.toNat : Int), .int .u8 (f.fr.e.toNat : Int), .int .u8 (f.fr.f.toNat : Int), .int .i64 f.ty, .string f.da], .agg #[.int .u8 (me.a.toNat : Int), .int .u8 (me.b.toNat : Int), .int .u8 (me.c.toNat : Int), .int .u8 (me.d.toNat : Int), .int .u8 (me.e.toNat : Int), .int .u8 (me.f.toNat : Int)]] w fun e w' => e = .returned (.bool true) ∧ Below w.heap.size w w' := by
  have := For_any w f me
  rw [h] at this
  exact this

set_option maxRecDepth 100000 in
set_option maxHeartbeats 4000000 in
theorem walk (f : Fr) (me other : Mac6) (w0 : f.ok) (w : World) :
    Calls Try.prog 8 #[.agg #[.int .u8 (f.to.a.toNat : Int), .int .u8 (f.to.b.toNat : Int), .int .u8 (f.to.c.toNat : Int), .int .u8 (f.to.d.toNat : Int), .int .u8 (f.to.e.toNat : Int), .int .u8 (f.to.f.toNat : Int), .int .u8 (f.fr.a.toNat : Int), .int .u8 (f.fr.b.toNat : Int), .int .u8 (f.fr.c.toNat : Int), .int .u8 (f.fr.d.toNat : Int), .int .u8 (f.fr.e.toNat : Int), .int .u8 (f.fr.f.toNat : Int), .int .i64 f.ty, .string f.da], .agg #[.int .u8 (me.a.toNat : Int), .int .u8 (me.b.toNat : Int), .int .u8 (me.c.toNat : Int), .int .u8 (me.d.toNat : Int), .int .u8 (me.e.toNat : Int), .int .u8 (me.f.toNat : Int)], .agg #[.int .u8 (other.a.toNat : Int), .int .u8 (other.b.toNat : Int), .int .u8 (other.c.toNat : Int), .int .u8 (other.d.toNat : Int), .int .u8 (other.e.toNat : Int), .int .u8 (other.f.toNat : Int)]] w fun e w' => e = .returned (.bool true) ∧ Below w.heap.size w w' := by
  clear w0
  have q1 : forB ⟨me, f.fr, f.ty, f.da⟩ me = true := by simp [forB]
  have q3 : forB ⟨Mac6.all, f.fr, f.ty, f.da⟩ me = true := by simp [forB]
  have q4 : forB ⟨Mac6.all, f.fr, f.ty, f.da⟩ other = true := by simp [forB]
  have Q1 := Lib.hid q1
  have Q3 := Lib.hid q3
  have Q4 := Lib.hid q4
  clear q1 q3 q4
  go_enter Try.func8, Try.ntmps8
  go_upto_region 1 with fail
  have FA : Hid (FrAt (((w.alloc (.cells #[.int .u8 (f.to.a.toNat : Int), .int .u8 (f.to.b.toNat : Int), .int .u8 (f.to.c.toNat : Int), .int .u8 (f.to.d.toNat : Int), .int .u8 (f.to.e.toNat : Int), .int .u8 (f.to.f.toNat : Int), .int .u8 (f.fr.a.toNat : Int), .int .u8 (f.fr.b.toNat : Int), .int .u8 (f.fr.c.toNat : Int), .int .u8 (f.fr.d.toNat : Int), .int .u8 (f.fr.e.toNat : Int), .int .u8 (f.fr.f.toNat : Int), .int .i64 f.ty, .string f.da] 51)).alloc (.cells #[.int .u8 (me.a.toNat : Int), .int .u8 (me.b.toNat : Int), .int .u8 (me.c.toNat : Int), .int .u8 (me.d.toNat : Int), .int .u8 (me.e.toNat : Int), .int .u8 (me.f.toNat : Int)] 49)).alloc (.cells #[.int .u8 (other.a.toNat : Int), .int .u8 (other.b.toNat : Int), .int .u8 (other.c.toNat : Int), .int .u8 (other.d.toNat : Int), .int .u8 (other.e.toNat : Int), .int .u8 (other.f.toNat : Int)] 49)) w.heap.size f) := Lib.hid (FrAt.grow (FrAt.grow (heap_alloc_new w _) ((Below.refl _ _).alloc (Nat.le_refl _) _)) ((Below.refl _ _).alloc (Nat.le_refl _) _))
  have ME : Hid (MacAt (((w.alloc (.cells #[.int .u8 (f.to.a.toNat : Int), .int .u8 (f.to.b.toNat : Int), .int .u8 (f.to.c.toNat : Int), .int .u8 (f.to.d.toNat : Int), .int .u8 (f.to.e.toNat : Int), .int .u8 (f.to.f.toNat : Int), .int .u8 (f.fr.a.toNat : Int), .int .u8 (f.fr.b.toNat : Int), .int .u8 (f.fr.c.toNat : Int), .int .u8 (f.fr.d.toNat : Int), .int .u8 (f.fr.e.toNat : Int), .int .u8 (f.fr.f.toNat : Int), .int .i64 f.ty, .string f.da] 51)).alloc (.cells #[.int .u8 (me.a.toNat : Int), .int .u8 (me.b.toNat : Int), .int .u8 (me.c.toNat : Int), .int .u8 (me.d.toNat : Int), .int .u8 (me.e.toNat : Int), .int .u8 (me.f.toNat : Int)] 49)).alloc (.cells #[.int .u8 (other.a.toNat : Int), .int .u8 (other.b.toNat : Int), .int .u8 (other.c.toNat : Int), .int .u8 (other.d.toNat : Int), .int .u8 (other.e.toNat : Int), .int .u8 (other.f.toNat : Int)] 49)) (w.heap.size + 1) me) := Lib.hid (MacAt.grow (mac_new _ _ _ (by simp)) ((Below.refl _ _).alloc (Nat.le_refl _) _))
  have OT : Hid (MacAt (((w.alloc (.cells #[.int .u8 (f.to.a.toNat : Int), .int .u8 (f.to.b.toNat : Int), .int .u8 (f.to.c.toNat : Int), .int .u8 (f.to.d.toNat : Int), .int .u8 (f.to.e.toNat : Int), .int .u8 (f.to.f.toNat : Int), .int .u8 (f.fr.a.toNat : Int), .int .u8 (f.fr.b.toNat : Int), .int .u8 (f.fr.c.toNat : Int), .int .u8 (f.fr.d.toNat : Int), .int .u8 (f.fr.e.toNat : Int), .int .u8 (f.fr.f.toNat : Int), .int .i64 f.ty, .string f.da] 51)).alloc (.cells #[.int .u8 (me.a.toNat : Int), .int .u8 (me.b.toNat : Int), .int .u8 (me.c.toNat : Int), .int .u8 (me.d.toNat : Int), .int .u8 (me.e.toNat : Int), .int .u8 (me.f.toNat : Int)] 49)).alloc (.cells #[.int .u8 (other.a.toNat : Int), .int .u8 (other.b.toNat : Int), .int .u8 (other.c.toNat : Int), .int .u8 (other.d.toNat : Int), .int .u8 (other.e.toNat : Int), .int .u8 (other.f.toNat : Int)] 49)) (w.heap.size + 2) other) := Lib.hid (mac_new _ _ _ (by simp))
  have BL : Hid (Below w.heap.size w (((w.alloc (.cells #[.int .u8 (f.to.a.toNat : Int), .int .u8 (f.to.b.toNat : Int), .int .u8 (f.to.c.toNat : Int), .int .u8 (f.to.d.toNat : Int), .int .u8 (f.to.e.toNat : Int), .int .u8 (f.to.f.toNat : Int), .int .u8 (f.fr.a.toNat : Int), .int .u8 (f.fr.b.toNat : Int), .int .u8 (f.fr.c.toNat : Int), .int .u8 (f.fr.d.toNat : Int), .int .u8 (f.fr.e.toNat : Int), .int .u8 (f.fr.f.toNat : Int), .int .i64 f.ty, .string f.da] 51)).alloc (.cells #[.int .u8 (me.a.toNat : Int), .int .u8 (me.b.toNat : Int), .int .u8 (me.c.toNat : Int), .int .u8 (me.d.toNat : Int), .int .u8 (me.e.toNat : Int), .int .u8 (me.f.toNat : Int)] 49)).alloc (.cells #[.int .u8 (other.a.toNat : Int), .int .u8 (other.b.toNat : Int), .int .u8 (other.c.toNat : Int), .int .u8 (other.d.toNat : Int), .int .u8 (other.e.toNat : Int), .int .u8 (other.f.toNat : Int)] 49))) := Lib.hid ((((Below.refl _ _).alloc (Nat.le_refl _) _).alloc (by simp) _).alloc (by simp <;> omega) _)
  generalize ((w.alloc _).alloc _).alloc _ = W1 at FA ME OT BL ⊢
  go_wp2_with fail
  refine (awakeE_any _).mono ?_
  rintro e w1 ⟨rfl, b1⟩
  have B1 := below_step BL b1
  have FA1 := Lib.hid (FA.out.grow b1)
  have ME1 := Lib.hid (ME.out.grow b1)
  have OT1 := Lib.hid (OT.out.grow b1)
  clear b1 BL FA ME OT
  obtain ⟨⟨c0, c1, c2, c3, c4, c5⟩, _, _, _⟩ := FA1.out.all
  obtain ⟨d0, d1, d2, d3, d4, d5⟩ := ME1.out.all
  have f0 := FA1.out.frozen 0
  have f1 := FA1.out.frozen 1
  have f2 := FA1.out.frozen 2
  have f3 := FA1.out.frozen 3
  have f4 := FA1.out.frozen 4
  have f5 := FA1.out.frozen 5
  have NE1 : w.heap.size + 1 ≠ w.heap.size := by omega
  have NE2 : w.heap.size + 2 ≠ w.heap.size := by omega
  go_upto_region 4 with fail
  have FA2 := Lib.hid (FA1.out.setTo me)
  have ME2 := Lib.hid (ME1.out.setTo NE1 me)
  have OT2 := Lib.hid (OT1.out.setTo NE2 me)
  have B2 := below_setTo B1 (Nat.le_refl _) me
  clear c0 c1 c2 c3 c4 c5 d0 d1 d2 d3 d4 d5 f0 f1 f2 f3 f4 f5 FA1 ME1 OT1 B1
  generalize (((((w1.setCell _ _).setCell _ _).setCell _ _).setCell _ _).setCell _ _).setCell _ _ = w2 at FA2 ME2 OT2 B2 ⊢
  obtain ⟨⟨c0, c1, c2, c3, c4, c5⟩, ⟨c6, c7, c8, c9, c10, c11⟩, c12, c13⟩ := FA2.out.all
  obtain ⟨d0, d1, d2, d3, d4, d5⟩ := ME2.out.all
  go_wp2_with fail
  refine (For_any _ ⟨me, f.fr, f.ty, f.da⟩ me).mono ?_
  rintro e w3 ⟨rfl, b3⟩
  rw [Q1.out]
  have B3 := below_step B2 b3
  have FA3 := Lib.hid (FA2.out.grow b3)
  have ME3 := Lib.hid (ME2.out.grow b3)
  have OT3 := Lib.hid (OT2.out.grow b3)
  clear c0 c1 c2 c3 c4 c5 c6 c7 c8 c9 c10 c11 c12 c13 d0 d1 d2 d3 d4 d5 b3 B2 FA2 ME2 OT2
  obtain ⟨⟨c0, c1, c2, c3, c4, c5⟩, ⟨c6, c7, c8, c9, c10, c11⟩, c12, c13⟩ := FA3.out.all
  obtain ⟨d0, d1, d2, d3, d4, d5⟩ := OT3.out.all
  go_wp2_with fail
  refine (For_any _ ⟨me, f.fr, f.ty, f.da⟩ other).mono ?_
  rintro e w4 ⟨rfl, b4⟩
  have B4 := below_step B3 b4
  have FA4 := Lib.hid (FA3.out.grow b4)
  have ME4 := Lib.hid (ME3.out.grow b4)
  have OT4 := Lib.hid (OT3.out.grow b4)
  clear c0 c1 c2 c3 c4 c5 c6 c7 c8 c9 c10 c11 c12 c13 d0 d1 d2 d3 d4 d5 b4 B3 FA3 ME3 OT3
  obtain ⟨b, hb0⟩ : ∃ b, b = forB ⟨me, f.fr, f.ty, f.da⟩ other := ⟨_, rfl⟩
  rw [← hb0]
  have HB := Lib.hid hb0
  clear hb0
  go_wp2_with fail
  refine (every_any _).mono ?_
  rintro e w5 ⟨rfl, b5⟩
  have B5 := below_step B4 b5
  have FA5 := Lib.hid (FA4.out.grow b5)
  have ME5 := Lib.hid (ME4.out.grow b5)
  have OT5 := Lib.hid (OT4.out.grow b5)
  clear b5 B4 FA4 ME4 OT4
  obtain ⟨⟨c0, c1, c2, c3, c4, c5⟩, _, _, _⟩ := FA5.out.all
  have f0 := FA5.out.frozen 0
  have f1 := FA5.out.frozen 1
  have f2 := FA5.out.frozen 2
  have f3 := FA5.out.frozen 3
  have f4 := FA5.out.frozen 4
  have f5 := FA5.out.frozen 5
  go_upto_region 7 with fail
  have FA6 : Hid (FrAt ((((((w5.setCell ⟨w.heap.size, 0, none⟩ (.int .u8 255)).setCell ⟨w.heap.size, 1, none⟩ (.int .u8 255)).setCell ⟨w.heap.size, 2, none⟩ (.int .u8 255)).setCell ⟨w.heap.size, 3, none⟩ (.int .u8 255)).setCell ⟨w.heap.size, 4, none⟩ (.int .u8 255)).setCell ⟨w.heap.size, 5, none⟩ (.int .u8 255)) w.heap.size ⟨Mac6.all, f.fr, f.ty, f.da⟩) := Lib.hid (FA5.out.setTo Mac6.all)
  have ME6 : Hid (MacAt ((((((w5.setCell ⟨w.heap.size, 0, none⟩ (.int .u8 255)).setCell ⟨w.heap.size, 1, none⟩ (.int .u8 255)).setCell ⟨w.heap.size, 2, none⟩ (.int .u8 255)).setCell ⟨w.heap.size, 3, none⟩ (.int .u8 255)).setCell ⟨w.heap.size, 4, none⟩ (.int .u8 255)).setCell ⟨w.heap.size, 5, none⟩ (.int .u8 255)) (w.heap.size + 1) me) := Lib.hid (ME5.out.setTo NE1 Mac6.all)
  have OT6 : Hid (MacAt ((((((w5.setCell ⟨w.heap.size, 0, none⟩ (.int .u8 255)).setCell ⟨w.heap.size, 1, none⟩ (.int .u8 255)).setCell ⟨w.heap.size, 2, none⟩ (.int .u8 255)).setCell ⟨w.heap.size, 3, none⟩ (.int .u8 255)).setCell ⟨w.heap.size, 4, none⟩ (.int .u8 255)).setCell ⟨w.heap.size, 5, none⟩ (.int .u8 255)) (w.heap.size + 2) other) := Lib.hid (OT5.out.setTo NE2 Mac6.all)
  have B6 : Hid (Below w.heap.size w ((((((w5.setCell ⟨w.heap.size, 0, none⟩ (.int .u8 255)).setCell ⟨w.heap.size, 1, none⟩ (.int .u8 255)).setCell ⟨w.heap.size, 2, none⟩ (.int .u8 255)).setCell ⟨w.heap.size, 3, none⟩ (.int .u8 255)).setCell ⟨w.heap.size, 4, none⟩ (.int .u8 255)).setCell ⟨w.heap.size, 5, none⟩ (.int .u8 255))) := below_setTo B5 (Nat.le_refl _) Mac6.all
  clear c0 c1 c2 c3 c4 c5 f0 f1 f2 f3 f4 f5 FA5 ME5 OT5 B5
  generalize (((((w5.setCell _ _).setCell _ _).setCell _ _).setCell _ _).setCell _ _).setCell _ _ = w6 at FA6 ME6 OT6 B6 ⊢
  by_cases ho : me = other
  · have e1 : b = true := by rw [HB.out]; simp [forB, ho]
    have he : ∀ w, (Op.equalIn 10000 49 (.agg #[.int .u8 (me.a.toNat : Int), .int .u8 (me.b.toNat : Int), .int .u8 (me.c.toNat : Int), .int .u8 (me.d.toNat : Int), .int .u8 (me.e.toNat : Int), .int .u8 (me.f.toNat : Int)]) (.agg #[.int .u8 (other.a.toNat : Int), .int .u8 (other.b.toNat : Int), .int .u8 (other.c.toNat : Int), .int .u8 (other.d.toNat : Int), .int .u8 (other.e.toNat : Int), .int .u8 (other.f.toNat : Int)])).run Try.prog w = .ok true w := fun w => by rw [run_eql_mac, decide_eq_true ho]
    rw [e1]
    clear ho e1
    refine wp_region_noPanic ?_
    refine region_heldE (S := fun w' => EfS w' w.heap.size f me other) (by kernel_rfl) (fun V d => efS_drew ⟨FA6.out, ME6.out, OT6.out⟩ d) (fun V d hS => ?_)
    have BV := below_step B6 d.below
    clear d
    refine wpAnyH_take (i := 0) (oi := ⟨some 21, Op.move (Operand.tmp 7), _, _, _, none⟩) (v := (.bool true)) rfl (by kernel_rfl) (by kernel_rfl) (by kernel_rfl) (fun _ _ _ h => h) (Or.inl ⟨by rfl, fun w' h' => ?_⟩) hS ?_
    · clear h'
      go_simp
    simp only [Act.put]
    refine wpAnyH_take (i := 1) (oi := ⟨some 22, Op.move (Operand.tmp 21), _, _, _, none⟩) (v := (.bool true)) rfl (by kernel_rfl) (by kernel_rfl) (by kernel_rfl) (fun _ _ _ h => h) (Or.inl ⟨by rfl, fun w' h' => ?_⟩) hS ?_
    · clear h'
      go_simp
    simp only [Act.put]
    refine wpAnyH_take (i := 2) (oi := ⟨some 23, Op.move (Operand.tmp 8), _, _, _, some (1, true)⟩) (v := (.bool true)) rfl (by kernel_rfl) (by kernel_rfl) (by kernel_rfl) (fun _ _ _ h => h) (Or.inl ⟨by kernel_rfl, fun w' h' => ?_⟩) hS ?_
    · clear h'
      go_simp
    simp only [Act.put]
    refine wpAnyH_take (i := 3) (oi := ⟨some 24, Op.load 49 (Operand.tmp 4), _, _, _, some (1, true)⟩) (v := (.agg #[.int .u8 (me.a.toNat : Int), .int .u8 (me.b.toNat : Int), .int .u8 (me.c.toNat : Int), .int .u8 (me.d.toNat : Int), .int .u8 (me.e.toNat : Int), .int .u8 (me.f.toNat : Int)])) rfl (by kernel_rfl) (by kernel_rfl) (by kernel_rfl) (fun _ _ _ h => h) (Or.inl ⟨by kernel_rfl, fun w' h' => ?_⟩) hS ?_
    · have c0 := (MacAt.all h'.2.1).1
      have c1 := (MacAt.all h'.2.1).2.1
      have c2 := (MacAt.all h'.2.1).2.2.1
      have c3 := (MacAt.all h'.2.1).2.2.2.1
      have c4 := (MacAt.all h'.2.1).2.2.2.2.1
      have c5 := (MacAt.all h'.2.1).2.2.2.2.2
      clear h'
      go_simp
    simp only [Act.put]
    refine wpAnyH_take (i := 4) (oi := ⟨some 25, Op.load 49 (Operand.tmp 5), _, _, _, some (1, true)⟩) (v := (.agg #[.int .u8 (other.a.toNat : Int), .int .u8 (other.b.toNat : Int), .int .u8 (other.c.toNat : Int), .int .u8 (other.d.toNat : Int), .int .u8 (other.e.toNat : Int), .int .u8 (other.f.toNat : Int)])) rfl (by kernel_rfl) (by kernel_rfl) (by kernel_rfl) (fun _ _ _ h => h) (Or.inl ⟨by kernel_rfl, fun w' h' => ?_⟩) hS ?_
    · have c0 := (MacAt.all h'.2.2).1
      have c1 := (MacAt.all h'.2.2).2.1
      have c2 := (MacAt.all h'.2.2).2.2.1
      have c3 := (MacAt.all h'.2.2).2.2.2.1
      have c4 := (MacAt.all h'.2.2).2.2.2.2.1
      have c5 := (MacAt.all h'.2.2).2.2.2.2.2
      clear h'
      go_simp
    simp only [Act.put]
    refine wpAnyH_take (i := 5) (oi := ⟨some 26, Op.binOp BinOp.eql 49 (Operand.tmp 24) (Operand.tmp 25) 49, _, _, _, some (1, true)⟩) (v := (.bool true)) rfl (by kernel_rfl) (by kernel_rfl) (by kernel_rfl) (fun _ _ _ h => h) (Or.inl ⟨by kernel_rfl, fun w' h' => ?_⟩) hS ?_
    · have c0 := he w'
      clear h'
      go_simp
    simp only [Act.put]
    refine wpAnyH_take (i := 6) (oi := ⟨some 27, Op.move (Operand.tmp 26), _, _, _, some (1, true)⟩) (v := (.bool true)) rfl (by kernel_rfl) (by kernel_rfl) (by kernel_rfl) (fun _ _ _ h => h) (Or.inl ⟨by kernel_rfl, fun w' h' => ?_⟩) hS ?_
    · clear h'
      go_simp
    simp only [Act.put]
    refine wpAnyH_take (i := 7) (oi := ⟨some 28, Op.load 49 (Operand.tmp 4), _, _, _, some (6, false)⟩) (v := undef) rfl (by kernel_rfl) (by kernel_rfl) (by kernel_rfl) (fun _ _ _ h => h) (Or.inr ⟨by kernel_rfl, rfl⟩) hS ?_
    simp only [Act.put]
    refine wpAnyH_take (i := 8) (oi := ⟨some 29, Op.call { callee := Callee.value (Operand.func 30), args := #[], argTypes := #[] }, _, _, _, some (6, false)⟩) (v := undef) rfl (by kernel_rfl) (by kernel_rfl) (by kernel_rfl) (fun _ _ _ h => h) (Or.inr ⟨by kernel_rfl, rfl⟩) hS ?_
    simp only [Act.put]
    refine wpAnyH_take (i := 9) (oi := ⟨some 30, Op.binOp BinOp.eql 49 (Operand.tmp 28) (Operand.tmp 29) 49, _, _, _, some (6, false)⟩) (v := undef) rfl (by kernel_rfl) (by kernel_rfl) (by kernel_rfl) (fun _ _ _ h => h) (Or.inr ⟨by kernel_rfl, rfl⟩) hS ?_
    simp only [Act.put]
    refine wpAnyH_take (i := 10) (oi := ⟨some 31, Op.pick (Operand.tmp 27) (Operand.const (Value.bool true)) (Operand.tmp 30), _, _, _, some (1, true)⟩) (v := (.bool true)) rfl (by kernel_rfl) (by kernel_rfl) (by kernel_rfl) (fun _ _ _ h => h) (Or.inl ⟨by kernel_rfl, fun w' h' => ?_⟩) hS ?_
    · clear h'
      go_simp
    simp only [Act.put]
    refine wpAnyH_take (i := 11) (oi := ⟨some 32, Op.binOp BinOp.eql 4 (Operand.tmp 23) (Operand.tmp 31) 4, _, _, _, some (1, true)⟩) (v := (.bool true)) rfl (by kernel_rfl) (by kernel_rfl) (by kernel_rfl) (fun _ _ _ h => h) (Or.inl ⟨by kernel_rfl, fun w' h' => ?_⟩) hS ?_
    · clear h'
      go_simp
    simp only [Act.put]
    refine wpAnyH_take (i := 12) (oi := ⟨some 33, Op.pick (Operand.tmp 22) (Operand.tmp 32) (Operand.const (Value.bool false)), _, _, _, none⟩) (v := (.bool true)) rfl (by kernel_rfl) (by kernel_rfl) (by kernel_rfl) (fun _ _ _ h => h) (Or.inl ⟨by rfl, fun w' h' => ?_⟩) hS ?_
    · clear h'
      go_simp
    simp only [Act.put]
    refine wpAnyH_take (i := 13) (oi := ⟨some 34, Op.move (Operand.tmp 33), _, _, _, none⟩) (v := (.bool true)) rfl (by kernel_rfl) (by kernel_rfl) (by kernel_rfl) (fun _ _ _ h => h) (Or.inl ⟨by rfl, fun w' h' => ?_⟩) hS ?_
    · clear h'
      go_simp
    simp only [Act.put]
    refine wpAnyH_take (i := 14) (oi := ⟨some 35, Op.load 51 (Operand.tmp 3), _, _, _, some (13, true)⟩) (v := (.agg #[.int .u8 (Mac6.all.a.toNat : Int), .int .u8 (Mac6.all.b.toNat : Int), .int .u8 (Mac6.all.c.toNat : Int), .int .u8 (Mac6.all.d.toNat : Int), .int .u8 (Mac6.all.e.toNat : Int), .int .u8 (Mac6.all.f.toNat : Int), .int .u8 (f.fr.a.toNat : Int), .int .u8 (f.fr.b.toNat : Int), .int .u8 (f.fr.c.toNat : Int), .int .u8 (f.fr.d.toNat : Int), .int .u8 (f.fr.e.toNat : Int), .int .u8 (f.fr.f.toNat : Int), .int .i64 f.ty, .string f.da])) rfl (by kernel_rfl) (by kernel_rfl) (by kernel_rfl) (fun _ _ _ h => h) (Or.inl ⟨by kernel_rfl, fun w' h' => ?_⟩) hS ?_
    · have c0 := ((FrAt.all h'.1).1).1
      have c1 := ((FrAt.all h'.1).1).2.1
      have c2 := ((FrAt.all h'.1).1).2.2.1
      have c3 := ((FrAt.all h'.1).1).2.2.2.1
      have c4 := ((FrAt.all h'.1).1).2.2.2.2.1
      have c5 := ((FrAt.all h'.1).1).2.2.2.2.2
      have c6 := ((FrAt.all h'.1).2.1).1
      have c7 := ((FrAt.all h'.1).2.1).2.1
      have c8 := ((FrAt.all h'.1).2.1).2.2.1
      have c9 := ((FrAt.all h'.1).2.1).2.2.2.1
      have c10 := ((FrAt.all h'.1).2.1).2.2.2.2.1
      have c11 := ((FrAt.all h'.1).2.1).2.2.2.2.2
      have c12 := (FrAt.all h'.1).2.2.1
      have c13 := (FrAt.all h'.1).2.2.2
      clear h'
      go_simp
    simp only [Act.put]
    refine wpAnyH_take (i := 15) (oi := ⟨some 36, Op.load 49 (Operand.tmp 4), _, _, _, some (13, true)⟩) (v := (.agg #[.int .u8 (me.a.toNat : Int), .int .u8 (me.b.toNat : Int), .int .u8 (me.c.toNat : Int), .int .u8 (me.d.toNat : Int), .int .u8 (me.e.toNat : Int), .int .u8 (me.f.toNat : Int)])) rfl (by kernel_rfl) (by kernel_rfl) (by kernel_rfl) (fun _ _ _ h => h) (Or.inl ⟨by kernel_rfl, fun w' h' => ?_⟩) hS ?_
    · have c0 := (MacAt.all h'.2.1).1
      have c1 := (MacAt.all h'.2.1).2.1
      have c2 := (MacAt.all h'.2.1).2.2.1
      have c3 := (MacAt.all h'.2.1).2.2.2.1
      have c4 := (MacAt.all h'.2.1).2.2.2.2.1
      have c5 := (MacAt.all h'.2.1).2.2.2.2.2
      clear h'
      go_simp
    simp only [Act.put]
    refine wpAnyH_ready (rs := [16]) (by kernel_rfl) (by simp) ?_
    refine AllReadyH.cons rfl (fun K hK => ?_) AllReadyH.nil
    go_simp
    refine (For_yes V ⟨Mac6.all, f.fr, f.ty, f.da⟩ me Q3.out).mono ?_
    rintro e w8 ⟨rfl, bw8⟩
    have S8 := efS_grow hS bw8
    have B8 := below_step BV bw8
    clear bw8
    go_simp
    refine hK.out _ _ S8 (fun _ => ?_)
    clear hK K
    refine wpAnyH_take (i := 17) (oi := ⟨some 38, Op.pick (Operand.tmp 34) (Operand.tmp 37) (Operand.const (Value.bool false)), _, _, _, none⟩) (v := (.bool true)) rfl (by kernel_rfl) (by kernel_rfl) (by kernel_rfl) (fun _ _ _ h => h) (Or.inl ⟨by rfl, fun w' h' => ?_⟩) S8 ?_
    · clear h'
      go_simp
    simp only [Act.put]
    refine wpAnyH_take (i := 18) (oi := ⟨some 39, Op.move (Operand.tmp 38), _, _, _, none⟩) (v := (.bool true)) rfl (by kernel_rfl) (by kernel_rfl) (by kernel_rfl) (fun _ _ _ h => h) (Or.inl ⟨by rfl, fun w' h' => ?_⟩) S8 ?_
    · clear h'
      go_simp
    simp only [Act.put]
    refine wpAnyH_take (i := 19) (oi := ⟨some 40, Op.load 51 (Operand.tmp 3), _, _, _, some (18, true)⟩) (v := (.agg #[.int .u8 (Mac6.all.a.toNat : Int), .int .u8 (Mac6.all.b.toNat : Int), .int .u8 (Mac6.all.c.toNat : Int), .int .u8 (Mac6.all.d.toNat : Int), .int .u8 (Mac6.all.e.toNat : Int), .int .u8 (Mac6.all.f.toNat : Int), .int .u8 (f.fr.a.toNat : Int), .int .u8 (f.fr.b.toNat : Int), .int .u8 (f.fr.c.toNat : Int), .int .u8 (f.fr.d.toNat : Int), .int .u8 (f.fr.e.toNat : Int), .int .u8 (f.fr.f.toNat : Int), .int .i64 f.ty, .string f.da])) rfl (by kernel_rfl) (by kernel_rfl) (by kernel_rfl) (fun _ _ _ h => h) (Or.inl ⟨by kernel_rfl, fun w' h' => ?_⟩) S8 ?_
    · have c0 := ((FrAt.all h'.1).1).1
      have c1 := ((FrAt.all h'.1).1).2.1
      have c2 := ((FrAt.all h'.1).1).2.2.1
      have c3 := ((FrAt.all h'.1).1).2.2.2.1
      have c4 := ((FrAt.all h'.1).1).2.2.2.2.1
      have c5 := ((FrAt.all h'.1).1).2.2.2.2.2
      have c6 := ((FrAt.all h'.1).2.1).1
      have c7 := ((FrAt.all h'.1).2.1).2.1
      have c8 := ((FrAt.all h'.1).2.1).2.2.1
      have c9 := ((FrAt.all h'.1).2.1).2.2.2.1
      have c10 := ((FrAt.all h'.1).2.1).2.2.2.2.1
      have c11 := ((FrAt.all h'.1).2.1).2.2.2.2.2
      have c12 := (FrAt.all h'.1).2.2.1
      have c13 := (FrAt.all h'.1).2.2.2
      clear h'
      go_simp
    simp only [Act.put]
    refine wpAnyH_take (i := 20) (oi := ⟨some 41, Op.load 49 (Operand.tmp 5), _, _, _, some (18, true)⟩) (v := (.agg #[.int .u8 (other.a.toNat : Int), .int .u8 (other.b.toNat : Int), .int .u8 (other.c.toNat : Int), .int .u8 (other.d.toNat : Int), .int .u8 (other.e.toNat : Int), .int .u8 (other.f.toNat : Int)])) rfl (by kernel_rfl) (by kernel_rfl) (by kernel_rfl) (fun _ _ _ h => h) (Or.inl ⟨by kernel_rfl, fun w' h' => ?_⟩) S8 ?_
    · have c0 := (MacAt.all h'.2.2).1
      have c1 := (MacAt.all h'.2.2).2.1
      have c2 := (MacAt.all h'.2.2).2.2.1
      have c3 := (MacAt.all h'.2.2).2.2.2.1
      have c4 := (MacAt.all h'.2.2).2.2.2.2.1
      have c5 := (MacAt.all h'.2.2).2.2.2.2.2
      clear h'
      go_simp
    simp only [Act.put]
    refine wpAnyH_ready (rs := [21]) (by kernel_rfl) (by simp) ?_
    refine AllReadyH.cons rfl (fun K hK => ?_) AllReadyH.nil
    go_simp
    refine (For_yes w8 ⟨Mac6.all, f.fr, f.ty, f.da⟩ other Q4.out).mono ?_
    rintro e w9 ⟨rfl, bw9⟩
    have S9 := efS_grow S8 bw9
    have B9 := below_step B8 bw9
    clear bw9
    go_simp
    refine hK.out _ _ S9 (fun _ => ?_)
    clear hK K
    refine wpAnyH_take (i := 22) (oi := ⟨some 43, Op.pick (Operand.tmp 39) (Operand.tmp 42) (Operand.const (Value.bool false)), _, _, _, none⟩) (v := (.bool true)) rfl (by kernel_rfl) (by kernel_rfl) (by kernel_rfl) (fun _ _ _ h => h) (Or.inl ⟨by rfl, fun w' h' => ?_⟩) S9 ?_
    · clear h'
      go_simp
    simp only [Act.put]
    refine wpAnyH_take (i := 23) (oi := ⟨some 6, Op.assign (Operand.tmp 43), _, _, _, none⟩) (v := (.bool true)) rfl (by kernel_rfl) (by kernel_rfl) (by kernel_rfl) (fun _ _ _ h => h) (Or.inl ⟨by rfl, fun w' h' => ?_⟩) S9 ?_
    · clear h'
      go_simp
    simp only [Act.put]
    refine wpAnyH_done (by kernel_rfl) (NoPanic.normal ?_) _
    have BE := B9
    clear S8 S9 B8 B9 hS BV
    go_wp2
    go_ret
    exact ⟨rfl, BE.out⟩
  · have e1 : b = decide (me = Mac6.all) := by rw [HB.out]; simp [forB, ho]
    have he : ∀ w, (Op.equalIn 10000 49 (.agg #[.int .u8 (me.a.toNat : Int), .int .u8 (me.b.toNat : Int), .int .u8 (me.c.toNat : Int), .int .u8 (me.d.toNat : Int), .int .u8 (me.e.toNat : Int), .int .u8 (me.f.toNat : Int)]) (.agg #[.int .u8 (other.a.toNat : Int), .int .u8 (other.b.toNat : Int), .int .u8 (other.c.toNat : Int), .int .u8 (other.d.toNat : Int), .int .u8 (other.e.toNat : Int), .int .u8 (other.f.toNat : Int)])).run Try.prog w = .ok false w := fun w => by rw [run_eql_mac, decide_eq_false ho]
    have he2 := fun w => run_eql_all w me
    rw [e1]
    clear ho e1
    refine wp_region_noPanic ?_
    refine region_heldE (S := fun w' => EfS w' w.heap.size f me other) (by kernel_rfl) (fun V d => efS_drew ⟨FA6.out, ME6.out, OT6.out⟩ d) (fun V d hS => ?_)
    have BV := below_step B6 d.below
    clear d
    refine wpAnyH_take (i := 0) (oi := ⟨some 21, Op.move (Operand.tmp 7), _, _, _, none⟩) (v := (.bool true)) rfl (by kernel_rfl) (by kernel_rfl) (by kernel_rfl) (fun _ _ _ h => h) (Or.inl ⟨by rfl, fun w' h' => ?_⟩) hS ?_
    · clear h'
      go_simp
    simp only [Act.put]
    refine wpAnyH_take (i := 1) (oi := ⟨some 22, Op.move (Operand.tmp 21), _, _, _, none⟩) (v := (.bool true)) rfl (by kernel_rfl) (by kernel_rfl) (by kernel_rfl) (fun _ _ _ h => h) (Or.inl ⟨by rfl, fun w' h' => ?_⟩) hS ?_
    · clear h'
      go_simp
    simp only [Act.put]
    refine wpAnyH_take (i := 2) (oi := ⟨some 23, Op.move (Operand.tmp 8), _, _, _, some (1, true)⟩) (v := (.bool (decide (me = Mac6.all)))) rfl (by kernel_rfl) (by kernel_rfl) (by kernel_rfl) (fun _ _ _ h => h) (Or.inl ⟨by kernel_rfl, fun w' h' => ?_⟩) hS ?_
    · clear h'
      go_simp
    simp only [Act.put]
    refine wpAnyH_take (i := 3) (oi := ⟨some 24, Op.load 49 (Operand.tmp 4), _, _, _, some (1, true)⟩) (v := (.agg #[.int .u8 (me.a.toNat : Int), .int .u8 (me.b.toNat : Int), .int .u8 (me.c.toNat : Int), .int .u8 (me.d.toNat : Int), .int .u8 (me.e.toNat : Int), .int .u8 (me.f.toNat : Int)])) rfl (by kernel_rfl) (by kernel_rfl) (by kernel_rfl) (fun _ _ _ h => h) (Or.inl ⟨by kernel_rfl, fun w' h' => ?_⟩) hS ?_
    · have c0 := (MacAt.all h'.2.1).1
      have c1 := (MacAt.all h'.2.1).2.1
      have c2 := (MacAt.all h'.2.1).2.2.1
      have c3 := (MacAt.all h'.2.1).2.2.2.1
      have c4 := (MacAt.all h'.2.1).2.2.2.2.1
      have c5 := (MacAt.all h'.2.1).2.2.2.2.2
      clear h'
      go_simp
    simp only [Act.put]
    refine wpAnyH_take (i := 4) (oi := ⟨some 25, Op.load 49 (Operand.tmp 5), _, _, _, some (1, true)⟩) (v := (.agg #[.int .u8 (other.a.toNat : Int), .int .u8 (other.b.toNat : Int), .int .u8 (other.c.toNat : Int), .int .u8 (other.d.toNat : Int), .int .u8 (other.e.toNat : Int), .int .u8 (other.f.toNat : Int)])) rfl (by kernel_rfl) (by kernel_rfl) (by kernel_rfl) (fun _ _ _ h => h) (Or.inl ⟨by kernel_rfl, fun w' h' => ?_⟩) hS ?_
    · have c0 := (MacAt.all h'.2.2).1
      have c1 := (MacAt.all h'.2.2).2.1
      have c2 := (MacAt.all h'.2.2).2.2.1
      have c3 := (MacAt.all h'.2.2).2.2.2.1
      have c4 := (MacAt.all h'.2.2).2.2.2.2.1
      have c5 := (MacAt.all h'.2.2).2.2.2.2.2
      clear h'
      go_simp
    simp only [Act.put]
    refine wpAnyH_take (i := 5) (oi := ⟨some 26, Op.binOp BinOp.eql 49 (Operand.tmp 24) (Operand.tmp 25) 49, _, _, _, some (1, true)⟩) (v := (.bool false)) rfl (by kernel_rfl) (by kernel_rfl) (by kernel_rfl) (fun _ _ _ h => h) (Or.inl ⟨by kernel_rfl, fun w' h' => ?_⟩) hS ?_
    · have c0 := he w'
      clear h'
      go_simp
    simp only [Act.put]
    refine wpAnyH_take (i := 6) (oi := ⟨some 27, Op.move (Operand.tmp 26), _, _, _, some (1, true)⟩) (v := (.bool false)) rfl (by kernel_rfl) (by kernel_rfl) (by kernel_rfl) (fun _ _ _ h => h) (Or.inl ⟨by kernel_rfl, fun w' h' => ?_⟩) hS ?_
    · clear h'
      go_simp
    simp only [Act.put]
    refine wpAnyH_take (i := 7) (oi := ⟨some 28, Op.load 49 (Operand.tmp 4), _, _, _, some (6, false)⟩) (v := (.agg #[.int .u8 (me.a.toNat : Int), .int .u8 (me.b.toNat : Int), .int .u8 (me.c.toNat : Int), .int .u8 (me.d.toNat : Int), .int .u8 (me.e.toNat : Int), .int .u8 (me.f.toNat : Int)])) rfl (by kernel_rfl) (by kernel_rfl) (by kernel_rfl) (fun _ _ _ h => h) (Or.inl ⟨by kernel_rfl, fun w' h' => ?_⟩) hS ?_
    · have c0 := (MacAt.all h'.2.1).1
      have c1 := (MacAt.all h'.2.1).2.1
      have c2 := (MacAt.all h'.2.1).2.2.1
      have c3 := (MacAt.all h'.2.1).2.2.2.1
      have c4 := (MacAt.all h'.2.1).2.2.2.2.1
      have c5 := (MacAt.all h'.2.1).2.2.2.2.2
      clear h'
      go_simp
    simp only [Act.put]
    refine wpAnyH_ready (rs := [8]) (by kernel_rfl) (by simp) ?_
    refine AllReadyH.cons rfl (fun K hK => ?_) AllReadyH.nil
    go_simp
    refine (every_any V).mono ?_
    rintro e w7 ⟨rfl, bw7⟩
    have S7 := efS_grow hS bw7
    have B7 := below_step BV bw7
    clear bw7
    go_simp
    refine hK.out _ _ S7 (fun _ => ?_)
    clear hK K
    refine wpAnyH_take (i := 9) (oi := ⟨some 30, Op.binOp BinOp.eql 49 (Operand.tmp 28) (Operand.tmp 29) 49, _, _, _, some (6, false)⟩) (v := (.bool (decide (me = Mac6.all)))) rfl (by kernel_rfl) (by kernel_rfl) (by kernel_rfl) (fun _ _ _ h => h) (Or.inl ⟨by kernel_rfl, fun w' h' => ?_⟩) S7 ?_
    · have c0 := he2 w'
      clear h'
      go_simp
    simp only [Act.put]
    refine wpAnyH_take (i := 10) (oi := ⟨some 31, Op.pick (Operand.tmp 27) (Operand.const (Value.bool true)) (Operand.tmp 30), _, _, _, some (1, true)⟩) (v := (.bool (decide (me = Mac6.all)))) rfl (by kernel_rfl) (by kernel_rfl) (by kernel_rfl) (fun _ _ _ h => h) (Or.inl ⟨by kernel_rfl, fun w' h' => ?_⟩) S7 ?_
    · clear h'
      go_simp
    simp only [Act.put]
    refine wpAnyH_take (i := 11) (oi := ⟨some 32, Op.binOp BinOp.eql 4 (Operand.tmp 23) (Operand.tmp 31) 4, _, _, _, some (1, true)⟩) (v := (.bool true)) rfl (by kernel_rfl) (by kernel_rfl) (by kernel_rfl) (fun _ _ _ h => h) (Or.inl ⟨by kernel_rfl, fun w' h' => ?_⟩) S7 ?_
    · clear h'
      go_simp
    simp only [Act.put]
    refine wpAnyH_take (i := 12) (oi := ⟨some 33, Op.pick (Operand.tmp 22) (Operand.tmp 32) (Operand.const (Value.bool false)), _, _, _, none⟩) (v := (.bool true)) rfl (by kernel_rfl) (by kernel_rfl) (by kernel_rfl) (fun _ _ _ h => h) (Or.inl ⟨by rfl, fun w' h' => ?_⟩) S7 ?_
    · clear h'
      go_simp
    simp only [Act.put]
    refine wpAnyH_take (i := 13) (oi := ⟨some 34, Op.move (Operand.tmp 33), _, _, _, none⟩) (v := (.bool true)) rfl (by kernel_rfl) (by kernel_rfl) (by kernel_rfl) (fun _ _ _ h => h) (Or.inl ⟨by rfl, fun w' h' => ?_⟩) S7 ?_
    · clear h'
      go_simp
    simp only [Act.put]
    refine wpAnyH_take (i := 14) (oi := ⟨some 35, Op.load 51 (Operand.tmp 3), _, _, _, some (13, true)⟩) (v := (.agg #[.int .u8 (Mac6.all.a.toNat : Int), .int .u8 (Mac6.all.b.toNat : Int), .int .u8 (Mac6.all.c.toNat : Int), .int .u8 (Mac6.all.d.toNat : Int), .int .u8 (Mac6.all.e.toNat : Int), .int .u8 (Mac6.all.f.toNat : Int), .int .u8 (f.fr.a.toNat : Int), .int .u8 (f.fr.b.toNat : Int), .int .u8 (f.fr.c.toNat : Int), .int .u8 (f.fr.d.toNat : Int), .int .u8 (f.fr.e.toNat : Int), .int .u8 (f.fr.f.toNat : Int), .int .i64 f.ty, .string f.da])) rfl (by kernel_rfl) (by kernel_rfl) (by kernel_rfl) (fun _ _ _ h => h) (Or.inl ⟨by kernel_rfl, fun w' h' => ?_⟩) S7 ?_
    · have c0 := ((FrAt.all h'.1).1).1
      have c1 := ((FrAt.all h'.1).1).2.1
      have c2 := ((FrAt.all h'.1).1).2.2.1
      have c3 := ((FrAt.all h'.1).1).2.2.2.1
      have c4 := ((FrAt.all h'.1).1).2.2.2.2.1
      have c5 := ((FrAt.all h'.1).1).2.2.2.2.2
      have c6 := ((FrAt.all h'.1).2.1).1
      have c7 := ((FrAt.all h'.1).2.1).2.1
      have c8 := ((FrAt.all h'.1).2.1).2.2.1
      have c9 := ((FrAt.all h'.1).2.1).2.2.2.1
      have c10 := ((FrAt.all h'.1).2.1).2.2.2.2.1
      have c11 := ((FrAt.all h'.1).2.1).2.2.2.2.2
      have c12 := (FrAt.all h'.1).2.2.1
      have c13 := (FrAt.all h'.1).2.2.2
      clear h'
      go_simp
    simp only [Act.put]
    refine wpAnyH_take (i := 15) (oi := ⟨some 36, Op.load 49 (Operand.tmp 4), _, _, _, some (13, true)⟩) (v := (.agg #[.int .u8 (me.a.toNat : Int), .int .u8 (me.b.toNat : Int), .int .u8 (me.c.toNat : Int), .int .u8 (me.d.toNat : Int), .int .u8 (me.e.toNat : Int), .int .u8 (me.f.toNat : Int)])) rfl (by kernel_rfl) (by kernel_rfl) (by kernel_rfl) (fun _ _ _ h => h) (Or.inl ⟨by kernel_rfl, fun w' h' => ?_⟩) S7 ?_
    · have c0 := (MacAt.all h'.2.1).1
      have c1 := (MacAt.all h'.2.1).2.1
      have c2 := (MacAt.all h'.2.1).2.2.1
      have c3 := (MacAt.all h'.2.1).2.2.2.1
      have c4 := (MacAt.all h'.2.1).2.2.2.2.1
      have c5 := (MacAt.all h'.2.1).2.2.2.2.2
      clear h'
      go_simp
    simp only [Act.put]
    refine wpAnyH_ready (rs := [16]) (by kernel_rfl) (by simp) ?_
    refine AllReadyH.cons rfl (fun K hK => ?_) AllReadyH.nil
    go_simp
    refine (For_yes w7 ⟨Mac6.all, f.fr, f.ty, f.da⟩ me Q3.out).mono ?_
    rintro e w8 ⟨rfl, bw8⟩
    have S8 := efS_grow S7 bw8
    have B8 := below_step B7 bw8
    clear bw8
    go_simp
    refine hK.out _ _ S8 (fun _ => ?_)
    clear hK K
    refine wpAnyH_take (i := 17) (oi := ⟨some 38, Op.pick (Operand.tmp 34) (Operand.tmp 37) (Operand.const (Value.bool false)), _, _, _, none⟩) (v := (.bool true)) rfl (by kernel_rfl) (by kernel_rfl) (by kernel_rfl) (fun _ _ _ h => h) (Or.inl ⟨by rfl, fun w' h' => ?_⟩) S8 ?_
    · clear h'
      go_simp
    simp only [Act.put]
    refine wpAnyH_take (i := 18) (oi := ⟨some 39, Op.move (Operand.tmp 38), _, _, _, none⟩) (v := (.bool true)) rfl (by kernel_rfl) (by kernel_rfl) (by kernel_rfl) (fun _ _ _ h => h) (Or.inl ⟨by rfl, fun w' h' => ?_⟩) S8 ?_
    · clear h'
      go_simp
    simp only [Act.put]
    refine wpAnyH_take (i := 19) (oi := ⟨some 40, Op.load 51 (Operand.tmp 3), _, _, _, some (18, true)⟩) (v := (.agg #[.int .u8 (Mac6.all.a.toNat : Int), .int .u8 (Mac6.all.b.toNat : Int), .int .u8 (Mac6.all.c.toNat : Int), .int .u8 (Mac6.all.d.toNat : Int), .int .u8 (Mac6.all.e.toNat : Int), .int .u8 (Mac6.all.f.toNat : Int), .int .u8 (f.fr.a.toNat : Int), .int .u8 (f.fr.b.toNat : Int), .int .u8 (f.fr.c.toNat : Int), .int .u8 (f.fr.d.toNat : Int), .int .u8 (f.fr.e.toNat : Int), .int .u8 (f.fr.f.toNat : Int), .int .i64 f.ty, .string f.da])) rfl (by kernel_rfl) (by kernel_rfl) (by kernel_rfl) (fun _ _ _ h => h) (Or.inl ⟨by kernel_rfl, fun w' h' => ?_⟩) S8 ?_
    · have c0 := ((FrAt.all h'.1).1).1
      have c1 := ((FrAt.all h'.1).1).2.1
      have c2 := ((FrAt.all h'.1).1).2.2.1
      have c3 := ((FrAt.all h'.1).1).2.2.2.1
      have c4 := ((FrAt.all h'.1).1).2.2.2.2.1
      have c5 := ((FrAt.all h'.1).1).2.2.2.2.2
      have c6 := ((FrAt.all h'.1).2.1).1
      have c7 := ((FrAt.all h'.1).2.1).2.1
      have c8 := ((FrAt.all h'.1).2.1).2.2.1
      have c9 := ((FrAt.all h'.1).2.1).2.2.2.1
      have c10 := ((FrAt.all h'.1).2.1).2.2.2.2.1
      have c11 := ((FrAt.all h'.1).2.1).2.2.2.2.2
      have c12 := (FrAt.all h'.1).2.2.1
      have c13 := (FrAt.all h'.1).2.2.2
      clear h'
      go_simp
    simp only [Act.put]
    refine wpAnyH_take (i := 20) (oi := ⟨some 41, Op.load 49 (Operand.tmp 5), _, _, _, some (18, true)⟩) (v := (.agg #[.int .u8 (other.a.toNat : Int), .int .u8 (other.b.toNat : Int), .int .u8 (other.c.toNat : Int), .int .u8 (other.d.toNat : Int), .int .u8 (other.e.toNat : Int), .int .u8 (other.f.toNat : Int)])) rfl (by kernel_rfl) (by kernel_rfl) (by kernel_rfl) (fun _ _ _ h => h) (Or.inl ⟨by kernel_rfl, fun w' h' => ?_⟩) S8 ?_
    · have c0 := (MacAt.all h'.2.2).1
      have c1 := (MacAt.all h'.2.2).2.1
      have c2 := (MacAt.all h'.2.2).2.2.1
      have c3 := (MacAt.all h'.2.2).2.2.2.1
      have c4 := (MacAt.all h'.2.2).2.2.2.2.1
      have c5 := (MacAt.all h'.2.2).2.2.2.2.2
      clear h'
      go_simp
    simp only [Act.put]
    refine wpAnyH_ready (rs := [21]) (by kernel_rfl) (by simp) ?_
    refine AllReadyH.cons rfl (fun K hK => ?_) AllReadyH.nil
    go_simp
    refine (For_yes w8 ⟨Mac6.all, f.fr, f.ty, f.da⟩ other Q4.out).mono ?_
    rintro e w9 ⟨rfl, bw9⟩
    have S9 := efS_grow S8 bw9
    have B9 := below_step B8 bw9
    clear bw9
    go_simp
    refine hK.out _ _ S9 (fun _ => ?_)
    clear hK K
    refine wpAnyH_take (i := 22) (oi := ⟨some 43, Op.pick (Operand.tmp 39) (Operand.tmp 42) (Operand.const (Value.bool false)), _, _, _, none⟩) (v := (.bool true)) rfl (by kernel_rfl) (by kernel_rfl) (by kernel_rfl) (fun _ _ _ h => h) (Or.inl ⟨by rfl, fun w' h' => ?_⟩) S9 ?_
    · clear h'
      go_simp
    simp only [Act.put]
    refine wpAnyH_take (i := 23) (oi := ⟨some 6, Op.assign (Operand.tmp 43), _, _, _, none⟩) (v := (.bool true)) rfl (by kernel_rfl) (by kernel_rfl) (by kernel_rfl) (fun _ _ _ h => h) (Or.inl ⟨by rfl, fun w' h' => ?_⟩) S9 ?_
    · clear h'
      go_simp
    simp only [Act.put]
    refine wpAnyH_done (by kernel_rfl) (NoPanic.normal ?_) _
    have BE := B9
    clear S7 S8 S9 B7 B8 B9 hS BV
    go_wp2
    go_ret
    exact ⟨rfl, BE.out⟩

set_option maxRecDepth 100000 in
theorem lifted (os : Os) (started : os.Started) (H : Type) (enc : TypeId × Value → H) :
    ReturnsInHanded {} Try.checked os 8 .any (Rows.etherForSpec.pre6 enc Try.prog Try.f8 Rows.etherForRow.domain false) (Rows.etherForSpec.post enc Try.prog Try.f8 false true false false) := by
  refine returnsInHanded_of_change (C := Try.checked) own started (by kernel_rfl) Try.func8
    (ChangeSpec.witness6 (enc := enc) (C := Try.checked) false ⟨#[], #[.agg #[.int .u8 0, .int .u8 0, .int .u8 0, .int .u8 0, .int .u8 0, .int .u8 0, .int .u8 0, .int .u8 0, .int .u8 0, .int .u8 0, .int .u8 0, .int .u8 0, .int .i64 0, .string ByteArray.empty], .agg #[.int .u8 0, .int .u8 0, .int .u8 0, .int .u8 0, .int .u8 0, .int .u8 0], .agg #[.int .u8 0, .int .u8 0, .int .u8 0, .int .u8 0, .int .u8 0, .int .u8 0]], []⟩ 8 (by kernel_rfl) (by kernel_rfl) (by kernel_rfl) (by kernel_rfl)) ?_
  intro W base args ds gs before hval0 hW hcnd _
  have hval : ∀ (j : Nat) t v, Try.f8.params[j]? = some t → args[j]? = some v → Value.okWide Try.prog W .any base t v := hval0
  have hW' := hW
  obtain ⟨p, q, hA0, hV, rfl, hfz, hnd⟩ := hW
  have hA : DataW.TrodAll enc Try.prog W 0 (fun _ => true) true Try.f8.params.toList args.toList ds p := hA0
  rw [Try.params8] at hA hval
  obtain ⟨v0, vs0, d0, ds0, p0, q0, hargs, rfl, rfl, h0, r0⟩ := trodAll_cons hA
  obtain ⟨v1, vs1, d1, ds1, p1, q1, rfl, rfl, rfl, h1, r1⟩ := trodAll_cons r0
  obtain ⟨v2, vs2, d2, ds2, p2, q2, rfl, rfl, rfl, h2, r2⟩ := trodAll_cons r1
  obtain ⟨rfl, rfl, rfl⟩ := trodAll_nil r2
  obtain rfl : args = #[v0, v1, v2] := by cases args; simp_all
  obtain ⟨rfl, rfl⟩ := trodVars_none hV
  obtain ⟨a0, rfl, w0⟩ := open_frame (hval 0 51 v0 rfl rfl) h0
  have k0 := h0
  have lt0 : ∀ x ∈ p0, x.block < W.heap.size := by obtain ⟨m, hm⟩ := k0; exact DataW.trod_lt m _ _ _ hm
  obtain ⟨a1, rfl⟩ := open_mac (hval 1 49 v1 rfl rfl) h1
  have k1 := h1
  have lt1 : ∀ x ∈ p1, x.block < W.heap.size := by obtain ⟨m, hm⟩ := k1; exact DataW.trod_lt m _ _ _ hm
  obtain ⟨a2, rfl⟩ := open_mac (hval 2 49 v2 rfl rfl) h2
  have k2 := h2
  have lt2 : ∀ x ∈ p2, x.block < W.heap.size := by obtain ⟨m, hm⟩ := k2; exact DataW.trod_lt m _ _ _ hm
  clear hA0 hval0
  refine (walk a0 a1 a2 w0 W).mono fun e W' ⟨he, bel⟩ => ?_
  subst he
  exact ⟨_, rfl, _, _, _, [], _, [], hW', trodAll_mk1 (shut_bool Try.underlying4 _), (trodAll_cons_mk (Below.trod laidOut (by kernel_rfl) (of_decide_eq_true (by kernel_rfl)) k0 bel lt0) (trodAll_cons_mk (Below.trod laidOut (by kernel_rfl) (of_decide_eq_true (by kernel_rfl)) k1 bel lt1) (trodAll_cons_mk (Below.trod laidOut (by kernel_rfl) (of_decide_eq_true (by kernel_rfl)) k2 bel lt2) trodAll_mk0))), rfl, bel.frame _, fun h => by cases h⟩

/-- THE STATEMENT. -/
theorem proved : Rows.EtherForSaid :=
  OpenClaim.holds_of_wide 8 Try.f8 rfl rfl rfl rfl rfl rfl rfl ⟨rfl, rfl, rfl, rfl, rfl⟩ rfl rfl rfl rfl rfl (by kernel_rfl) Try.func8 (by kernel_rfl)
    (of_decide_eq_true (by kernel_rfl)) (by unfold Func.isWrapper; first | (rw [if_pos (by decide +kernel)]; kernel_rfl) | (rw [if_neg (by decide +kernel)]; exact ⟨rfl, rfl⟩))
    (fun os started H enc _ => lifted os started H enc)
#print axioms proved

end Go.Proofs.Ytbbmfgeagdblcaa.etf
