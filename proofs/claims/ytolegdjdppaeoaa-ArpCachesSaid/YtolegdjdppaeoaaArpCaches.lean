/-
  ArpCaches: whatever is learnt, and however time goes: what is found is the document's. No conditions: any limit, any acts.
-/
import Derived.Test.YtolegdjdppaeoaaArpV
import Derived.ProofKit
import Derived.OpenShut
import Derived.ShutString
import Derived.ChangeOld
import Derived.Below
namespace Go.Proofs.Ytolegdjdppaeoaa.acs
open Go.ChangeShapes Go.WideShapes Go.ChangeAt Go.RowKit
open Go.ChangeMaps (open_string shut_string)
set_option linter.unusedVariables false

theorem eqMM (w : World) (m : Mac6) : (Op.equalIn 10000 23 (.agg #[.int .u8 (m.a.toNat : Int), .int .u8 (m.b.toNat : Int), .int .u8 (m.c.toNat : Int), .int .u8 (m.d.toNat : Int), .int .u8 (m.e.toNat : Int), .int .u8 (m.f.toNat : Int)]) (.agg #[.int .u8 (m.a.toNat : Int), .int .u8 (m.b.toNat : Int), .int .u8 (m.c.toNat : Int), .int .u8 (m.d.toNat : Int), .int .u8 (m.e.toNat : Int), .int .u8 (m.f.toNat : Int)])).run Try.prog w = .ok true w := by
  have h := run_eql_mac w m m
  rw [decide_eq_true rfl] at h
  exact h
theorem act_box {w : World} {n : Nat} {d : Int} {i : Ip4} {m : Mac6} {t : TypeId} (h : w.heap[n]? = some (.cells #[.int .i64 d, .int .u8 (i.a.toNat : Int), .int .u8 (i.b.toNat : Int), .int .u8 (i.c.toNat : Int), .int .u8 (i.d.toNat : Int), .int .u8 (m.a.toNat : Int), .int .u8 (m.b.toNat : Int), .int .u8 (m.c.toNat : Int), .int .u8 (m.d.toNat : Int), .int .u8 (m.e.toNat : Int), .int .u8 (m.f.toNat : Int)] t (0, 0))) : w.cell? ⟨n, 0, none⟩ = some (.int .i64 d) ∧ (w.cell? ⟨n, 1, none⟩ = some (.int .u8 (i.a.toNat : Int)) ∧ w.cell? ⟨n, 2, none⟩ = some (.int .u8 (i.b.toNat : Int)) ∧ w.cell? ⟨n, 3, none⟩ = some (.int .u8 (i.c.toNat : Int)) ∧ w.cell? ⟨n, 4, none⟩ = some (.int .u8 (i.d.toNat : Int))) ∧ (w.cell? ⟨n, 5, none⟩ = some (.int .u8 (m.a.toNat : Int)) ∧ w.cell? ⟨n, 6, none⟩ = some (.int .u8 (m.b.toNat : Int)) ∧ w.cell? ⟨n, 7, none⟩ = some (.int .u8 (m.c.toNat : Int)) ∧ w.cell? ⟨n, 8, none⟩ = some (.int .u8 (m.d.toNat : Int)) ∧ w.cell? ⟨n, 9, none⟩ = some (.int .u8 (m.e.toNat : Int)) ∧ w.cell? ⟨n, 10, none⟩ = some (.int .u8 (m.f.toNat : Int))) := by
  refine ⟨?_, ⟨?_, ?_, ?_, ?_⟩, ⟨?_, ?_, ?_, ?_, ?_, ?_⟩⟩ <;> (rw [cell_of_block h]; rfl)

set_option maxRecDepth 100000 in
set_option maxHeartbeats 20000000 in
theorem walk (a0 : Int) (a1 : Option Addr) (len1 cap1 : Nat) (l1 : List Act7) (w : World) (w0 : (Lit.int .i64 a0).wf = true) (w1 : IsActs7 w a1 len1 l1) :
    Calls Try.prog 5 #[.int .i64 a0, .slice a1 len1 cap1] w fun e w' => e = .returned (.bool true) ∧ Below w.heap.size w w' := by
  have hm0 := w1.2.1
  unfold maxLen at hm0
  by_cases g0 : (300 : Int) < len1
  · clear w1 w0
    go_enter Try.func5, Try.ntmps5
    go_wp2_with (go_at_call 16; refine (awakeP _).mono ?_; rintro e w1 ⟨rfl, b1⟩)
    go_ret
    exact ⟨rfl, b1⟩
  have g0' : decide ((300 : Int) < len1) = false := decide_eq_false g0
  have hlen : len1 ≤ 300 := by omega
  have W1 := Lib.hid w1
  clear w1 w0 g0
  by_cases hbad : a0 < 1 ∨ 1048576 < a0
  · have hN := fun (w : World) => cnew_bad w a0 hbad
    rcases hbad with h | h
    · go_enter Try.func5, Try.ntmps5
      go_wp2_with (first | (go_at_call 16; refine (awakeP _).mono ?_; rintro e w1 ⟨rfl, b1⟩) | (go_at_call 11; refine (hN _).mono ?_; rintro e w2 ⟨rfl, rfl⟩))
      go_ret
      exact ⟨rfl, b1⟩
    · have h1 : ¬ a0 < 1 := by omega
      go_enter Try.func5, Try.ntmps5
      go_wp2_with (first | (go_at_call 16; refine (awakeP _).mono ?_; rintro e w1 ⟨rfl, b1⟩) | (go_at_call 11; refine (hN _).mono ?_; rintro e w2 ⟨rfl, rfl⟩))
      go_ret
      exact ⟨rfl, b1⟩
  have hg1 : ¬ a0 < 1 := by omega
  have hg2 : ¬ 1048576 < a0 := by omega
  have hlo : 1 ≤ a0 := by omega
  have hhi : a0 ≤ 1048576 := by omega
  clear hbad
  go_enter Try.func5, Try.ntmps5
  go_wp2_with fail
  refine (awakeP _).mono ?_
  rintro e v1 ⟨rfl, b1⟩
  have B1 := Lib.hid b1
  clear b1
  go_wp2_with fail
  refine (newS (F := []) B1.out (fun p hp => (by cases hp)) a0 hlo hhi).mono ?_
  rintro e v2 ⟨g, rfl, k⟩
  have K := Lib.hid k
  clear k B1
  go_upto_region 11 with fail
  have DZ : Hid (PS w (v2.alloc (.cells #[.slice none 0 0, .int .i64 a0] 52)) [] g v2.heap.size a0 (.slice none 0 0) [] none 0 []) := Lib.hid
    { cs := K.out.grow ((Below.refl _ _).alloc (Nat.le_refl _) _), box := heap_alloc_new v2 _, bge := K.out.bl.size, bg := by (have := K.out.ca.lt; omega), bv := fun k hk => (by cases hk), row := World.ownsRow_nil _ _ _ _, rge := fun k hk => (by cases hk), rv := fun k hk => (by cases hk), fn := fun q hq => (by cases hq), len := Nat.zero_le _, age := fun x hx => (by cases hx), rlen := Nat.zero_le _, rage := fun x hx => (by cases hx), uq := List.Pairwise.nil }
  obtain ⟨n7, hn⟩ : ∃ n, n = v2.heap.size := ⟨_, rfl⟩
  clear K
  generalize v2.alloc _ = v3 at DZ ⊢
  rw [← hn] at DZ ⊢
  clear hn hg1 hg2
  go_wp2_with fail
  go_loopw [8] (fun iv wr => ∃ (k : Nat) (v : Value) (l : List En) (p : Option Addr) (c : Nat), k ≤ len1 ∧ iv = .int .i64 k ∧ Hid (PS w wr [] g n7 a0 v l p c l)) (fun iv _ => len1 - (intOf iv).toNat)
  case atStart => exact ⟨0, _, _, _, _, Nat.zero_le _, rfl, DZ⟩
  case round =>
    obtain ⟨k, v, l, p, c, hk, rfl, D⟩ := hrel
    by_cases hlt : k < len1
    · have hd : decide ((k : Int) < (len1 : Int)) = true := by simp; omega
      obtain ⟨b, o, ac, rfl, _, hbl, hat⟩ := (W1.out.below D.out.cs.bl).at_ k hlt
      obtain ⟨d, ip, ma⟩ := ac
      have HAT := Lib.hid hat
      have hkb : (k : Int) < (len1 : Int) := by omega
      have D0 := Lib.hid (D.out.alloc (.cells #[.int .i64 d, .int .u8 (ip.a.toNat : Int), .int .u8 (ip.b.toNat : Int), .int .u8 (ip.c.toNat : Int), .int .u8 (ip.d.toNat : Int), .int .u8 (ma.a.toNat : Int), .int .u8 (ma.b.toNat : Int), .int .u8 (ma.c.toNat : Int), .int .u8 (ma.d.toNat : Int), .int .u8 (ma.e.toNat : Int), .int .u8 (ma.f.toNat : Int)] 54))
      clear hat D
      obtain ⟨d0, hd0⟩ : ∃ e : Bool, (d == 0) = e := ⟨_, rfl⟩
      obtain ⟨d1, hd1⟩ : ∃ e : Bool, (d == 1) = e := ⟨_, rfl⟩
      go_upto_region 15 with (refine wpList_load_mid rfl 54 _ rfl b (o + k * 11) rfl [.int .i64 d, .int .u8 (ip.a.toNat : Int), .int .u8 (ip.b.toNat : Int), .int .u8 (ip.c.toNat : Int), .int .u8 (ip.d.toNat : Int), .int .u8 (ma.a.toNat : Int), .int .u8 (ma.b.toNat : Int), .int .u8 (ma.c.toNat : Int), .int .u8 (ma.d.toNat : Int), .int .u8 (ma.e.toNat : Int), .int .u8 (ma.f.toNat : Int)] _ HAT.out Try.underlying54 rfl (by kernel_rfl) ?_)
      obtain ⟨n9, hn⟩ : ∃ n, n = wr.heap.size := ⟨_, rfl⟩
      clear HAT hkb hbl
      generalize wr.alloc _ = W0 at D0 ⊢
      rw [← hn] at D0 ⊢
      clear hn
      cases d0 with
      | true =>
        have HL8 := Lib.hid D0.out.len
        have HAG := Lib.hid D0.out.age
        obtain ⟨i0, ⟨i1, i2, i3, i4⟩, ⟨m0, m1, m2, m3, m4, m5⟩⟩ := act_box (D0.out.cs.get (.head _))
        obtain ⟨x0, x1, -, -⟩ := cells2 D0.out.box
        go_wp2_with fail
        refine (learn_ok D0.out.cs.ca D0.out.len ip ma).mono ?_
        rintro e w3 ⟨rfl, pp⟩
        obtain ⟨v3, d3⟩ := D0.out.turn pp (learnL_len HL8.out) (learnL_age HAG.out)
        have D3 := Lib.hid d3
        clear pp d3 D0
        clear i0 i1 i2 i3 i4 m0 m1 m2 m3 m4 m5 x0 x1
        obtain ⟨i0, ⟨i1, i2, i3, i4⟩, ⟨m0, m1, m2, m3, m4, m5⟩⟩ := act_box (D3.out.cs.get (.head _))
        obtain ⟨x0, x1, -, -⟩ := cells2 D3.out.box
        go_wp2_with fail
        refine (rLearn D3.out.row D3.out.rlen D3.out.uq ip ma).mono ?_
        rintro e w4 ⟨p4, c4, rfl, k1, k2, k3⟩
        have D5 := Lib.hid (D3.out.put k3 k1 k2 (learnL_uq D3.out.uq) (learnL_len HL8.out) (learnL_age HAG.out))
        have hbx := run_box (D3.out.grow k3) (.slice p4 (learnL ip ma l).length c4) (.int .i64 a0) rfl rfl
        clear k1 k2 k3 D3
        clear i0 i1 i2 i3 i4 m0 m1 m2 m3 m4 m5 x0 x1
        go_upto_region 22 with (refine wpList_storeW 52 _ _ rfl rfl _ n7 rfl rfl hbx ?_)
        clear hbx
        generalize w4.setRow _ _ = W5 at D5 ⊢
        generalize learnL ip ma l = l5 at D5 ⊢
        obtain ⟨M, hM⟩ : ∃ M, M = macO (findL ip l5) := ⟨_, rfl⟩
        obtain ⟨rb, hrb⟩ : ∃ r, r = (findL ip l5).isSome := ⟨_, rfl⟩
        have HM := Lib.hid hM
        have HB := Lib.hid hrb
        have hbb : (rb != rb) = false := by cases rb <;> rfl
        clear hM hrb
        obtain ⟨i0, ⟨i1, i2, i3, i4⟩, ⟨m0, m1, m2, m3, m4, m5⟩⟩ := act_box (D5.out.cs.get (.head _))
        obtain ⟨x0, x1, -, -⟩ := cells2 D5.out.box
        go_wp2_with fail
        refine (cFind_ok D5.out.cs.ca (by have := D5.out.len; omega) ip M rb HM.out HB.out).mono ?_
        rintro e w6 ⟨rfl, b6⟩
        clear i0 i1 i2 i3 i4 m0 m1 m2 m3 m4 m5 x0 x1
        have D6 := Lib.hid ((D5.out.grow b6).alloc (.cells #[.int .u8 (M.a.toNat : Int), .int .u8 (M.b.toNat : Int), .int .u8 (M.c.toNat : Int), .int .u8 (M.d.toNat : Int), .int .u8 (M.e.toNat : Int), .int .u8 (M.f.toNat : Int)] 23))
        clear b6 D5
        go_upto_region 23 with fail
        obtain ⟨n10, hn⟩ : ∃ n, n = w6.heap.size := ⟨_, rfl⟩
        generalize w6.alloc _ = W6 at D6 ⊢
        rw [← hn] at D6 ⊢
        clear hn
        obtain ⟨i0, ⟨i1, i2, i3, i4⟩, ⟨m0, m1, m2, m3, m4, m5⟩⟩ := act_box (D6.out.cs.get (.tail _ (.head _)))
        obtain ⟨x0, x1, -, -⟩ := cells2 D6.out.box
        go_wp2_with fail
        refine (rFind D6.out.row (by have := D6.out.rlen; omega) ip M rb HM.out HB.out).mono ?_
        rintro e w7 ⟨rfl, b7⟩
        clear i0 i1 i2 i3 i4 m0 m1 m2 m3 m4 m5 x0 x1
        have D7 := Lib.hid ((D6.out.grow b7).alloc (.cells #[.int .u8 (M.a.toNat : Int), .int .u8 (M.b.toNat : Int), .int .u8 (M.c.toNat : Int), .int .u8 (M.d.toNat : Int), .int .u8 (M.e.toNat : Int), .int .u8 (M.f.toNat : Int)] 23))
        clear b7 D6
        go_upto_region 24 with fail
        obtain ⟨n12, hn⟩ : ∃ n, n = w7.heap.size := ⟨_, rfl⟩
        generalize w7.alloc _ = W7 at D7 ⊢
        rw [← hn] at D7 ⊢
        clear hn
        have M10 : Hid (MacAt W7 n10 M) := Lib.hid (D7.out.cs.get (.tail _ (.head _)))
        have M12 : Hid (MacAt W7 n12 M) := Lib.hid (D7.out.cs.get (.head _))
        have hll : (((l5.length : Nat) : Int) != ((l5.length : Nat) : Int)) = false := by simp
        refine wp_region_noPanic ?_
        refine region_heldE (S := fun V => Below W7.heap.size W7 V) (by kernel_rfl) (fun V d => d.below) (fun V d hS => ?_)
        refine wpAnyH_take (i := 0) (oi := ⟨some 89, Op.load 23 (Operand.tmp 10), _, _, _, none⟩) (v := (.agg #[.int .u8 (M.a.toNat : Int), .int .u8 (M.b.toNat : Int), .int .u8 (M.c.toNat : Int), .int .u8 (M.d.toNat : Int), .int .u8 (M.e.toNat : Int), .int .u8 (M.f.toNat : Int)])) rfl (by kernel_rfl) (by kernel_rfl) (by kernel_rfl) (fun _ _ _ h => h) (Or.inl ⟨by rfl, fun w' h' => ?_⟩) hS ?_
        · have c0 := (MacAt.all (M10.out.grow h')).1
          have c1 := (MacAt.all (M10.out.grow h')).2.1
          have c2 := (MacAt.all (M10.out.grow h')).2.2.1
          have c3 := (MacAt.all (M10.out.grow h')).2.2.2.1
          have c4 := (MacAt.all (M10.out.grow h')).2.2.2.2.1
          have c5 := (MacAt.all (M10.out.grow h')).2.2.2.2.2
          clear h'
          go_simp
        simp only [Act.put]
        refine wpAnyH_take (i := 1) (oi := ⟨some 90, Op.load 23 (Operand.tmp 12), _, _, _, none⟩) (v := (.agg #[.int .u8 (M.a.toNat : Int), .int .u8 (M.b.toNat : Int), .int .u8 (M.c.toNat : Int), .int .u8 (M.d.toNat : Int), .int .u8 (M.e.toNat : Int), .int .u8 (M.f.toNat : Int)])) rfl (by kernel_rfl) (by kernel_rfl) (by kernel_rfl) (fun _ _ _ h => h) (Or.inl ⟨by rfl, fun w' h' => ?_⟩) hS ?_
        · have c0 := (MacAt.all (M12.out.grow h')).1
          have c1 := (MacAt.all (M12.out.grow h')).2.1
          have c2 := (MacAt.all (M12.out.grow h')).2.2.1
          have c3 := (MacAt.all (M12.out.grow h')).2.2.2.1
          have c4 := (MacAt.all (M12.out.grow h')).2.2.2.2.1
          have c5 := (MacAt.all (M12.out.grow h')).2.2.2.2.2
          clear h'
          go_simp
        simp only [Act.put]
        refine wpAnyH_take (i := 2) (oi := ⟨some 91, Op.binOp BinOp.neq 23 (Operand.tmp 89) (Operand.tmp 90) 23, _, _, _, none⟩) (v := (.bool false)) rfl (by kernel_rfl) (by kernel_rfl) (by kernel_rfl) (fun _ _ _ h => h) (yields_neq (by kernel_rfl) 23 23 (Operand.tmp 89) (Operand.tmp 90) rfl #[.int .u8 (M.a.toNat : Int), .int .u8 (M.b.toNat : Int), .int .u8 (M.c.toNat : Int), .int .u8 (M.d.toNat : Int), .int .u8 (M.e.toNat : Int), .int .u8 (M.f.toNat : Int)] #[.int .u8 (M.a.toNat : Int), .int .u8 (M.b.toNat : Int), .int .u8 (M.c.toNat : Int), .int .u8 (M.d.toNat : Int), .int .u8 (M.e.toNat : Int), .int .u8 (M.f.toNat : Int)] (by kernel_rfl) (by kernel_rfl) guard_mac true (fun w => eqMM w M)) hS ?_
        simp only [Act.put]
        refine wpAnyH_take (i := 3) (oi := ⟨some 92, Op.move (Operand.tmp 91), _, _, _, none⟩) (v := (.bool false)) rfl (by kernel_rfl) (by kernel_rfl) (by kernel_rfl) (fun _ _ _ h => h) (Or.inl ⟨by rfl, fun w' h' => ?_⟩) hS ?_
        · clear h'
          go_simp
        simp only [Act.put]
        refine wpAnyH_take (i := 4) (oi := ⟨some 93, Op.move (Operand.tmp 11), _, _, _, some (3, false)⟩) (v := (.bool rb)) rfl (by kernel_rfl) (by kernel_rfl) (by kernel_rfl) (fun _ _ _ h => h) (Or.inl ⟨by kernel_rfl, fun w' h' => ?_⟩) hS ?_
        · clear h'
          go_simp
        simp only [Act.put]
        refine wpAnyH_take (i := 5) (oi := ⟨some 94, Op.move (Operand.tmp 13), _, _, _, some (3, false)⟩) (v := (.bool rb)) rfl (by kernel_rfl) (by kernel_rfl) (by kernel_rfl) (fun _ _ _ h => h) (Or.inl ⟨by kernel_rfl, fun w' h' => ?_⟩) hS ?_
        · clear h'
          go_simp
        simp only [Act.put]
        refine wpAnyH_take (i := 6) (oi := ⟨some 95, Op.binOp BinOp.neq 4 (Operand.tmp 93) (Operand.tmp 94) 4, _, _, _, some (3, false)⟩) (v := (.bool false)) rfl (by kernel_rfl) (by kernel_rfl) (by kernel_rfl) (fun _ _ _ h => h) (Or.inl ⟨by kernel_rfl, fun w' h' => ?_⟩) hS ?_
        · clear h'
          go_simp
        simp only [Act.put]
        refine wpAnyH_take (i := 7) (oi := ⟨some 96, Op.pick (Operand.tmp 92) (Operand.const (Value.bool true)) (Operand.tmp 95), _, _, _, none⟩) (v := (.bool false)) rfl (by kernel_rfl) (by kernel_rfl) (by kernel_rfl) (fun _ _ _ h => h) (Or.inl ⟨by rfl, fun w' h' => ?_⟩) hS ?_
        · clear h'
          go_simp
        simp only [Act.put]
        refine wpAnyH_take (i := 8) (oi := ⟨some 97, Op.move (Operand.tmp 96), _, _, _, none⟩) (v := (.bool false)) rfl (by kernel_rfl) (by kernel_rfl) (by kernel_rfl) (fun _ _ _ h => h) (Or.inl ⟨by rfl, fun w' h' => ?_⟩) hS ?_
        · clear h'
          go_simp
        simp only [Act.put]
        refine wpAnyH_take (i := 9) (oi := ⟨some 98, Op.move (Operand.tmp 5), _, _, _, some (8, false)⟩) (v := (.pointer (some ⟨g, 0, none⟩))) rfl (by kernel_rfl) (by kernel_rfl) (by kernel_rfl) (fun _ _ _ h => h) (Or.inl ⟨by kernel_rfl, fun w' h' => ?_⟩) hS ?_
        · clear h'
          go_simp
        simp only [Act.put]
        refine wpAnyH_take (i := 11) (oi := ⟨some 100, Op.fieldAddr 52 (Operand.tmp 7) 0, _, _, _, some (8, false)⟩) (v := (.pointer (some ⟨n7, 0, none⟩))) rfl (by kernel_rfl) (by kernel_rfl) (by kernel_rfl) (fun _ _ _ h => h) (Or.inl ⟨by kernel_rfl, fun w' h' => ?_⟩) hS ?_
        · clear h'
          go_simp
        simp only [Act.put]
        refine wpAnyH_take (i := 12) (oi := ⟨some 101, Op.load 50 (Operand.tmp 100), _, _, _, some (8, false)⟩) (v := (.slice p4 l5.length c4)) rfl (by kernel_rfl) (by kernel_rfl) (by kernel_rfl) (fun _ _ _ h => h) (Or.inl ⟨by kernel_rfl, fun w' h' => ?_⟩) hS ?_
        · have c0 := (cells2 (D7.out.grow h').box).1
          clear h'
          go_simp
        simp only [Act.put]
        refine wpAnyH_take (i := 13) (oi := ⟨some 102, Op.call { callee := Callee.builtin Builtin.len, args := #[(Operand.tmp 101)], argTypes := #[50] }, _, _, _, some (8, false)⟩) (v := (.int .i64 (l5.length : Int))) rfl (by kernel_rfl) (by kernel_rfl) (by kernel_rfl) (fun _ _ _ h => h) (Or.inl ⟨by kernel_rfl, fun w' h' => ?_⟩) hS ?_
        · clear h'
          go_simp
        simp only [Act.put]
        refine wpAnyH_ready (rs := [10]) (by kernel_rfl) (by simp) ?_
        refine AllReadyH.cons rfl (fun K hK => ?_) AllReadyH.nil
        go_simp
        refine (clen_ok (D7.out.grow hS).cs.ca (by have := D7.out.len; omega)).mono ?_
        rintro e wx ⟨rfl, rfl⟩
        go_simp
        refine hK.out _ _ hS (fun _ => ?_)
        clear hK K
        refine wpAnyH_take (i := 14) (oi := ⟨some 103, Op.binOp BinOp.neq 3 (Operand.tmp 99) (Operand.tmp 102) 3, _, _, _, some (8, false)⟩) (v := (.bool false)) rfl (by kernel_rfl) (by kernel_rfl) (by kernel_rfl) (fun _ _ _ h => h) (Or.inl ⟨by kernel_rfl, fun w' h' => ?_⟩) hS ?_
        · clear h'
          go_simp
        simp only [Act.put]
        refine wpAnyH_take (i := 15) (oi := ⟨some 104, Op.pick (Operand.tmp 97) (Operand.const (Value.bool true)) (Operand.tmp 103), _, _, _, none⟩) (v := (.bool false)) rfl (by kernel_rfl) (by kernel_rfl) (by kernel_rfl) (fun _ _ _ h => h) (Or.inl ⟨by rfl, fun w' h' => ?_⟩) hS ?_
        · clear h'
          go_simp
        simp only [Act.put]
        refine wpAnyH_done (by kernel_rfl) (NoPanic.normal ?_) _
        try simp only [List.setIfInBounds_toArray, List.set_cons_zero, List.set_cons_succ]
        have D8 := Lib.hid ((D7.out.grow hS).drop)
        clear hS d M10 M12 hll HM HB hbb D7
        rename World => W8
        go_wp2_with fail
        go_loopw [14] (fun iv wr => ∃ j : Nat, j ≤ l5.length ∧ iv = .int .i64 j ∧ Hid (Below W8.heap.size W8 wr)) (fun iv _ => l5.length - (intOf iv).toNat)
        case atStart => exact ⟨0, Nat.zero_le _, rfl, Lib.hid (Below.refl _ _)⟩
        case round =>
          obtain ⟨j, hj, rfl, B⟩ := hrel
          have DD := Lib.hid (D8.out.grow B.out)
          obtain ⟨x0, x1, -, -⟩ := cells2 DD.out.box
          have hl8 := DD.out.len
          by_cases hlj : j < l5.length
          · have hj1 : decide ((j : Int) < (l5.length : Int)) = true := by simp; omega
            obtain ⟨b7, cap7, hv7, hcap, hcm, hbl, hfz, hE0⟩ := RowA.elem enE_len DD.out.row (by omega)
            have hE := hE0 j hlj
            have hfu := findL_uq DD.out.uq hlj
            have HFU := Lib.hid hfu
            generalize hxx : l5[j] = x at hE
            have HXX := Lib.hid hxx
            injection hv7 with hv7 _ hc7
            subst hv7 hc7
            have HIP : Hid (wr.rangeAt b7 (j * 11) [.int .u8 (x.ip.a.toNat : Int), .int .u8 (x.ip.b.toNat : Int), .int .u8 (x.ip.c.toNat : Int), .int .u8 (x.ip.d.toNat : Int)]) := Lib.hid (rangeAt_take (n := 4) hE)
            have HMA : Hid (wr.rangeAt b7 (j * 11 + 4) [.int .u8 (x.ma.a.toNat : Int), .int .u8 (x.ma.b.toNat : Int), .int .u8 (x.ma.c.toNat : Int), .int .u8 (x.ma.d.toNat : Int), .int .u8 (x.ma.e.toNat : Int), .int .u8 (x.ma.f.toNat : Int)]) := Lib.hid (rangeAt_take (n := 6) (rangeAt_drop (n := 4) hE))
            have q1 : (0 : Int) ≤ (j : Int) := by omega
            have q2 : (j : Int) < (l5.length : Int) := by omega
            have q3 : decide ((j : Int) < (l5.length : Int)) = true := by simp; omega
            have hwj : IntKind.i64.wrap ((j : Int) + 1) = (j : Int) + 1 := IntWalk.i64_in _ (by omega)
            clear hE hE0 hfz hcm hcap hfu hxx
            have HCF : Hid (Calls Try.prog 14 #[.pointer (some ⟨g, 0, none⟩), .agg #[.int .u8 (x.ip.a.toNat : Int), .int .u8 (x.ip.b.toNat : Int), .int .u8 (x.ip.c.toNat : Int), .int .u8 (x.ip.d.toNat : Int)]] wr fun e w' => e = .returned (.tuple #[.agg #[.int .u8 (x.ma.a.toNat : Int), .int .u8 (x.ma.b.toNat : Int), .int .u8 (x.ma.c.toNat : Int), .int .u8 (x.ma.d.toNat : Int), .int .u8 (x.ma.e.toNat : Int), .int .u8 (x.ma.f.toNat : Int)], .bool true]) ∧ Below wr.heap.size wr w') := Lib.hid (cFind_ok DD.out.cs.ca (by omega) x.ip x.ma true (by have := HFU.out; rw [HXX.out] at this; rw [this]; rfl) (by have := HFU.out; rw [HXX.out] at this; rw [this]; rfl))
            go_upto_region 30 with (first | (refine wpList_load_mid rfl 25 _ rfl b7 (j * 11) rfl [.int .u8 (x.ip.a.toNat : Int), .int .u8 (x.ip.b.toNat : Int), .int .u8 (x.ip.c.toNat : Int), .int .u8 (x.ip.d.toNat : Int)] _ HIP.out Try.underlying25 rfl (by kernel_rfl) ?_) | (go_at_call 14; refine HCF.out.mono ?_; rintro e w9 ⟨rfl, b9⟩; have B9 := Lib.hid b9; clear b9))
            have BA9 : Hid (Below wr.heap.size wr (w9.alloc (.cells #[.int .u8 (x.ma.a.toNat : Int), .int .u8 (x.ma.b.toNat : Int), .int .u8 (x.ma.c.toNat : Int), .int .u8 (x.ma.d.toNat : Int), .int .u8 (x.ma.e.toNat : Int), .int .u8 (x.ma.f.toNat : Int)] 23))) := Lib.hid (B9.out.alloc B9.out.size _)
            have M15 : Hid (MacAt (w9.alloc (.cells #[.int .u8 (x.ma.a.toNat : Int), .int .u8 (x.ma.b.toNat : Int), .int .u8 (x.ma.c.toNat : Int), .int .u8 (x.ma.d.toNat : Int), .int .u8 (x.ma.e.toNat : Int), .int .u8 (x.ma.f.toNat : Int)] 23)) w9.heap.size x.ma) := Lib.hid (mac_new _ _ x.ma rfl)
            obtain ⟨n15, hn⟩ : ∃ n, n = w9.heap.size := ⟨_, rfl⟩
            generalize w9.alloc _ = W9 at BA9 M15 ⊢
            rw [← hn] at M15 ⊢
            clear hn x0 x1 B9 HCF HIP
            have D9 := Lib.hid (DD.out.grow BA9.out)
            have hb9 : b7 < W9.heap.size := Nat.lt_of_lt_of_le hbl BA9.out.size
            have HE9 : Hid (W9.rangeAt b7 (j * 11 + 4) [.int .u8 (x.ma.a.toNat : Int), .int .u8 (x.ma.b.toNat : Int), .int .u8 (x.ma.c.toNat : Int), .int .u8 (x.ma.d.toNat : Int), .int .u8 (x.ma.e.toNat : Int), .int .u8 (x.ma.f.toNat : Int)]) := Lib.hid (fun k u hu => (BA9.out.cell (p := ⟨b7, j * 11 + 4 + k, none⟩) hbl).trans (HMA.out k u hu))
            refine wp_region_noPanic ?_
            refine region_heldE (S := fun V => Below W9.heap.size W9 V) (by kernel_rfl) (fun V d => d.below) (fun V d hS => ?_)
            refine wpAnyH_take (i := 0) (oi := ⟨some 123, Op.move (Operand.tmp 16), _, _, _, none⟩) (v := (.bool true)) rfl (by kernel_rfl) (by kernel_rfl) (by kernel_rfl) (fun _ _ _ h => h) (Or.inl ⟨by rfl, fun w' h' => ?_⟩) hS ?_
            · clear h'
              go_simp
            simp only [Act.put]
            refine wpAnyH_take (i := 1) (oi := ⟨some 124, Op.unOp UnOp.not 4 (Operand.tmp 123), _, _, _, none⟩) (v := (.bool false)) rfl (by kernel_rfl) (by kernel_rfl) (by kernel_rfl) (fun _ _ _ h => h) (Or.inl ⟨by rfl, fun w' h' => ?_⟩) hS ?_
            · clear h'
              go_simp
            simp only [Act.put]
            refine wpAnyH_take (i := 2) (oi := ⟨some 125, Op.move (Operand.tmp 124), _, _, _, none⟩) (v := (.bool false)) rfl (by kernel_rfl) (by kernel_rfl) (by kernel_rfl) (fun _ _ _ h => h) (Or.inl ⟨by rfl, fun w' h' => ?_⟩) hS ?_
            · clear h'
              go_simp
            simp only [Act.put]
            refine wpAnyH_take (i := 3) (oi := ⟨some 126, Op.load 23 (Operand.tmp 15), _, _, _, some (2, false)⟩) (v := (.agg #[.int .u8 (x.ma.a.toNat : Int), .int .u8 (x.ma.b.toNat : Int), .int .u8 (x.ma.c.toNat : Int), .int .u8 (x.ma.d.toNat : Int), .int .u8 (x.ma.e.toNat : Int), .int .u8 (x.ma.f.toNat : Int)])) rfl (by kernel_rfl) (by kernel_rfl) (by kernel_rfl) (fun _ _ _ h => h) (Or.inl ⟨by kernel_rfl, fun w' h' => ?_⟩) hS ?_
            · have c0 := (MacAt.all (M15.out.grow h')).1
              have c1 := (MacAt.all (M15.out.grow h')).2.1
              have c2 := (MacAt.all (M15.out.grow h')).2.2.1
              have c3 := (MacAt.all (M15.out.grow h')).2.2.2.1
              have c4 := (MacAt.all (M15.out.grow h')).2.2.2.2.1
              have c5 := (MacAt.all (M15.out.grow h')).2.2.2.2.2
              clear h'
              go_simp
            simp only [Act.put]
            refine wpAnyH_take (i := 4) (oi := ⟨some 127, Op.fieldAddr 52 (Operand.tmp 7) 0, _, _, _, some (2, false)⟩) (v := (.pointer (some ⟨n7, 0, none⟩))) rfl (by kernel_rfl) (by kernel_rfl) (by kernel_rfl) (fun _ _ _ h => h) (Or.inl ⟨by kernel_rfl, fun w' h' => ?_⟩) hS ?_
            · clear h'
              go_simp
            simp only [Act.put]
            refine wpAnyH_take (i := 5) (oi := ⟨some 128, Op.load 50 (Operand.tmp 127), _, _, _, some (2, false)⟩) (v := (.slice (some ⟨b7, 0, none⟩) l5.length c4)) rfl (by kernel_rfl) (by kernel_rfl) (by kernel_rfl) (fun _ _ _ h => h) (Or.inl ⟨by kernel_rfl, fun w' h' => ?_⟩) hS ?_
            · have c0 := (cells2 (D9.out.grow h').box).1
              clear h'
              go_simp
            simp only [Act.put]
            refine wpAnyH_take (i := 6) (oi := ⟨some 129, Op.move (Operand.tmp 14), _, _, _, some (2, false)⟩) (v := (.int .i64 (j : Int))) rfl (by kernel_rfl) (by kernel_rfl) (by kernel_rfl) (fun _ _ _ h => h) (Or.inl ⟨by kernel_rfl, fun w' h' => ?_⟩) hS ?_
            · clear h'
              go_simp
            simp only [Act.put]
            refine wpAnyH_take (i := 7) (oi := ⟨some 130, Op.indexAddr 50 (Operand.tmp 128) (Operand.tmp 129), _, _, _, some (2, false)⟩) (v := (.pointer (some ⟨b7, j * 11, none⟩))) rfl (by kernel_rfl) (by kernel_rfl) (by kernel_rfl) (fun _ _ _ h => h) (Or.inl ⟨by kernel_rfl, fun w' h' => ?_⟩) hS ?_
            · have c0 := q1
              have c1 := q2
              have c2 := q3
              clear h'
              go_simp
            simp only [Act.put]
            refine wpAnyH_take (i := 8) (oi := ⟨some 131, Op.fieldAddr 58 (Operand.tmp 130) 1, _, _, _, some (2, false)⟩) (v := (.pointer (some ⟨b7, j * 11 + 4, none⟩))) rfl (by kernel_rfl) (by kernel_rfl) (by kernel_rfl) (fun _ _ _ h => h) (Or.inl ⟨by kernel_rfl, fun w' h' => ?_⟩) hS ?_
            · clear h'
              go_simp
            simp only [Act.put]
            refine wpAnyH_take (i := 9) (oi := ⟨some 132, Op.load 23 (Operand.tmp 131), _, _, _, some (2, false)⟩) (v := (.agg #[.int .u8 (x.ma.a.toNat : Int), .int .u8 (x.ma.b.toNat : Int), .int .u8 (x.ma.c.toNat : Int), .int .u8 (x.ma.d.toNat : Int), .int .u8 (x.ma.e.toNat : Int), .int .u8 (x.ma.f.toNat : Int)])) rfl (by kernel_rfl) (by kernel_rfl) (by kernel_rfl) (fun _ _ _ h => h) (Or.inl ⟨by kernel_rfl, fun w' h' => ?_⟩) hS ?_
            · have c0 := ((h'.cell (p := ⟨b7, j * 11 + 4, none⟩) hb9).trans (HE9.out 0 _ rfl))
              have c1 := ((h'.cell (p := ⟨b7, j * 11 + 4 + 1, none⟩) hb9).trans (HE9.out 1 _ rfl))
              have c2 := ((h'.cell (p := ⟨b7, j * 11 + 4 + 2, none⟩) hb9).trans (HE9.out 2 _ rfl))
              have c3 := ((h'.cell (p := ⟨b7, j * 11 + 4 + 3, none⟩) hb9).trans (HE9.out 3 _ rfl))
              have c4 := ((h'.cell (p := ⟨b7, j * 11 + 4 + 4, none⟩) hb9).trans (HE9.out 4 _ rfl))
              have c5 := ((h'.cell (p := ⟨b7, j * 11 + 4 + 5, none⟩) hb9).trans (HE9.out 5 _ rfl))
              clear h'
              go_simp
            simp only [Act.put]
            refine wpAnyH_take (i := 10) (oi := ⟨some 133, Op.binOp BinOp.neq 23 (Operand.tmp 126) (Operand.tmp 132) 23, _, _, _, some (2, false)⟩) (v := (.bool false)) rfl (by kernel_rfl) (by kernel_rfl) (by kernel_rfl) (fun _ _ _ h => h) (yields_neq (by kernel_rfl) 23 23 (Operand.tmp 126) (Operand.tmp 132) rfl #[.int .u8 (x.ma.a.toNat : Int), .int .u8 (x.ma.b.toNat : Int), .int .u8 (x.ma.c.toNat : Int), .int .u8 (x.ma.d.toNat : Int), .int .u8 (x.ma.e.toNat : Int), .int .u8 (x.ma.f.toNat : Int)] #[.int .u8 (x.ma.a.toNat : Int), .int .u8 (x.ma.b.toNat : Int), .int .u8 (x.ma.c.toNat : Int), .int .u8 (x.ma.d.toNat : Int), .int .u8 (x.ma.e.toNat : Int), .int .u8 (x.ma.f.toNat : Int)] (by kernel_rfl) (by kernel_rfl) guard_mac true (fun w => eqMM w x.ma)) hS ?_
            simp only [Act.put]
            refine wpAnyH_take (i := 11) (oi := ⟨some 134, Op.pick (Operand.tmp 125) (Operand.const (Value.bool true)) (Operand.tmp 133), _, _, _, none⟩) (v := (.bool false)) rfl (by kernel_rfl) (by kernel_rfl) (by kernel_rfl) (fun _ _ _ h => h) (Or.inl ⟨by rfl, fun w' h' => ?_⟩) hS ?_
            · clear h'
              go_simp
            simp only [Act.put]
            refine wpAnyH_done (by kernel_rfl) (NoPanic.normal ?_) _
            try simp only [List.setIfInBounds_toArray, List.set_cons_zero, List.set_cons_succ]
            have TV := Lib.hid hS
            clear hS d
            go_wp2_with fail
            go_roundw
            case rel => exact ⟨j + 1, by omega, by go_num, Lib.hid (B.out.trans ((BA9.out.trans (TV.out.mono BA9.out.size)).mono B.out.size))⟩
            case measure => simp [intOf]; omega
          · have hj1 : decide ((j : Int) < (l5.length : Int)) = false := by simp; omega
            have hwk : IntKind.i64.wrap ((k : Int) + 1) = (k : Int) + 1 := IntWalk.i64_in _ (by omega)
            go_wp2_with fail
            go_roundw
            case rel => exact ⟨k + 1, _, _, _, _, by omega, by go_num, DD⟩
            case measure => simp [intOf]; omega
      | false =>
        cases d1 with
        | true =>
          have HL8 := Lib.hid D0.out.len
          have HAG := Lib.hid D0.out.age
          obtain ⟨i0, ⟨i1, i2, i3, i4⟩, ⟨m0, m1, m2, m3, m4, m5⟩⟩ := act_box (D0.out.cs.get (.head _))
          obtain ⟨x0, x1, -, -⟩ := cells2 D0.out.box
          go_wp2_with fail
          refine (tick_ok D0.out.cs.ca (by have := D0.out.len; omega) D0.out.age).mono ?_
          rintro e w3 ⟨rfl, pp⟩
          obtain ⟨v3, d3⟩ := D0.out.turn pp (Nat.le_trans tickL_len HL8.out) (tickL_age HAG.out hhi)
          have D3 := Lib.hid d3
          clear pp d3 D0
          clear i0 i1 i2 i3 i4 m0 m1 m2 m3 m4 m5 x0 x1
          obtain ⟨i0, ⟨i1, i2, i3, i4⟩, ⟨m0, m1, m2, m3, m4, m5⟩⟩ := act_box (D3.out.cs.get (.head _))
          obtain ⟨x0, x1, -, -⟩ := cells2 D3.out.box
          go_wp2_with fail
          refine (rTick D3.out.row (by have := D3.out.rlen; omega) D3.out.rage).mono ?_
          rintro e w4 ⟨p4, c4, rfl, k1, k2, k3⟩
          have D5 := Lib.hid (D3.out.put k3 k1 k2 (tickL_uq D3.out.uq) (Nat.le_trans tickL_len HL8.out) (tickL_age HAG.out hhi))
          have hbx := run_box (D3.out.grow k3) (.slice p4 (tickL a0 l).length c4) (.int .i64 a0) rfl rfl
          clear k1 k2 k3 D3
          clear i0 i1 i2 i3 i4 m0 m1 m2 m3 m4 m5 x0 x1
          go_upto_region 22 with (refine wpList_storeW 52 _ _ rfl rfl _ n7 rfl rfl hbx ?_)
          clear hbx
          generalize w4.setRow _ _ = W5 at D5 ⊢
          generalize tickL a0 l = l5 at D5 ⊢
          obtain ⟨M, hM⟩ : ∃ M, M = macO (findL ip l5) := ⟨_, rfl⟩
          obtain ⟨rb, hrb⟩ : ∃ r, r = (findL ip l5).isSome := ⟨_, rfl⟩
          have HM := Lib.hid hM
          have HB := Lib.hid hrb
          have hbb : (rb != rb) = false := by cases rb <;> rfl
          clear hM hrb
          obtain ⟨i0, ⟨i1, i2, i3, i4⟩, ⟨m0, m1, m2, m3, m4, m5⟩⟩ := act_box (D5.out.cs.get (.head _))
          obtain ⟨x0, x1, -, -⟩ := cells2 D5.out.box
          go_wp2_with fail
          refine (cFind_ok D5.out.cs.ca (by have := D5.out.len; omega) ip M rb HM.out HB.out).mono ?_
          rintro e w6 ⟨rfl, b6⟩
          clear i0 i1 i2 i3 i4 m0 m1 m2 m3 m4 m5 x0 x1
          have D6 := Lib.hid ((D5.out.grow b6).alloc (.cells #[.int .u8 (M.a.toNat : Int), .int .u8 (M.b.toNat : Int), .int .u8 (M.c.toNat : Int), .int .u8 (M.d.toNat : Int), .int .u8 (M.e.toNat : Int), .int .u8 (M.f.toNat : Int)] 23))
          clear b6 D5
          go_upto_region 23 with fail
          obtain ⟨n10, hn⟩ : ∃ n, n = w6.heap.size := ⟨_, rfl⟩
          generalize w6.alloc _ = W6 at D6 ⊢
          rw [← hn] at D6 ⊢
          clear hn
          obtain ⟨i0, ⟨i1, i2, i3, i4⟩, ⟨m0, m1, m2, m3, m4, m5⟩⟩ := act_box (D6.out.cs.get (.tail _ (.head _)))
          obtain ⟨x0, x1, -, -⟩ := cells2 D6.out.box
          go_wp2_with fail
          refine (rFind D6.out.row (by have := D6.out.rlen; omega) ip M rb HM.out HB.out).mono ?_
          rintro e w7 ⟨rfl, b7⟩
          clear i0 i1 i2 i3 i4 m0 m1 m2 m3 m4 m5 x0 x1
          have D7 := Lib.hid ((D6.out.grow b7).alloc (.cells #[.int .u8 (M.a.toNat : Int), .int .u8 (M.b.toNat : Int), .int .u8 (M.c.toNat : Int), .int .u8 (M.d.toNat : Int), .int .u8 (M.e.toNat : Int), .int .u8 (M.f.toNat : Int)] 23))
          clear b7 D6
          go_upto_region 24 with fail
          obtain ⟨n12, hn⟩ : ∃ n, n = w7.heap.size := ⟨_, rfl⟩
          generalize w7.alloc _ = W7 at D7 ⊢
          rw [← hn] at D7 ⊢
          clear hn
          have M10 : Hid (MacAt W7 n10 M) := Lib.hid (D7.out.cs.get (.tail _ (.head _)))
          have M12 : Hid (MacAt W7 n12 M) := Lib.hid (D7.out.cs.get (.head _))
          have hll : (((l5.length : Nat) : Int) != ((l5.length : Nat) : Int)) = false := by simp
          refine wp_region_noPanic ?_
          refine region_heldE (S := fun V => Below W7.heap.size W7 V) (by kernel_rfl) (fun V d => d.below) (fun V d hS => ?_)
          refine wpAnyH_take (i := 0) (oi := ⟨some 89, Op.load 23 (Operand.tmp 10), _, _, _, none⟩) (v := (.agg #[.int .u8 (M.a.toNat : Int), .int .u8 (M.b.toNat : Int), .int .u8 (M.c.toNat : Int), .int .u8 (M.d.toNat : Int), .int .u8 (M.e.toNat : Int), .int .u8 (M.f.toNat : Int)])) rfl (by kernel_rfl) (by kernel_rfl) (by kernel_rfl) (fun _ _ _ h => h) (Or.inl ⟨by rfl, fun w' h' => ?_⟩) hS ?_
          · have c0 := (MacAt.all (M10.out.grow h')).1
            have c1 := (MacAt.all (M10.out.grow h')).2.1
            have c2 := (MacAt.all (M10.out.grow h')).2.2.1
            have c3 := (MacAt.all (M10.out.grow h')).2.2.2.1
            have c4 := (MacAt.all (M10.out.grow h')).2.2.2.2.1
            have c5 := (MacAt.all (M10.out.grow h')).2.2.2.2.2
            clear h'
            go_simp
          simp only [Act.put]
          refine wpAnyH_take (i := 1) (oi := ⟨some 90, Op.load 23 (Operand.tmp 12), _, _, _, none⟩) (v := (.agg #[.int .u8 (M.a.toNat : Int), .int .u8 (M.b.toNat : Int), .int .u8 (M.c.toNat : Int), .int .u8 (M.d.toNat : Int), .int .u8 (M.e.toNat : Int), .int .u8 (M.f.toNat : Int)])) rfl (by kernel_rfl) (by kernel_rfl) (by kernel_rfl) (fun _ _ _ h => h) (Or.inl ⟨by rfl, fun w' h' => ?_⟩) hS ?_
          · have c0 := (MacAt.all (M12.out.grow h')).1
            have c1 := (MacAt.all (M12.out.grow h')).2.1
            have c2 := (MacAt.all (M12.out.grow h')).2.2.1
            have c3 := (MacAt.all (M12.out.grow h')).2.2.2.1
            have c4 := (MacAt.all (M12.out.grow h')).2.2.2.2.1
            have c5 := (MacAt.all (M12.out.grow h')).2.2.2.2.2
            clear h'
            go_simp
          simp only [Act.put]
          refine wpAnyH_take (i := 2) (oi := ⟨some 91, Op.binOp BinOp.neq 23 (Operand.tmp 89) (Operand.tmp 90) 23, _, _, _, none⟩) (v := (.bool false)) rfl (by kernel_rfl) (by kernel_rfl) (by kernel_rfl) (fun _ _ _ h => h) (yields_neq (by kernel_rfl) 23 23 (Operand.tmp 89) (Operand.tmp 90) rfl #[.int .u8 (M.a.toNat : Int), .int .u8 (M.b.toNat : Int), .int .u8 (M.c.toNat : Int), .int .u8 (M.d.toNat : Int), .int .u8 (M.e.toNat : Int), .int .u8 (M.f.toNat : Int)] #[.int .u8 (M.a.toNat : Int), .int .u8 (M.b.toNat : Int), .int .u8 (M.c.toNat : Int), .int .u8 (M.d.toNat : Int), .int .u8 (M.e.toNat : Int), .int .u8 (M.f.toNat : Int)] (by kernel_rfl) (by kernel_rfl) guard_mac true (fun w => eqMM w M)) hS ?_
          simp only [Act.put]
          refine wpAnyH_take (i := 3) (oi := ⟨some 92, Op.move (Operand.tmp 91), _, _, _, none⟩) (v := (.bool false)) rfl (by kernel_rfl) (by kernel_rfl) (by kernel_rfl) (fun _ _ _ h => h) (Or.inl ⟨by rfl, fun w' h' => ?_⟩) hS ?_
          · clear h'
            go_simp
          simp only [Act.put]
          refine wpAnyH_take (i := 4) (oi := ⟨some 93, Op.move (Operand.tmp 11), _, _, _, some (3, false)⟩) (v := (.bool rb)) rfl (by kernel_rfl) (by kernel_rfl) (by kernel_rfl) (fun _ _ _ h => h) (Or.inl ⟨by kernel_rfl, fun w' h' => ?_⟩) hS ?_
          · clear h'
            go_simp
          simp only [Act.put]
          refine wpAnyH_take (i := 5) (oi := ⟨some 94, Op.move (Operand.tmp 13), _, _, _, some (3, false)⟩) (v := (.bool rb)) rfl (by kernel_rfl) (by kernel_rfl) (by kernel_rfl) (fun _ _ _ h => h) (Or.inl ⟨by kernel_rfl, fun w' h' => ?_⟩) hS ?_
          · clear h'
            go_simp
          simp only [Act.put]
          refine wpAnyH_take (i := 6) (oi := ⟨some 95, Op.binOp BinOp.neq 4 (Operand.tmp 93) (Operand.tmp 94) 4, _, _, _, some (3, false)⟩) (v := (.bool false)) rfl (by kernel_rfl) (by kernel_rfl) (by kernel_rfl) (fun _ _ _ h => h) (Or.inl ⟨by kernel_rfl, fun w' h' => ?_⟩) hS ?_
          · clear h'
            go_simp
          simp only [Act.put]
          refine wpAnyH_take (i := 7) (oi := ⟨some 96, Op.pick (Operand.tmp 92) (Operand.const (Value.bool true)) (Operand.tmp 95), _, _, _, none⟩) (v := (.bool false)) rfl (by kernel_rfl) (by kernel_rfl) (by kernel_rfl) (fun _ _ _ h => h) (Or.inl ⟨by rfl, fun w' h' => ?_⟩) hS ?_
          · clear h'
            go_simp
          simp only [Act.put]
          refine wpAnyH_take (i := 8) (oi := ⟨some 97, Op.move (Operand.tmp 96), _, _, _, none⟩) (v := (.bool false)) rfl (by kernel_rfl) (by kernel_rfl) (by kernel_rfl) (fun _ _ _ h => h) (Or.inl ⟨by rfl, fun w' h' => ?_⟩) hS ?_
          · clear h'
            go_simp
          simp only [Act.put]
          refine wpAnyH_take (i := 9) (oi := ⟨some 98, Op.move (Operand.tmp 5), _, _, _, some (8, false)⟩) (v := (.pointer (some ⟨g, 0, none⟩))) rfl (by kernel_rfl) (by kernel_rfl) (by kernel_rfl) (fun _ _ _ h => h) (Or.inl ⟨by kernel_rfl, fun w' h' => ?_⟩) hS ?_
          · clear h'
            go_simp
          simp only [Act.put]
          refine wpAnyH_take (i := 11) (oi := ⟨some 100, Op.fieldAddr 52 (Operand.tmp 7) 0, _, _, _, some (8, false)⟩) (v := (.pointer (some ⟨n7, 0, none⟩))) rfl (by kernel_rfl) (by kernel_rfl) (by kernel_rfl) (fun _ _ _ h => h) (Or.inl ⟨by kernel_rfl, fun w' h' => ?_⟩) hS ?_
          · clear h'
            go_simp
          simp only [Act.put]
          refine wpAnyH_take (i := 12) (oi := ⟨some 101, Op.load 50 (Operand.tmp 100), _, _, _, some (8, false)⟩) (v := (.slice p4 l5.length c4)) rfl (by kernel_rfl) (by kernel_rfl) (by kernel_rfl) (fun _ _ _ h => h) (Or.inl ⟨by kernel_rfl, fun w' h' => ?_⟩) hS ?_
          · have c0 := (cells2 (D7.out.grow h').box).1
            clear h'
            go_simp
          simp only [Act.put]
          refine wpAnyH_take (i := 13) (oi := ⟨some 102, Op.call { callee := Callee.builtin Builtin.len, args := #[(Operand.tmp 101)], argTypes := #[50] }, _, _, _, some (8, false)⟩) (v := (.int .i64 (l5.length : Int))) rfl (by kernel_rfl) (by kernel_rfl) (by kernel_rfl) (fun _ _ _ h => h) (Or.inl ⟨by kernel_rfl, fun w' h' => ?_⟩) hS ?_
          · clear h'
            go_simp
          simp only [Act.put]
          refine wpAnyH_ready (rs := [10]) (by kernel_rfl) (by simp) ?_
          refine AllReadyH.cons rfl (fun K hK => ?_) AllReadyH.nil
          go_simp
          refine (clen_ok (D7.out.grow hS).cs.ca (by have := D7.out.len; omega)).mono ?_
          rintro e wx ⟨rfl, rfl⟩
          go_simp
          refine hK.out _ _ hS (fun _ => ?_)
          clear hK K
          refine wpAnyH_take (i := 14) (oi := ⟨some 103, Op.binOp BinOp.neq 3 (Operand.tmp 99) (Operand.tmp 102) 3, _, _, _, some (8, false)⟩) (v := (.bool false)) rfl (by kernel_rfl) (by kernel_rfl) (by kernel_rfl) (fun _ _ _ h => h) (Or.inl ⟨by kernel_rfl, fun w' h' => ?_⟩) hS ?_
          · clear h'
            go_simp
          simp only [Act.put]
          refine wpAnyH_take (i := 15) (oi := ⟨some 104, Op.pick (Operand.tmp 97) (Operand.const (Value.bool true)) (Operand.tmp 103), _, _, _, none⟩) (v := (.bool false)) rfl (by kernel_rfl) (by kernel_rfl) (by kernel_rfl) (fun _ _ _ h => h) (Or.inl ⟨by rfl, fun w' h' => ?_⟩) hS ?_
          · clear h'
            go_simp
          simp only [Act.put]
          refine wpAnyH_done (by kernel_rfl) (NoPanic.normal ?_) _
          try simp only [List.setIfInBounds_toArray, List.set_cons_zero, List.set_cons_succ]
          have D8 := Lib.hid ((D7.out.grow hS).drop)
          clear hS d M10 M12 hll HM HB hbb D7
          rename World => W8
          go_wp2_with fail
          go_loopw [14] (fun iv wr => ∃ j : Nat, j ≤ l5.length ∧ iv = .int .i64 j ∧ Hid (Below W8.heap.size W8 wr)) (fun iv _ => l5.length - (intOf iv).toNat)
          case atStart => exact ⟨0, Nat.zero_le _, rfl, Lib.hid (Below.refl _ _)⟩
          case round =>
            obtain ⟨j, hj, rfl, B⟩ := hrel
            have DD := Lib.hid (D8.out.grow B.out)
            obtain ⟨x0, x1, -, -⟩ := cells2 DD.out.box
            have hl8 := DD.out.len
            by_cases hlj : j < l5.length
            · have hj1 : decide ((j : Int) < (l5.length : Int)) = true := by simp; omega
              obtain ⟨b7, cap7, hv7, hcap, hcm, hbl, hfz, hE0⟩ := RowA.elem enE_len DD.out.row (by omega)
              have hE := hE0 j hlj
              have hfu := findL_uq DD.out.uq hlj
              have HFU := Lib.hid hfu
              generalize hxx : l5[j] = x at hE
              have HXX := Lib.hid hxx
              injection hv7 with hv7 _ hc7
              subst hv7 hc7
              have HIP : Hid (wr.rangeAt b7 (j * 11) [.int .u8 (x.ip.a.toNat : Int), .int .u8 (x.ip.b.toNat : Int), .int .u8 (x.ip.c.toNat : Int), .int .u8 (x.ip.d.toNat : Int)]) := Lib.hid (rangeAt_take (n := 4) hE)
              have HMA : Hid (wr.rangeAt b7 (j * 11 + 4) [.int .u8 (x.ma.a.toNat : Int), .int .u8 (x.ma.b.toNat : Int), .int .u8 (x.ma.c.toNat : Int), .int .u8 (x.ma.d.toNat : Int), .int .u8 (x.ma.e.toNat : Int), .int .u8 (x.ma.f.toNat : Int)]) := Lib.hid (rangeAt_take (n := 6) (rangeAt_drop (n := 4) hE))
              have q1 : (0 : Int) ≤ (j : Int) := by omega
              have q2 : (j : Int) < (l5.length : Int) := by omega
              have q3 : decide ((j : Int) < (l5.length : Int)) = true := by simp; omega
              have hwj : IntKind.i64.wrap ((j : Int) + 1) = (j : Int) + 1 := IntWalk.i64_in _ (by omega)
              clear hE hE0 hfz hcm hcap hfu hxx
              have HCF : Hid (Calls Try.prog 14 #[.pointer (some ⟨g, 0, none⟩), .agg #[.int .u8 (x.ip.a.toNat : Int), .int .u8 (x.ip.b.toNat : Int), .int .u8 (x.ip.c.toNat : Int), .int .u8 (x.ip.d.toNat : Int)]] wr fun e w' => e = .returned (.tuple #[.agg #[.int .u8 (x.ma.a.toNat : Int), .int .u8 (x.ma.b.toNat : Int), .int .u8 (x.ma.c.toNat : Int), .int .u8 (x.ma.d.toNat : Int), .int .u8 (x.ma.e.toNat : Int), .int .u8 (x.ma.f.toNat : Int)], .bool true]) ∧ Below wr.heap.size wr w') := Lib.hid (cFind_ok DD.out.cs.ca (by omega) x.ip x.ma true (by have := HFU.out; rw [HXX.out] at this; rw [this]; rfl) (by have := HFU.out; rw [HXX.out] at this; rw [this]; rfl))
              go_upto_region 30 with (first | (refine wpList_load_mid rfl 25 _ rfl b7 (j * 11) rfl [.int .u8 (x.ip.a.toNat : Int), .int .u8 (x.ip.b.toNat : Int), .int .u8 (x.ip.c.toNat : Int), .int .u8 (x.ip.d.toNat : Int)] _ HIP.out Try.underlying25 rfl (by kernel_rfl) ?_) | (go_at_call 14; refine HCF.out.mono ?_; rintro e w9 ⟨rfl, b9⟩; have B9 := Lib.hid b9; clear b9))
              have BA9 : Hid (Below wr.heap.size wr (w9.alloc (.cells #[.int .u8 (x.ma.a.toNat : Int), .int .u8 (x.ma.b.toNat : Int), .int .u8 (x.ma.c.toNat : Int), .int .u8 (x.ma.d.toNat : Int), .int .u8 (x.ma.e.toNat : Int), .int .u8 (x.ma.f.toNat : Int)] 23))) := Lib.hid (B9.out.alloc B9.out.size _)
              have M15 : Hid (MacAt (w9.alloc (.cells #[.int .u8 (x.ma.a.toNat : Int), .int .u8 (x.ma.b.toNat : Int), .int .u8 (x.ma.c.toNat : Int), .int .u8 (x.ma.d.toNat : Int), .int .u8 (x.ma.e.toNat : Int), .int .u8 (x.ma.f.toNat : Int)] 23)) w9.heap.size x.ma) := Lib.hid (mac_new _ _ x.ma rfl)
              obtain ⟨n15, hn⟩ : ∃ n, n = w9.heap.size := ⟨_, rfl⟩
              generalize w9.alloc _ = W9 at BA9 M15 ⊢
              rw [← hn] at M15 ⊢
              clear hn x0 x1 B9 HCF HIP
              have D9 := Lib.hid (DD.out.grow BA9.out)
              have hb9 : b7 < W9.heap.size := Nat.lt_of_lt_of_le hbl BA9.out.size
              have HE9 : Hid (W9.rangeAt b7 (j * 11 + 4) [.int .u8 (x.ma.a.toNat : Int), .int .u8 (x.ma.b.toNat : Int), .int .u8 (x.ma.c.toNat : Int), .int .u8 (x.ma.d.toNat : Int), .int .u8 (x.ma.e.toNat : Int), .int .u8 (x.ma.f.toNat : Int)]) := Lib.hid (fun k u hu => (BA9.out.cell (p := ⟨b7, j * 11 + 4 + k, none⟩) hbl).trans (HMA.out k u hu))
              refine wp_region_noPanic ?_
              refine region_heldE (S := fun V => Below W9.heap.size W9 V) (by kernel_rfl) (fun V d => d.below) (fun V d hS => ?_)
              refine wpAnyH_take (i := 0) (oi := ⟨some 123, Op.move (Operand.tmp 16), _, _, _, none⟩) (v := (.bool true)) rfl (by kernel_rfl) (by kernel_rfl) (by kernel_rfl) (fun _ _ _ h => h) (Or.inl ⟨by rfl, fun w' h' => ?_⟩) hS ?_
              · clear h'
                go_simp
              simp only [Act.put]
              refine wpAnyH_take (i := 1) (oi := ⟨some 124, Op.unOp UnOp.not 4 (Operand.tmp 123), _, _, _, none⟩) (v := (.bool false)) rfl (by kernel_rfl) (by kernel_rfl) (by kernel_rfl) (fun _ _ _ h => h) (Or.inl ⟨by rfl, fun w' h' => ?_⟩) hS ?_
              · clear h'
                go_simp
              simp only [Act.put]
              refine wpAnyH_take (i := 2) (oi := ⟨some 125, Op.move (Operand.tmp 124), _, _, _, none⟩) (v := (.bool false)) rfl (by kernel_rfl) (by kernel_rfl) (by kernel_rfl) (fun _ _ _ h => h) (Or.inl ⟨by rfl, fun w' h' => ?_⟩) hS ?_
              · clear h'
                go_simp
              simp only [Act.put]
              refine wpAnyH_take (i := 3) (oi := ⟨some 126, Op.load 23 (Operand.tmp 15), _, _, _, some (2, false)⟩) (v := (.agg #[.int .u8 (x.ma.a.toNat : Int), .int .u8 (x.ma.b.toNat : Int), .int .u8 (x.ma.c.toNat : Int), .int .u8 (x.ma.d.toNat : Int), .int .u8 (x.ma.e.toNat : Int), .int .u8 (x.ma.f.toNat : Int)])) rfl (by kernel_rfl) (by kernel_rfl) (by kernel_rfl) (fun _ _ _ h => h) (Or.inl ⟨by kernel_rfl, fun w' h' => ?_⟩) hS ?_
              · have c0 := (MacAt.all (M15.out.grow h')).1
                have c1 := (MacAt.all (M15.out.grow h')).2.1
                have c2 := (MacAt.all (M15.out.grow h')).2.2.1
                have c3 := (MacAt.all (M15.out.grow h')).2.2.2.1
                have c4 := (MacAt.all (M15.out.grow h')).2.2.2.2.1
                have c5 := (MacAt.all (M15.out.grow h')).2.2.2.2.2
                clear h'
                go_simp
              simp only [Act.put]
              refine wpAnyH_take (i := 4) (oi := ⟨some 127, Op.fieldAddr 52 (Operand.tmp 7) 0, _, _, _, some (2, false)⟩) (v := (.pointer (some ⟨n7, 0, none⟩))) rfl (by kernel_rfl) (by kernel_rfl) (by kernel_rfl) (fun _ _ _ h => h) (Or.inl ⟨by kernel_rfl, fun w' h' => ?_⟩) hS ?_
              · clear h'
                go_simp
              simp only [Act.put]
              refine wpAnyH_take (i := 5) (oi := ⟨some 128, Op.load 50 (Operand.tmp 127), _, _, _, some (2, false)⟩) (v := (.slice (some ⟨b7, 0, none⟩) l5.length c4)) rfl (by kernel_rfl) (by kernel_rfl) (by kernel_rfl) (fun _ _ _ h => h) (Or.inl ⟨by kernel_rfl, fun w' h' => ?_⟩) hS ?_
              · have c0 := (cells2 (D9.out.grow h').box).1
                clear h'
                go_simp
              simp only [Act.put]
              refine wpAnyH_take (i := 6) (oi := ⟨some 129, Op.move (Operand.tmp 14), _, _, _, some (2, false)⟩) (v := (.int .i64 (j : Int))) rfl (by kernel_rfl) (by kernel_rfl) (by kernel_rfl) (fun _ _ _ h => h) (Or.inl ⟨by kernel_rfl, fun w' h' => ?_⟩) hS ?_
              · clear h'
                go_simp
              simp only [Act.put]
              refine wpAnyH_take (i := 7) (oi := ⟨some 130, Op.indexAddr 50 (Operand.tmp 128) (Operand.tmp 129), _, _, _, some (2, false)⟩) (v := (.pointer (some ⟨b7, j * 11, none⟩))) rfl (by kernel_rfl) (by kernel_rfl) (by kernel_rfl) (fun _ _ _ h => h) (Or.inl ⟨by kernel_rfl, fun w' h' => ?_⟩) hS ?_
              · have c0 := q1
                have c1 := q2
                have c2 := q3
                clear h'
                go_simp
              simp only [Act.put]
              refine wpAnyH_take (i := 8) (oi := ⟨some 131, Op.fieldAddr 58 (Operand.tmp 130) 1, _, _, _, some (2, false)⟩) (v := (.pointer (some ⟨b7, j * 11 + 4, none⟩))) rfl (by kernel_rfl) (by kernel_rfl) (by kernel_rfl) (fun _ _ _ h => h) (Or.inl ⟨by kernel_rfl, fun w' h' => ?_⟩) hS ?_
              · clear h'
                go_simp
              simp only [Act.put]
              refine wpAnyH_take (i := 9) (oi := ⟨some 132, Op.load 23 (Operand.tmp 131), _, _, _, some (2, false)⟩) (v := (.agg #[.int .u8 (x.ma.a.toNat : Int), .int .u8 (x.ma.b.toNat : Int), .int .u8 (x.ma.c.toNat : Int), .int .u8 (x.ma.d.toNat : Int), .int .u8 (x.ma.e.toNat : Int), .int .u8 (x.ma.f.toNat : Int)])) rfl (by kernel_rfl) (by kernel_rfl) (by kernel_rfl) (fun _ _ _ h => h) (Or.inl ⟨by kernel_rfl, fun w' h' => ?_⟩) hS ?_
              · have c0 := ((h'.cell (p := ⟨b7, j * 11 + 4, none⟩) hb9).trans (HE9.out 0 _ rfl))
                have c1 := ((h'.cell (p := ⟨b7, j * 11 + 4 + 1, none⟩) hb9).trans (HE9.out 1 _ rfl))
                have c2 := ((h'.cell (p := ⟨b7, j * 11 + 4 + 2, none⟩) hb9).trans (HE9.out 2 _ rfl))
                have c3 := ((h'.cell (p := ⟨b7, j * 11 + 4 + 3, none⟩) hb9).trans (HE9.out 3 _ rfl))
                have c4 := ((h'.cell (p := ⟨b7, j * 11 + 4 + 4, none⟩) hb9).trans (HE9.out 4 _ rfl))
                have c5 := ((h'.cell (p := ⟨b7, j * 11 + 4 + 5, none⟩) hb9).trans (HE9.out 5 _ rfl))
                clear h'
                go_simp
              simp only [Act.put]
              refine wpAnyH_take (i := 10) (oi := ⟨some 133, Op.binOp BinOp.neq 23 (Operand.tmp 126) (Operand.tmp 132) 23, _, _, _, some (2, false)⟩) (v := (.bool false)) rfl (by kernel_rfl) (by kernel_rfl) (by kernel_rfl) (fun _ _ _ h => h) (yields_neq (by kernel_rfl) 23 23 (Operand.tmp 126) (Operand.tmp 132) rfl #[.int .u8 (x.ma.a.toNat : Int), .int .u8 (x.ma.b.toNat : Int), .int .u8 (x.ma.c.toNat : Int), .int .u8 (x.ma.d.toNat : Int), .int .u8 (x.ma.e.toNat : Int), .int .u8 (x.ma.f.toNat : Int)] #[.int .u8 (x.ma.a.toNat : Int), .int .u8 (x.ma.b.toNat : Int), .int .u8 (x.ma.c.toNat : Int), .int .u8 (x.ma.d.toNat : Int), .int .u8 (x.ma.e.toNat : Int), .int .u8 (x.ma.f.toNat : Int)] (by kernel_rfl) (by kernel_rfl) guard_mac true (fun w => eqMM w x.ma)) hS ?_
              simp only [Act.put]
              refine wpAnyH_take (i := 11) (oi := ⟨some 134, Op.pick (Operand.tmp 125) (Operand.const (Value.bool true)) (Operand.tmp 133), _, _, _, none⟩) (v := (.bool false)) rfl (by kernel_rfl) (by kernel_rfl) (by kernel_rfl) (fun _ _ _ h => h) (Or.inl ⟨by rfl, fun w' h' => ?_⟩) hS ?_
              · clear h'
                go_simp
              simp only [Act.put]
              refine wpAnyH_done (by kernel_rfl) (NoPanic.normal ?_) _
              try simp only [List.setIfInBounds_toArray, List.set_cons_zero, List.set_cons_succ]
              have TV := Lib.hid hS
              clear hS d
              go_wp2_with fail
              go_roundw
              case rel => exact ⟨j + 1, by omega, by go_num, Lib.hid (B.out.trans ((BA9.out.trans (TV.out.mono BA9.out.size)).mono B.out.size))⟩
              case measure => simp [intOf]; omega
            · have hj1 : decide ((j : Int) < (l5.length : Int)) = false := by simp; omega
              have hwk : IntKind.i64.wrap ((k : Int) + 1) = (k : Int) + 1 := IntWalk.i64_in _ (by omega)
              go_wp2_with fail
              go_roundw
              case rel => exact ⟨k + 1, _, _, _, _, by omega, by go_num, DD⟩
              case measure => simp [intOf]; omega
        | false =>
          have D5 := D0
          clear D0
          generalize W0 = W5 at D5 ⊢
          obtain ⟨z0, -, -⟩ := act_box (D5.out.cs.get (.head _))
          go_upto_region 22 with fail
          clear z0
          obtain ⟨M, hM⟩ : ∃ M, M = macO (findL ip l) := ⟨_, rfl⟩
          obtain ⟨rb, hrb⟩ : ∃ r, r = (findL ip l).isSome := ⟨_, rfl⟩
          have HM := Lib.hid hM
          have HB := Lib.hid hrb
          have hbb : (rb != rb) = false := by cases rb <;> rfl
          clear hM hrb
          obtain ⟨i0, ⟨i1, i2, i3, i4⟩, ⟨m0, m1, m2, m3, m4, m5⟩⟩ := act_box (D5.out.cs.get (.head _))
          obtain ⟨x0, x1, -, -⟩ := cells2 D5.out.box
          go_wp2_with fail
          refine (cFind_ok D5.out.cs.ca (by have := D5.out.len; omega) ip M rb HM.out HB.out).mono ?_
          rintro e w6 ⟨rfl, b6⟩
          clear i0 i1 i2 i3 i4 m0 m1 m2 m3 m4 m5 x0 x1
          have D6 := Lib.hid ((D5.out.grow b6).alloc (.cells #[.int .u8 (M.a.toNat : Int), .int .u8 (M.b.toNat : Int), .int .u8 (M.c.toNat : Int), .int .u8 (M.d.toNat : Int), .int .u8 (M.e.toNat : Int), .int .u8 (M.f.toNat : Int)] 23))
          clear b6 D5
          go_upto_region 23 with fail
          obtain ⟨n10, hn⟩ : ∃ n, n = w6.heap.size := ⟨_, rfl⟩
          generalize w6.alloc _ = W6 at D6 ⊢
          rw [← hn] at D6 ⊢
          clear hn
          obtain ⟨i0, ⟨i1, i2, i3, i4⟩, ⟨m0, m1, m2, m3, m4, m5⟩⟩ := act_box (D6.out.cs.get (.tail _ (.head _)))
          obtain ⟨x0, x1, -, -⟩ := cells2 D6.out.box
          go_wp2_with fail
          refine (rFind D6.out.row (by have := D6.out.rlen; omega) ip M rb HM.out HB.out).mono ?_
          rintro e w7 ⟨rfl, b7⟩
          clear i0 i1 i2 i3 i4 m0 m1 m2 m3 m4 m5 x0 x1
          have D7 := Lib.hid ((D6.out.grow b7).alloc (.cells #[.int .u8 (M.a.toNat : Int), .int .u8 (M.b.toNat : Int), .int .u8 (M.c.toNat : Int), .int .u8 (M.d.toNat : Int), .int .u8 (M.e.toNat : Int), .int .u8 (M.f.toNat : Int)] 23))
          clear b7 D6
          go_upto_region 24 with fail
          obtain ⟨n12, hn⟩ : ∃ n, n = w7.heap.size := ⟨_, rfl⟩
          generalize w7.alloc _ = W7 at D7 ⊢
          rw [← hn] at D7 ⊢
          clear hn
          have M10 : Hid (MacAt W7 n10 M) := Lib.hid (D7.out.cs.get (.tail _ (.head _)))
          have M12 : Hid (MacAt W7 n12 M) := Lib.hid (D7.out.cs.get (.head _))
          have hll : (((l.length : Nat) : Int) != ((l.length : Nat) : Int)) = false := by simp
          refine wp_region_noPanic ?_
          refine region_heldE (S := fun V => Below W7.heap.size W7 V) (by kernel_rfl) (fun V d => d.below) (fun V d hS => ?_)
          refine wpAnyH_take (i := 0) (oi := ⟨some 89, Op.load 23 (Operand.tmp 10), _, _, _, none⟩) (v := (.agg #[.int .u8 (M.a.toNat : Int), .int .u8 (M.b.toNat : Int), .int .u8 (M.c.toNat : Int), .int .u8 (M.d.toNat : Int), .int .u8 (M.e.toNat : Int), .int .u8 (M.f.toNat : Int)])) rfl (by kernel_rfl) (by kernel_rfl) (by kernel_rfl) (fun _ _ _ h => h) (Or.inl ⟨by rfl, fun w' h' => ?_⟩) hS ?_
          · have c0 := (MacAt.all (M10.out.grow h')).1
            have c1 := (MacAt.all (M10.out.grow h')).2.1
            have c2 := (MacAt.all (M10.out.grow h')).2.2.1
            have c3 := (MacAt.all (M10.out.grow h')).2.2.2.1
            have c4 := (MacAt.all (M10.out.grow h')).2.2.2.2.1
            have c5 := (MacAt.all (M10.out.grow h')).2.2.2.2.2
            clear h'
            go_simp
          simp only [Act.put]
          refine wpAnyH_take (i := 1) (oi := ⟨some 90, Op.load 23 (Operand.tmp 12), _, _, _, none⟩) (v := (.agg #[.int .u8 (M.a.toNat : Int), .int .u8 (M.b.toNat : Int), .int .u8 (M.c.toNat : Int), .int .u8 (M.d.toNat : Int), .int .u8 (M.e.toNat : Int), .int .u8 (M.f.toNat : Int)])) rfl (by kernel_rfl) (by kernel_rfl) (by kernel_rfl) (fun _ _ _ h => h) (Or.inl ⟨by rfl, fun w' h' => ?_⟩) hS ?_
          · have c0 := (MacAt.all (M12.out.grow h')).1
            have c1 := (MacAt.all (M12.out.grow h')).2.1
            have c2 := (MacAt.all (M12.out.grow h')).2.2.1
            have c3 := (MacAt.all (M12.out.grow h')).2.2.2.1
            have c4 := (MacAt.all (M12.out.grow h')).2.2.2.2.1
            have c5 := (MacAt.all (M12.out.grow h')).2.2.2.2.2
            clear h'
            go_simp
          simp only [Act.put]
          refine wpAnyH_take (i := 2) (oi := ⟨some 91, Op.binOp BinOp.neq 23 (Operand.tmp 89) (Operand.tmp 90) 23, _, _, _, none⟩) (v := (.bool false)) rfl (by kernel_rfl) (by kernel_rfl) (by kernel_rfl) (fun _ _ _ h => h) (yields_neq (by kernel_rfl) 23 23 (Operand.tmp 89) (Operand.tmp 90) rfl #[.int .u8 (M.a.toNat : Int), .int .u8 (M.b.toNat : Int), .int .u8 (M.c.toNat : Int), .int .u8 (M.d.toNat : Int), .int .u8 (M.e.toNat : Int), .int .u8 (M.f.toNat : Int)] #[.int .u8 (M.a.toNat : Int), .int .u8 (M.b.toNat : Int), .int .u8 (M.c.toNat : Int), .int .u8 (M.d.toNat : Int), .int .u8 (M.e.toNat : Int), .int .u8 (M.f.toNat : Int)] (by kernel_rfl) (by kernel_rfl) guard_mac true (fun w => eqMM w M)) hS ?_
          simp only [Act.put]
          refine wpAnyH_take (i := 3) (oi := ⟨some 92, Op.move (Operand.tmp 91), _, _, _, none⟩) (v := (.bool false)) rfl (by kernel_rfl) (by kernel_rfl) (by kernel_rfl) (fun _ _ _ h => h) (Or.inl ⟨by rfl, fun w' h' => ?_⟩) hS ?_
          · clear h'
            go_simp
          simp only [Act.put]
          refine wpAnyH_take (i := 4) (oi := ⟨some 93, Op.move (Operand.tmp 11), _, _, _, some (3, false)⟩) (v := (.bool rb)) rfl (by kernel_rfl) (by kernel_rfl) (by kernel_rfl) (fun _ _ _ h => h) (Or.inl ⟨by kernel_rfl, fun w' h' => ?_⟩) hS ?_
          · clear h'
            go_simp
          simp only [Act.put]
          refine wpAnyH_take (i := 5) (oi := ⟨some 94, Op.move (Operand.tmp 13), _, _, _, some (3, false)⟩) (v := (.bool rb)) rfl (by kernel_rfl) (by kernel_rfl) (by kernel_rfl) (fun _ _ _ h => h) (Or.inl ⟨by kernel_rfl, fun w' h' => ?_⟩) hS ?_
          · clear h'
            go_simp
          simp only [Act.put]
          refine wpAnyH_take (i := 6) (oi := ⟨some 95, Op.binOp BinOp.neq 4 (Operand.tmp 93) (Operand.tmp 94) 4, _, _, _, some (3, false)⟩) (v := (.bool false)) rfl (by kernel_rfl) (by kernel_rfl) (by kernel_rfl) (fun _ _ _ h => h) (Or.inl ⟨by kernel_rfl, fun w' h' => ?_⟩) hS ?_
          · clear h'
            go_simp
          simp only [Act.put]
          refine wpAnyH_take (i := 7) (oi := ⟨some 96, Op.pick (Operand.tmp 92) (Operand.const (Value.bool true)) (Operand.tmp 95), _, _, _, none⟩) (v := (.bool false)) rfl (by kernel_rfl) (by kernel_rfl) (by kernel_rfl) (fun _ _ _ h => h) (Or.inl ⟨by rfl, fun w' h' => ?_⟩) hS ?_
          · clear h'
            go_simp
          simp only [Act.put]
          refine wpAnyH_take (i := 8) (oi := ⟨some 97, Op.move (Operand.tmp 96), _, _, _, none⟩) (v := (.bool false)) rfl (by kernel_rfl) (by kernel_rfl) (by kernel_rfl) (fun _ _ _ h => h) (Or.inl ⟨by rfl, fun w' h' => ?_⟩) hS ?_
          · clear h'
            go_simp
          simp only [Act.put]
          refine wpAnyH_take (i := 9) (oi := ⟨some 98, Op.move (Operand.tmp 5), _, _, _, some (8, false)⟩) (v := (.pointer (some ⟨g, 0, none⟩))) rfl (by kernel_rfl) (by kernel_rfl) (by kernel_rfl) (fun _ _ _ h => h) (Or.inl ⟨by kernel_rfl, fun w' h' => ?_⟩) hS ?_
          · clear h'
            go_simp
          simp only [Act.put]
          refine wpAnyH_take (i := 11) (oi := ⟨some 100, Op.fieldAddr 52 (Operand.tmp 7) 0, _, _, _, some (8, false)⟩) (v := (.pointer (some ⟨n7, 0, none⟩))) rfl (by kernel_rfl) (by kernel_rfl) (by kernel_rfl) (fun _ _ _ h => h) (Or.inl ⟨by kernel_rfl, fun w' h' => ?_⟩) hS ?_
          · clear h'
            go_simp
          simp only [Act.put]
          refine wpAnyH_take (i := 12) (oi := ⟨some 101, Op.load 50 (Operand.tmp 100), _, _, _, some (8, false)⟩) (v := (.slice p l.length c)) rfl (by kernel_rfl) (by kernel_rfl) (by kernel_rfl) (fun _ _ _ h => h) (Or.inl ⟨by kernel_rfl, fun w' h' => ?_⟩) hS ?_
          · have c0 := (cells2 (D7.out.grow h').box).1
            clear h'
            go_simp
          simp only [Act.put]
          refine wpAnyH_take (i := 13) (oi := ⟨some 102, Op.call { callee := Callee.builtin Builtin.len, args := #[(Operand.tmp 101)], argTypes := #[50] }, _, _, _, some (8, false)⟩) (v := (.int .i64 (l.length : Int))) rfl (by kernel_rfl) (by kernel_rfl) (by kernel_rfl) (fun _ _ _ h => h) (Or.inl ⟨by kernel_rfl, fun w' h' => ?_⟩) hS ?_
          · clear h'
            go_simp
          simp only [Act.put]
          refine wpAnyH_ready (rs := [10]) (by kernel_rfl) (by simp) ?_
          refine AllReadyH.cons rfl (fun K hK => ?_) AllReadyH.nil
          go_simp
          refine (clen_ok (D7.out.grow hS).cs.ca (by have := D7.out.len; omega)).mono ?_
          rintro e wx ⟨rfl, rfl⟩
          go_simp
          refine hK.out _ _ hS (fun _ => ?_)
          clear hK K
          refine wpAnyH_take (i := 14) (oi := ⟨some 103, Op.binOp BinOp.neq 3 (Operand.tmp 99) (Operand.tmp 102) 3, _, _, _, some (8, false)⟩) (v := (.bool false)) rfl (by kernel_rfl) (by kernel_rfl) (by kernel_rfl) (fun _ _ _ h => h) (Or.inl ⟨by kernel_rfl, fun w' h' => ?_⟩) hS ?_
          · clear h'
            go_simp
          simp only [Act.put]
          refine wpAnyH_take (i := 15) (oi := ⟨some 104, Op.pick (Operand.tmp 97) (Operand.const (Value.bool true)) (Operand.tmp 103), _, _, _, none⟩) (v := (.bool false)) rfl (by kernel_rfl) (by kernel_rfl) (by kernel_rfl) (fun _ _ _ h => h) (Or.inl ⟨by rfl, fun w' h' => ?_⟩) hS ?_
          · clear h'
            go_simp
          simp only [Act.put]
          refine wpAnyH_done (by kernel_rfl) (NoPanic.normal ?_) _
          try simp only [List.setIfInBounds_toArray, List.set_cons_zero, List.set_cons_succ]
          have D8 := Lib.hid ((D7.out.grow hS).drop)
          clear hS d M10 M12 hll HM HB hbb D7
          rename World => W8
          go_wp2_with fail
          go_loopw [14] (fun iv wr => ∃ j : Nat, j ≤ l.length ∧ iv = .int .i64 j ∧ Hid (Below W8.heap.size W8 wr)) (fun iv _ => l.length - (intOf iv).toNat)
          case atStart => exact ⟨0, Nat.zero_le _, rfl, Lib.hid (Below.refl _ _)⟩
          case round =>
            obtain ⟨j, hj, rfl, B⟩ := hrel
            have DD := Lib.hid (D8.out.grow B.out)
            obtain ⟨x0, x1, -, -⟩ := cells2 DD.out.box
            have hl8 := DD.out.len
            by_cases hlj : j < l.length
            · have hj1 : decide ((j : Int) < (l.length : Int)) = true := by simp; omega
              obtain ⟨b7, cap7, hv7, hcap, hcm, hbl, hfz, hE0⟩ := RowA.elem enE_len DD.out.row (by omega)
              have hE := hE0 j hlj
              have hfu := findL_uq DD.out.uq hlj
              have HFU := Lib.hid hfu
              generalize hxx : l[j] = x at hE
              have HXX := Lib.hid hxx
              injection hv7 with hv7 _ hc7
              subst hv7 hc7
              have HIP : Hid (wr.rangeAt b7 (j * 11) [.int .u8 (x.ip.a.toNat : Int), .int .u8 (x.ip.b.toNat : Int), .int .u8 (x.ip.c.toNat : Int), .int .u8 (x.ip.d.toNat : Int)]) := Lib.hid (rangeAt_take (n := 4) hE)
              have HMA : Hid (wr.rangeAt b7 (j * 11 + 4) [.int .u8 (x.ma.a.toNat : Int), .int .u8 (x.ma.b.toNat : Int), .int .u8 (x.ma.c.toNat : Int), .int .u8 (x.ma.d.toNat : Int), .int .u8 (x.ma.e.toNat : Int), .int .u8 (x.ma.f.toNat : Int)]) := Lib.hid (rangeAt_take (n := 6) (rangeAt_drop (n := 4) hE))
              have q1 : (0 : Int) ≤ (j : Int) := by omega
              have q2 : (j : Int) < (l.length : Int) := by omega
              have q3 : decide ((j : Int) < (l.length : Int)) = true := by simp; omega
              have hwj : IntKind.i64.wrap ((j : Int) + 1) = (j : Int) + 1 := IntWalk.i64_in _ (by omega)
              clear hE hE0 hfz hcm hcap hfu hxx
              have HCF : Hid (Calls Try.prog 14 #[.pointer (some ⟨g, 0, none⟩), .agg #[.int .u8 (x.ip.a.toNat : Int), .int .u8 (x.ip.b.toNat : Int), .int .u8 (x.ip.c.toNat : Int), .int .u8 (x.ip.d.toNat : Int)]] wr fun e w' => e = .returned (.tuple #[.agg #[.int .u8 (x.ma.a.toNat : Int), .int .u8 (x.ma.b.toNat : Int), .int .u8 (x.ma.c.toNat : Int), .int .u8 (x.ma.d.toNat : Int), .int .u8 (x.ma.e.toNat : Int), .int .u8 (x.ma.f.toNat : Int)], .bool true]) ∧ Below wr.heap.size wr w') := Lib.hid (cFind_ok DD.out.cs.ca (by omega) x.ip x.ma true (by have := HFU.out; rw [HXX.out] at this; rw [this]; rfl) (by have := HFU.out; rw [HXX.out] at this; rw [this]; rfl))
              go_upto_region 30 with (first | (refine wpList_load_mid rfl 25 _ rfl b7 (j * 11) rfl [.int .u8 (x.ip.a.toNat : Int), .int .u8 (x.ip.b.toNat : Int), .int .u8 (x.ip.c.toNat : Int), .int .u8 (x.ip.d.toNat : Int)] _ HIP.out Try.underlying25 rfl (by kernel_rfl) ?_) | (go_at_call 14; refine HCF.out.mono ?_; rintro e w9 ⟨rfl, b9⟩; have B9 := Lib.hid b9; clear b9))
              have BA9 : Hid (Below wr.heap.size wr (w9.alloc (.cells #[.int .u8 (x.ma.a.toNat : Int), .int .u8 (x.ma.b.toNat : Int), .int .u8 (x.ma.c.toNat : Int), .int .u8 (x.ma.d.toNat : Int), .int .u8 (x.ma.e.toNat : Int), .int .u8 (x.ma.f.toNat : Int)] 23))) := Lib.hid (B9.out.alloc B9.out.size _)
              have M15 : Hid (MacAt (w9.alloc (.cells #[.int .u8 (x.ma.a.toNat : Int), .int .u8 (x.ma.b.toNat : Int), .int .u8 (x.ma.c.toNat : Int), .int .u8 (x.ma.d.toNat : Int), .int .u8 (x.ma.e.toNat : Int), .int .u8 (x.ma.f.toNat : Int)] 23)) w9.heap.size x.ma) := Lib.hid (mac_new _ _ x.ma rfl)
              obtain ⟨n15, hn⟩ : ∃ n, n = w9.heap.size := ⟨_, rfl⟩
              generalize w9.alloc _ = W9 at BA9 M15 ⊢
              rw [← hn] at M15 ⊢
              clear hn x0 x1 B9 HCF HIP
              have D9 := Lib.hid (DD.out.grow BA9.out)
              have hb9 : b7 < W9.heap.size := Nat.lt_of_lt_of_le hbl BA9.out.size
              have HE9 : Hid (W9.rangeAt b7 (j * 11 + 4) [.int .u8 (x.ma.a.toNat : Int), .int .u8 (x.ma.b.toNat : Int), .int .u8 (x.ma.c.toNat : Int), .int .u8 (x.ma.d.toNat : Int), .int .u8 (x.ma.e.toNat : Int), .int .u8 (x.ma.f.toNat : Int)]) := Lib.hid (fun k u hu => (BA9.out.cell (p := ⟨b7, j * 11 + 4 + k, none⟩) hbl).trans (HMA.out k u hu))
              refine wp_region_noPanic ?_
              refine region_heldE (S := fun V => Below W9.heap.size W9 V) (by kernel_rfl) (fun V d => d.below) (fun V d hS => ?_)
              refine wpAnyH_take (i := 0) (oi := ⟨some 123, Op.move (Operand.tmp 16), _, _, _, none⟩) (v := (.bool true)) rfl (by kernel_rfl) (by kernel_rfl) (by kernel_rfl) (fun _ _ _ h => h) (Or.inl ⟨by rfl, fun w' h' => ?_⟩) hS ?_
              · clear h'
                go_simp
              simp only [Act.put]
              refine wpAnyH_take (i := 1) (oi := ⟨some 124, Op.unOp UnOp.not 4 (Operand.tmp 123), _, _, _, none⟩) (v := (.bool false)) rfl (by kernel_rfl) (by kernel_rfl) (by kernel_rfl) (fun _ _ _ h => h) (Or.inl ⟨by rfl, fun w' h' => ?_⟩) hS ?_
              · clear h'
                go_simp
              simp only [Act.put]
              refine wpAnyH_take (i := 2) (oi := ⟨some 125, Op.move (Operand.tmp 124), _, _, _, none⟩) (v := (.bool false)) rfl (by kernel_rfl) (by kernel_rfl) (by kernel_rfl) (fun _ _ _ h => h) (Or.inl ⟨by rfl, fun w' h' => ?_⟩) hS ?_
              · clear h'
                go_simp
              simp only [Act.put]
              refine wpAnyH_take (i := 3) (oi := ⟨some 126, Op.load 23 (Operand.tmp 15), _, _, _, some (2, false)⟩) (v := (.agg #[.int .u8 (x.ma.a.toNat : Int), .int .u8 (x.ma.b.toNat : Int), .int .u8 (x.ma.c.toNat : Int), .int .u8 (x.ma.d.toNat : Int), .int .u8 (x.ma.e.toNat : Int), .int .u8 (x.ma.f.toNat : Int)])) rfl (by kernel_rfl) (by kernel_rfl) (by kernel_rfl) (fun _ _ _ h => h) (Or.inl ⟨by kernel_rfl, fun w' h' => ?_⟩) hS ?_
              · have c0 := (MacAt.all (M15.out.grow h')).1
                have c1 := (MacAt.all (M15.out.grow h')).2.1
                have c2 := (MacAt.all (M15.out.grow h')).2.2.1
                have c3 := (MacAt.all (M15.out.grow h')).2.2.2.1
                have c4 := (MacAt.all (M15.out.grow h')).2.2.2.2.1
                have c5 := (MacAt.all (M15.out.grow h')).2.2.2.2.2
                clear h'
                go_simp
              simp only [Act.put]
              refine wpAnyH_take (i := 4) (oi := ⟨some 127, Op.fieldAddr 52 (Operand.tmp 7) 0, _, _, _, some (2, false)⟩) (v := (.pointer (some ⟨n7, 0, none⟩))) rfl (by kernel_rfl) (by kernel_rfl) (by kernel_rfl) (fun _ _ _ h => h) (Or.inl ⟨by kernel_rfl, fun w' h' => ?_⟩) hS ?_
              · clear h'
                go_simp
              simp only [Act.put]
              refine wpAnyH_take (i := 5) (oi := ⟨some 128, Op.load 50 (Operand.tmp 127), _, _, _, some (2, false)⟩) (v := (.slice (some ⟨b7, 0, none⟩) l.length c)) rfl (by kernel_rfl) (by kernel_rfl) (by kernel_rfl) (fun _ _ _ h => h) (Or.inl ⟨by kernel_rfl, fun w' h' => ?_⟩) hS ?_
              · have c0 := (cells2 (D9.out.grow h').box).1
                clear h'
                go_simp
              simp only [Act.put]
              refine wpAnyH_take (i := 6) (oi := ⟨some 129, Op.move (Operand.tmp 14), _, _, _, some (2, false)⟩) (v := (.int .i64 (j : Int))) rfl (by kernel_rfl) (by kernel_rfl) (by kernel_rfl) (fun _ _ _ h => h) (Or.inl ⟨by kernel_rfl, fun w' h' => ?_⟩) hS ?_
              · clear h'
                go_simp
              simp only [Act.put]
              refine wpAnyH_take (i := 7) (oi := ⟨some 130, Op.indexAddr 50 (Operand.tmp 128) (Operand.tmp 129), _, _, _, some (2, false)⟩) (v := (.pointer (some ⟨b7, j * 11, none⟩))) rfl (by kernel_rfl) (by kernel_rfl) (by kernel_rfl) (fun _ _ _ h => h) (Or.inl ⟨by kernel_rfl, fun w' h' => ?_⟩) hS ?_
              · have c0 := q1
                have c1 := q2
                have c2 := q3
                clear h'
                go_simp
              simp only [Act.put]
              refine wpAnyH_take (i := 8) (oi := ⟨some 131, Op.fieldAddr 58 (Operand.tmp 130) 1, _, _, _, some (2, false)⟩) (v := (.pointer (some ⟨b7, j * 11 + 4, none⟩))) rfl (by kernel_rfl) (by kernel_rfl) (by kernel_rfl) (fun _ _ _ h => h) (Or.inl ⟨by kernel_rfl, fun w' h' => ?_⟩) hS ?_
              · clear h'
                go_simp
              simp only [Act.put]
              refine wpAnyH_take (i := 9) (oi := ⟨some 132, Op.load 23 (Operand.tmp 131), _, _, _, some (2, false)⟩) (v := (.agg #[.int .u8 (x.ma.a.toNat : Int), .int .u8 (x.ma.b.toNat : Int), .int .u8 (x.ma.c.toNat : Int), .int .u8 (x.ma.d.toNat : Int), .int .u8 (x.ma.e.toNat : Int), .int .u8 (x.ma.f.toNat : Int)])) rfl (by kernel_rfl) (by kernel_rfl) (by kernel_rfl) (fun _ _ _ h => h) (Or.inl ⟨by kernel_rfl, fun w' h' => ?_⟩) hS ?_
              · have c0 := ((h'.cell (p := ⟨b7, j * 11 + 4, none⟩) hb9).trans (HE9.out 0 _ rfl))
                have c1 := ((h'.cell (p := ⟨b7, j * 11 + 4 + 1, none⟩) hb9).trans (HE9.out 1 _ rfl))
                have c2 := ((h'.cell (p := ⟨b7, j * 11 + 4 + 2, none⟩) hb9).trans (HE9.out 2 _ rfl))
                have c3 := ((h'.cell (p := ⟨b7, j * 11 + 4 + 3, none⟩) hb9).trans (HE9.out 3 _ rfl))
                have c4 := ((h'.cell (p := ⟨b7, j * 11 + 4 + 4, none⟩) hb9).trans (HE9.out 4 _ rfl))
                have c5 := ((h'.cell (p := ⟨b7, j * 11 + 4 + 5, none⟩) hb9).trans (HE9.out 5 _ rfl))
                clear h'
                go_simp
              simp only [Act.put]
              refine wpAnyH_take (i := 10) (oi := ⟨some 133, Op.binOp BinOp.neq 23 (Operand.tmp 126) (Operand.tmp 132) 23, _, _, _, some (2, false)⟩) (v := (.bool false)) rfl (by kernel_rfl) (by kernel_rfl) (by kernel_rfl) (fun _ _ _ h => h) (yields_neq (by kernel_rfl) 23 23 (Operand.tmp 126) (Operand.tmp 132) rfl #[.int .u8 (x.ma.a.toNat : Int), .int .u8 (x.ma.b.toNat : Int), .int .u8 (x.ma.c.toNat : Int), .int .u8 (x.ma.d.toNat : Int), .int .u8 (x.ma.e.toNat : Int), .int .u8 (x.ma.f.toNat : Int)] #[.int .u8 (x.ma.a.toNat : Int), .int .u8 (x.ma.b.toNat : Int), .int .u8 (x.ma.c.toNat : Int), .int .u8 (x.ma.d.toNat : Int), .int .u8 (x.ma.e.toNat : Int), .int .u8 (x.ma.f.toNat : Int)] (by kernel_rfl) (by kernel_rfl) guard_mac true (fun w => eqMM w x.ma)) hS ?_
              simp only [Act.put]
              refine wpAnyH_take (i := 11) (oi := ⟨some 134, Op.pick (Operand.tmp 125) (Operand.const (Value.bool true)) (Operand.tmp 133), _, _, _, none⟩) (v := (.bool false)) rfl (by kernel_rfl) (by kernel_rfl) (by kernel_rfl) (fun _ _ _ h => h) (Or.inl ⟨by rfl, fun w' h' => ?_⟩) hS ?_
              · clear h'
                go_simp
              simp only [Act.put]
              refine wpAnyH_done (by kernel_rfl) (NoPanic.normal ?_) _
              try simp only [List.setIfInBounds_toArray, List.set_cons_zero, List.set_cons_succ]
              have TV := Lib.hid hS
              clear hS d
              go_wp2_with fail
              go_roundw
              case rel => exact ⟨j + 1, by omega, by go_num, Lib.hid (B.out.trans ((BA9.out.trans (TV.out.mono BA9.out.size)).mono B.out.size))⟩
              case measure => simp [intOf]; omega
            · have hj1 : decide ((j : Int) < (l.length : Int)) = false := by simp; omega
              have hwk : IntKind.i64.wrap ((k : Int) + 1) = (k : Int) + 1 := IntWalk.i64_in _ (by omega)
              go_wp2_with fail
              go_roundw
              case rel => exact ⟨k + 1, _, _, _, _, by omega, by go_num, DD⟩
              case measure => simp [intOf]; omega
    · have hd : decide ((k : Int) < (len1 : Int)) = false := by simp; omega
      go_wp2_with fail
      go_ret
      exact ⟨rfl, D.out.cs.bl⟩

set_option maxRecDepth 100000 in
theorem lifted (os : Os) (started : os.Started) (H : Type) (enc : TypeId × Value → H) :
    ReturnsInHanded {} Try.checked os 5 .any (Rows.arpCachesSpec.pre6 enc Try.prog Try.f5 Rows.arpCachesRow.domain false) (Rows.arpCachesSpec.post enc Try.prog Try.f5 false true false false) := by
  refine returnsInHanded_of_change (C := Try.checked) own started (by kernel_rfl) Try.func5
    (ChangeSpec.witness6 (enc := enc) (C := Try.checked) false ⟨#[], #[.int .i64 0, .slice none 0 0], []⟩ 8 (by kernel_rfl) (by kernel_rfl) (by kernel_rfl) (by kernel_rfl)) ?_
  intro W base args ds gs before hval0 hW hcnd _
  have hval : ∀ (j : Nat) t v, Try.f5.params[j]? = some t → args[j]? = some v → Value.okWide Try.prog W .any base t v := hval0
  have hW' := hW
  obtain ⟨p, q, hA0, hV, rfl, hfz, hnd⟩ := hW
  have hA : DataW.TrodAll enc Try.prog W 0 (fun _ => true) true Try.f5.params.toList args.toList ds p := hA0
  rw [Try.params5] at hA hval
  obtain ⟨v0, vs0, d0, ds0, p0, q0, hargs, rfl, rfl, h0, r0⟩ := trodAll_cons hA
  obtain ⟨v1, vs1, d1, ds1, p1, q1, rfl, rfl, rfl, h1, r1⟩ := trodAll_cons r0
  obtain ⟨rfl, rfl, rfl⟩ := trodAll_nil r1
  obtain rfl : args = #[v0, v1] := by cases args; simp_all
  obtain ⟨rfl, rfl⟩ := trodVars_none hV
  obtain ⟨a0, rfl, rfl, rfl, w0⟩ := open_int Try.underlying3 (hval 0 3 v0 rfl rfl) h0
  obtain ⟨a1, len1, cap1, rfl⟩ := okWide_slice Try.underlying49 (hval 1 49 v1 rfl rfl)
  have k1 := h1
  have lt1 : ∀ x ∈ p1, x.block < W.heap.size := by obtain ⟨m, hm⟩ := k1; exact DataW.trod_lt m _ _ _ hm
  obtain ⟨l1, w1⟩ : ∃ l, IsActs7 W a1 len1 l := by obtain ⟨fuel, hf⟩ := h1; exact open_acts7 hf
  clear hA0 hval0
  refine (walk a0 a1 len1 cap1 l1 W w0 w1).mono fun e W' ⟨he, bel⟩ => ?_
  subst he
  exact ⟨_, rfl, _, _, _, [], _, [], hW', trodAll_mk1 (shut_bool Try.underlying4 _), (trodAll_cons_mk (shut_int Try.underlying3 w0) (trodAll_cons_mk (Below.trod laidOut (by kernel_rfl) (of_decide_eq_true (by kernel_rfl)) k1 bel lt1) trodAll_mk0)), rfl, bel.frame _, fun h => by cases h⟩

/-- THE STATEMENT. -/
theorem proved : Rows.ArpCachesSaid :=
  OpenClaim.holds_of_wide 5 Try.f5 rfl rfl rfl rfl rfl rfl rfl ⟨rfl, rfl, rfl, rfl, rfl⟩ rfl rfl rfl rfl rfl (by kernel_rfl) Try.func5 (by kernel_rfl)
    (of_decide_eq_true (by kernel_rfl)) (by unfold Func.isWrapper; first | (rw [if_pos (by decide +kernel)]; kernel_rfl) | (rw [if_neg (by decide +kernel)]; exact ⟨rfl, rfl⟩))
    (fun os started H enc _ => lifted os started H enc)
#print axioms proved

end Go.Proofs.Ytolegdjdppaeoaa.acs
