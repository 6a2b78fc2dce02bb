/-
  Layer 15: New: a connection that begins. Conditions: as said.
-/
import Derived.Test.YtlajalfalepbhaaCnY
namespace Go.Proofs.Ytlajalfalepbhaa
open Go.RowKit
set_option linter.unusedVariables false

def EDrC (w w' : World) : Prop := w' = w.drew
theorem EDrC.below {w w' : World} (d : EDrC w w') : Below w.heap.size w w' := by subst d; exact (Below.refl _ _).drew
/-- A region that draws its order, from a world behind the draw that is a letter. -/
theorem region_heldCn {P : Program} {id : Nat} {ops : Array Oper} {Q : Exit → Act → World → Prop} {S : World → Prop} {a : Act} {w : World} (hm : P.follows .mixedOrders = true) (hS : ∀ w', EDrC w w' → S w')
    (h : ∀ w', EDrC w w' → S w' → wpAnyH P .any ops Q S ops.size (Array.replicate ops.size false) a w') : (Code.region id ops true).wp P Q a w :=
  wp_region_held hm (h _ rfl (hS _ rfl))
set_option maxRecDepth 100000 in
set_option maxHeartbeats 16000000 in
theorem new_ok (w : World) (fx : List (Nat × Obj)) (hfx : ∀ x ∈ fx, w.heap[x.1]? = some x.2) (s : Sg) (iss f l m t lg : Int) (hO : ¬ (l < 1 ∨ f < l ∨ m < f ∨ 1048576 < m)) (hb : (beginsV s && (withinV t 100 && withinV lg 1048576)) = true) :
    Calls Try.prog 8 #[.agg (sgC s), .int .u32 iss, .agg #[.int .i64 f, .int .i64 l, .int .i64 m, .int .i64 t, .int .i64 lg]] w fun e w' => ∃ q : Bq, e = .returned (.tuple #[.pointer (some ⟨q.c, 0, none⟩), .int .i64 0]) ∧ CB w fx q (newV s iss f l m t lg) w' := by
  have HO := Lib.hid hO
  have HX := Lib.hid hfx
  have KB := Lib.hid (fun wr => begins_ok wr s)
  have KT := Lib.hid (fun wr => within_ok wr t 100)
  have KL := Lib.hid (fun wr => within_ok wr lg 1048576)
  generalize beginsV s = x1 at KB hb
  generalize withinV t 100 = x2 at KT hb
  generalize withinV lg 1048576 = x3 at KL hb
  cases x1 <;> cases x2 <;> cases x3 <;> first | exact absurd hb (by decide) | skip
  clear hO hfx hb
  go_enter Try.func8, Try.ntmps8
  go_upto_region 1 with fail
  have FA : Hid (SgAt ((w.alloc (.cells (sgC s) 28)).alloc (.cells #[.int .i64 f, .int .i64 l, .int .i64 m, .int .i64 t, .int .i64 lg] 31)) w.heap.size s) := Lib.hid ((sg_new w _ s rfl).grow ((Below.refl _ _).alloc (Nat.le_refl _) _))
  have TA : Hid (TcpAt ((w.alloc (.cells (sgC s) 28)).alloc (.cells #[.int .i64 f, .int .i64 l, .int .i64 m, .int .i64 t, .int .i64 lg] 31)) (w.heap.size + 1) f l m t lg) := Lib.hid (by
    have h := heap_alloc_new (w.alloc (.cells (sgC s) 28)) (.cells #[.int .i64 f, .int .i64 l, .int .i64 m, .int .i64 t, .int .i64 lg] 31)
    rw [show (w.alloc (.cells (sgC s) 28)).heap.size = w.heap.size + 1 by simp] at h
    exact h)
  have BL : Hid (Below w.heap.size w ((w.alloc (.cells (sgC s) 28)).alloc (.cells #[.int .i64 f, .int .i64 l, .int .i64 m, .int .i64 t, .int .i64 lg] 31))) := Lib.hid (((Below.refl _ _).alloc (Nat.le_refl _) _).alloc (by simp) _)
  obtain ⟨n, hn⟩ : ∃ n, n = w.heap.size := ⟨_, rfl⟩
  obtain ⟨n5, hn5⟩ : ∃ n5, n5 = n + 1 := ⟨_, rfl⟩
  rw [← hn] at FA TA
  rw [← hn5] at TA
  generalize (w.alloc _).alloc _ = W1 at FA TA BL ⊢
  simp only [← hn, ← hn5]
  clear hn hn5
  obtain ⟨t0, t1, t2, t3, t4⟩ := TA.out.all
  go_wp2_with fail
  refine (cknew_ok W1 f l m (by have := HO.out; omega) (by have := HO.out; omega) (by have := HO.out; omega) (by have := HO.out; omega)).mono ?_
  rintro e W2 ⟨rfl, hk, d⟩
  have F2 := Lib.hid (FA.out.grow d)
  have T2 := Lib.hid (TA.out.grow d)
  have B2 : Hid (Below w.heap.size w W2) := Lib.hid (BL.out.trans (d.mono BL.out.size))
  have K2 : Hid (CkAt W2 W1.heap.size ⟨l, m, f, false, 0, 0⟩) := Lib.hid hk
  have N2 : Hid (w.heap.size ≤ W1.heap.size) := Lib.hid BL.out.size
  generalize W1.heap.size = k at K2 N2 ⊢
  clear d hk FA TA BL t0 t1 t2 t3 t4
  obtain ⟨t0, t1, t2, t3, t4⟩ := T2.out.all
  obtain ⟨b0, b1, b2, b3, b4, b5, b6, b7⟩ := F2.out.all
  go_wp2_with fail
  refine (KB.out W2).mono ?_
  rintro e W3 ⟨rfl, d⟩
  have F3 := Lib.hid (F2.out.grow d)
  have T3 := Lib.hid (T2.out.grow d)
  have B3 : Hid (Below w.heap.size w W3) := Lib.hid (B2.out.trans (d.mono B2.out.size))
  have K3 : Hid (CkAt W3 k ⟨l, m, f, false, 0, 0⟩) := Lib.hid ((d.block _ (lt_of_block K2.out)).trans K2.out)
  clear d F2 T2 B2 K2 b0 b1 b2 b3 b4 b5 b6 b7 t0 t1 t2 t3 t4 KB
  obtain ⟨t0, t1, t2, t3, t4⟩ := T3.out.all
  go_wp2_with fail
  refine (KT.out W3).mono ?_
  rintro e W3 ⟨rfl, rfl⟩
  go_wp2_with fail
  refine (KL.out W3).mono ?_
  rintro e W3 ⟨rfl, rfl⟩
  obtain ⟨y1, hy1⟩ : ∃ y, y = (s.sq + 1) % 4294967296 := ⟨_, rfl⟩
  obtain ⟨y2, hy2⟩ : ∃ y, y = (iss + 1) % 4294967296 := ⟨_, rfl⟩
  have e1 := hy1.symm
  have e2 := hy2.symm
  have Y1 : Hid (0 ≤ y1 ∧ y1 < 4294967296) := Lib.hid (by omega)
  have Y2 : Hid (0 ≤ y2 ∧ y2 < 4294967296) := Lib.hid (by omega)
  have HV : Hid (baseV s iss f l m t lg = { fr := s.dt, dt := s.fr, st := 1, rs := false, iss := iss, una := iss, nxt := y2, top := y2, u := y2, L := [], cl := false, mss := mssV s, win := 0, tsq := 0, tak := 0, nx := y1, R := [], W := List.replicate 2048 none, eof := false, told := 0, ck := ⟨l, m, f, false, 0, 0⟩, left := f, tries := 0, mt := t, mr := true, me := y2, ma := 0, lg := 0, ml := lg, sent := [] }) := Lib.hid (by rw [hy1, hy2]; rfl)
  clear hy1 hy2 KT KL
  have b2 := F3.out.sq
  go_wp2_with fail
  refine (bnew_ok W3 y1 2048 (by decide) (by decide) Y1.out.1 Y1.out.2).mono ?_
  rintro e W4 ⟨rfl, r4, d⟩
  have F4 := Lib.hid (F3.out.grow d)
  have T4 := Lib.hid (T3.out.grow d)
  have B4 : Hid (Below w.heap.size w W4) := Lib.hid (B3.out.trans (d.mono B3.out.size))
  have K4 : Hid (CkAt W4 k ⟨l, m, f, false, 0, 0⟩) := Lib.hid ((d.block _ (lt_of_block K3.out)).trans K3.out)
  have R4 := Lib.hid r4
  have N4 : Hid (w.heap.size ≤ W3.heap.size) := Lib.hid B3.out.size
  obtain ⟨h, hh⟩ : ∃ h, h = W3.heap.size + 1 := ⟨_, rfl⟩
  obtain ⟨dd, hd⟩ : ∃ d, d = W3.heap.size := ⟨_, rfl⟩
  have NH : Hid (w.heap.size ≤ h) := Lib.hid (by have := N4.out; omega)
  rw [← hh, ← hd] at R4
  rw [← hd] at N4
  simp only [← hh]
  clear d r4 hh hd F3 T3 B3 K3 b2 t0 t1 t2 t3 t4
  go_wp2_with fail
  refine (snew_ok W4 y2 2048 (by decide) (by decide) Y2.out.1 Y2.out.2).mono ?_
  rintro e W5 ⟨rfl, r5, d⟩
  have F5 := Lib.hid (F4.out.grow d)
  have T5 := Lib.hid (T4.out.grow d)
  have B5 : Hid (Below w.heap.size w W5) := Lib.hid (B4.out.trans (d.mono B4.out.size))
  have K5 : Hid (CkAt W5 k ⟨l, m, f, false, 0, 0⟩) := Lib.hid ((d.block _ (lt_of_block K4.out)).trans K4.out)
  have R5 := Lib.hid (R4.out.grow d R4.out.lt R4.out.ltb)
  have S5 := Lib.hid r5
  have N5 : Hid (w.heap.size ≤ W4.heap.size) := Lib.hid B4.out.size
  obtain ⟨g, hg⟩ : ∃ g, g = W4.heap.size + 1 := ⟨_, rfl⟩
  obtain ⟨bb, hbb⟩ : ∃ b, b = W4.heap.size := ⟨_, rfl⟩
  have NG : Hid (w.heap.size ≤ g) := Lib.hid (by have := N5.out; omega)
  rw [← hg, ← hbb] at S5
  rw [← hbb] at N5
  simp only [← hg]
  clear d r5 hg hbb F4 T4 B4 K4 R4
  go_upto_region 6 with fail
  have KW : Hid (∀ wx, Below W5.heap.size W5 wx → Calls Try.prog 37 #[.pointer (some ⟨k, 0, none⟩)] wx fun e w' => e = .returned (.int .i64 f) ∧ w' = wx) := Lib.hid (fun wx hb => (ckwait_ok (show wx.heap[k]? = some (ckO k l m f false 0 0) from (hb.block _ (lt_of_block K5.out)).trans K5.out)).mono fun e w' ⟨a, b⟩ => ⟨a, b.symm⟩)
  obtain ⟨ms, hms⟩ : ∃ ms, ms = mssV s := ⟨_, rfl⟩
  rw [← hms] at HV
  have HMS := Lib.hid hms.symm
  clear hms e1
  have e2w : IntKind.u32.wrap (iss + 1) = y2 := by rw [IntKind.wrap_u32]; exact e2
  refine wp_region_noPanic ?_
  refine region_heldCn (S := (fun w' => SgAt w' n s ∧ TcpAt w' n5 f l m t lg ∧ Below W5.heap.size W5 w')) (by kernel_rfl) (fun V d => ⟨F5.out.grow d.below, T5.out.grow d.below, d.below⟩) (fun V d hS => ?_)
  clear d
  refine wpAnyH_take (i := 0) (oi := ⟨some 57, Op.fieldAddr 28 (Operand.tmp 3) 1, _, _, _, none⟩) (v := (.pointer (some ⟨n, 1, none⟩))) rfl (by kernel_rfl) (by kernel_rfl) (by kernel_rfl) (fun _ _ _ h => h) (Or.inl ⟨by rfl, fun w' h' => ?_⟩) hS ?_
  · clear h'
    go_simp
  simp only [Act.put]
  refine wpAnyH_take (i := 1) (oi := ⟨some 58, Op.load 3 (Operand.tmp 57), _, _, _, none⟩) (v := (.int .i64 s.dt)) rfl (by kernel_rfl) (by kernel_rfl) (by kernel_rfl) (fun _ _ _ h => h) (Or.inl ⟨by rfl, fun w' h' => ?_⟩) hS ?_
  · have c0 := h'.1.dt
    clear h'
    go_simp
  simp only [Act.put]
  refine wpAnyH_take (i := 2) (oi := ⟨some 59, Op.fieldAddr 28 (Operand.tmp 3) 0, _, _, _, none⟩) (v := (.pointer (some ⟨n, 0, none⟩))) rfl (by kernel_rfl) (by kernel_rfl) (by kernel_rfl) (fun _ _ _ h => h) (Or.inl ⟨by rfl, fun w' h' => ?_⟩) hS ?_
  · clear h'
    go_simp
  simp only [Act.put]
  refine wpAnyH_take (i := 3) (oi := ⟨some 60, Op.load 3 (Operand.tmp 59), _, _, _, none⟩) (v := (.int .i64 s.fr)) rfl (by kernel_rfl) (by kernel_rfl) (by kernel_rfl) (fun _ _ _ h => h) (Or.inl ⟨by rfl, fun w' h' => ?_⟩) hS ?_
  · have c0 := h'.1.fr
    clear h'
    go_simp
  simp only [Act.put]
  refine wpAnyH_take (i := 4) (oi := ⟨some 61, Op.move (Operand.tmp 1), _, _, _, none⟩) (v := (.int .u32 iss)) rfl (by kernel_rfl) (by kernel_rfl) (by kernel_rfl) (fun _ _ _ h => h) (Or.inl ⟨by rfl, fun w' h' => ?_⟩) hS ?_
  · clear h'
    go_simp
  simp only [Act.put]
  refine wpAnyH_take (i := 5) (oi := ⟨some 62, Op.move (Operand.tmp 1), _, _, _, none⟩) (v := (.int .u32 iss)) rfl (by kernel_rfl) (by kernel_rfl) (by kernel_rfl) (fun _ _ _ h => h) (Or.inl ⟨by rfl, fun w' h' => ?_⟩) hS ?_
  · clear h'
    go_simp
  simp only [Act.put]
  refine wpAnyH_take (i := 6) (oi := ⟨some 63, Op.move (Operand.tmp 1), _, _, _, none⟩) (v := (.int .u32 iss)) rfl (by kernel_rfl) (by kernel_rfl) (by kernel_rfl) (fun _ _ _ h => h) (Or.inl ⟨by rfl, fun w' h' => ?_⟩) hS ?_
  · clear h'
    go_simp
  simp only [Act.put]
  refine wpAnyH_take (i := 7) (oi := ⟨some 64, Op.binOp BinOp.add 26 (Operand.tmp 63) (Operand.const (Value.int IntKind.u32 1)) 26, _, _, _, none⟩) (v := (.int .u32 y2)) rfl (by kernel_rfl) (by kernel_rfl) (by kernel_rfl) (fun _ _ _ h => h) (Or.inl ⟨by rfl, fun w' h' => ?_⟩) hS ?_
  · clear h'
    go_simp
  simp only [Act.put]
  refine wpAnyH_take (i := 8) (oi := ⟨some 65, Op.move (Operand.tmp 1), _, _, _, none⟩) (v := (.int .u32 iss)) rfl (by kernel_rfl) (by kernel_rfl) (by kernel_rfl) (fun _ _ _ h => h) (Or.inl ⟨by rfl, fun w' h' => ?_⟩) hS ?_
  · clear h'
    go_simp
  simp only [Act.put]
  refine wpAnyH_take (i := 9) (oi := ⟨some 66, Op.binOp BinOp.add 26 (Operand.tmp 65) (Operand.const (Value.int IntKind.u32 1)) 26, _, _, _, none⟩) (v := (.int .u32 y2)) rfl (by kernel_rfl) (by kernel_rfl) (by kernel_rfl) (fun _ _ _ h => h) (Or.inl ⟨by rfl, fun w' h' => ?_⟩) hS ?_
  · clear h'
    go_simp
  simp only [Act.put]
  refine wpAnyH_take (i := 10) (oi := ⟨some 67, Op.move (Operand.tmp 12), _, _, _, none⟩) (v := (.pointer (some ⟨g, 0, none⟩))) rfl (by kernel_rfl) (by kernel_rfl) (by kernel_rfl) (fun _ _ _ h => h) (Or.inl ⟨by rfl, fun w' h' => ?_⟩) hS ?_
  · clear h'
    go_simp
  simp only [Act.put]
  refine wpAnyH_take (i := 11) (oi := ⟨some 68, Op.load 28 (Operand.tmp 3), _, _, _, none⟩) (v := (.agg (sgC s))) rfl (by kernel_rfl) (by kernel_rfl) (by kernel_rfl) (fun _ _ _ h => h) (yields_sg (by kernel_rfl) (Operand.tmp 3) (by kernel_rfl) n (by kernel_rfl) s (fun _ h => h.1)) hS ?_
  simp only [Act.put]
  refine wpAnyH_take (i := 13) (oi := ⟨some 70, Op.move (Operand.tmp 10), _, _, _, none⟩) (v := (.pointer (some ⟨h, 0, none⟩))) rfl (by kernel_rfl) (by kernel_rfl) (by kernel_rfl) (fun _ _ _ h => h) (Or.inl ⟨by rfl, fun w' h' => ?_⟩) hS ?_
  · clear h'
    go_simp
  simp only [Act.put]
  refine wpAnyH_take (i := 14) (oi := ⟨some 71, Op.move (Operand.tmp 8), _, _, _, none⟩) (v := (.pointer (some ⟨k, 0, none⟩))) rfl (by kernel_rfl) (by kernel_rfl) (by kernel_rfl) (fun _ _ _ h => h) (Or.inl ⟨by rfl, fun w' h' => ?_⟩) hS ?_
  · clear h'
    go_simp
  simp only [Act.put]
  refine wpAnyH_take (i := 15) (oi := ⟨some 72, Op.move (Operand.tmp 8), _, _, _, none⟩) (v := (.pointer (some ⟨k, 0, none⟩))) rfl (by kernel_rfl) (by kernel_rfl) (by kernel_rfl) (fun _ _ _ h => h) (Or.inl ⟨by rfl, fun w' h' => ?_⟩) hS ?_
  · clear h'
    go_simp
  simp only [Act.put]
  refine wpAnyH_take (i := 17) (oi := ⟨some 74, Op.fieldAddr 31 (Operand.tmp 5) 3, _, _, _, none⟩) (v := (.pointer (some ⟨n5, 3, none⟩))) rfl (by kernel_rfl) (by kernel_rfl) (by kernel_rfl) (fun _ _ _ h => h) (Or.inl ⟨by rfl, fun w' h' => ?_⟩) hS ?_
  · clear h'
    go_simp
  simp only [Act.put]
  refine wpAnyH_take (i := 18) (oi := ⟨some 75, Op.load 3 (Operand.tmp 74), _, _, _, none⟩) (v := (.int .i64 t)) rfl (by kernel_rfl) (by kernel_rfl) (by kernel_rfl) (fun _ _ _ h => h) (Or.inl ⟨by rfl, fun w' h' => ?_⟩) hS ?_
  · have c0 := h'.2.1.all.2.2.2.1
    clear h'
    go_simp
  simp only [Act.put]
  refine wpAnyH_take (i := 19) (oi := ⟨some 76, Op.move (Operand.tmp 1), _, _, _, none⟩) (v := (.int .u32 iss)) rfl (by kernel_rfl) (by kernel_rfl) (by kernel_rfl) (fun _ _ _ h => h) (Or.inl ⟨by rfl, fun w' h' => ?_⟩) hS ?_
  · clear h'
    go_simp
  simp only [Act.put]
  refine wpAnyH_take (i := 20) (oi := ⟨some 77, Op.binOp BinOp.add 26 (Operand.tmp 76) (Operand.const (Value.int IntKind.u32 1)) 26, _, _, _, none⟩) (v := (.int .u32 y2)) rfl (by kernel_rfl) (by kernel_rfl) (by kernel_rfl) (fun _ _ _ h => h) (Or.inl ⟨by rfl, fun w' h' => ?_⟩) hS ?_
  · clear h'
    go_simp
  simp only [Act.put]
  refine wpAnyH_take (i := 21) (oi := ⟨some 78, Op.build 47 #[(0, Operand.const (Value.bool true)), (1, (Operand.tmp 77))], _, _, _, none⟩) (v := (.agg #[.bool true, .int .u32 y2, .int .i64 0])) rfl (by kernel_rfl) (by kernel_rfl) (by kernel_rfl) (fun _ _ _ h => h) (Or.inl ⟨by rfl, fun w' h' => ?_⟩) hS ?_
  · clear h'
    go_simp
  simp only [Act.put]
  refine wpAnyH_take (i := 22) (oi := ⟨some 79, Op.fieldAddr 31 (Operand.tmp 5) 4, _, _, _, none⟩) (v := (.pointer (some ⟨n5, 4, none⟩))) rfl (by kernel_rfl) (by kernel_rfl) (by kernel_rfl) (fun _ _ _ h => h) (Or.inl ⟨by rfl, fun w' h' => ?_⟩) hS ?_
  · clear h'
    go_simp
  simp only [Act.put]
  refine wpAnyH_take (i := 23) (oi := ⟨some 80, Op.load 3 (Operand.tmp 79), _, _, _, none⟩) (v := (.int .i64 lg)) rfl (by kernel_rfl) (by kernel_rfl) (by kernel_rfl) (fun _ _ _ h => h) (Or.inl ⟨by rfl, fun w' h' => ?_⟩) hS ?_
  · have c0 := h'.2.1.all.2.2.2.2
    clear h'
    go_simp
  simp only [Act.put]
  try simp only [List.setIfInBounds_toArray, List.set_cons_zero, List.set_cons_succ]
  refine wpAnyH_ready (rs := [12]) (by kernel_rfl) (by simp) ?_
  refine AllReadyH.cons rfl (fun K hK => ?_) AllReadyH.nil
  go_simp
  refine (mssOf_ok _ s).mono ?_
  rintro e w8 ⟨rfl, d⟩
  rw [HMS.out]
  have s8 : SgAt w8 n s ∧ TcpAt w8 n5 f l m t lg ∧ Below W5.heap.size W5 w8 := ⟨hS.1.grow d, hS.2.1.grow d, hS.2.2.trans (d.mono hS.2.2.size)⟩
  clear d
  go_simp
  refine hK.out _ _ s8 (fun _ => ?_)
  clear hK K
  try simp only [List.setIfInBounds_toArray, List.set_cons_zero, List.set_cons_succ]
  refine wpAnyH_ready (rs := [16]) (by kernel_rfl) (by simp) ?_
  refine AllReadyH.cons rfl (fun K hK => ?_) AllReadyH.nil
  go_simp
  refine (KW.out _ s8.2.2).mono ?_
  rintro e w8 ⟨rfl, rfl⟩
  go_simp
  refine hK.out _ _ s8 (fun _ => ?_)
  clear hK K
  refine wpAnyH_take (i := 24) (oi := ⟨some 81, Op.build 49 #[(0, (Operand.tmp 58)), (1, (Operand.tmp 60)), (2, Operand.const (Value.int IntKind.i64 1)), (4, (Operand.tmp 61)), (5, (Operand.tmp 62)), (6, (Operand.tmp 64)), (7, (Operand.tmp 66)), (8, (Operand.tmp 67)), (10, (Operand.tmp 69)), (13, (Operand.tmp 70)), (16, (Operand.tmp 71)), (17, (Operand.tmp 73)), (19, (Operand.tmp 75)), (20, (Operand.tmp 78)), (22, (Operand.tmp 80))], _, _, _, none⟩) (v := (.agg #[.int .i64 s.dt, .int .i64 s.fr, .int .i64 1, .bool false, .int .u32 iss, .int .u32 iss, .int .u32 y2, .int .u32 y2, .pointer (some ⟨g, 0, none⟩), .bool false, .int .i64 ms, .int .i64 0, .int .u32 0, .int .u32 0, .pointer (some ⟨h, 0, none⟩), .bool false, .int .i64 0, .pointer (some ⟨k, 0, none⟩), .int .i64 f, .int .i64 0, .int .i64 t, .bool true, .int .u32 y2, .int .i64 0, .int .i64 0, .int .i64 lg, .slice none 0 0, .pointer none])) rfl (by kernel_rfl) (by kernel_rfl) (by kernel_rfl) (fun _ _ _ h => h) (Or.inl ⟨by rfl, fun w' h' => ?_⟩) s8 ?_
  · clear h'
    go_simp
  simp only [Act.put]
  try simp only [List.setIfInBounds_toArray, List.set_cons_zero, List.set_cons_succ]
  refine wpAnyH_ready (rs := [25]) (by kernel_rfl) (by simp) ?_
  refine AllReadyH.cons rfl (fun K hK => ?_) AllReadyH.nil
  go_simp
  have s9 : SgAt (w8.alloc (.cells #[.int .i64 s.dt, .int .i64 s.fr, .int .i64 1, .bool false, .int .u32 iss, .int .u32 iss, .int .u32 y2, .int .u32 y2, .pointer (some ⟨g, 0, none⟩), .bool false, .int .i64 ms, .int .i64 0, .int .u32 0, .int .u32 0, .pointer (some ⟨h, 0, none⟩), .bool false, .int .i64 0, .pointer (some ⟨k, 0, none⟩), .int .i64 f, .int .i64 0, .int .i64 t, .bool true, .int .u32 y2, .int .i64 0, .int .i64 0, .int .i64 lg, .slice none 0 0, .pointer none] 49)) n s ∧ TcpAt (w8.alloc (.cells #[.int .i64 s.dt, .int .i64 s.fr, .int .i64 1, .bool false, .int .u32 iss, .int .u32 iss, .int .u32 y2, .int .u32 y2, .pointer (some ⟨g, 0, none⟩), .bool false, .int .i64 ms, .int .i64 0, .int .u32 0, .int .u32 0, .pointer (some ⟨h, 0, none⟩), .bool false, .int .i64 0, .pointer (some ⟨k, 0, none⟩), .int .i64 f, .int .i64 0, .int .i64 t, .bool true, .int .u32 y2, .int .i64 0, .int .i64 0, .int .i64 lg, .slice none 0 0, .pointer none] 49)) n5 f l m t lg ∧ Below W5.heap.size W5 (w8.alloc (.cells #[.int .i64 s.dt, .int .i64 s.fr, .int .i64 1, .bool false, .int .u32 iss, .int .u32 iss, .int .u32 y2, .int .u32 y2, .pointer (some ⟨g, 0, none⟩), .bool false, .int .i64 ms, .int .i64 0, .int .u32 0, .int .u32 0, .pointer (some ⟨h, 0, none⟩), .bool false, .int .i64 0, .pointer (some ⟨k, 0, none⟩), .int .i64 f, .int .i64 0, .int .i64 t, .bool true, .int .u32 y2, .int .i64 0, .int .i64 0, .int .i64 lg, .slice none 0 0, .pointer none] 49)) := ⟨s8.1.grow ((Below.refl _ _).alloc (Nat.le_refl _) _), s8.2.1.grow ((Below.refl _ _).alloc (Nat.le_refl _) _), s8.2.2.alloc s8.2.2.size _⟩
  refine hK.out _ _ s9 (fun _ => ?_)
  clear hK K
  refine wpAnyH_take (i := 26) (oi := ⟨some 14, Op.assign (Operand.tmp 82), _, _, _, none⟩) (v := (.pointer (some ⟨w8.heap.size, 0, none⟩))) rfl (by kernel_rfl) (by kernel_rfl) (by kernel_rfl) (fun _ _ _ h => h) (Or.inl ⟨by rfl, fun w' h' => ?_⟩) s9 ?_
  · clear h'
    go_simp
  simp only [Act.put]
  refine wpAnyH_done (by kernel_rfl) (NoPanic.normal ?_) _
  simp only [List.setIfInBounds_toArray, List.set_cons_zero, List.set_cons_succ]
  obtain ⟨c, hc⟩ : ∃ c, c = w8.heap.size := ⟨_, rfl⟩
  have HA : Hid ((w8.alloc (.cells #[.int .i64 s.dt, .int .i64 s.fr, .int .i64 1, .bool false, .int .u32 iss, .int .u32 iss, .int .u32 y2, .int .u32 y2, .pointer (some ⟨g, 0, none⟩), .bool false, .int .i64 ms, .int .i64 0, .int .u32 0, .int .u32 0, .pointer (some ⟨h, 0, none⟩), .bool false, .int .i64 0, .pointer (some ⟨k, 0, none⟩), .int .i64 f, .int .i64 0, .int .i64 t, .bool true, .int .u32 y2, .int .i64 0, .int .i64 0, .int .i64 lg, .slice none 0 0, .pointer none] 49)).heap[c]? = some (.cells #[.int .i64 s.dt, .int .i64 s.fr, .int .i64 1, .bool false, .int .u32 iss, .int .u32 iss, .int .u32 y2, .int .u32 y2, .pointer (some ⟨g, 0, none⟩), .bool false, .int .i64 ms, .int .i64 0, .int .u32 0, .int .u32 0, .pointer (some ⟨h, 0, none⟩), .bool false, .int .i64 0, .pointer (some ⟨k, 0, none⟩), .int .i64 f, .int .i64 0, .int .i64 t, .bool true, .int .u32 y2, .int .i64 0, .int .i64 0, .int .i64 lg, .slice none 0 0, .pointer none] 49 (0, 0))) := Lib.hid (by rw [hc]; exact heap_alloc_new _ _)
  have B9 : Hid (Below W5.heap.size W5 (w8.alloc (.cells #[.int .i64 s.dt, .int .i64 s.fr, .int .i64 1, .bool false, .int .u32 iss, .int .u32 iss, .int .u32 y2, .int .u32 y2, .pointer (some ⟨g, 0, none⟩), .bool false, .int .i64 ms, .int .i64 0, .int .u32 0, .int .u32 0, .pointer (some ⟨h, 0, none⟩), .bool false, .int .i64 0, .pointer (some ⟨k, 0, none⟩), .int .i64 f, .int .i64 0, .int .i64 t, .bool true, .int .u32 y2, .int .i64 0, .int .i64 0, .int .i64 lg, .slice none 0 0, .pointer none] 49))) := Lib.hid s9.2.2
  have NC : Hid (W5.heap.size ≤ c) := Lib.hid (by rw [hc]; exact s8.2.2.size)
  clear s8 s9 hS
  simp only [← hc]
  generalize w8.alloc _ = W9 at HA B9 ⊢
  clear hc e2 e2w KW
  have c27 : W9.cell? ⟨c, 27, none⟩ = some (.pointer none) := by rw [cell_of_block HA.out]; rfl
  have f27 : W9.frozen? ⟨c, 27, none⟩ = false := by simp [World.frozen?, HA.out]
  have HC : Hid (CB w fx ⟨c, g, bb, h, dd, k⟩ (baseV s iss f l m t lg) (W9.setCell ⟨c, 27, none⟩ (.pointer (some ⟨c, 0, none⟩)))) := Lib.hid (by
    have bl : Below W5.heap.size W5 (W9.setCell ⟨c, 27, none⟩ (.pointer (some ⟨c, 0, none⟩))) := B9.out.setCell (by show W5.heap.size ≤ c; exact NC.out) _
    have bw : Below w.heap.size w (W9.setCell ⟨c, 27, none⟩ (.pointer (some ⟨c, 0, none⟩))) := B5.out.trans (bl.mono B5.out.size)
    have ho := HO.out
    rw [HV.out]
    refine ⟨⟨.slice none 0 0, ⟨?_, ?_, ?_, ?_, ⟨rfl, .inl ⟨rfl, rfl⟩⟩⟩, fun j hj => by cases hj⟩, ⟨⟨by show 1 ≤ l; omega, by show l ≤ f; omega, by show f ≤ m; omega, by show m ≤ 1048576; omega, by show (0 : Int) ≤ 0; decide, by show (0 : Int) ≤ 8388608; decide, by show (0 : Int) ≤ 0; decide, by show (0 : Int) ≤ 4194304; decide⟩, ?_, ?_, by show (-9223372036854775808 : Int) ≤ 0; decide, by show (0 : Int) ≤ 9223372036854775807; decide⟩, bw, ?_, fun x hx => ⟨(bw.block _ (lt_of_block (HX.out x hx))).trans (HX.out x hx), ?_⟩⟩
    · exact set_cellsB HA.out _ (by show 27 < 28; decide)
    · exact S5.out.grow bl S5.out.lt S5.out.ltb
    · exact R5.out.grow bl R5.out.lt R5.out.ltb
    · exact (bl.block _ (lt_of_block K5.out)).trans K5.out
    · show 1 ≤ ms
      rw [← HMS.out]
      unfold mssV
      split <;> omega
    · show ms ≤ 536
      rw [← HMS.out]
      unfold mssV
      split <;> omega
    · have n1 := B5.out.size
      have n2 := NC.out
      rintro j (e | e | e | e | e | e) <;> rw [e]
      · show w.heap.size ≤ c
        omega
      · exact NG.out
      · exact N5.out
      · exact NH.out
      · exact N4.out
      · exact N2.out
    · have n1 := B5.out.size
      have n2 := NC.out
      have n3 := lt_of_block (HX.out x hx)
      have a1 := NG.out
      have a2 := N5.out
      have a3 := NH.out
      have a4 := N4.out
      have a5 := N2.out
      rintro (e | e | e | e | e | e) <;> dsimp only at e <;> omega)
  clear HV HMS HX HO S5 R5 K5 F5 T5
  go_upto_region 8 with fail
  generalize World.setCell _ _ _ = WA at HC ⊢
  have KY := Lib.hid (syn_ok HC.out (by show 0 ≤ 100000000; decide))
  clear c27 f27 HA B9
  go_wp2_with fail
  refine KY.out.mono ?_
  rintro e WB ⟨rfl, hz⟩
  have HZ := Lib.hid hz
  clear hz KY HC
  go_wp2_with fail
  go_ret2
  exact ⟨⟨c, g, bb, h, dd, k⟩, rfl, HZ.out⟩
end Go.Proofs.Ytlajalfalepbhaa
