/-
  Layer 7: a packet's bytes. No conditions.
-/
import Derived.Test.YtolegdjdppaeoaaArpB
namespace Go.Proofs.Ytolegdjdppaeoaa
open Go.RowKit Go.Sort
set_option linter.unusedVariables false

/-- The bytes of a packet, and why it has none. -/
def pkL (f : Pk) : List UInt8 := hd6 ++ (leL f.op 2).reverse ++ f.ma.list ++ f.ip.list ++ f.tm.list ++ f.ti.list
def pkE (f : Pk) : Int := if f.op = 1 ∨ f.op = 2 then 0 else 10
def pkS (f : Pk) : ByteArray := if pkE f = 0 then ⟨(pkL f).toArray⟩ else ⟨#[]⟩

theorem add_as (w : World) (x y z : List UInt8) (h : z = x ++ y) (hl : z.length ≤ 28) : (Op.stringOp .add ⟨x.toArray⟩ ⟨y.toArray⟩).run Try.prog w = .ok (.string ⟨z.toArray⟩) w := by
  subst h
  rw [List.length_append] at hl
  exact add_lists w x y (by omega)
theorem add_hd (w : World) (y z : List UInt8) (h : z = hd6 ++ y) (hl : z.length ≤ 28) : (Op.stringOp .add ⟨#[0, 1, 8, 0, 6, 4]⟩ ⟨y.toArray⟩).run Try.prog w = .ok (.string ⟨z.toArray⟩) w := add_as w hd6 y z h hl
set_option maxRecDepth 100000 in
set_option maxHeartbeats 1000000 in
theorem pBytes_kind (w : World) (f : Pk) (h : ¬ (f.op = 1 ∨ f.op = 2)) :
    Calls Try.prog 15 #[.agg #[.int .i64 f.op, .int .u8 (f.ma.a.toNat : Int), .int .u8 (f.ma.b.toNat : Int), .int .u8 (f.ma.c.toNat : Int), .int .u8 (f.ma.d.toNat : Int), .int .u8 (f.ma.e.toNat : Int), .int .u8 (f.ma.f.toNat : Int), .int .u8 (f.ip.a.toNat : Int), .int .u8 (f.ip.b.toNat : Int), .int .u8 (f.ip.c.toNat : Int), .int .u8 (f.ip.d.toNat : Int), .int .u8 (f.tm.a.toNat : Int), .int .u8 (f.tm.b.toNat : Int), .int .u8 (f.tm.c.toNat : Int), .int .u8 (f.tm.d.toNat : Int), .int .u8 (f.tm.e.toNat : Int), .int .u8 (f.tm.f.toNat : Int), .int .u8 (f.ti.a.toNat : Int), .int .u8 (f.ti.b.toNat : Int), .int .u8 (f.ti.c.toNat : Int), .int .u8 (f.ti.d.toNat : Int)]] w fun e w' => e = .returned (.tuple #[.string ⟨#[]⟩, .int .i64 10]) ∧ Below w.heap.size w w' := by
  have hk := fun w => known_any w f.op
  rw [decide_eq_false h] at hk
  clear h
  go_enter Try.func15, Try.ntmps15
  go_wp2_with (go_at_call 30; refine (hk _).mono ?_; rintro e w' ⟨rfl, rfl⟩)
  go_ret2
  exact ⟨rfl, (Below.refl _ _).alloc (Nat.le_refl _) _⟩
set_option maxRecDepth 100000 in
set_option maxHeartbeats 8000000 in
theorem pBytes_yes (w : World) (f : Pk) (h : f.op = 1 ∨ f.op = 2) (cf : Array Value) (hcf : cf = #[.int .i64 f.op, .int .u8 (f.ma.a.toNat : Int), .int .u8 (f.ma.b.toNat : Int), .int .u8 (f.ma.c.toNat : Int), .int .u8 (f.ma.d.toNat : Int), .int .u8 (f.ma.e.toNat : Int), .int .u8 (f.ma.f.toNat : Int), .int .u8 (f.ip.a.toNat : Int), .int .u8 (f.ip.b.toNat : Int), .int .u8 (f.ip.c.toNat : Int), .int .u8 (f.ip.d.toNat : Int), .int .u8 (f.tm.a.toNat : Int), .int .u8 (f.tm.b.toNat : Int), .int .u8 (f.tm.c.toNat : Int), .int .u8 (f.tm.d.toNat : Int), .int .u8 (f.tm.e.toNat : Int), .int .u8 (f.tm.f.toNat : Int), .int .u8 (f.ti.a.toNat : Int), .int .u8 (f.ti.b.toNat : Int), .int .u8 (f.ti.c.toNat : Int), .int .u8 (f.ti.d.toNat : Int)]) :
    Calls Try.prog 15 #[.agg cf] w fun e w' => e = .returned (.tuple #[.string ⟨(pkL f).toArray⟩, .int .i64 0]) ∧ Below w.heap.size w w' := by
  have hk := fun w => known_any w f.op
  rw [decide_eq_true h] at hk
  have h0 : 0 ≤ f.op := by omega
  have h2 : f.op ≤ 65535 := by omega
  have q1 : hd6.length = 6 := rfl
  have q2 : (leL f.op 2).reverse.length = 2 := two_len f.op
  have q3 := mac_len f.ma
  have q4 := ip_len f.ip
  have q5 := mac_len f.tm
  have q6 := ip_len f.ti
  obtain ⟨L1, e1⟩ : ∃ L, L = hd6 ++ (leL f.op 2).reverse := ⟨_, rfl⟩
  obtain ⟨L2, e2⟩ : ∃ L, L = L1 ++ f.ma.list := ⟨_, rfl⟩
  obtain ⟨L3, e3⟩ : ∃ L, L = L2 ++ f.ip.list := ⟨_, rfl⟩
  obtain ⟨L4, e4⟩ : ∃ L, L = L3 ++ f.tm.list := ⟨_, rfl⟩
  obtain ⟨L5, e5⟩ : ∃ L, L = L4 ++ f.ti.list := ⟨_, rfl⟩
  have l1 : L1.length = 8 := by rw [e1, List.length_append, q1, q2]
  have l2 : L2.length = 14 := by rw [e2, List.length_append, l1, q3]
  have l3 : L3.length = 18 := by rw [e3, List.length_append, l2, q4]
  have l4 : L4.length = 24 := by rw [e4, List.length_append, l3, q5]
  have l5 : L5.length = 28 := by rw [e5, List.length_append, l4, q6]
  have hP : Hid (pkL f = L5) := Lib.hid (by rw [e5, e4, e3, e2, e1]; rfl)
  have C1 := Lib.hid (fun w => add_hd w (leL f.op 2).reverse L1 e1 (by omega))
  have C2 := Lib.hid (fun w => add_as w L1 f.ma.list L2 e2 (by omega))
  have C3 := Lib.hid (fun w => add_as w L2 f.ip.list L3 e3 (by omega))
  have C4 := Lib.hid (fun w => add_as w L3 f.tm.list L4 e4 (by omega))
  have C5 := Lib.hid (fun w => add_as w L4 f.ti.list L5 e5 (by omega))
  rw [hP.out]
  clear h q1 q2 q3 q4 q5 q6 e1 e2 e3 e4 e5 l1 l2 l3 l4 l5
  have HCF := Lib.hid hcf
  clear hcf
  go_enter Try.func15, Try.ntmps15
  go_upto_region 1 with fail
  have FA : Hid (PkAt (w.alloc (.cells cf 27)) w.heap.size f) := Lib.hid (by rw [HCF.out]; exact heap_alloc_new w _)
  have BL : Hid (Below w.heap.size w (w.alloc (.cells cf 27))) := Lib.hid ((Below.refl _ _).alloc (Nat.le_refl _) _)
  generalize w.alloc _ = W1 at FA BL ⊢
  have c0 := FA.out.op
  go_upto_region 3 with (go_at_call 30; refine (hk _).mono ?_; rintro e w' ⟨rfl, rfl⟩)
  clear c0
  refine wp_region_noPanic ?_
  refine region_heldE (S := fun w' => PkAt w' w.heap.size f) (by kernel_rfl) (fun V d => (d.block _).trans FA.out) (fun V d hS => ?_)
  have BV0 := Lib.hid ((d.below (w := W1)))
  clear d
  refine wpAnyH_take (i := 0) (oi := ⟨some 8, Op.fieldAddr 27 (Operand.tmp 1) 0, _, _, _, none⟩) (v := (.pointer (some ⟨w.heap.size, 0, none⟩))) rfl (by kernel_rfl) (by kernel_rfl) (by kernel_rfl) (fun _ _ _ h => h) (Or.inl ⟨by rfl, fun w' h' => ?_⟩) hS ?_
  · clear h'
    go_simp
  simp only [Act.put]
  refine wpAnyH_take (i := 1) (oi := ⟨some 9, Op.load 3 (Operand.tmp 8), _, _, _, none⟩) (v := (.int .i64 f.op)) rfl (by kernel_rfl) (by kernel_rfl) (by kernel_rfl) (fun _ _ _ h => h) (Or.inl ⟨by rfl, fun w' h' => ?_⟩) hS ?_
  · have c0 := PkAt.op h'
    clear h'
    go_simp
  simp only [Act.put]
  refine wpAnyH_take (i := 2) (oi := ⟨some 10, Op.convert 3 74 (Operand.tmp 9), _, _, _, none⟩) (v := (.int .u64 f.op)) rfl (by kernel_rfl) (by kernel_rfl) (by kernel_rfl) (fun _ _ _ h => h) (Or.inl ⟨by rfl, fun w' h' => ?_⟩) hS ?_
  · have c0 := wrap_ty h0 h2
    clear h'
    go_simp
  simp only [Act.put]
  refine wpAnyH_take (i := 5) (oi := ⟨some 13, Op.fieldAddr 27 (Operand.tmp 1) 1, _, _, _, none⟩) (v := (.pointer (some ⟨w.heap.size, 1, none⟩))) rfl (by kernel_rfl) (by kernel_rfl) (by kernel_rfl) (fun _ _ _ h => h) (Or.inl ⟨by rfl, fun w' h' => ?_⟩) hS ?_
  · clear h'
    go_simp
  simp only [Act.put]
  refine wpAnyH_take (i := 6) (oi := ⟨some 14, Op.slice 23 (Operand.tmp 13) none none none, _, _, _, none⟩) (v := (.slice (some ⟨w.heap.size, 1, none⟩) 6 6)) rfl (by kernel_rfl) (by kernel_rfl) (by kernel_rfl) (fun _ _ _ h => h) (Or.inl ⟨by rfl, fun w' h' => ?_⟩) hS ?_
  · clear h'
    go_simp
  simp only [Act.put]
  refine wpAnyH_take (i := 7) (oi := ⟨some 15, Op.convert 75 9 (Operand.tmp 14), _, _, _, none⟩) (v := (.string ⟨(f.ma.list).toArray⟩)) rfl (by kernel_rfl) (by kernel_rfl) (by kernel_rfl) (fun _ _ _ h => h) (Or.inl ⟨by rfl, fun w' h' => ?_⟩) hS ?_
  · have c0 := conv_text w' w.heap.size 1 6 6 _ (mac_len f.ma) (PkAt.ma h')
    clear h'
    go_simp
  simp only [Act.put]
  refine wpAnyH_take (i := 9) (oi := ⟨some 17, Op.fieldAddr 27 (Operand.tmp 1) 2, _, _, _, none⟩) (v := (.pointer (some ⟨w.heap.size, 7, none⟩))) rfl (by kernel_rfl) (by kernel_rfl) (by kernel_rfl) (fun _ _ _ h => h) (Or.inl ⟨by rfl, fun w' h' => ?_⟩) hS ?_
  · clear h'
    go_simp
  simp only [Act.put]
  refine wpAnyH_take (i := 10) (oi := ⟨some 18, Op.slice 25 (Operand.tmp 17) none none none, _, _, _, none⟩) (v := (.slice (some ⟨w.heap.size, 7, none⟩) 4 4)) rfl (by kernel_rfl) (by kernel_rfl) (by kernel_rfl) (fun _ _ _ h => h) (Or.inl ⟨by rfl, fun w' h' => ?_⟩) hS ?_
  · clear h'
    go_simp
  simp only [Act.put]
  refine wpAnyH_take (i := 11) (oi := ⟨some 19, Op.convert 75 9 (Operand.tmp 18), _, _, _, none⟩) (v := (.string ⟨(f.ip.list).toArray⟩)) rfl (by kernel_rfl) (by kernel_rfl) (by kernel_rfl) (fun _ _ _ h => h) (Or.inl ⟨by rfl, fun w' h' => ?_⟩) hS ?_
  · have c0 := conv_text w' w.heap.size 7 4 4 _ (ip_len f.ip) (PkAt.ip h')
    clear h'
    go_simp
  simp only [Act.put]
  refine wpAnyH_take (i := 13) (oi := ⟨some 21, Op.fieldAddr 27 (Operand.tmp 1) 3, _, _, _, none⟩) (v := (.pointer (some ⟨w.heap.size, 11, none⟩))) rfl (by kernel_rfl) (by kernel_rfl) (by kernel_rfl) (fun _ _ _ h => h) (Or.inl ⟨by rfl, fun w' h' => ?_⟩) hS ?_
  · clear h'
    go_simp
  simp only [Act.put]
  refine wpAnyH_take (i := 14) (oi := ⟨some 22, Op.slice 23 (Operand.tmp 21) none none none, _, _, _, none⟩) (v := (.slice (some ⟨w.heap.size, 11, none⟩) 6 6)) rfl (by kernel_rfl) (by kernel_rfl) (by kernel_rfl) (fun _ _ _ h => h) (Or.inl ⟨by rfl, fun w' h' => ?_⟩) hS ?_
  · clear h'
    go_simp
  simp only [Act.put]
  refine wpAnyH_take (i := 15) (oi := ⟨some 23, Op.convert 75 9 (Operand.tmp 22), _, _, _, none⟩) (v := (.string ⟨(f.tm.list).toArray⟩)) rfl (by kernel_rfl) (by kernel_rfl) (by kernel_rfl) (fun _ _ _ h => h) (Or.inl ⟨by rfl, fun w' h' => ?_⟩) hS ?_
  · have c0 := conv_text w' w.heap.size 11 6 6 _ (mac_len f.tm) (PkAt.tm h')
    clear h'
    go_simp
  simp only [Act.put]
  refine wpAnyH_take (i := 17) (oi := ⟨some 25, Op.fieldAddr 27 (Operand.tmp 1) 4, _, _, _, none⟩) (v := (.pointer (some ⟨w.heap.size, 17, none⟩))) rfl (by kernel_rfl) (by kernel_rfl) (by kernel_rfl) (fun _ _ _ h => h) (Or.inl ⟨by rfl, fun w' h' => ?_⟩) hS ?_
  · clear h'
    go_simp
  simp only [Act.put]
  refine wpAnyH_take (i := 18) (oi := ⟨some 26, Op.slice 25 (Operand.tmp 25) none none none, _, _, _, none⟩) (v := (.slice (some ⟨w.heap.size, 17, none⟩) 4 4)) rfl (by kernel_rfl) (by kernel_rfl) (by kernel_rfl) (fun _ _ _ h => h) (Or.inl ⟨by rfl, fun w' h' => ?_⟩) hS ?_
  · clear h'
    go_simp
  simp only [Act.put]
  refine wpAnyH_take (i := 19) (oi := ⟨some 27, Op.convert 75 9 (Operand.tmp 26), _, _, _, none⟩) (v := (.string ⟨(f.ti.list).toArray⟩)) rfl (by kernel_rfl) (by kernel_rfl) (by kernel_rfl) (fun _ _ _ h => h) (Or.inl ⟨by rfl, fun w' h' => ?_⟩) hS ?_
  · have c0 := conv_text w' w.heap.size 17 4 4 _ (ip_len f.ti) (PkAt.ti h')
    clear h'
    go_simp
  simp only [Act.put]
  refine wpAnyH_ready (rs := [3]) (by kernel_rfl) (by simp) ?_
  refine AllReadyH.cons rfl (fun K hK => ?_) AllReadyH.nil
  go_simp
  refine (Big_all V f.op 2 h0).mono ?_
  rintro e w4 ⟨rfl, k4⟩
  have S4 : PkAt w4 w.heap.size f := (k4.block _ (lt_of_block hS) (by simp)).trans hS
  have BV := Lib.hid (BV0.out.trans ((Below.of_none k4).mono BV0.out.size))
  clear BV0 k4
  go_simp
  refine hK.out _ _ S4 (fun _ => ?_)
  clear hK K
  refine wpAnyH_take (i := 4) (oi := ⟨some 12, Op.binOp BinOp.add 9 (Operand.const (Value.string { data := #[0, 1, 8, 0, 6, 4] })) (Operand.tmp 11) 9, _, _, _, none⟩) (v := (.string ⟨L1.toArray⟩)) rfl (by kernel_rfl) (by kernel_rfl) (by kernel_rfl) (fun _ _ _ h => h) (Or.inl ⟨by rfl, fun w' h' => ?_⟩) S4 ?_
  · have c0 := C1.out w'
    clear h'
    go_simp
  simp only [Act.put]
  refine wpAnyH_take (i := 8) (oi := ⟨some 16, Op.binOp BinOp.add 9 (Operand.tmp 12) (Operand.tmp 15) 9, _, _, _, none⟩) (v := (.string ⟨L2.toArray⟩)) rfl (by kernel_rfl) (by kernel_rfl) (by kernel_rfl) (fun _ _ _ h => h) (Or.inl ⟨by rfl, fun w' h' => ?_⟩) S4 ?_
  · have c0 := C2.out w'
    clear h'
    go_simp
  simp only [Act.put]
  refine wpAnyH_take (i := 12) (oi := ⟨some 20, Op.binOp BinOp.add 9 (Operand.tmp 16) (Operand.tmp 19) 9, _, _, _, none⟩) (v := (.string ⟨L3.toArray⟩)) rfl (by kernel_rfl) (by kernel_rfl) (by kernel_rfl) (fun _ _ _ h => h) (Or.inl ⟨by rfl, fun w' h' => ?_⟩) S4 ?_
  · have c0 := C3.out w'
    clear h'
    go_simp
  simp only [Act.put]
  refine wpAnyH_take (i := 16) (oi := ⟨some 24, Op.binOp BinOp.add 9 (Operand.tmp 20) (Operand.tmp 23) 9, _, _, _, none⟩) (v := (.string ⟨L4.toArray⟩)) rfl (by kernel_rfl) (by kernel_rfl) (by kernel_rfl) (fun _ _ _ h => h) (Or.inl ⟨by rfl, fun w' h' => ?_⟩) S4 ?_
  · have c0 := C4.out w'
    clear h'
    go_simp
  simp only [Act.put]
  refine wpAnyH_take (i := 20) (oi := ⟨some 28, Op.binOp BinOp.add 9 (Operand.tmp 24) (Operand.tmp 27) 9, _, _, _, none⟩) (v := (.string ⟨L5.toArray⟩)) rfl (by kernel_rfl) (by kernel_rfl) (by kernel_rfl) (fun _ _ _ h => h) (Or.inl ⟨by rfl, fun w' h' => ?_⟩) S4 ?_
  · have c0 := C5.out w'
    clear h'
    go_simp
  simp only [Act.put]
  refine wpAnyH_take (i := 21) (oi := ⟨some 2, Op.assign (Operand.tmp 28), _, _, _, none⟩) (v := (.string ⟨L5.toArray⟩)) rfl (by kernel_rfl) (by kernel_rfl) (by kernel_rfl) (fun _ _ _ h => h) (Or.inl ⟨by rfl, fun w' h' => ?_⟩) S4 ?_
  · clear h'
    go_simp
  simp only [Act.put]
  refine wpAnyH_take (i := 22) (oi := ⟨some 3, Op.assign (Operand.const (Value.int IntKind.i64 0)), _, _, _, none⟩) (v := (.int .i64 0)) rfl (by kernel_rfl) (by kernel_rfl) (by kernel_rfl) (fun _ _ _ h => h) (Or.inl ⟨by rfl, fun w' h' => ?_⟩) S4 ?_
  · clear h'
    go_simp
  simp only [Act.put]
  refine wpAnyH_done (by kernel_rfl) (NoPanic.normal ?_) _
  simp only [List.setIfInBounds_toArray, List.set_cons_zero, List.set_cons_succ]
  have B9 := Lib.hid (BL.out.trans (BV.out.mono BL.out.size))
  clear BV BL FA hS
  go_wp2_with fail
  go_ret2
  exact ⟨rfl, B9.out⟩

theorem pBytes_any (w : World) (f : Pk) :
    Calls Try.prog 15 #[.agg #[.int .i64 f.op, .int .u8 (f.ma.a.toNat : Int), .int .u8 (f.ma.b.toNat : Int), .int .u8 (f.ma.c.toNat : Int), .int .u8 (f.ma.d.toNat : Int), .int .u8 (f.ma.e.toNat : Int), .int .u8 (f.ma.f.toNat : Int), .int .u8 (f.ip.a.toNat : Int), .int .u8 (f.ip.b.toNat : Int), .int .u8 (f.ip.c.toNat : Int), .int .u8 (f.ip.d.toNat : Int), .int .u8 (f.tm.a.toNat : Int), .int .u8 (f.tm.b.toNat : Int), .int .u8 (f.tm.c.toNat : Int), .int .u8 (f.tm.d.toNat : Int), .int .u8 (f.tm.e.toNat : Int), .int .u8 (f.tm.f.toNat : Int), .int .u8 (f.ti.a.toNat : Int), .int .u8 (f.ti.b.toNat : Int), .int .u8 (f.ti.c.toNat : Int), .int .u8 (f.ti.d.toNat : Int)]] w fun e w' => e = .returned (.tuple #[.string (pkS f), .int .i64 (pkE f)]) ∧ Below w.heap.size w w' := by
  by_cases h1 : f.op = 1 ∨ f.op = 2
  · have e1 : pkE f = 0 := if_pos h1
    rw [pkS, e1, if_pos rfl]
    exact pBytes_yes w f h1 _ rfl
  · have e1 : pkE f = 10 := if_neg h1
    rw [pkS, e1, if_neg (by decide)]
    exact pBytes_kind w f h1

end Go.Proofs.Ytolegdjdppaeoaa
