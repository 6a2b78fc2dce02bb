/-
  Layer 7: packets kept closed; the statements' example, and that the program is awake. Conditions: as said.
-/
import Derived.Test.YtolegdjdppaeoaaArpD
import Derived.Test.YtolegdjdppaeoaaKeep
namespace Go.Proofs.Ytolegdjdppaeoaa
open Go.RowKit Go.Sort
set_option linter.unusedVariables false

theorem below_step {w W W' : World} (h : Hid (Below w.heap.size w W)) (hb : Below W.heap.size W W') : Hid (Below w.heap.size w W') := Lib.hid (h.out.trans (hb.mono h.out.size))
/-- The cells of a packet, kept closed. -/
def pkC (f : Pk) : Array Value := #[.int .i64 f.op, .int .u8 (f.ma.a.toNat : Int), .int .u8 (f.ma.b.toNat : Int), .int .u8 (f.ma.c.toNat : Int), .int .u8 (f.ma.d.toNat : Int), .int .u8 (f.ma.e.toNat : Int), .int .u8 (f.ma.f.toNat : Int), .int .u8 (f.ip.a.toNat : Int), .int .u8 (f.ip.b.toNat : Int), .int .u8 (f.ip.c.toNat : Int), .int .u8 (f.ip.d.toNat : Int), .int .u8 (f.tm.a.toNat : Int), .int .u8 (f.tm.b.toNat : Int), .int .u8 (f.tm.c.toNat : Int), .int .u8 (f.tm.d.toNat : Int), .int .u8 (f.tm.e.toNat : Int), .int .u8 (f.tm.f.toNat : Int), .int .u8 (f.ti.a.toNat : Int), .int .u8 (f.ti.b.toNat : Int), .int .u8 (f.ti.c.toNat : Int), .int .u8 (f.ti.d.toNat : Int)]
theorem pkC_one (f : Pk) : (pkC f).all (·.oneCell') = true := by simp [pkC, Value.oneCell']
/-- What a call answers that is a struct in a block of its own. -/
theorem results_row1 {P : Program} (fn : Func) (a : Nat) (t : TypeId) (hf : fn.results = #[.cell a t]) (tm : Array Value) (n : Nat) (cs : Array Value) (d : TypeDesc) (w : World)
    (ha : tm[a]?.getD undef = .pointer (some ⟨n, 0, none⟩)) (hb : w.heap[n]? = some (.cells cs t (0, 0))) (hd : P.underlying t = some d) (hr : (match d with | .struct _ | .array _ _ => true | _ => false) = true) (hi : (P.info? t).map (·.size) = some cs.size) :
    (results fn tm).run P w = .ok (.agg cs) w := by
  have hl := run_loadVar_row (P := P) w n t t cs (0, 0) d hb hd hr hi
  unfold results
  rw [hf]
  simp [ha, asAddr, hl]
theorem PkAt.of_alloc (w : World) (n : Nat) (f : Pk) (h : n = w.heap.size) : PkAt (w.alloc (.cells (pkC f) 27)) n f := pk_new w n f h
/-- A store of a packet into the block that was made last. -/
theorem pk_store (w : World) (f : Pk) : (storeVar 27 ⟨w.heap.size, 0, none⟩ (.agg (pkC f))).run Try.prog (w.alloc (.cells #[.int .i64 0, .int .u8 0, .int .u8 0, .int .u8 0, .int .u8 0, .int .u8 0, .int .u8 0, .int .u8 0, .int .u8 0, .int .u8 0, .int .u8 0, .int .u8 0, .int .u8 0, .int .u8 0, .int .u8 0, .int .u8 0, .int .u8 0, .int .u8 0, .int .u8 0, .int .u8 0, .int .u8 0] 27)) = .ok () (w.alloc (.cells (pkC f) 27)) :=
  run_storeVar_new (P := Try.prog) w 27 #[.int .i64 0, .int .u8 0, .int .u8 0, .int .u8 0, .int .u8 0, .int .u8 0, .int .u8 0, .int .u8 0, .int .u8 0, .int .u8 0, .int .u8 0, .int .u8 0, .int .u8 0, .int .u8 0, .int .u8 0, .int .u8 0, .int .u8 0, .int .u8 0, .int .u8 0, .int .u8 0, .int .u8 0] (pkC f) (by kernel_rfl) rfl (pkC_one f)
theorem eql_pk (w : World) (x y : Pk) (hx : x.ok) (hy : y.ok) : (Op.equalIn 10000 27 (.agg (pkC x)) (.agg (pkC y))).run Try.prog w = .ok (decide (x = y)) w := run_eql_pk w x y hx hy
theorem eql_z (w : World) (x : Pk) (hx : x.ok) : (Op.equalIn 10000 27 (.agg (pkC x)) (.agg #[.int .i64 0, .int .u8 0, .int .u8 0, .int .u8 0, .int .u8 0, .int .u8 0, .int .u8 0, .int .u8 0, .int .u8 0, .int .u8 0, .int .u8 0, .int .u8 0, .int .u8 0, .int .u8 0, .int .u8 0, .int .u8 0, .int .u8 0, .int .u8 0, .int .u8 0, .int .u8 0, .int .u8 0])).run Try.prog w = .ok (decide (x = pkZ)) w := run_eql_pk w x pkZ hx (by show (Lit.int .i64 0).wf = true; decide)

theorem aAnswer (w : World) (f : Pk) (i : Ip4) (m : Mac6) :
    Calls Try.prog 9 #[.agg (pkC f), .agg #[.int .u8 (i.a.toNat : Int), .int .u8 (i.b.toNat : Int), .int .u8 (i.c.toNat : Int), .int .u8 (i.d.toNat : Int)], .agg #[.int .u8 (m.a.toNat : Int), .int .u8 (m.b.toNat : Int), .int .u8 (m.c.toNat : Int), .int .u8 (m.d.toNat : Int), .int .u8 (m.e.toNat : Int), .int .u8 (m.f.toNat : Int)]] w fun e w' => e = .returned (.tuple #[.agg (pkC (ansP f i m)), .bool (ask f i)]) ∧ Below w.heap.size w w' := Answer_any w f i m _ rfl
theorem aBytes (w : World) (f : Pk) :
    Calls Try.prog 15 #[.agg (pkC f)] w fun e w' => e = .returned (.tuple #[.string (pkS f), .int .i64 (pkE f)]) ∧ Below w.heap.size w w' := pBytes_any w f
theorem aRead (w : World) (s : ByteArray) (hm : s.size ≤ 9223372036854775807) :
    Calls Try.prog 19 #[.string s] w fun e w' => e = .returned (.tuple #[.agg (pkC (rkR s)), .int .i64 (rkE s)]) ∧ Below w.heap.size w w' := rRead_any w s hm _ rfl

/-- The chapter's packet. -/
def exP : Pk := ⟨1, ⟨2, 0, 0, 0, 0, 1⟩, ⟨10, 0, 0, 1⟩, ⟨0, 0, 0, 0, 0, 0⟩, ⟨10, 0, 0, 2⟩⟩
theorem exP_ok : exP.ok := by show (Lit.int .i64 1).wf = true; decide
set_option maxHeartbeats 400000 in
theorem exampleP (w : World) :
    Calls Try.prog 10 #[] w fun e w' => e = .returned (.agg (pkC exP)) ∧ Below w.heap.size w w' := by
  go_enter Try.func10, Try.ntmps10
  have hst := pk_store w exP
  go_wp2_with (refine wpList_storeW 27 _ _ rfl rfl _ w.heap.size rfl rfl hst ?_)
  exact bodyPost_ret (v := .agg (pkC exP)) (results_row1 _ 0 27 (by kernel_rfl) _ w.heap.size _ _ _ rfl (heap_alloc_new w _) Try.underlying27 rfl (by kernel_rfl)) rfl ⟨rfl, (Below.refl _ _).alloc (Nat.le_refl _) _⟩
theorem ex_pbytes : pkS exP = ⟨#[0, 1, 8, 0, 6, 4, 0, 1, 2, 0, 0, 0, 0, 1, 10, 0, 0, 1, 0, 0, 0, 0, 0, 0, 10, 0, 0, 2]⟩ := by decide +kernel
theorem ex_perr : pkE exP = 0 := by decide +kernel
theorem ex_pread : rkR ⟨#[0, 1, 8, 0, 6, 4, 0, 1, 2, 0, 0, 0, 0, 1, 10, 0, 0, 1, 0, 0, 0, 0, 0, 0, 10, 0, 0, 2]⟩ = exP := by decide +kernel
theorem ex_prerr : rkE ⟨#[0, 1, 8, 0, 6, 4, 0, 1, 2, 0, 0, 0, 0, 1, 10, 0, 0, 1, 0, 0, 0, 0, 0, 0, 10, 0, 0, 2]⟩ = 0 := by decide +kernel
theorem exBytes (w : World) :
    Calls Try.prog 15 #[.agg (pkC exP)] w fun e w' => e = .returned (.tuple #[.string ⟨#[0, 1, 8, 0, 6, 4, 0, 1, 2, 0, 0, 0, 0, 1, 10, 0, 0, 1, 0, 0, 0, 0, 0, 0, 10, 0, 0, 2]⟩, .int .i64 0]) ∧ Below w.heap.size w w' := by
  have h := aBytes w exP
  rw [ex_pbytes, ex_perr] at h
  exact h
theorem exRead (w : World) :
    Calls Try.prog 19 #[.string ⟨#[0, 1, 8, 0, 6, 4, 0, 1, 2, 0, 0, 0, 0, 1, 10, 0, 0, 1, 0, 0, 0, 0, 0, 0, 10, 0, 0, 2]⟩] w fun e w' => e = .returned (.tuple #[.agg (pkC exP), .int .i64 0]) ∧ Below w.heap.size w w' := by
  have h := aRead w ⟨#[0, 1, 8, 0, 6, 4, 0, 1, 2, 0, 0, 0, 0, 1, 10, 0, 0, 1, 0, 0, 0, 0, 0, 0, 10, 0, 0, 2]⟩ (by decide +kernel)
  rw [ex_pread, ex_prerr] at h
  exact h
theorem eqlEx (w : World) : (Op.equalIn 10000 27 (.agg (pkC exP)) (.agg (pkC exP))).run Try.prog w = .ok true w := by
  have h := eql_pk w exP exP exP_ok exP_ok
  rw [decide_eq_true rfl] at h
  exact h
section
variable {ops : Array Oper} {rest : List Oper} {S : World → Prop} {o : Oper} {a : Act} {w : World} {Q : Exit → Act → World → Prop}
theorem guard_pk : Try.prog.eqGuardType Try.prog.depth 27 = false := by kernel_rfl
theorem guard_ip : Try.prog.eqGuardType Try.prog.depth 25 = false := by kernel_rfl
theorem guard_mac : Try.prog.eqGuardType Try.prog.depth 23 = false := by kernel_rfl
/-- A packet is read whole. -/
theorem yields_pk (hw : Region.wanted o (yielded ops a.tmps) = true) (x : Operand) (ho : o.op = .load 27 x)
    (b : Nat) (hx : a.eval x = .pointer (some ⟨b, 0, none⟩)) (f : Pk) (hS : ∀ w, S w → PkAt w b f) : YieldsIf Try.prog ops S o (.agg (pkC f)) a :=
  .inl ⟨hw, fun w h => exec_load 27 x ho b hx (pkC f) _ (hS w h) Try.underlying27 rfl (by kernel_rfl)⟩
theorem pk_ld (hw : Region.wanted o (yielded ops a.tmps) = true) (x : Operand) (ho : o.op = .load 27 x)
    (b : Nat) (hx : a.eval x = .pointer (some ⟨b, 0, none⟩)) (f : Pk) (hb : PkAt w b f) (h : wpList Try.prog ops Q rest (a.put o.dst (.agg (pkC f))) w) : wpList Try.prog ops Q (o :: rest) a w :=
  wpList_value hw _ (exec_load 27 x ho b hx (pkC f) _ hb Try.underlying27 rfl (by kernel_rfl)) h
/-- Two packets are compared. -/
theorem pk_eq (hw : Region.wanted o (yielded ops a.tmps) = true) (x y : Operand) (t : TypeId) (ho : o.op = .binOp .eql 27 x y t) (f g : Pk) (hx : a.eval x = .agg (pkC f)) (hy : a.eval y = .agg (pkC g))
    (r : Bool) (hr : ∀ w, (Op.equalIn 10000 27 (.agg (pkC f)) (.agg (pkC g))).run Try.prog w = .ok r w) (h : wpList Try.prog ops Q rest (a.put o.dst (.bool r)) w) : wpList Try.prog ops Q (o :: rest) a w :=
  wpList_value hw _ (exec_eql _ _ _ _ ho _ _ hx hy guard_pk r (hr w)) h
theorem pk_eqz (hw : Region.wanted o (yielded ops a.tmps) = true) (x y : Operand) (t : TypeId) (ho : o.op = .binOp .eql 27 x y t) (f : Pk) (hx : a.eval x = .agg (pkC f)) (hy : a.eval y = .agg #[.int .i64 0, .int .u8 0, .int .u8 0, .int .u8 0, .int .u8 0, .int .u8 0, .int .u8 0, .int .u8 0, .int .u8 0, .int .u8 0, .int .u8 0, .int .u8 0, .int .u8 0, .int .u8 0, .int .u8 0, .int .u8 0, .int .u8 0, .int .u8 0, .int .u8 0, .int .u8 0, .int .u8 0])
    (r : Bool) (hr : ∀ w, (Op.equalIn 10000 27 (.agg (pkC f)) (.agg #[.int .i64 0, .int .u8 0, .int .u8 0, .int .u8 0, .int .u8 0, .int .u8 0, .int .u8 0, .int .u8 0, .int .u8 0, .int .u8 0, .int .u8 0, .int .u8 0, .int .u8 0, .int .u8 0, .int .u8 0, .int .u8 0, .int .u8 0, .int .u8 0, .int .u8 0, .int .u8 0, .int .u8 0])).run Try.prog w = .ok r w) (h : wpList Try.prog ops Q rest (a.put o.dst (.bool r)) w) : wpList Try.prog ops Q (o :: rest) a w :=
  wpList_value hw _ (exec_eql _ _ _ _ ho _ _ hx hy guard_pk r (hr w)) h
end

set_option maxRecDepth 100000 in
set_option maxHeartbeats 2000000 in
theorem awakeP (w : World) :
    Calls Try.prog 16 #[] w fun e w' => e = .returned (.bool true) ∧ Below w.heap.size w w' := by
  go_enter Try.func16, Try.ntmps16
  go_wp2_with fail
  refine (exampleP _).mono ?_
  rintro e w1 ⟨rfl, b1⟩
  have B1 := Lib.hid b1
  clear b1
  go_wp2_with fail
  refine (exBytes _).mono ?_
  rintro e w2 ⟨rfl, b2⟩
  have B2 := below_step B1 b2
  clear b2 B1
  go_wp2_with fail
  refine (exRead _).mono ?_
  rintro e w3 ⟨rfl, b3⟩
  have B3 := below_step B2 b3
  clear b3 B2
  have hst := pk_store w3 exP
  go_upto_region 3 with (refine wpList_storeW 27 _ _ rfl rfl _ w3.heap.size rfl rfl hst ?_)
  have PA : Hid (PkAt (w3.alloc (.cells (pkC exP) 27)) w3.heap.size exP) := Lib.hid (PkAt.of_alloc _ _ _ rfl)
  have B4 := below_step B3 ((Below.refl w3.heap.size w3).alloc (Nat.le_refl _) (.cells (pkC exP) 27))
  clear hst B3
  obtain ⟨n, hn⟩ : ∃ n, n = w3.heap.size := ⟨_, rfl⟩
  generalize w3.alloc _ = W4 at PA B4 ⊢
  rw [← hn] at PA ⊢
  clear hn
  refine wp_region_noPanic ?_
  refine region_heldE (S := fun w' => PkAt w' n exP) (by kernel_rfl) (fun V d => (d.block _).trans PA.out) (fun V d hS => ?_)
  have BV := below_step B4 d.below
  clear d
  refine wpAnyH_take (i := 0) (oi := ⟨some 15, Op.move (Operand.tmp 2), _, _, _, none⟩) (v := (.int .i64 0)) rfl (by kernel_rfl) (by kernel_rfl) (by kernel_rfl) (fun _ _ _ h => h) (Or.inl ⟨by rfl, fun w' h' => ?_⟩) hS ?_
  · clear h'
    go_simp
  simp only [Act.put]
  refine wpAnyH_take (i := 1) (oi := ⟨some 16, Op.binOp BinOp.eql 32 (Operand.tmp 15) (Operand.const (Value.int IntKind.i64 0)) 32, _, _, _, none⟩) (v := (.bool true)) rfl (by kernel_rfl) (by kernel_rfl) (by kernel_rfl) (fun _ _ _ h => h) (Or.inl ⟨by rfl, fun w' h' => ?_⟩) hS ?_
  · clear h'
    go_simp
  simp only [Act.put]
  refine wpAnyH_take (i := 2) (oi := ⟨some 17, Op.move (Operand.tmp 16), _, _, _, none⟩) (v := (.bool true)) rfl (by kernel_rfl) (by kernel_rfl) (by kernel_rfl) (fun _ _ _ h => h) (Or.inl ⟨by rfl, fun w' h' => ?_⟩) hS ?_
  · clear h'
    go_simp
  simp only [Act.put]
  refine wpAnyH_take (i := 3) (oi := ⟨some 18, Op.move (Operand.tmp 4), _, _, _, some (2, true)⟩) (v := (.int .i64 0)) rfl (by kernel_rfl) (by kernel_rfl) (by kernel_rfl) (fun _ _ _ h => h) (Or.inl ⟨by kernel_rfl, fun w' h' => ?_⟩) hS ?_
  · clear h'
    go_simp
  simp only [Act.put]
  refine wpAnyH_take (i := 4) (oi := ⟨some 19, Op.binOp BinOp.eql 32 (Operand.tmp 18) (Operand.const (Value.int IntKind.i64 0)) 32, _, _, _, some (2, true)⟩) (v := (.bool true)) rfl (by kernel_rfl) (by kernel_rfl) (by kernel_rfl) (fun _ _ _ h => h) (Or.inl ⟨by kernel_rfl, fun w' h' => ?_⟩) hS ?_
  · clear h'
    go_simp
  simp only [Act.put]
  refine wpAnyH_take (i := 5) (oi := ⟨some 20, Op.pick (Operand.tmp 17) (Operand.tmp 19) (Operand.const (Value.bool false)), _, _, _, none⟩) (v := (.bool true)) rfl (by kernel_rfl) (by kernel_rfl) (by kernel_rfl) (fun _ _ _ h => h) (Or.inl ⟨by rfl, fun w' h' => ?_⟩) hS ?_
  · clear h'
    go_simp
  simp only [Act.put]
  refine wpAnyH_take (i := 6) (oi := ⟨some 21, Op.move (Operand.tmp 20), _, _, _, none⟩) (v := (.bool true)) rfl (by kernel_rfl) (by kernel_rfl) (by kernel_rfl) (fun _ _ _ h => h) (Or.inl ⟨by rfl, fun w' h' => ?_⟩) hS ?_
  · clear h'
    go_simp
  simp only [Act.put]
  refine wpAnyH_take (i := 7) (oi := ⟨some 22, Op.load 27 (Operand.tmp 3), _, _, _, some (6, true)⟩) (v := (.agg (pkC exP))) rfl (by kernel_rfl) (by kernel_rfl) (by kernel_rfl) (fun _ _ _ h => h) (yields_pk (by kernel_rfl) _ rfl n rfl exP (fun _ h => h)) hS ?_
  simp only [Act.put]
  refine wpAnyH_ready (rs := [8]) (by kernel_rfl) (by simp) ?_
  refine AllReadyH.cons rfl (fun K hK => ?_) AllReadyH.nil
  go_simp
  refine (exampleP V).mono ?_
  rintro e w5 ⟨rfl, b5⟩
  have S5 : PkAt w5 n exP := hS.grow b5
  have B6 := below_step BV b5
  clear b5 BV
  go_simp
  refine hK.out _ _ S5 (fun _ => ?_)
  clear hK K
  refine wpAnyH_take (i := 9) (oi := ⟨some 24, Op.binOp BinOp.eql 27 (Operand.tmp 22) (Operand.tmp 23) 27, _, _, _, some (6, true)⟩) (v := (.bool true)) rfl (by kernel_rfl) (by kernel_rfl) (by kernel_rfl) (fun _ _ _ h => h) (yields_eql (by kernel_rfl) 27 _ _ _ rfl _ _ rfl rfl guard_pk true (fun w => eqlEx w)) S5 ?_
  simp only [Act.put]
  refine wpAnyH_take (i := 10) (oi := ⟨some 25, Op.pick (Operand.tmp 21) (Operand.tmp 24) (Operand.const (Value.bool false)), _, _, _, none⟩) (v := (.bool true)) rfl (by kernel_rfl) (by kernel_rfl) (by kernel_rfl) (fun _ _ _ h => h) (Or.inl ⟨by rfl, fun w' h' => ?_⟩) S5 ?_
  · clear h'
    go_simp
  simp only [Act.put]
  refine wpAnyH_take (i := 11) (oi := ⟨some 26, Op.move (Operand.tmp 25), _, _, _, none⟩) (v := (.bool true)) rfl (by kernel_rfl) (by kernel_rfl) (by kernel_rfl) (fun _ _ _ h => h) (Or.inl ⟨by rfl, fun w' h' => ?_⟩) S5 ?_
  · clear h'
    go_simp
  simp only [Act.put]
  refine wpAnyH_take (i := 12) (oi := ⟨some 27, Op.move (Operand.tmp 1), _, _, _, some (11, true)⟩) (v := (.string ⟨#[0, 1, 8, 0, 6, 4, 0, 1, 2, 0, 0, 0, 0, 1, 10, 0, 0, 1, 0, 0, 0, 0, 0, 0, 10, 0, 0, 2]⟩)) rfl (by kernel_rfl) (by kernel_rfl) (by kernel_rfl) (fun _ _ _ h => h) (Or.inl ⟨by kernel_rfl, fun w' h' => ?_⟩) S5 ?_
  · clear h'
    go_simp
  simp only [Act.put]
  refine wpAnyH_take (i := 13) (oi := ⟨some 28, Op.binOp BinOp.eql 9 (Operand.tmp 27) (Operand.const (Value.string { data := #[0, 1, 8, 0, 6, 4, 0, 1, 2, 0, 0, 0, 0, 1, 10, 0, 0, 1, 0, 0, 0, 0, 0, 0, 10, 0, 0, 2] })) 9, _, _, _, some (11, true)⟩) (v := (.bool true)) rfl (by kernel_rfl) (by kernel_rfl) (by kernel_rfl) (fun _ _ _ h => h) (Or.inl ⟨by kernel_rfl, fun w' h' => ?_⟩) S5 ?_
  · clear h'
    go_simp
  simp only [Act.put]
  refine wpAnyH_take (i := 14) (oi := ⟨some 29, Op.pick (Operand.tmp 26) (Operand.tmp 28) (Operand.const (Value.bool false)), _, _, _, none⟩) (v := (.bool true)) rfl (by kernel_rfl) (by kernel_rfl) (by kernel_rfl) (fun _ _ _ h => h) (Or.inl ⟨by rfl, fun w' h' => ?_⟩) S5 ?_
  · clear h'
    go_simp
  simp only [Act.put]
  refine wpAnyH_take (i := 15) (oi := ⟨some 0, Op.assign (Operand.tmp 29), _, _, _, none⟩) (v := (.bool true)) rfl (by kernel_rfl) (by kernel_rfl) (by kernel_rfl) (fun _ _ _ h => h) (Or.inl ⟨by rfl, fun w' h' => ?_⟩) S5 ?_
  · clear h'
    go_simp
  simp only [Act.put]
  refine wpAnyH_done (by kernel_rfl) (NoPanic.normal ?_) _
  simp only [List.setIfInBounds_toArray, List.set_cons_zero, List.set_cons_succ]
  go_wp2
  go_ret
  exact ⟨rfl, B6.out⟩

end Go.Proofs.Ytolegdjdppaeoaa
