/-
  Layer 2, the document's own port: Done. Conditions: the memory has at most 5000 bytes, the base is at most 5000, a queue has at most 64 entries.
-/
import Derived.Test.YtjelgifijhcnnaaPort
import Derived.Deep.RegionHeld
import Derived.BigQuiet
import Derived.Lib.Hide
import Derived.BigRegion
import Derived.Deep.CutBlock
import Derived.Deep.CutRange
import Derived.Deep.QuietTactic
import Derived.Laws.CopyOwn
import Derived.Deep.RegionHeld3
import Derived.StillTailTactics
namespace Go.Proofs.Ytjelgifijhcnnaa
open Go.RowKit Go.Sort
set_option linter.unusedVariables false

def EDr2 (w w' : World) : Prop := w' = w.drew
theorem EDr2.below {w w' : World} (d : EDr2 w w') : Below w.heap.size w w' := by subst d; exact (Below.refl _ _).drew
theorem region_heldE2 {P : Program} {id : Nat} {ops : Array Oper} {Q : Exit → Act → World → Prop} {S : World → Prop} {a : Act} {w : World} (hm : P.follows .mixedOrders = true) (hS : ∀ w', EDr2 w w' → S w')
    (h : ∀ w', EDr2 w w' → S w' → wpAnyH P .any ops Q S ops.size (Array.replicate ops.size false) a w') : (Code.region id ops true).wp P Q a w :=
  wp_region_held hm (h _ rfl (hS _ rfl))
theorem upn_store_at {P : Program} {o : Oper} {a : Act} {w w' : World} {K : Act → World → Prop} {Q : Exit → Act → World → Prop} (t : TypeId) (p x : Operand) (ho : o.op = .store t p x) (hd : o.dst = none) (v : Value) (g i : Nat) (hp : a.eval p = .pointer (some ⟨g, i, none⟩)) (hx : a.eval x = v)
    (hr : (storeVar t ⟨g, i, none⟩ v).run P w = .ok () w') (h : K a w') : o.wp P a w K Q := by
  unfold Oper.wp execOp
  simp only [ho, hp, hx, Instr.storeAt, Instr.sureAddr, Sem.run_bind, Sem.run_pure, Result.andThen_ok, hr]
  show K (a.put o.dst undef) w'
  rw [hd]
  exact h
theorem wpl_store_at {P : Program} {ops : Array Oper} {rest : List Oper} {o : Oper} {a : Act} {w w' : World} {Q : Exit → Act → World → Prop} (t : TypeId) (p x : Operand) (hgd : o.guard = none) (ho : o.op = .store t p x) (hd : o.dst = none) (v : Value) (g i : Nat) (hp : a.eval p = .pointer (some ⟨g, i, none⟩)) (hx : a.eval x = v)
    (hr : (storeVar t ⟨g, i, none⟩ v).run P w = .ok () w') (h : wpList P ops Q rest a w') : wpList P ops Q (o :: rest) a w :=
  wpList_plain hgd fun _ hK => upn_store_at t p x ho hd v g i hp hx hr (hK _ _ h)
theorem rdy_store_at {P : Program} {ops : Array Oper} {Q : Exit → Act → World → Prop} {md : Region.Mode} {S : World → Prop} {fuel : Nat} {listed : Array Bool} {a : Act} {w w' : World} {n : Nat} {o : Oper} (ho : ops[n]? = some o) (hgd : o.guard = none) (t : TypeId) (p x : Operand) (hop : o.op = .store t p x) (hd : o.dst = none) (v : Value) (g i : Nat) (hp : a.eval p = .pointer (some ⟨g, i, none⟩)) (hx : a.eval x = v)
    (hr : (storeVar t ⟨g, i, none⟩ v).run P w = .ok () w') (hS : S w') (h : wpAnyH P md ops Q S fuel (listed.setIfInBounds n true) a w') : AllReadyH P md ops Q S fuel listed a w [n] :=
  AllReadyH.cons ho (fun K hK => by
    have hw : Region.wanted o (yielded ops a.tmps) = true := by simp [Region.wanted, hgd]
    rw [if_pos hw]
    exact upn_store_at t p x hop hd v g i hp hx hr (hK.out _ _ hS (fun _ => h))) AllReadyH.nil

theorem below_grown {w w' : World} (h : w.grownBy w' none) : Below w.heap.size w w' := ⟨h.os, h.tape, h.output, h.size, fun k hk => h.block k hk (by simp)⟩
/-- A port of the document's in a block. -/
def PoAt (w : World) (k : Nat) (a b c d : Int) : Prop := w.heap[k]? = some (.cells #[.int .i64 a, .int .i64 b, .int .i64 c, .int .i64 d] 42 (0, 0))
section
variable {w w' : World} {k : Nat} {a b c d : Int}
theorem PoAt.grow (h : PoAt w k a b c d) (x : Below w.heap.size w w') : PoAt w' k a b c d := (x.block k (lt_of_block h)).trans h
theorem po_all (h : PoAt w k a b c d) : w.cell? ⟨k, 0, none⟩ = some (.int .i64 a) ∧ w.cell? ⟨k, 1, none⟩ = some (.int .i64 b) ∧ w.cell? ⟨k, 2, none⟩ = some (.int .i64 c) ∧ w.cell? ⟨k, 3, none⟩ = some (.int .i64 d) :=
  ⟨by rw [cell_of_block h]; rfl, by rw [cell_of_block h]; rfl, by rw [cell_of_block h]; rfl, by rw [cell_of_block h]; rfl⟩
theorem po_free (h : PoAt w k a b c d) (i : Nat) : w.frozen? ⟨k, i, none⟩ = false := by simp [World.frozen?, show w.heap[k]? = _ from h]
end
def DnS (w : World) (n1 n2 : Nat) (base n taken T : Int) (V : World) : Prop := PoAt V n1 base n taken T ∧ (∃ x y z u, PoAt V n2 x y z u) ∧ Below w.heap.size w V
theorem DnS.grow {w V V' : World} {n1 n2 : Nat} {base n taken T : Int} (h : DnS w n1 n2 base n taken T V) (b : Below V.heap.size V V') : DnS w n1 n2 base n taken T V' := by
  obtain ⟨h1, ⟨x, y, z, u, h2⟩, h3⟩ := h
  exact ⟨h1.grow b, ⟨x, y, z, u, h2.grow b⟩, h3.trans (b.mono h3.size)⟩

theorem results_row2 {P : Program} (fn : Func) (a u : Nat) (t : TypeId) (hf : fn.results = #[.cell a t, .tmp u]) (tm : Array Value) (n : Nat) (cs : Array Value) (v : Value) (d : TypeDesc) (w : World)
    (ha : tm[a]?.getD undef = .pointer (some ⟨n, 0, none⟩)) (hu : tm[u]?.getD undef = v) (hb : w.heap[n]? = some (.cells cs t (0, 0))) (hd : P.underlying t = some d) (hr : (match d with | .struct _ | .array _ _ => true | _ => false) = true) (hi : (P.info? t).map (·.size) = some cs.size) :
    (results fn tm).run P w = .ok (.tuple #[.agg cs, v]) w := by
  have hl := run_loadVar_row (P := P) w n t t cs (0, 0) d hb hd hr hi
  unfold results
  rw [hf]
  simp [ha, hu, asAddr, hl]

/-- The memory behind the document's Done. -/
def doneL (l : List UInt8) (base n told head len : Int) : List UInt8 :=
  putL (putL (putL l (base + usedAt n + 4 + 8 * (told % n)) 4 head) (base + usedAt n + 8 + 8 * (told % n)) 4 len) (base + usedAt n + 2) 2 ((told + 1) % 65536)

set_option maxRecDepth 100000 in
set_option maxHeartbeats 4000000 in
theorem rDone_any (base n taken told head len : Int) (l : List UInt8) (w : World) (hl : l.length ≤ 5000) (hb0 : 0 ≤ base) (hb1 : base ≤ 5000) (hn1 : 1 ≤ n) (hn2 : n ≤ 64) (ht0 : 0 ≤ told) (ht1 : told ≤ 65535) (hh0 : 0 ≤ head) (hh1 : head ≤ 4294967295) (hk0 : 0 ≤ len) (hk1 : len ≤ 4294967295) :
    Calls Try.prog 43 #[.agg #[.int .i64 base, .int .i64 n, .int .i64 taken, .int .i64 told], .string ⟨l.toArray⟩, .int .u32 head, .int .u32 len] w
      fun e w' => e = .returned (.tuple #[.agg #[.int .i64 base, .int .i64 n, .int .i64 taken, .int .i64 ((told + 1) % 65536)], .string ⟨(doneL l base n told head len).toArray⟩]) ∧ Below w.heap.size w w' := by
  obtain ⟨u0, u1⟩ := usedAt_bd hn1 hn2
  have hr0 : 0 ≤ told % n := Int.emod_nonneg _ (by omega)
  have hr1 : told % n < n := Int.emod_lt_of_pos _ (by omega)
  obtain ⟨r, hr⟩ : ∃ r, told % n = r := ⟨_, rfl⟩
  rw [hr] at hr0 hr1
  obtain ⟨T, hT⟩ : ∃ T, T = (told + 1) % 65536 := ⟨_, rfl⟩
  obtain ⟨L1, hL1⟩ : ∃ L, L = putL l (base + usedAt n + 4 + 8 * r) 4 head := ⟨_, rfl⟩
  obtain ⟨L2, hL2⟩ : ∃ L, L = putL L1 (base + usedAt n + 8 + 8 * r) 4 len := ⟨_, rfl⟩
  have hD : Hid (doneL l base n told head len = putL L2 (base + usedAt n + 2) 2 T ∧ (told + 1) % 65536 = T) := Lib.hid ⟨by unfold doneL; rw [hr, ← hL1, ← hL2, ← hT], hT.symm⟩
  have z1 : L1.length ≤ 5000 := by rw [hL1, putL_length]; exact hl
  have z2 : L2.length ≤ 5000 := by rw [hL2, putL_length]; exact z1
  have t0 : 0 ≤ T := by omega
  have t1 : T ≤ 65535 := by omega
  have HR := Lib.hid hr
  have HT := Lib.hid hT
  have H1 := Lib.hid hL1
  have H2 := Lib.hid hL2
  have q1 : IntKind.i64.wrap (base + usedAt n) = base + usedAt n := IntWalk.i64_in _ (by omega)
  have q5 : IntKind.i64.wrap (base + usedAt n + 2) = base + usedAt n + 2 := IntWalk.i64_in _ (by omega)
  have S0 : Hid (DnS w w.heap.size (w.heap.size + 1) base n taken told ((w.alloc (.cells #[.int .i64 base, .int .i64 n, .int .i64 taken, .int .i64 told] 42)).alloc (.cells #[.int .i64 0, .int .i64 0, .int .i64 0, .int .i64 0] 42))) := Lib.hid
    ⟨(((Below.refl _ _).alloc (Nat.le_refl _) _).block w.heap.size (by simp)).trans (heap_alloc_new w _), ⟨0, 0, 0, 0, by
      have e := heap_alloc_new (w.alloc (.cells #[.int .i64 base, .int .i64 n, .int .i64 taken, .int .i64 told] 42)) (.cells #[.int .i64 0, .int .i64 0, .int .i64 0, .int .i64 0] 42)
      simpa [PoAt] using e⟩, ((Below.refl _ _).alloc (Nat.le_refl _) _).alloc (by simp) _⟩
  clear hr hT hL1 hL2
  go_enter Try.func43, Try.ntmps43
  go_upto_region 1 with fail
  generalize (w.alloc _).alloc _ = W1 at S0 ⊢
  obtain ⟨m2, hm⟩ : ∃ m, m = w.heap.size + 1 := ⟨_, rfl⟩
  rw [← hm] at S0 ⊢
  have hn2' : w.heap.size ≤ m2 := by omega
  have hn12 : w.heap.size ≠ m2 := by omega
  clear hm
  obtain ⟨m1, hm⟩ : ∃ m, m = w.heap.size := ⟨_, rfl⟩
  have hm1 : w.heap.size ≤ m1 := by omega
  rw [← hm] at hn12
  have S0' : Hid (DnS w m1 m2 base n taken told W1) := Lib.hid (by rw [hm]; exact S0.out)
  rw [← hm]
  clear hm S0
  obtain ⟨c0, c1, c2, c3⟩ := po_all S0'.out.1
  go_quiet ((go_at_call 70; exact Calls.quiet_of_same ((used_any _ _ hn1 hn2).mono fun _ _ h => ⟨h.1, h.2.symm⟩)))
  have S1 : Hid (DnS w m1 m2 base n taken told (W1.drewN nq)) := Lib.hid (S0'.out.grow (below_drewN (Below.refl _ _) _))
  generalize W1.drewN nq = W2 at S1 ⊢
  clear c0 c1 c2 c3 S0'
  obtain ⟨c0, c1, c2, c3⟩ := po_all S1.out.1
  have hr := HR.out
  go_wp2_with fail
  refine (rput_any _ l _ 4 head hl hh0 (by omega)).mono ?_
  rintro e w1 ⟨rfl, k1⟩
  rw [← H1.out]
  have S2 := Lib.hid (S1.out.grow (below_grown k1))
  clear k1 S1 c0 c1 c2 c3
  obtain ⟨c0, c1, c2, c3⟩ := po_all S2.out.1
  go_wp2_with fail
  refine (rput_any _ L1 _ 4 len z1 hk0 (by omega)).mono ?_
  rintro e w2 ⟨rfl, k2⟩
  rw [← H2.out]
  have S3 := Lib.hid (S2.out.grow (below_grown k2))
  clear k2 S2 c0 c1 c2 c3
  obtain ⟨c0, c1, c2, c3⟩ := po_all S3.out.1
  have f3 := po_free S3.out.1 3
  clear hr
  have hT := HT.out
  go_upto_region 5 with fail
  first | rw [← hT] | skip
  have hSS : Hid (DnS w m1 m2 base n taken T (w2.setCell ⟨m1, 3, none⟩ (.int .i64 T))) := Lib.hid (by
    obtain ⟨h1, ⟨x, y, z, u, h2⟩, h3⟩ := S3.out
    exact ⟨set_block h1 3 _, ⟨x, y, z, u, (Below.heap_setCell _ _ _ _ (Ne.symm hn12)).trans h2⟩, h3.setCell hm1 _⟩)
  generalize w2.setCell _ _ = W5 at hSS ⊢
  clear c0 c1 c2 c3 f3 hT S3
  obtain ⟨n1, e1⟩ : ∃ n1, n1 = m1 := ⟨_, rfl⟩
  rw [← e1] at hn12 hSS ⊢
  obtain ⟨n2, e2⟩ : ∃ n2, n2 = m2 := ⟨_, rfl⟩
  rw [← e2] at hn12 hSS ⊢
  have hn2 : w.heap.size ≤ n2 := by omega
  clear e1 e2
  refine wp_region_noPanic ?_
  refine region_heldE2 (S := DnS w n1 n2 base n taken T) (by kernel_rfl) (fun V d => DnS.grow hSS.out d.below) (fun V d hS => ?_)
  refine wpAnyH_take (i := 0) (oi := ⟨some 48, Op.load 42 (Operand.tmp 4), _, _, _, none⟩) (v := (.agg #[.int .i64 base, .int .i64 n, .int .i64 taken, .int .i64 T])) rfl (by kernel_rfl) (by kernel_rfl) (by kernel_rfl) (fun _ _ _ h => h) (Or.inl ⟨by rfl, fun w' h' => ?_⟩) hS ?_
  · have c0 := (po_all h'.1).1
    have c1 := (po_all h'.1).2.1
    have c2 := (po_all h'.1).2.2.1
    have c3 := (po_all h'.1).2.2.2
    clear h'
    go_simp
  simp only [Act.put]
  refine wpAnyH_take (i := 1) (oi := ⟨some 49, Op.move (Operand.tmp 1), _, _, _, none⟩) (v := (.string ⟨L2.toArray⟩)) rfl (by kernel_rfl) (by kernel_rfl) (by kernel_rfl) (fun _ _ _ h => h) (Or.inl ⟨by rfl, fun w' h' => ?_⟩) hS ?_
  · clear h'
    go_simp
  simp only [Act.put]
  refine wpAnyH_take (i := 2) (oi := ⟨some 50, Op.move (Operand.tmp 10), _, _, _, none⟩) (v := (.int .i64 (base + usedAt n))) rfl (by kernel_rfl) (by kernel_rfl) (by kernel_rfl) (fun _ _ _ h => h) (Or.inl ⟨by rfl, fun w' h' => ?_⟩) hS ?_
  · clear h'
    go_simp
  simp only [Act.put]
  refine wpAnyH_take (i := 3) (oi := ⟨some 51, Op.binOp BinOp.add 3 (Operand.tmp 50) (Operand.const (Value.int IntKind.i64 2)) 3, _, _, _, none⟩) (v := (.int .i64 (base + usedAt n + 2))) rfl (by kernel_rfl) (by kernel_rfl) (by kernel_rfl) (fun _ _ _ h => h) (Or.inl ⟨by rfl, fun w' h' => ?_⟩) hS ?_
  · have c0 := q5
    clear h'
    go_simp
  simp only [Act.put]
  refine wpAnyH_take (i := 4) (oi := ⟨some 52, Op.fieldAddr 42 (Operand.tmp 4) 3, _, _, _, none⟩) (v := (.pointer (some ⟨n1, 3, none⟩))) rfl (by kernel_rfl) (by kernel_rfl) (by kernel_rfl) (fun _ _ _ h => h) (Or.inl ⟨by rfl, fun w' h' => ?_⟩) hS ?_
  · clear h'
    go_simp
  simp only [Act.put]
  refine wpAnyH_take (i := 5) (oi := ⟨some 53, Op.load 3 (Operand.tmp 52), _, _, _, none⟩) (v := (.int .i64 T)) rfl (by kernel_rfl) (by kernel_rfl) (by kernel_rfl) (fun _ _ _ h => h) (Or.inl ⟨by rfl, fun w' h' => ?_⟩) hS ?_
  · have c0 := (po_all h'.1).2.2.2
    clear h'
    go_simp
  simp only [Act.put]
  refine wpAnyH_ready (rs := [6]) (by kernel_rfl) (by simp) ?_
  refine AllReadyH.cons rfl (fun K hK => ?_) AllReadyH.nil
  go_simp
  refine (rput_any _ L2 (base + usedAt n + 2) 2 T z2 t0 (by omega)).mono ?_
  rintro e w6 ⟨rfl, k6⟩
  have S6 := DnS.grow hS (below_grown k6)
  go_simp
  refine hK.out _ _ S6 (fun _ => ?_)
  clear hK K
  obtain ⟨a1, a2, a3, a4, hp2⟩ := S6.2.1
  have hst := run_storeVar_row (P := Try.prog) w6 n2 42 42 _ #[.int .i64 base, .int .i64 n, .int .i64 taken, .int .i64 T] hp2 (by kernel_rfl) rfl (by simp [Value.oneCell'])
  have S7 : DnS w n1 n2 base n taken T (w6.setRow n2 #[.int .i64 base, .int .i64 n, .int .i64 taken, .int .i64 T]) := ⟨(setRow_other _ _ _ _ hn12).trans S6.1, ⟨_, _, _, _, setRow_heap _ _ _ _ _ _ hp2⟩, below_setRow S6.2.2 hn2 _⟩
  have P7 := Lib.hid (setRow_heap w6 n2 _ #[.int .i64 base, .int .i64 n, .int .i64 taken, .int .i64 T] _ _ hp2)
  refine wpAnyH_ready (rs := [7]) (by kernel_rfl) (by simp) ?_
  refine rdy_store_at (n := 7) rfl rfl 42 (Operand.tmp 8) (Operand.tmp 48) rfl rfl (.agg #[.int .i64 base, .int .i64 n, .int .i64 taken, .int .i64 T]) n2 0 (by kernel_rfl) (by kernel_rfl) hst S7 ?_
  refine wpAnyH_take (i := 8) (oi := ⟨some 9, Op.assign (Operand.tmp 54), _, _, _, none⟩) (v := (.string ⟨(putL L2 (base + usedAt n + 2) 2 T).toArray⟩)) rfl (by kernel_rfl) (by kernel_rfl) (by kernel_rfl) (fun _ _ _ h => h) (Or.inl ⟨by rfl, fun w' h' => ?_⟩) S7 ?_
  · clear h'
    go_simp
  simp only [Act.put]
  refine wpAnyH_done (by kernel_rfl) (NoPanic.normal ?_) _
  try simp only [List.setIfInBounds_toArray, List.set_cons_zero, List.set_cons_succ]
  go_wp2_with fail
  rw [hD.out.1, hD.out.2]
  exact bodyPost_ret (v := .tuple #[.agg #[.int .i64 base, .int .i64 n, .int .i64 taken, .int .i64 T], .string ⟨(putL L2 (base + usedAt n + 2) 2 T).toArray⟩]) (results_row2 _ 8 9 42 (by kernel_rfl) _ n2 _ _ _ _ rfl rfl P7.out Try.underlying42 rfl (by kernel_rfl)) rfl ⟨rfl, S7.2.2⟩

end Go.Proofs.Ytjelgifijhcnnaa
