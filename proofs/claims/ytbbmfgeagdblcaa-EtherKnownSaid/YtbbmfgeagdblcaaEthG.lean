/-
  Layer 6: the document's own reading of bytes as a frame. Conditions: none.
-/
import Derived.Test.YtbbmfgeagdblcaaEthF
import Derived.StillTailTactics
namespace Go.Proofs.Ytbbmfgeagdblcaa
open Go.RowKit Go.Sort
set_option linter.unusedVariables false

theorem upon_store0 {P : Program} {o : Oper} {a : Act} {w w' : World} {K : Act → World → Prop} {Q : Exit → Act → World → Prop} (t : TypeId) (p x : Operand) (ho : o.op = .store t p x) (hd : o.dst = none) (v : Value) (g : Nat) (hp : a.eval p = .pointer (some ⟨g, 0, none⟩)) (hx : a.eval x = v)
    (hr : (storeVar t ⟨g, 0, none⟩ v).run P w = .ok () w') (h : K a w') : o.wp P a w K Q :=
  upon_store t p x ho v g hp hx hr (by rw [hd]; exact h)
theorem FrRoom.there {w : World} {n : Nat} (h : FrRoom w n) (k : Nat) (hk : k < 14) : ∃ u, w.cell? ⟨n, k, none⟩ = some u ∧ w.frozen? ⟨n, k, none⟩ = false := by
  obtain ⟨cs, h0, h⟩ := h
  exact ⟨cs[k]'(by omega), by rw [cell_of_block h]; exact Array.getElem?_eq_getElem (by omega), by simp [World.frozen?, h]⟩
theorem mac_byte (s : ByteArray) (b k : Nat) (hk : k < 6) (h : b + k < s.size) (T : Mac6) (hT : T = macAt s.data.toList b) : T.list[k]? = some s[b + k] := by
  have hL : s.data.toList[b + k]? = some s[b + k] := by
    rw [Array.getElem?_toList]
    exact Array.getElem?_eq_getElem h
  have hg : s.data.toList.getD (b + k) 0 = s[b + k] := by rw [List.getD_eq_getElem?_getD, hL]; rfl
  rw [← hg, hT]
  rcases k with _ | _ | _ | _ | _ | _ | k <;> first | omega | rfl
theorem byte_zero {s : ByteArray} {k : Nat} {T : Mac6} {h0 : 0 + k < s.size} (h : T.list[k]? = some s[0 + k]) (h1 : k < s.size) : T.list[k]? = some s[k] := by
  rw [h]
  congr 1
  congr 1
  omega
theorem far {n k : Nat} (h : k < n) : ¬ (n : Int) ≤ (k : Int) := by omega
theorem wpList_storeW {P : Program} {ops : Array Oper} {rest : List Oper} {o : Oper} {a : Act} {w w' : World} {Q : Exit → Act → World → Prop} (t : TypeId) (p x : Operand) (hgd : o.guard = none) (ho : o.op = .store t p x) (v : Value) (g : Nat) (hp : a.eval p = .pointer (some ⟨g, 0, none⟩)) (hx : a.eval x = v)
    (hr : (storeVar t ⟨g, 0, none⟩ v).run P w = .ok () w') (h : wpList P ops Q rest (a.put o.dst undef) w') : wpList P ops Q (o :: rest) a w :=
  wpList_plain hgd fun _ hK => upon_store t p x ho v g hp hx hr (hK _ _ h)

/-- An address of which the first bytes are there. -/
def part6 (T : Mac6) (k : Nat) : Mac6 := ⟨if 0 < k then T.a else 0, if 1 < k then T.b else 0, if 2 < k then T.c else 0, if 3 < k then T.d else 0, if 4 < k then T.e else 0, if 5 < k then T.f else 0⟩
theorem part_full (T : Mac6) : part6 T 6 = T := rfl
theorem set_cells {w : World} {b i : Nat} {cs : Array Value} {t : TypeId} (h : w.heap[b]? = some (.cells cs t (0, 0))) (v : Value) (hi : i < cs.size) : (w.setCell ⟨b, i, none⟩ v).heap[b]? = some (.cells (cs.setIfInBounds i v) t (0, 0)) := by
  simp [World.setCell, Array.getElem?_modify, h]
theorem FrAt.fill {w : World} {n : Nat} {T G : Mac6} {y : Int} {d : ByteArray} {k : Nat} (hk : k < 6) (h : FrAt w n ⟨part6 T k, part6 G k, y, d⟩) (X Y : UInt8) (hX : T.list[k]? = some X) (hY : G.list[k]? = some Y) :
    FrAt ((w.setCell ⟨n, k, none⟩ (.int .u8 (X.toNat : Int))).setCell ⟨n, 6 + k, none⟩ (.int .u8 (Y.toNat : Int))) n ⟨part6 T (k + 1), part6 G (k + 1), y, d⟩ := by
  have h1 := set_cells h (.int .u8 (X.toNat : Int)) (i := k) (by show k < 14; omega)
  have h2 := set_cells h1 (.int .u8 (Y.toNat : Int)) (i := 6 + k) (by rw [Array.size_setIfInBounds]; show 6 + k < 14; omega)
  unfold FrAt
  rw [h2]
  rcases k with _ | _ | _ | _ | _ | _ | k <;> first | omega | (simp only [Mac6.list, List.getElem?_cons_zero, List.getElem?_cons_succ, Option.some.injEq] at hX hY; subst hX; subst hY; rfl)

theorem wrap_b (X : Nat) (h : X < 256) : IntKind.i64.wrap (X : Int) = (X : Int) := IntWalk.i64_in _ (by omega)
theorem wrap_b2 (X : Nat) (h : X < 256) : IntKind.i64.wrap ((X : Int) * 256) = (X : Int) * 256 := IntWalk.i64_in _ (by omega)
theorem wrap_b3 (X Y : Nat) (h : X < 256) (h' : Y < 256) : IntKind.i64.wrap ((X : Int) * 256 + (Y : Int)) = (X : Int) * 256 + (Y : Int) := IntWalk.i64_in _ (by omega)
theorem byte_at (s : ByteArray) (k : Nat) (h : k < s.size) : ∃ X : Nat, X < 256 ∧ Hid (s[k].toNat = X) ∧ s.data.toList[k]? = some (UInt8.ofNat X) := by
  refine ⟨s[k].toNat, s[k].toNat_lt, Lib.hid rfl, ?_⟩
  rw [UInt8.ofNat_toNat, Array.getElem?_toList]
  exact Array.getElem?_eq_getElem h

theorem num_cut (s : ByteArray) (X Y : Nat) (hX : X < 256) (hY : Y < 256) (h : 14 ≤ s.size) (h1 : s.data.toList[12]? = some (UInt8.ofNat X)) (h2 : s.data.toList[13]? = some (UInt8.ofNat Y)) : ((num (cutS s 12 2).reverse : Nat) : Int) = (X : Int) * 256 + (Y : Int) := by
  have hc : cutS s 12 2 = [UInt8.ofNat X, UInt8.ofNat Y] := by
    unfold cutS okR
    rw [if_pos (decide_eq_true (by omega))]
    apply List.ext_getElem?
    intro i
    rw [List.getElem?_take, List.getElem?_drop]
    rcases i with _ | _ | i
    · simpa using h1
    · simpa using h2
    · simp; omega
  rw [hc]
  simp only [List.reverse_cons, List.reverse_nil, List.nil_append, List.cons_append, num, UInt8.toNat_ofNat']
  omega

set_option maxRecDepth 100000 in
set_option maxHeartbeats 1000000 in
theorem refRead_short (w : World) (s : ByteArray) (h : s.size < 14) :
    Calls Try.prog 31 #[.string s] w fun e w' => e = .returned (.tuple #[.agg #[.int .u8 0, .int .u8 0, .int .u8 0, .int .u8 0, .int .u8 0, .int .u8 0, .int .u8 0, .int .u8 0, .int .u8 0, .int .u8 0, .int .u8 0, .int .u8 0, .int .i64 0, .string ⟨#[]⟩], .int .i64 7]) ∧ Below w.heap.size w w' := by
  go_enter Try.func31, Try.ntmps31
  go_wp2
  exact bodyPost_ret (v := .tuple #[.agg #[.int .u8 0, .int .u8 0, .int .u8 0, .int .u8 0, .int .u8 0, .int .u8 0, .int .u8 0, .int .u8 0, .int .u8 0, .int .u8 0, .int .u8 0, .int .u8 0, .int .i64 0, .string ⟨#[]⟩], .int .i64 7]) (by simp [results, Try.results31, go_sem]) rfl ⟨rfl, (Below.refl _ _).alloc (Nat.le_refl _) _⟩
set_option maxRecDepth 100000 in
set_option maxHeartbeats 1000000 in
theorem refRead_long (w : World) (s : ByteArray) (h : 600 < s.size) :
    Calls Try.prog 31 #[.string s] w fun e w' => e = .returned (.tuple #[.agg #[.int .u8 0, .int .u8 0, .int .u8 0, .int .u8 0, .int .u8 0, .int .u8 0, .int .u8 0, .int .u8 0, .int .u8 0, .int .u8 0, .int .u8 0, .int .u8 0, .int .i64 0, .string ⟨#[]⟩], .int .i64 3]) ∧ Below w.heap.size w w' := by
  have h2 : ¬ s.size < 14 := by omega
  go_enter Try.func31, Try.ntmps31
  go_wp2
  exact bodyPost_ret (v := .tuple #[.agg #[.int .u8 0, .int .u8 0, .int .u8 0, .int .u8 0, .int .u8 0, .int .u8 0, .int .u8 0, .int .u8 0, .int .u8 0, .int .u8 0, .int .u8 0, .int .u8 0, .int .i64 0, .string ⟨#[]⟩], .int .i64 3]) (by simp [results, Try.results31, go_sem]) rfl ⟨rfl, (Below.refl _ _).alloc (Nat.le_refl _) _⟩

set_option maxRecDepth 100000 in
set_option maxHeartbeats 2000000 in
theorem refRead_yes (w : World) (s : ByteArray) (h1 : 14 ≤ s.size) (h2 : s.size ≤ 600) (R : Fr) (hR : R = rdF s) :
    Calls Try.prog 31 #[.string s] w fun e w' => e = .returned (.tuple #[.agg #[.int .u8 (R.to.a.toNat : Int), .int .u8 (R.to.b.toNat : Int), .int .u8 (R.to.c.toNat : Int), .int .u8 (R.to.d.toNat : Int), .int .u8 (R.to.e.toNat : Int), .int .u8 (R.to.f.toNat : Int), .int .u8 (R.fr.a.toNat : Int), .int .u8 (R.fr.b.toNat : Int), .int .u8 (R.fr.c.toNat : Int), .int .u8 (R.fr.d.toNat : Int), .int .u8 (R.fr.e.toNat : Int), .int .u8 (R.fr.f.toNat : Int), .int .i64 R.ty, .string R.da], .int .i64 0]) ∧ Below w.heap.size w w' := by
  go_enter Try.func31, Try.ntmps31
  go_upto_region 5 with fail
  obtain ⟨X, hX, HX, hX2⟩ := byte_at s 12 (by omega)
  obtain ⟨Y, hY, HY, hY2⟩ := byte_at s 13 (by omega)
  have RB : Hid (FrRoom (w.alloc (.cells #[.int .u8 0, .int .u8 0, .int .u8 0, .int .u8 0, .int .u8 0, .int .u8 0, .int .u8 0, .int .u8 0, .int .u8 0, .int .u8 0, .int .u8 0, .int .u8 0, .int .i64 0, .string ⟨#[]⟩] 51)) w.heap.size) := Lib.hid ⟨_, rfl, heap_alloc_new w _⟩
  have BL : Hid (Below w.heap.size w (w.alloc (.cells #[.int .u8 0, .int .u8 0, .int .u8 0, .int .u8 0, .int .u8 0, .int .u8 0, .int .u8 0, .int .u8 0, .int .u8 0, .int .u8 0, .int .u8 0, .int .u8 0, .int .i64 0, .string ⟨#[]⟩] 51))) := Lib.hid ((Below.refl _ _).alloc (Nat.le_refl _) _)
  have HX2 := Lib.hid hX2
  have HY2 := Lib.hid hY2
  clear hX2 hY2
  generalize w.alloc _ = W1 at RB BL ⊢
  refine wp_region_noPanic ?_
  refine region_heldE (S := fun _ => True) (by kernel_rfl) (fun V d => trivial) (fun V d hS => ?_)
  refine wpAnyH_take (i := 0) (oi := ⟨some 14, Op.move (Operand.tmp 0), _, _, _, none⟩) (v := (.string s)) rfl (by kernel_rfl) (by kernel_rfl) (by kernel_rfl) (fun _ _ _ h => h) (Or.inl ⟨by rfl, fun w' h' => ?_⟩) hS ?_
  · clear h'
    go_simp
  simp only [Act.put]
  refine wpAnyH_take (i := 1) (oi := ⟨some 15, Op.index 9 (Operand.tmp 14) (Operand.const (Value.int IntKind.i64 12)), _, _, _, none⟩) (v := (.int .u8 (X : Int))) rfl (by kernel_rfl) (by kernel_rfl) (by kernel_rfl) (fun _ _ _ h => h) (Or.inl ⟨by rfl, fun w' h' => ?_⟩) hS ?_
  · have c0 := HX.out
    clear h'
    go_simp
    intro hq
    omega
  simp only [Act.put]
  refine wpAnyH_take (i := 2) (oi := ⟨some 16, Op.convert 5 3 (Operand.tmp 15), _, _, _, none⟩) (v := (.int .i64 (X : Int))) rfl (by kernel_rfl) (by kernel_rfl) (by kernel_rfl) (fun _ _ _ h => h) (Or.inl ⟨by rfl, fun w' h' => ?_⟩) hS ?_
  · have c0 := wrap_b X hX
    clear h'
    go_simp
  simp only [Act.put]
  refine wpAnyH_take (i := 3) (oi := ⟨some 17, Op.binOp BinOp.mul 3 (Operand.tmp 16) (Operand.const (Value.int IntKind.i64 256)) 3, _, _, _, none⟩) (v := (.int .i64 ((X : Int) * 256))) rfl (by kernel_rfl) (by kernel_rfl) (by kernel_rfl) (fun _ _ _ h => h) (Or.inl ⟨by rfl, fun w' h' => ?_⟩) hS ?_
  · have c0 := wrap_b2 X hX
    clear h'
    go_simp
  simp only [Act.put]
  refine wpAnyH_take (i := 4) (oi := ⟨some 18, Op.move (Operand.tmp 0), _, _, _, none⟩) (v := (.string s)) rfl (by kernel_rfl) (by kernel_rfl) (by kernel_rfl) (fun _ _ _ h => h) (Or.inl ⟨by rfl, fun w' h' => ?_⟩) hS ?_
  · clear h'
    go_simp
  simp only [Act.put]
  refine wpAnyH_take (i := 5) (oi := ⟨some 19, Op.index 9 (Operand.tmp 18) (Operand.const (Value.int IntKind.i64 13)), _, _, _, none⟩) (v := (.int .u8 (Y : Int))) rfl (by kernel_rfl) (by kernel_rfl) (by kernel_rfl) (fun _ _ _ h => h) (Or.inl ⟨by rfl, fun w' h' => ?_⟩) hS ?_
  · have c0 := HY.out
    clear h'
    go_simp
    intro hq
    omega
  simp only [Act.put]
  refine wpAnyH_take (i := 6) (oi := ⟨some 20, Op.convert 5 3 (Operand.tmp 19), _, _, _, none⟩) (v := (.int .i64 (Y : Int))) rfl (by kernel_rfl) (by kernel_rfl) (by kernel_rfl) (fun _ _ _ h => h) (Or.inl ⟨by rfl, fun w' h' => ?_⟩) hS ?_
  · have c0 := wrap_b Y hY
    clear h'
    go_simp
  simp only [Act.put]
  refine wpAnyH_take (i := 7) (oi := ⟨some 21, Op.binOp BinOp.add 3 (Operand.tmp 17) (Operand.tmp 20) 3, _, _, _, none⟩) (v := (.int .i64 ((X : Int) * 256 + (Y : Int)))) rfl (by kernel_rfl) (by kernel_rfl) (by kernel_rfl) (fun _ _ _ h => h) (Or.inl ⟨by rfl, fun w' h' => ?_⟩) hS ?_
  · have c0 := wrap_b3 X Y hX hY
    clear h'
    go_simp
  simp only [Act.put]
  refine wpAnyH_take (i := 8) (oi := ⟨some 22, Op.move (Operand.tmp 0), _, _, _, none⟩) (v := (.string s)) rfl (by kernel_rfl) (by kernel_rfl) (by kernel_rfl) (fun _ _ _ h => h) (Or.inl ⟨by rfl, fun w' h' => ?_⟩) hS ?_
  · clear h'
    go_simp
  simp only [Act.put]
  refine wpAnyH_take (i := 9) (oi := ⟨some 23, Op.slice 9 (Operand.tmp 22) (some (Operand.const (Value.int IntKind.i64 14))) none none, _, _, _, none⟩) (v := (.string (s.extract 14 s.size))) rfl (by kernel_rfl) (by kernel_rfl) (by kernel_rfl) (fun _ _ _ h => h) (Or.inl ⟨by rfl, fun w' h' => ?_⟩) hS ?_
  · have c0 := h1
    clear h'
    go_simp
  simp only [Act.put]
  refine wpAnyH_take (i := 10) (oi := ⟨some 24, Op.build 51 #[(2, (Operand.tmp 21)), (3, (Operand.tmp 23))], _, _, _, none⟩) (v := (.agg #[.int .u8 0, .int .u8 0, .int .u8 0, .int .u8 0, .int .u8 0, .int .u8 0, .int .u8 0, .int .u8 0, .int .u8 0, .int .u8 0, .int .u8 0, .int .u8 0, .int .i64 ((X : Int) * 256 + (Y : Int)), .string (s.extract 14 s.size)])) rfl (by kernel_rfl) (by kernel_rfl) (by kernel_rfl) (fun _ _ _ h => h) (Or.inl ⟨by rfl, fun w' h' => ?_⟩) hS ?_
  · clear h'
    go_simp
  simp only [Act.put]
  refine wpAnyH_ready (rs := [11]) (by kernel_rfl) (by simp) ?_
  refine AllReadyH.cons rfl (fun K hK => ?_) AllReadyH.nil
  go_simp
  have S4 : FrAt (V.alloc (.cells #[.int .u8 0, .int .u8 0, .int .u8 0, .int .u8 0, .int .u8 0, .int .u8 0, .int .u8 0, .int .u8 0, .int .u8 0, .int .u8 0, .int .u8 0, .int .u8 0, .int .i64 0, .string ⟨#[]⟩] 51)) V.heap.size frZ := heap_alloc_new V _
  refine hK.out _ _ trivial (fun _ => ?_)
  clear hK K
  obtain ⟨hst, S6⟩ := S4.room.put ⟨⟨0, 0, 0, 0, 0, 0⟩, ⟨0, 0, 0, 0, 0, 0⟩, (X : Int) * 256 + (Y : Int), s.extract 14 s.size⟩
  refine wpAnyH_ready (rs := [12]) (by kernel_rfl) (by simp) ?_
  refine AllReadyH.cons rfl (fun K hK => ?_) AllReadyH.nil
  refine upon_store0 51 _ _ rfl rfl _ V.heap.size rfl rfl hst ?_
  refine hK.out _ _ trivial (fun _ => ?_)
  clear hK K
  refine wpAnyH_done (by kernel_rfl) (NoPanic.normal ?_) _
  have BL2 : Hid (Below w.heap.size w V) := Lib.hid (BL.out.trans (d.below.mono BL.out.size))
  have RB2 : Hid (FrRoom V w.heap.size) := Lib.hid (RB.out.kept (d.block _))
  have RB3 : Hid (FrRoom ((V.alloc (.cells #[.int .u8 0, .int .u8 0, .int .u8 0, .int .u8 0, .int .u8 0, .int .u8 0, .int .u8 0, .int .u8 0, .int .u8 0, .int .u8 0, .int .u8 0, .int .u8 0, .int .i64 0, .string ⟨#[]⟩] 51)).setRow V.heap.size #[.int .u8 0, .int .u8 0, .int .u8 0, .int .u8 0, .int .u8 0, .int .u8 0, .int .u8 0, .int .u8 0, .int .u8 0, .int .u8 0, .int .u8 0, .int .u8 0, .int .i64 ((X : Int) * 256 + (Y : Int)), .string (s.extract 14 s.size)]) w.heap.size) := by
    rw [World.setRow_alloc_new]
    exact Lib.hid (RB2.out.kept (((Below.refl _ _).alloc (Nat.le_refl _) _).block _ RB2.out.lt))
  have BL3 : Hid (Below w.heap.size w ((V.alloc (.cells #[.int .u8 0, .int .u8 0, .int .u8 0, .int .u8 0, .int .u8 0, .int .u8 0, .int .u8 0, .int .u8 0, .int .u8 0, .int .u8 0, .int .u8 0, .int .u8 0, .int .i64 0, .string ⟨#[]⟩] 51)).setRow V.heap.size #[.int .u8 0, .int .u8 0, .int .u8 0, .int .u8 0, .int .u8 0, .int .u8 0, .int .u8 0, .int .u8 0, .int .u8 0, .int .u8 0, .int .u8 0, .int .u8 0, .int .i64 ((X : Int) * 256 + (Y : Int)), .string (s.extract 14 s.size)])) := by
    rw [World.setRow_alloc_new]
    exact Lib.hid (BL2.out.alloc BL2.out.size _)
  have NG : w.heap.size < V.heap.size := RB2.out.lt
  have NE : V.heap.size ≠ w.heap.size := by have := RB2.out.lt; omega
  have S7 : Hid (FrAt ((V.alloc (.cells #[.int .u8 0, .int .u8 0, .int .u8 0, .int .u8 0, .int .u8 0, .int .u8 0, .int .u8 0, .int .u8 0, .int .u8 0, .int .u8 0, .int .u8 0, .int .u8 0, .int .i64 0, .string ⟨#[]⟩] 51)).setRow V.heap.size #[.int .u8 0, .int .u8 0, .int .u8 0, .int .u8 0, .int .u8 0, .int .u8 0, .int .u8 0, .int .u8 0, .int .u8 0, .int .u8 0, .int .u8 0, .int .u8 0, .int .i64 ((X : Int) * 256 + (Y : Int)), .string (s.extract 14 s.size)]) V.heap.size ⟨⟨0, 0, 0, 0, 0, 0⟩, ⟨0, 0, 0, 0, 0, 0⟩, (X : Int) * 256 + (Y : Int), s.extract 14 s.size⟩) := Lib.hid S6
  clear S4 S6 hst hS BL RB BL2 RB2 d
  show Exit.then _ _ _ _ ((V.alloc (.cells #[.int .u8 0, .int .u8 0, .int .u8 0, .int .u8 0, .int .u8 0, .int .u8 0, .int .u8 0, .int .u8 0, .int .u8 0, .int .u8 0, .int .u8 0, .int .u8 0, .int .i64 0, .string ⟨#[]⟩] 51)).setRow V.heap.size #[.int .u8 0, .int .u8 0, .int .u8 0, .int .u8 0, .int .u8 0, .int .u8 0, .int .u8 0, .int .u8 0, .int .u8 0, .int .u8 0, .int .u8 0, .int .u8 0, .int .i64 ((X : Int) * 256 + (Y : Int)), .string (s.extract 14 s.size)])
  generalize (V.alloc _).setRow _ _ = W4 at RB3 BL3 S7 ⊢
  obtain ⟨n4, hn4⟩ : ∃ n, n = V.heap.size := ⟨_, rfl⟩
  rw [← hn4] at S7 NE NG ⊢
  clear hn4
  obtain ⟨T, hT⟩ : ∃ T, T = macAt s.data.toList 0 := ⟨_, rfl⟩
  obtain ⟨G, hG⟩ : ∃ G, G = macAt s.data.toList 6 := ⟨_, rfl⟩
  have S8 : Hid (FrAt W4 n4 ⟨part6 T 0, part6 G 0, (X : Int) * 256 + (Y : Int), s.extract 14 s.size⟩) := S7
  have HP : Hid (R = ⟨T, G, (X : Int) * 256 + (Y : Int), s.extract 14 s.size⟩) := Lib.hid (by
    rw [hR, hT, hG, rdF, num_cut s X Y hX hY (by omega) HX2.out HY2.out])
  have HT := Lib.hid hT
  have HG := Lib.hid hG
  clear hT hG S7 HX HY HX2 HY2 hR
  go_wp2_with fail
  go_loopw [5] (fun i wr => ∃ k : Nat, k ≤ 6 ∧ i = .int .i64 k ∧ Hid (FrAt wr n4 ⟨part6 T k, part6 G k, (X : Int) * 256 + (Y : Int), s.extract 14 s.size⟩) ∧ Hid (FrRoom wr w.heap.size) ∧ Hid (Below w.heap.size w wr)) (fun i _ => 6 - (intOf i).toNat)
  case atStart => exact ⟨0, by omega, rfl, S8, RB3, BL3⟩
  case round =>
    obtain ⟨k, hk, rfl, fa, ra, bl⟩ := hrel
    clear S8 RB3 BL3
    by_cases hlt : k < 6
    · obtain ⟨u1, c1, f1⟩ := fa.out.room.there k (by omega)
      obtain ⟨u2, c2, f2⟩ := fa.out.room.there (6 + k) (by omega)
      have k1 : k < s.size := by omega
      have k2 : 6 + k < s.size := by omega
      have hN : ((6 : Int) + (k : Int)).toNat = 6 + k := by omega
      have HA := Lib.hid (mac_byte s 0 k hlt (by omega) T HT.out)
      have HB := Lib.hid (mac_byte s 6 k hlt (by omega) G HG.out)
      go_wp2
      go_roundw
      case rel =>
        refine ⟨k + 1, by omega, by go_num, Lib.hid (FrAt.fill hlt fa.out _ _ (byte_zero HA.out k1) HB.out), Lib.hid (ra.out.kept ?_), Lib.hid ((bl.out.setCell (Nat.le_of_lt NG) _).setCell (Nat.le_of_lt NG) _)⟩
        rw [Below.heap_setCell _ _ _ _ (Ne.symm NE), Below.heap_setCell _ _ _ _ (Ne.symm NE)]
      case measure => simp [intOf]; omega
    · have hz : k = 6 := by omega
      have hzi : (k : Int) = 6 := by omega
      rw [hz, part_full, part_full] at fa
      rw [hzi]
      obtain ⟨⟨c0, c1, c2, c3, c4, c5⟩, ⟨c6, c7, c8, c9, c10, c11⟩, c12, c13⟩ := fa.out.all
      obtain ⟨hst, S9⟩ := ra.out.put ⟨T, G, (X : Int) * 256 + (Y : Int), s.extract 14 s.size⟩
      have S9 := Lib.hid S9
      have B9 := Lib.hid (below_setRow bl.out (Nat.le_refl _) #[.int .u8 (T.a.toNat : Int), .int .u8 (T.b.toNat : Int), .int .u8 (T.c.toNat : Int), .int .u8 (T.d.toNat : Int), .int .u8 (T.e.toNat : Int), .int .u8 (T.f.toNat : Int), .int .u8 (G.a.toNat : Int), .int .u8 (G.b.toNat : Int), .int .u8 (G.c.toNat : Int), .int .u8 (G.d.toNat : Int), .int .u8 (G.e.toNat : Int), .int .u8 (G.f.toNat : Int), .int .i64 ((X : Int) * 256 + (Y : Int)), .string (s.extract 14 s.size)])
      clear hk hlt hz hzi
      go_wp2_with (refine wpList_storeW 51 _ _ rfl rfl _ w.heap.size rfl rfl hst ?_)
      obtain ⟨⟨d0, d1, d2, d3, d4, d5⟩, ⟨d6, d7, d8, d9, d10, d11⟩, d12, d13⟩ := S9.out.all
      have hp := HP.out
      subst hp
      exact bodyPost_ret (v := .tuple #[.agg #[.int .u8 (T.a.toNat : Int), .int .u8 (T.b.toNat : Int), .int .u8 (T.c.toNat : Int), .int .u8 (T.d.toNat : Int), .int .u8 (T.e.toNat : Int), .int .u8 (T.f.toNat : Int), .int .u8 (G.a.toNat : Int), .int .u8 (G.b.toNat : Int), .int .u8 (G.c.toNat : Int), .int .u8 (G.d.toNat : Int), .int .u8 (G.e.toNat : Int), .int .u8 (G.f.toNat : Int), .int .i64 ((X : Int) * 256 + (Y : Int)), .string (s.extract 14 s.size)], .int .i64 0]) (by simp [results, Try.results31, go_sem, d0, d1, d2, d3, d4, d5, d6, d7, d8, d9, d10, d11, d12, d13]) rfl ⟨rfl, B9.out⟩

theorem refRead_any (w : World) (s : ByteArray) (R : Fr) (hR : R = rdR s) :
    Calls Try.prog 31 #[.string s] w fun e w' => e = .returned (.tuple #[.agg #[.int .u8 (R.to.a.toNat : Int), .int .u8 (R.to.b.toNat : Int), .int .u8 (R.to.c.toNat : Int), .int .u8 (R.to.d.toNat : Int), .int .u8 (R.to.e.toNat : Int), .int .u8 (R.to.f.toNat : Int), .int .u8 (R.fr.a.toNat : Int), .int .u8 (R.fr.b.toNat : Int), .int .u8 (R.fr.c.toNat : Int), .int .u8 (R.fr.d.toNat : Int), .int .u8 (R.fr.e.toNat : Int), .int .u8 (R.fr.f.toNat : Int), .int .i64 R.ty, .string R.da], .int .i64 (rdE s)]) ∧ Below w.heap.size w w' := by
  by_cases h1 : s.size < 14
  · have e1 : rdE s = 7 := if_pos h1
    rw [rdR, e1, if_neg (by decide)] at hR
    subst hR
    rw [e1]
    exact refRead_short w s h1
  · by_cases h2 : 600 < s.size
    · have e1 : rdE s = 3 := by rw [rdE, if_neg h1, if_pos h2]
      rw [rdR, e1, if_neg (by decide)] at hR
      subst hR
      rw [e1]
      exact refRead_long w s h2
    · have e1 : rdE s = 0 := by rw [rdE, if_neg h1, if_neg h2]
      rw [rdR, e1, if_pos rfl] at hR
      rw [e1]
      exact refRead_yes w s (by omega) (by omega) R hR

end Go.Proofs.Ytbbmfgeagdblcaa
