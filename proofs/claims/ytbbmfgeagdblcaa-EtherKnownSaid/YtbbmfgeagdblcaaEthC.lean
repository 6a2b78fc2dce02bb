/-
  Layer 6: a frame's bytes. Conditions: none but that its type is a number of its kind.
-/
import Derived.Test.YtbbmfgeagdblcaaEthB
import Derived.Deep.DeepCutAuto
import Derived.IntWalk
namespace Go.Proofs.Ytbbmfgeagdblcaa
open Go.RowKit Go.Sort

/-- A world behind the draw of an order. -/
def EDrew (w w' : World) : Prop := w' = w.drew
theorem EDrew.block {w w' : World} (d : EDrew w w') (k : Nat) : w'.heap[k]? = w.heap[k]? := by subst d; rfl
theorem EDrew.below {w w' : World} (d : EDrew w w') : Below w.heap.size w w' := by subst d; exact (Below.refl _ _).drew
theorem EDrew.size {w w' : World} (d : EDrew w w') : w'.heap.size = w.heap.size := by subst d; rfl
theorem region_heldE {P : Program} {id : Nat} {ops : Array Oper} {Q : Exit → Act → World → Prop} {S : World → Prop} {a : Act} {w : World} (hm : P.follows .mixedOrders = true) (hS : ∀ w', EDrew w w' → S w')
    (h : ∀ w', EDrew w w' → S w' → wpAnyH P .any ops Q S ops.size (Array.replicate ops.size false) a w') : (Code.region id ops true).wp P Q a w :=
  wp_region_held hm (h _ rfl (hS _ rfl))

/-- A frame that lies in a block of its own. -/
def FrAt (w : World) (n : Nat) (f : Fr) : Prop := w.heap[n]? = some (.cells #[.int .u8 (f.to.a.toNat : Int), .int .u8 (f.to.b.toNat : Int), .int .u8 (f.to.c.toNat : Int), .int .u8 (f.to.d.toNat : Int), .int .u8 (f.to.e.toNat : Int), .int .u8 (f.to.f.toNat : Int), .int .u8 (f.fr.a.toNat : Int), .int .u8 (f.fr.b.toNat : Int), .int .u8 (f.fr.c.toNat : Int), .int .u8 (f.fr.d.toNat : Int), .int .u8 (f.fr.e.toNat : Int), .int .u8 (f.fr.f.toNat : Int), .int .i64 f.ty, .string f.da] 51 (0, 0))
theorem FrAt.to {w : World} {n : Nat} {f : Fr} (h : FrAt w n f) : Holds eb w n 0 f.to.list.toArray := by
  intro j hj
  have hj6 : j < 6 := hj
  have hfz : w.frozen? ⟨n, 0 + j, none⟩ = false := by simp [World.frozen?, show w.heap[n]? = _ from h]
  refine ⟨?_, hfz⟩
  rw [cell_of_block h]
  rcases j with _ | _ | _ | _ | _ | _ | j <;> first | rfl | omega
theorem FrAt.fr {w : World} {n : Nat} {f : Fr} (h : FrAt w n f) : Holds eb w n 6 f.fr.list.toArray := by
  intro j hj
  have hj6 : j < 6 := hj
  have hfz : w.frozen? ⟨n, 6 + j, none⟩ = false := by simp [World.frozen?, show w.heap[n]? = _ from h]
  refine ⟨?_, hfz⟩
  rw [cell_of_block h]
  rcases j with _ | _ | _ | _ | _ | _ | j <;> first | rfl | omega
theorem FrAt.ty {w : World} {n : Nat} {f : Fr} (h : FrAt w n f) : w.cell? ⟨n, 12, none⟩ = some (.int .i64 f.ty) := by rw [cell_of_block h]; rfl
theorem FrAt.da {w : World} {n : Nat} {f : Fr} (h : FrAt w n f) : w.cell? ⟨n, 13, none⟩ = some (.string f.da) := by rw [cell_of_block h]; rfl

/-- The bytes of a frame, and why it has none. -/
def frL (f : Fr) : List UInt8 := f.to.list ++ f.fr.list ++ (leL f.ty 2).reverse ++ f.da.data.toList
def frE (f : Fr) : Int := if f.ty < 0 ∨ 65535 < f.ty then 1 else if 586 < f.da.size then 3 else 0
def frS (f : Fr) : ByteArray := if frE f = 0 then ⟨(frL f).toArray⟩ else ⟨#[]⟩

theorem add_lists (w : World) (x y : List UInt8) (h : x.length + y.length ≤ 9223372036854775807) : (Op.stringOp .add ⟨x.toArray⟩ ⟨y.toArray⟩).run Try.prog w = .ok (.string ⟨(x ++ y).toArray⟩) w := by
  rw [run_string_add_sum (P := Try.prog) (w := w) ⟨x.toArray⟩ ⟨y.toArray⟩ (by show x.toArray.size + y.toArray.size ≤ _; simpa using h), ByteArray.mk_append_mk]
theorem add_data (w : World) (x : List UInt8) (y : ByteArray) (h : x.length + y.size ≤ 9223372036854775807) : (Op.stringOp .add ⟨x.toArray⟩ y).run Try.prog w = .ok (.string ⟨(x ++ y.data.toList).toArray⟩) w := by
  have := add_lists w x y.data.toList (by simpa using h)
  simpa using this
theorem data_app (x y z : List UInt8) (d : ByteArray) : ((⟨(x ++ (y ++ z)).toArray⟩ : ByteArray) ++ d) = ⟨(x ++ (y ++ (z ++ d.data.toList))).toArray⟩ := by
  have := ByteArray.mk_append_mk (x ++ (y ++ z)) d.data.toList
  rw [List.append_assoc, List.append_assoc] at this
  rw [← this]
theorem wrap_ty {x : Int} (h1 : 0 ≤ x) (h2 : x ≤ 65535) : IntKind.u64.wrap x = x := IntWalk.u64_in _ (by omega)
theorem mac_len (m : Mac6) : m.list.length = 6 := rfl
theorem len_ok (f : Fr) (h : f.da.size ≤ 586) : ¬ 9223372036854775807 < f.to.list.length + (f.fr.list.length + (leL f.ty 2).length) + f.da.size := by
  simp [mac_len, leL, le_length]
  omega
theorem two_len (x : Int) : (leL x 2).reverse.length = 2 := by simp [leL, le_length]

set_option maxRecDepth 100000 in
set_option maxHeartbeats 1000000 in
theorem Bytes_kind (w : World) (f : Fr) (h : f.ty < 0 ∨ 65535 < f.ty) :
    Calls Try.prog 24 #[.agg #[.int .u8 (f.to.a.toNat : Int), .int .u8 (f.to.b.toNat : Int), .int .u8 (f.to.c.toNat : Int), .int .u8 (f.to.d.toNat : Int), .int .u8 (f.to.e.toNat : Int), .int .u8 (f.to.f.toNat : Int), .int .u8 (f.fr.a.toNat : Int), .int .u8 (f.fr.b.toNat : Int), .int .u8 (f.fr.c.toNat : Int), .int .u8 (f.fr.d.toNat : Int), .int .u8 (f.fr.e.toNat : Int), .int .u8 (f.fr.f.toNat : Int), .int .i64 f.ty, .string f.da]] w fun e w' => e = .returned (.tuple #[.string ⟨#[]⟩, .int .i64 1]) ∧ Below w.heap.size w w' := by
  rcases h with h | h
  · go_enter Try.func24, Try.ntmps24
    go_wp2
    go_ret2
    exact ⟨rfl, (Below.refl _ _).alloc (Nat.le_refl _) _⟩
  · have h2 : 0 ≤ f.ty := by omega
    go_enter Try.func24, Try.ntmps24
    go_wp2
    go_ret2
    exact ⟨rfl, (Below.refl _ _).alloc (Nat.le_refl _) _⟩
set_option maxRecDepth 100000 in
set_option maxHeartbeats 1000000 in
theorem Bytes_long (w : World) (f : Fr) (h1 : 0 ≤ f.ty) (h2 : f.ty ≤ 65535) (h3 : 586 < f.da.size) (h4 : f.da.size ≤ 9223372036854775807) :
    Calls Try.prog 24 #[.agg #[.int .u8 (f.to.a.toNat : Int), .int .u8 (f.to.b.toNat : Int), .int .u8 (f.to.c.toNat : Int), .int .u8 (f.to.d.toNat : Int), .int .u8 (f.to.e.toNat : Int), .int .u8 (f.to.f.toNat : Int), .int .u8 (f.fr.a.toNat : Int), .int .u8 (f.fr.b.toNat : Int), .int .u8 (f.fr.c.toNat : Int), .int .u8 (f.fr.d.toNat : Int), .int .u8 (f.fr.e.toNat : Int), .int .u8 (f.fr.f.toNat : Int), .int .i64 f.ty, .string f.da]] w fun e w' => e = .returned (.tuple #[.string ⟨#[]⟩, .int .i64 3]) ∧ Below w.heap.size w w' := by
  go_enter Try.func24, Try.ntmps24
  go_wp2
  go_ret2
  exact ⟨rfl, (Below.refl _ _).alloc (Nat.le_refl _) _⟩
set_option maxRecDepth 100000 in
set_option maxHeartbeats 1000000 in
theorem Bytes_yes (w : World) (f : Fr) (h1 : 0 ≤ f.ty) (h2 : f.ty ≤ 65535) (h3 : f.da.size ≤ 586) :
    Calls Try.prog 24 #[.agg #[.int .u8 (f.to.a.toNat : Int), .int .u8 (f.to.b.toNat : Int), .int .u8 (f.to.c.toNat : Int), .int .u8 (f.to.d.toNat : Int), .int .u8 (f.to.e.toNat : Int), .int .u8 (f.to.f.toNat : Int), .int .u8 (f.fr.a.toNat : Int), .int .u8 (f.fr.b.toNat : Int), .int .u8 (f.fr.c.toNat : Int), .int .u8 (f.fr.d.toNat : Int), .int .u8 (f.fr.e.toNat : Int), .int .u8 (f.fr.f.toNat : Int), .int .i64 f.ty, .string f.da]] w fun e w' => e = .returned (.tuple #[.string ⟨(frL f).toArray⟩, .int .i64 0]) ∧ Below w.heap.size w w' := by
  go_enter Try.func24, Try.ntmps24
  go_upto_region 5 with fail
  have FA : Hid (FrAt (w.alloc (.cells #[.int .u8 (f.to.a.toNat : Int), .int .u8 (f.to.b.toNat : Int), .int .u8 (f.to.c.toNat : Int), .int .u8 (f.to.d.toNat : Int), .int .u8 (f.to.e.toNat : Int), .int .u8 (f.to.f.toNat : Int), .int .u8 (f.fr.a.toNat : Int), .int .u8 (f.fr.b.toNat : Int), .int .u8 (f.fr.c.toNat : Int), .int .u8 (f.fr.d.toNat : Int), .int .u8 (f.fr.e.toNat : Int), .int .u8 (f.fr.f.toNat : Int), .int .i64 f.ty, .string f.da] 51)) w.heap.size f) := Lib.hid (heap_alloc_new w _)
  have BL : Hid (Below w.heap.size w (w.alloc (.cells #[.int .u8 (f.to.a.toNat : Int), .int .u8 (f.to.b.toNat : Int), .int .u8 (f.to.c.toNat : Int), .int .u8 (f.to.d.toNat : Int), .int .u8 (f.to.e.toNat : Int), .int .u8 (f.to.f.toNat : Int), .int .u8 (f.fr.a.toNat : Int), .int .u8 (f.fr.b.toNat : Int), .int .u8 (f.fr.c.toNat : Int), .int .u8 (f.fr.d.toNat : Int), .int .u8 (f.fr.e.toNat : Int), .int .u8 (f.fr.f.toNat : Int), .int .i64 f.ty, .string f.da] 51))) := Lib.hid ((Below.refl _ _).alloc (Nat.le_refl _) _)
  generalize w.alloc _ = W1 at FA BL ⊢
  refine wp_region_noPanic ?_
  refine region_heldE (S := fun w' => FrAt w' w.heap.size f) (by kernel_rfl) (fun V d => (d.block _).trans FA.out) (fun V d hS => ?_)
  have BV0 := Lib.hid ((d.below (w := W1)))
  clear d
  refine wpAnyH_take (i := 0) (v := (.pointer (some ⟨w.heap.size, 0, none⟩))) rfl (by kernel_rfl) (by kernel_rfl) (by kernel_rfl) (fun _ _ _ h => h) (Or.inl ⟨by rfl, fun w' h' => ?_⟩) hS ?_
  · clear h'
    go_simp
  simp only [Act.put]
  refine wpAnyH_take (i := 1) (v := (.slice (some ⟨w.heap.size, 0, none⟩) 6 6)) rfl (by kernel_rfl) (by kernel_rfl) (by kernel_rfl) (fun _ _ _ h => h) (Or.inl ⟨by rfl, fun w' h' => ?_⟩) hS ?_
  · clear h'
    go_simp
  simp only [Act.put]
  refine wpAnyH_take (i := 2) (v := (.string ⟨(f.to.list).toArray⟩)) rfl (by kernel_rfl) (by kernel_rfl) (by kernel_rfl) (fun _ _ _ h => h) (Or.inl ⟨by rfl, fun w' h' => ?_⟩) hS ?_
  · have c0 := conv_text w' w.heap.size 0 6 6 _ (mac_len f.to) (FrAt.to h')
    clear h'
    go_simp
  simp only [Act.put]
  refine wpAnyH_take (i := 3) (v := (.pointer (some ⟨w.heap.size, 6, none⟩))) rfl (by kernel_rfl) (by kernel_rfl) (by kernel_rfl) (fun _ _ _ h => h) (Or.inl ⟨by rfl, fun w' h' => ?_⟩) hS ?_
  · clear h'
    go_simp
  simp only [Act.put]
  refine wpAnyH_take (i := 4) (v := (.slice (some ⟨w.heap.size, 6, none⟩) 6 6)) rfl (by kernel_rfl) (by kernel_rfl) (by kernel_rfl) (fun _ _ _ h => h) (Or.inl ⟨by rfl, fun w' h' => ?_⟩) hS ?_
  · clear h'
    go_simp
  simp only [Act.put]
  refine wpAnyH_take (i := 5) (v := (.string ⟨(f.fr.list).toArray⟩)) rfl (by kernel_rfl) (by kernel_rfl) (by kernel_rfl) (fun _ _ _ h => h) (Or.inl ⟨by rfl, fun w' h' => ?_⟩) hS ?_
  · have c0 := conv_text w' w.heap.size 6 6 6 _ (mac_len f.fr) (FrAt.fr h')
    clear h'
    go_simp
  simp only [Act.put]
  refine wpAnyH_take (i := 6) (v := (.string ⟨(f.to.list ++ f.fr.list).toArray⟩)) rfl (by kernel_rfl) (by kernel_rfl) (by kernel_rfl) (fun _ _ _ h => h) (Or.inl ⟨by rfl, fun w' h' => ?_⟩) hS ?_
  · have c0 := add_lists w' (f.to.list) (f.fr.list) (by simp [mac_len])
    clear h'
    go_simp
  simp only [Act.put]
  refine wpAnyH_take (i := 7) (v := (.pointer (some ⟨w.heap.size, 12, none⟩))) rfl (by kernel_rfl) (by kernel_rfl) (by kernel_rfl) (fun _ _ _ h => h) (Or.inl ⟨by rfl, fun w' h' => ?_⟩) hS ?_
  · clear h'
    go_simp
  simp only [Act.put]
  refine wpAnyH_take (i := 8) (v := (.int .i64 f.ty)) rfl (by kernel_rfl) (by kernel_rfl) (by kernel_rfl) (fun _ _ _ h => h) (Or.inl ⟨by rfl, fun w' h' => ?_⟩) hS ?_
  · have c0 := FrAt.ty h'
    clear h'
    go_simp
  simp only [Act.put]
  refine wpAnyH_take (i := 9) (v := (.int .u64 f.ty)) rfl (by kernel_rfl) (by kernel_rfl) (by kernel_rfl) (fun _ _ _ h => h) (Or.inl ⟨by rfl, fun w' h' => ?_⟩) hS ?_
  · have c0 := wrap_ty h1 h2
    clear h'
    go_simp
  simp only [Act.put]
  refine wpAnyH_take (i := 12) (oi := ⟨some 28, Op.fieldAddr 51 (Operand.tmp 1) 3, _, _, _, none⟩) (v := (.pointer (some ⟨w.heap.size, 13, none⟩))) rfl (by kernel_rfl) (by kernel_rfl) (by kernel_rfl) (fun _ _ _ h => h) (Or.inl ⟨by rfl, fun w' h' => ?_⟩) hS ?_
  · clear h'
    go_simp
  simp only [Act.put]
  refine wpAnyH_take (i := 13) (oi := ⟨some 29, Op.load 9 (Operand.tmp 28), _, _, _, none⟩) (v := (.string f.da)) rfl (by kernel_rfl) (by kernel_rfl) (by kernel_rfl) (fun _ _ _ h => h) (Or.inl ⟨by rfl, fun w' h' => ?_⟩) hS ?_
  · have c0 := FrAt.da h'
    clear h'
    go_simp
  simp only [Act.put]
  refine wpAnyH_ready (rs := [10]) (by kernel_rfl) (by simp) ?_
  refine AllReadyH.cons rfl (fun K hK => ?_) AllReadyH.nil
  go_simp
  refine (Big_all V f.ty 2 h1).mono ?_
  rintro e w4 ⟨rfl, k4⟩
  have S4 : FrAt w4 w.heap.size f := (k4.block _ (lt_of_block hS) (by simp)).trans hS
  have BV := Lib.hid (BV0.out.trans ((Below.of_none k4).mono BV0.out.size))
  clear BV0 k4
  go_simp
  refine hK.out _ _ S4 (fun _ => ?_)
  clear hK K
  refine wpAnyH_take (i := 11) (oi := ⟨some 27, Op.binOp BinOp.add 9 (Operand.tmp 22) (Operand.tmp 26) 9, _, _, _, none⟩) (v := (.string ⟨(f.to.list ++ f.fr.list ++ (leL f.ty 2).reverse).toArray⟩)) rfl (by kernel_rfl) (by kernel_rfl) (by kernel_rfl) (fun _ _ _ h => h) (Or.inl ⟨by rfl, fun w' h' => ?_⟩) S4 ?_
  · have c0 := add_lists w' (f.to.list ++ f.fr.list) ((leL f.ty 2).reverse) (by simp [mac_len, leL, le_length])
    clear h'
    go_simp
  simp only [Act.put]
  refine wpAnyH_take (i := 14) (oi := ⟨some 30, Op.binOp BinOp.add 9 (Operand.tmp 27) (Operand.tmp 29) 9, _, _, _, none⟩) (v := (.string ⟨(f.to.list ++ f.fr.list ++ (leL f.ty 2).reverse ++ f.da.data.toList).toArray⟩)) rfl (by kernel_rfl) (by kernel_rfl) (by kernel_rfl) (fun _ _ _ h => h) (Or.inl ⟨by rfl, fun w' h' => ?_⟩) S4 ?_
  · have c0 := len_ok f h3
    have c1 := data_app (f.to.list) (f.fr.list) ((leL f.ty 2).reverse) f.da
    clear h'
    go_simp
  simp only [Act.put]
  refine wpAnyH_take (i := 15) (oi := ⟨some 2, Op.assign (Operand.tmp 30), _, _, _, none⟩) (v := (.string ⟨(f.to.list ++ f.fr.list ++ (leL f.ty 2).reverse ++ f.da.data.toList).toArray⟩)) rfl (by kernel_rfl) (by kernel_rfl) (by kernel_rfl) (fun _ _ _ h => h) (Or.inl ⟨by rfl, fun w' h' => ?_⟩) S4 ?_
  · clear h'
    go_simp
  simp only [Act.put]
  refine wpAnyH_take (i := 16) (oi := ⟨some 3, Op.assign (Operand.const (Value.int IntKind.i64 0)), _, _, _, none⟩) (v := (.int .i64 0)) rfl (by kernel_rfl) (by kernel_rfl) (by kernel_rfl) (fun _ _ _ h => h) (Or.inl ⟨by rfl, fun w' h' => ?_⟩) S4 ?_
  · clear h'
    go_simp
  simp only [Act.put]
  refine wpAnyH_done (by kernel_rfl) (NoPanic.normal ?_) _
  have B9 := Lib.hid (BL.out.trans (BV.out.mono BL.out.size))
  clear BV BL FA hS
  go_wp2_with fail
  go_ret2
  exact ⟨by unfold frL; rfl, B9.out⟩

theorem Bytes_any (w : World) (f : Fr) (h : f.ok) :
    Calls Try.prog 24 #[.agg #[.int .u8 (f.to.a.toNat : Int), .int .u8 (f.to.b.toNat : Int), .int .u8 (f.to.c.toNat : Int), .int .u8 (f.to.d.toNat : Int), .int .u8 (f.to.e.toNat : Int), .int .u8 (f.to.f.toNat : Int), .int .u8 (f.fr.a.toNat : Int), .int .u8 (f.fr.b.toNat : Int), .int .u8 (f.fr.c.toNat : Int), .int .u8 (f.fr.d.toNat : Int), .int .u8 (f.fr.e.toNat : Int), .int .u8 (f.fr.f.toNat : Int), .int .i64 f.ty, .string f.da]] w fun e w' => e = .returned (.tuple #[.string (frS f), .int .i64 (frE f)]) ∧ Below w.heap.size w w' := by
  have hm : f.da.size ≤ 9223372036854775807 := by have := h.2; unfold maxLen at this; omega
  by_cases h1 : f.ty < 0 ∨ 65535 < f.ty
  · have e1 : frE f = 1 := if_pos h1
    rw [frS, e1, if_neg (by decide)]
    exact Bytes_kind w f h1
  · by_cases h2 : 586 < f.da.size
    · have e1 : frE f = 3 := by rw [frE, if_neg h1, if_pos h2]
      rw [frS, e1, if_neg (by decide)]
      exact Bytes_long w f (by omega) (by omega) h2 hm
    · have e1 : frE f = 0 := by rw [frE, if_neg h1, if_neg h2]
      rw [frS, e1, if_pos rfl]
      exact Bytes_yes w f (by omega) (by omega) (by omega)

end Go.Proofs.Ytbbmfgeagdblcaa
