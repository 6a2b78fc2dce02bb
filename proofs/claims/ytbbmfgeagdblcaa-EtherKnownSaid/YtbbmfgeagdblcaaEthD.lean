/-
  Layer 6: a frame that is read from bytes. Conditions: a text is no longer than a string may be.
-/
import Derived.Test.YtbbmfgeagdblcaaEthC
import Derived.Laws.CopyOwn
namespace Go.Proofs.Ytbbmfgeagdblcaa
open Go.RowKit Go.Sort
set_option linter.unusedVariables false

/-- The address that stands from a place on. -/
def macAt (l : List UInt8) (k : Nat) : Mac6 := ⟨l.getD k 0, l.getD (k + 1) 0, l.getD (k + 2) 0, l.getD (k + 3) 0, l.getD (k + 4) 0, l.getD (k + 5) 0⟩
theorem mac_front : ∀ (l : List UInt8), 6 ≤ l.length → l = (macAt l 0).list ++ l.drop 6
  | a :: b :: c :: d :: e :: f :: r, _ => rfl
theorem mac_at (l : List UInt8) (k : Nat) (h : k + 6 ≤ l.length) : l.drop k = (macAt l k).list ++ l.drop (k + 6) := by
  have h1 := mac_front (l.drop k) (by simp; omega)
  rw [List.drop_drop] at h1
  have h2 : macAt (l.drop k) 0 = macAt l k := by simp [macAt, List.getD_eq_getElem?_getD]
  rw [h2] at h1
  exact h1
/-- The frame whose bytes these are, if they are as many as they may be. -/
def rdF (s : ByteArray) : Fr := ⟨macAt s.data.toList 0, macAt s.data.toList 6, num (cutS s 12 2).reverse, s.extract 14 s.size⟩
def frZ : Fr := ⟨⟨0, 0, 0, 0, 0, 0⟩, ⟨0, 0, 0, 0, 0, 0⟩, 0, ⟨#[]⟩⟩
def rdE (s : ByteArray) : Int := if s.size < 14 then 7 else if 600 < s.size then 3 else 0
def rdR (s : ByteArray) : Fr := if rdE s = 0 then rdF s else frZ

set_option maxRecDepth 100000 in
set_option maxHeartbeats 1000000 in
theorem Read_short (w : World) (s : ByteArray) (h : s.size < 14) :
    Calls Try.prog 22 #[.string s] w fun e w' => e = .returned (.tuple #[.agg #[.int .u8 0, .int .u8 0, .int .u8 0, .int .u8 0, .int .u8 0, .int .u8 0, .int .u8 0, .int .u8 0, .int .u8 0, .int .u8 0, .int .u8 0, .int .u8 0, .int .i64 0, .string ⟨#[]⟩], .int .i64 7]) ∧ Below w.heap.size w w' := by
  go_enter Try.func22, Try.ntmps22
  go_wp2
  exact bodyPost_ret (v := .tuple #[.agg #[.int .u8 0, .int .u8 0, .int .u8 0, .int .u8 0, .int .u8 0, .int .u8 0, .int .u8 0, .int .u8 0, .int .u8 0, .int .u8 0, .int .u8 0, .int .u8 0, .int .i64 0, .string ⟨#[]⟩], .int .i64 7]) (by simp [results, Try.results22, go_sem]) rfl ⟨rfl, (Below.refl _ _).alloc (Nat.le_refl _) _⟩
set_option maxRecDepth 100000 in
set_option maxHeartbeats 1000000 in
theorem Read_long (w : World) (s : ByteArray) (h : 600 < s.size) :
    Calls Try.prog 22 #[.string s] w fun e w' => e = .returned (.tuple #[.agg #[.int .u8 0, .int .u8 0, .int .u8 0, .int .u8 0, .int .u8 0, .int .u8 0, .int .u8 0, .int .u8 0, .int .u8 0, .int .u8 0, .int .u8 0, .int .u8 0, .int .i64 0, .string ⟨#[]⟩], .int .i64 3]) ∧ Below w.heap.size w w' := by
  have h2 : ¬ s.size < 14 := by omega
  go_enter Try.func22, Try.ntmps22
  go_wp2
  exact bodyPost_ret (v := .tuple #[.agg #[.int .u8 0, .int .u8 0, .int .u8 0, .int .u8 0, .int .u8 0, .int .u8 0, .int .u8 0, .int .u8 0, .int .u8 0, .int .u8 0, .int .u8 0, .int .u8 0, .int .i64 0, .string ⟨#[]⟩], .int .i64 3]) (by simp [results, Try.results22, go_sem]) rfl ⟨rfl, (Below.refl _ _).alloc (Nat.le_refl _) _⟩

/-- A store of a whole struct, where its run is known. -/
theorem upon_store {P : Program} {o : Oper} {a : Act} {w w' : World} {K : Act → World → Prop} {Q : Exit → Act → World → Prop} (t : TypeId) (p x : Operand) (ho : o.op = .store t p x) (v : Value) (g : Nat) (hp : a.eval p = .pointer (some ⟨g, 0, none⟩)) (hx : a.eval x = v)
    (hr : (storeVar t ⟨g, 0, none⟩ v).run P w = .ok () w') (h : K (a.put o.dst undef) w') : o.wp P a w K Q := by
  unfold Oper.wp execOp
  simp only [ho, hp, hx, Instr.storeAt, Instr.sureAddr, Sem.run_bind, Sem.run_pure, Result.andThen_ok, hr]
  exact h
/-- A block of a frame's size. -/
def FrRoom (w : World) (n : Nat) : Prop := ∃ cs : Array Value, cs.size = 14 ∧ w.heap[n]? = some (.cells cs 51 (0, 0))
theorem FrRoom.lt {w : World} {n : Nat} (h : FrRoom w n) : n < w.heap.size := by
  obtain ⟨cs, _, h⟩ := h
  exact (Array.getElem?_eq_some_iff.1 h).1
theorem FrRoom.kept {w w' : World} {n : Nat} (h : FrRoom w n) (k : w'.heap[n]? = w.heap[n]?) : FrRoom w' n := by
  obtain ⟨cs, h0, h⟩ := h
  exact ⟨cs, h0, k.trans h⟩
theorem FrRoom.put {w : World} {n : Nat} (h : FrRoom w n) (f : Fr) :
    (storeVar 51 ⟨n, 0, none⟩ (.agg #[.int .u8 (f.to.a.toNat : Int), .int .u8 (f.to.b.toNat : Int), .int .u8 (f.to.c.toNat : Int), .int .u8 (f.to.d.toNat : Int), .int .u8 (f.to.e.toNat : Int), .int .u8 (f.to.f.toNat : Int), .int .u8 (f.fr.a.toNat : Int), .int .u8 (f.fr.b.toNat : Int), .int .u8 (f.fr.c.toNat : Int), .int .u8 (f.fr.d.toNat : Int), .int .u8 (f.fr.e.toNat : Int), .int .u8 (f.fr.f.toNat : Int), .int .i64 f.ty, .string f.da])).run Try.prog w = .ok () (w.setRow n #[.int .u8 (f.to.a.toNat : Int), .int .u8 (f.to.b.toNat : Int), .int .u8 (f.to.c.toNat : Int), .int .u8 (f.to.d.toNat : Int), .int .u8 (f.to.e.toNat : Int), .int .u8 (f.to.f.toNat : Int), .int .u8 (f.fr.a.toNat : Int), .int .u8 (f.fr.b.toNat : Int), .int .u8 (f.fr.c.toNat : Int), .int .u8 (f.fr.d.toNat : Int), .int .u8 (f.fr.e.toNat : Int), .int .u8 (f.fr.f.toNat : Int), .int .i64 f.ty, .string f.da]) ∧ FrAt (w.setRow n #[.int .u8 (f.to.a.toNat : Int), .int .u8 (f.to.b.toNat : Int), .int .u8 (f.to.c.toNat : Int), .int .u8 (f.to.d.toNat : Int), .int .u8 (f.to.e.toNat : Int), .int .u8 (f.to.f.toNat : Int), .int .u8 (f.fr.a.toNat : Int), .int .u8 (f.fr.b.toNat : Int), .int .u8 (f.fr.c.toNat : Int), .int .u8 (f.fr.d.toNat : Int), .int .u8 (f.fr.e.toNat : Int), .int .u8 (f.fr.f.toNat : Int), .int .i64 f.ty, .string f.da]) n f := by
  obtain ⟨cs, h0, h⟩ := h
  refine ⟨run_storeVar_row (P := Try.prog) w n 51 51 cs #[.int .u8 (f.to.a.toNat : Int), .int .u8 (f.to.b.toNat : Int), .int .u8 (f.to.c.toNat : Int), .int .u8 (f.to.d.toNat : Int), .int .u8 (f.to.e.toNat : Int), .int .u8 (f.to.f.toNat : Int), .int .u8 (f.fr.a.toNat : Int), .int .u8 (f.fr.b.toNat : Int), .int .u8 (f.fr.c.toNat : Int), .int .u8 (f.fr.d.toNat : Int), .int .u8 (f.fr.e.toNat : Int), .int .u8 (f.fr.f.toNat : Int), .int .i64 f.ty, .string f.da] h (by kernel_rfl) h0 (by simp [Value.oneCell']), ?_⟩
  exact setRow_heap w n cs _ _ _ h
theorem FrAt.all {w : World} {n : Nat} {f : Fr} (h : FrAt w n f) : (w.cell? ⟨n, 0, none⟩ = some (.int .u8 (f.to.a.toNat : Int)) ∧ w.cell? ⟨n, 1, none⟩ = some (.int .u8 (f.to.b.toNat : Int)) ∧ w.cell? ⟨n, 2, none⟩ = some (.int .u8 (f.to.c.toNat : Int)) ∧ w.cell? ⟨n, 3, none⟩ = some (.int .u8 (f.to.d.toNat : Int)) ∧ w.cell? ⟨n, 4, none⟩ = some (.int .u8 (f.to.e.toNat : Int)) ∧ w.cell? ⟨n, 5, none⟩ = some (.int .u8 (f.to.f.toNat : Int))) ∧ (w.cell? ⟨n, 6, none⟩ = some (.int .u8 (f.fr.a.toNat : Int)) ∧ w.cell? ⟨n, 7, none⟩ = some (.int .u8 (f.fr.b.toNat : Int)) ∧ w.cell? ⟨n, 8, none⟩ = some (.int .u8 (f.fr.c.toNat : Int)) ∧ w.cell? ⟨n, 9, none⟩ = some (.int .u8 (f.fr.d.toNat : Int)) ∧ w.cell? ⟨n, 10, none⟩ = some (.int .u8 (f.fr.e.toNat : Int)) ∧ w.cell? ⟨n, 11, none⟩ = some (.int .u8 (f.fr.f.toNat : Int))) ∧ w.cell? ⟨n, 12, none⟩ = some (.int .i64 f.ty) ∧ w.cell? ⟨n, 13, none⟩ = some (.string f.da) := by
  refine ⟨⟨?_, ?_, ?_, ?_, ?_, ?_⟩, ⟨?_, ?_, ?_, ?_, ?_, ?_⟩, ?_, ?_⟩ <;> (rw [cell_of_block h]; rfl)
theorem FrAt.room {w : World} {n : Nat} {f : Fr} (h : FrAt w n f) : FrRoom w n := ⟨_, rfl, h⟩
theorem num_two (s : ByteArray) (a : Int) : num (cutS s a 2).reverse < 65536 := by
  have h := num_lt (cutS s a 2).reverse
  have hl : (cutS s a 2).reverse.length ≤ 2 := by
    rw [List.length_reverse]
    unfold cutS
    split
    · simp [List.length_take]; omega
    · simp
  have : 256 ^ (cutS s a 2).reverse.length ≤ 256 ^ 2 := Nat.pow_le_pow_right (by decide) hl
  omega
theorem extract_list (s : ByteArray) (k : Nat) : (s.extract k s.size).data.toList = s.data.toList.drop k := by
  obtain ⟨⟨l⟩⟩ := s
  rw [ByteArray.extract_mk]
  show (l.drop k).take (l.length - k) = l.drop k
  rw [List.take_of_length_le (by simp)]
theorem list_12 {s : ByteArray} (h : 14 ≤ s.size) : 6 + 6 ≤ s.data.toList.length := by
  rw [Array.length_toList]
  exact Nat.le_trans (by decide) h
theorem six_in {s : ByteArray} (h : 14 ≤ s.size) : ¬ (s.size : Int) < 6 := by omega
theorem wrap_i {K : Nat} (h : K < 65536) : IntKind.i64.wrap (K : Int) = (K : Int) := IntWalk.i64_in _ (by omega)
set_option maxRecDepth 100000 in
set_option maxHeartbeats 2000000 in
theorem Read_yes (w : World) (s : ByteArray) (h1 : 14 ≤ s.size) (h2 : s.size ≤ 600) (R : Fr) (hR : R = rdF s) :
    Calls Try.prog 22 #[.string s] w fun e w' => e = .returned (.tuple #[.agg #[.int .u8 (R.to.a.toNat : Int), .int .u8 (R.to.b.toNat : Int), .int .u8 (R.to.c.toNat : Int), .int .u8 (R.to.d.toNat : Int), .int .u8 (R.to.e.toNat : Int), .int .u8 (R.to.f.toNat : Int), .int .u8 (R.fr.a.toNat : Int), .int .u8 (R.fr.b.toNat : Int), .int .u8 (R.fr.c.toNat : Int), .int .u8 (R.fr.d.toNat : Int), .int .u8 (R.fr.e.toNat : Int), .int .u8 (R.fr.f.toNat : Int), .int .i64 R.ty, .string R.da], .int .i64 0]) ∧ Below w.heap.size w w' := by
  have hk : num (cutS s 12 2).reverse < 65536 := num_two s 12
  obtain ⟨T, hT⟩ : ∃ T, T = macAt s.data.toList 0 := ⟨_, rfl⟩
  obtain ⟨G, hG⟩ : ∃ G, G = macAt s.data.toList 6 := ⟨_, rfl⟩
  obtain ⟨K, hK⟩ : ∃ K, K = num (cutS s 12 2).reverse := ⟨_, rfl⟩
  have HK := Lib.hid hK
  have HP : Hid (R = ⟨T, G, K, s.extract 14 s.size⟩) := Lib.hid (by rw [hR, hT, hG, hK]; rfl)
  have HT : Hid (s.data.toList = T.list ++ s.data.toList.drop 6) := Lib.hid (by rw [hT]; exact mac_front _ (Nat.le_trans (by decide) (list_12 h1)))
  have HG : Hid ((s.extract 6 s.size).data.toList = G.list ++ s.data.toList.drop 12) := Lib.hid (by rw [hG, extract_list]; exact mac_at _ 6 (list_12 h1))
  have h0 : okR s.size 12 2 = true := by unfold okR; exact decide_eq_true (by omega)
  have HO := Lib.hid h0
  rw [← hK] at hk
  clear hR hT hG hK h0
  go_enter Try.func22, Try.ntmps22
  go_upto_region 5 with fail
  have RB : Hid (FrRoom (w.alloc (.cells #[.int .u8 0, .int .u8 0, .int .u8 0, .int .u8 0, .int .u8 0, .int .u8 0, .int .u8 0, .int .u8 0, .int .u8 0, .int .u8 0, .int .u8 0, .int .u8 0, .int .i64 0, .string ⟨#[]⟩] 51)) w.heap.size) := Lib.hid ⟨_, rfl, heap_alloc_new w _⟩
  have BL : Hid (Below w.heap.size w (w.alloc (.cells #[.int .u8 0, .int .u8 0, .int .u8 0, .int .u8 0, .int .u8 0, .int .u8 0, .int .u8 0, .int .u8 0, .int .u8 0, .int .u8 0, .int .u8 0, .int .u8 0, .int .i64 0, .string ⟨#[]⟩] 51))) := Lib.hid ((Below.refl _ _).alloc (Nat.le_refl _) _)
  have LT : w.heap.size < (w.alloc (.cells #[.int .u8 0, .int .u8 0, .int .u8 0, .int .u8 0, .int .u8 0, .int .u8 0, .int .u8 0, .int .u8 0, .int .u8 0, .int .u8 0, .int .u8 0, .int .u8 0, .int .i64 0, .string ⟨#[]⟩] 51)).heap.size := by simp
  generalize w.alloc _ = W1 at RB BL LT ⊢
  go_wp2_with fail
  refine (ReadBig_all W1 s 12 2 (by omega)).mono ?_
  rintro e w2 ⟨rfl, k2⟩
  rw [← HK.out, HO.out]
  have RB2 : Hid (FrRoom w2 w.heap.size) := Lib.hid (RB.out.kept (k2.block _ LT (by simp)))
  have BL2 : Hid (Below w.heap.size w w2) := Lib.hid (BL.out.trans ((Below.of_none k2).mono BL.out.size))
  have LT2 : w.heap.size < w2.heap.size := Nat.lt_of_lt_of_le LT k2.size
  clear k2 RB BL LT
  go_upto_region 6 with fail
  refine wp_region_noPanic ?_
  refine region_heldE (S := fun w' => FrRoom w' w.heap.size) (by kernel_rfl) (fun V d => RB2.out.kept (d.block _)) (fun V d hS => ?_)
  have BV0 := Lib.hid (BL2.out.trans ((d.below).mono BL2.out.size))
  clear d
  refine wpAnyH_take (i := 0) (oi := ⟨some 19, Op.move (Operand.tmp 0), _, _, _, none⟩) (v := (.string s)) rfl (by kernel_rfl) (by kernel_rfl) (by kernel_rfl) (fun _ _ _ h => h) (Or.inl ⟨by rfl, fun w' h' => ?_⟩) hS ?_
  · clear h'
    go_simp
  simp only [Act.put]
  refine wpAnyH_take (i := 2) (oi := ⟨some 21, Op.move (Operand.tmp 0), _, _, _, none⟩) (v := (.string s)) rfl (by kernel_rfl) (by kernel_rfl) (by kernel_rfl) (fun _ _ _ h => h) (Or.inl ⟨by rfl, fun w' h' => ?_⟩) hS ?_
  · clear h'
    go_simp
  simp only [Act.put]
  refine wpAnyH_take (i := 3) (oi := ⟨some 22, Op.slice 9 (Operand.tmp 21) (some (Operand.const (Value.int IntKind.i64 6))) none none, _, _, _, none⟩) (v := (.string (s.extract 6 s.size))) rfl (by kernel_rfl) (by kernel_rfl) (by kernel_rfl) (fun _ _ _ h => h) (Or.inl ⟨by rfl, fun w' h' => ?_⟩) hS ?_
  · have c0 := six_in h1
    clear h'
    go_simp
  simp only [Act.put]
  refine wpAnyH_take (i := 5) (oi := ⟨some 24, Op.move (Operand.tmp 4), _, _, _, none⟩) (v := (.int .u64 (K : Int))) rfl (by kernel_rfl) (by kernel_rfl) (by kernel_rfl) (fun _ _ _ h => h) (Or.inl ⟨by rfl, fun w' h' => ?_⟩) hS ?_
  · clear h'
    go_simp
  simp only [Act.put]
  refine wpAnyH_take (i := 6) (oi := ⟨some 25, Op.convert 87 3 (Operand.tmp 24), _, _, _, none⟩) (v := (.int .i64 (K : Int))) rfl (by kernel_rfl) (by kernel_rfl) (by kernel_rfl) (fun _ _ _ h => h) (Or.inl ⟨by rfl, fun w' h' => ?_⟩) hS ?_
  · have c0 := wrap_i hk
    clear h'
    go_simp
  simp only [Act.put]
  refine wpAnyH_take (i := 7) (oi := ⟨some 26, Op.move (Operand.tmp 0), _, _, _, none⟩) (v := (.string s)) rfl (by kernel_rfl) (by kernel_rfl) (by kernel_rfl) (fun _ _ _ h => h) (Or.inl ⟨by rfl, fun w' h' => ?_⟩) hS ?_
  · clear h'
    go_simp
  simp only [Act.put]
  refine wpAnyH_take (i := 8) (oi := ⟨some 27, Op.slice 9 (Operand.tmp 26) (some (Operand.const (Value.int IntKind.i64 14))) none none, _, _, _, none⟩) (v := (.string (s.extract 14 s.size))) rfl (by kernel_rfl) (by kernel_rfl) (by kernel_rfl) (fun _ _ _ h => h) (Or.inl ⟨by rfl, fun w' h' => ?_⟩) hS ?_
  · have c0 := h1
    clear h'
    go_simp
  simp only [Act.put]
  refine wpAnyH_ready (rs := [1]) (by kernel_rfl) (by simp) ?_
  refine AllReadyH.cons rfl (fun K hK => ?_) AllReadyH.nil
  go_simp
  refine (address_six V s T _ HT.out).mono ?_
  rintro e w4 ⟨rfl, k4⟩
  have S4 : FrRoom w4 w.heap.size := hS.kept (k4.block _ hS.lt)
  have BV4 := Lib.hid (BV0.out.trans (k4.mono BV0.out.size))
  clear BV0 k4
  go_simp
  refine hK.out _ _ S4 (fun _ => ?_)
  clear hK K
  refine wpAnyH_ready (rs := [4]) (by kernel_rfl) (by simp) ?_
  refine AllReadyH.cons rfl (fun K hK => ?_) AllReadyH.nil
  go_simp
  refine (address_six w4 (s.extract 6 s.size) G _ HG.out).mono ?_
  rintro e w5 ⟨rfl, k5⟩
  have S5 : FrRoom w5 w.heap.size := S4.kept (k5.block _ S4.lt)
  have BV5 := Lib.hid (BV4.out.trans (k5.mono BV4.out.size))
  clear BV4 k5
  go_simp
  refine hK.out _ _ S5 (fun _ => ?_)
  clear hK K
  refine wpAnyH_take (i := 9) (oi := ⟨some 28, Op.build 51 #[(0, (Operand.tmp 20)), (1, (Operand.tmp 23)), (2, (Operand.tmp 25)), (3, (Operand.tmp 27))], _, _, _, none⟩) (v := (.agg #[.int .u8 (T.a.toNat : Int), .int .u8 (T.b.toNat : Int), .int .u8 (T.c.toNat : Int), .int .u8 (T.d.toNat : Int), .int .u8 (T.e.toNat : Int), .int .u8 (T.f.toNat : Int), .int .u8 (G.a.toNat : Int), .int .u8 (G.b.toNat : Int), .int .u8 (G.c.toNat : Int), .int .u8 (G.d.toNat : Int), .int .u8 (G.e.toNat : Int), .int .u8 (G.f.toNat : Int), .int .i64 (K : Int), .string (s.extract 14 s.size)])) rfl (by kernel_rfl) (by kernel_rfl) (by kernel_rfl) (fun _ _ _ h => h) (Or.inl ⟨by rfl, fun w' h' => ?_⟩) S5 ?_
  · clear h'
    go_simp
  simp only [Act.put]
  obtain ⟨hst, S6⟩ := S5.put ⟨T, G, K, s.extract 14 s.size⟩
  have BV6 := Lib.hid (below_setRow BV5.out (Nat.le_refl _) #[.int .u8 (T.a.toNat : Int), .int .u8 (T.b.toNat : Int), .int .u8 (T.c.toNat : Int), .int .u8 (T.d.toNat : Int), .int .u8 (T.e.toNat : Int), .int .u8 (T.f.toNat : Int), .int .u8 (G.a.toNat : Int), .int .u8 (G.b.toNat : Int), .int .u8 (G.c.toNat : Int), .int .u8 (G.d.toNat : Int), .int .u8 (G.e.toNat : Int), .int .u8 (G.f.toNat : Int), .int .i64 (K : Int), .string (s.extract 14 s.size)])
  clear BV5
  refine wpAnyH_ready (rs := [10]) (by kernel_rfl) (by simp) ?_
  refine AllReadyH.cons rfl (fun K hK => ?_) AllReadyH.nil
  refine upon_store 51 _ _ rfl _ w.heap.size rfl rfl hst ?_
  simp only [Act.put]
  refine hK.out _ _ S6.room (fun _ => ?_)
  clear hK K
  refine wpAnyH_take (i := 11) (oi := ⟨some 3, Op.assign (Operand.const (Value.int IntKind.i64 0)), _, _, _, none⟩) (v := (.int .i64 0)) rfl (by kernel_rfl) (by kernel_rfl) (by kernel_rfl) (fun _ _ _ h => h) (Or.inl ⟨by rfl, fun w' h' => ?_⟩) S6.room ?_
  · clear h'
    go_simp
  simp only [Act.put]
  refine wpAnyH_done (by kernel_rfl) (NoPanic.normal ?_) _
  have S7 := Lib.hid S6
  have B7 := Lib.hid BV6.out
  clear hS S4 S5 S6 hst BV6
  generalize w5.setRow _ _ = w6 at S7 B7 ⊢
  go_wp2_with fail
  obtain ⟨⟨c0, c1, c2, c3, c4, c5⟩, ⟨c6, c7, c8, c9, c10, c11⟩, c12, c13⟩ := S7.out.all
  have hp := HP.out
  subst hp
  exact bodyPost_ret (v := .tuple #[.agg #[.int .u8 (T.a.toNat : Int), .int .u8 (T.b.toNat : Int), .int .u8 (T.c.toNat : Int), .int .u8 (T.d.toNat : Int), .int .u8 (T.e.toNat : Int), .int .u8 (T.f.toNat : Int), .int .u8 (G.a.toNat : Int), .int .u8 (G.b.toNat : Int), .int .u8 (G.c.toNat : Int), .int .u8 (G.d.toNat : Int), .int .u8 (G.e.toNat : Int), .int .u8 (G.f.toNat : Int), .int .i64 (K : Int), .string (s.extract 14 s.size)], .int .i64 0]) (by simp [results, Try.results22, go_sem, c0, c1, c2, c3, c4, c5, c6, c7, c8, c9, c10, c11, c12, c13]) rfl ⟨rfl, B7.out⟩

theorem Read_any (w : World) (s : ByteArray) (R : Fr) (hR : R = rdR s) :
    Calls Try.prog 22 #[.string s] w fun e w' => e = .returned (.tuple #[.agg #[.int .u8 (R.to.a.toNat : Int), .int .u8 (R.to.b.toNat : Int), .int .u8 (R.to.c.toNat : Int), .int .u8 (R.to.d.toNat : Int), .int .u8 (R.to.e.toNat : Int), .int .u8 (R.to.f.toNat : Int), .int .u8 (R.fr.a.toNat : Int), .int .u8 (R.fr.b.toNat : Int), .int .u8 (R.fr.c.toNat : Int), .int .u8 (R.fr.d.toNat : Int), .int .u8 (R.fr.e.toNat : Int), .int .u8 (R.fr.f.toNat : Int), .int .i64 R.ty, .string R.da], .int .i64 (rdE s)]) ∧ Below w.heap.size w w' := by
  by_cases h1 : s.size < 14
  · have e1 : rdE s = 7 := if_pos h1
    rw [rdR, e1, if_neg (by decide)] at hR
    subst hR
    rw [e1]
    exact Read_short w s h1
  · by_cases h2 : 600 < s.size
    · have e1 : rdE s = 3 := by rw [rdE, if_neg h1, if_pos h2]
      rw [rdR, e1, if_neg (by decide)] at hR
      subst hR
      rw [e1]
      exact Read_long w s h2
    · have e1 : rdE s = 0 := by rw [rdE, if_neg h1, if_neg h2]
      rw [rdR, e1, if_pos rfl] at hR
      rw [e1]
      exact Read_yes w s (by omega) (by omega) R hR

end Go.Proofs.Ytbbmfgeagdblcaa
