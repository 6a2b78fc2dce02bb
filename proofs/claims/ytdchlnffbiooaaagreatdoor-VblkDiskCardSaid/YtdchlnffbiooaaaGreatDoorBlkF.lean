/-
  Layer 3: an order is laid into its slot. Conditions: as said.
-/
import Derived.Test.YtdchlnffbiooaaaGreatDoorBlkE
namespace Go.Proofs.YtdchlnffbiooaaaGreatDoor
open Go.RowKit Go.Sort

/-- The memory behind it. -/
def slotL (lm : List UInt8) (at_ : Int) (s : Shp) (o : Ord) : List UInt8 := putL (writeL (writeL lm at_ (headL s o)) (at_ + 16) (dataL s o)) (at_ + 80) 1 255

theorem slotL_length (lm : List UInt8) (at_ : Int) (s : Shp) (o : Ord) : (slotL lm at_ s o).length = lm.length := by unfold slotL; rw [putL_length, writeL_length, writeL_length]
theorem headL_len (s : Shp) (o : Ord) : (headL s o).length ≤ 24 := by
  unfold headL
  rw [List.length_append, List.length_append]
  have := leL_len s.num 4
  have := leL_len 0 4
  have := leL_len (if s.sec = 1 then o.sec else 0) 8
  omega
theorem dataL_len (s : Shp) (o : Ord) (h : o.data.size ≤ 65536) : (dataL s o).length ≤ 65536 := by
  unfold dataL
  split
  · rw [List.length_append, List.length_append]
    have := leL_len o.sec 8
    have := leL_len 1 4
    have := leL_len 0 4
    omega
  · simpa using h

/-- What stays through lay's calls. -/
def LayS (w0 w : World) (b g : Nat) (base sectors limit : Int) (q u : Nat) (last now : Int) (dead : Bool) (s : Shp) (o : Ord) : Prop :=
  KAt w b g base sectors limit q u last now dead ∧ w.heap[w0.heap.size]? = some (.cells #[.int .i64 s.kind, .int .u64 s.num, .int .i64 s.len, .bool s.back, .int .i64 s.sec] 74 (0, 0)) ∧
    w.heap[w0.heap.size + 1]? = some (.cells #[.int .i64 o.kind, .int .i64 o.sec, .string o.data] 39 (0, 0))
theorem LayS.kept {w0 w w' : World} {b g : Nat} {base sectors limit : Int} {q u : Nat} {last now : Int} {dead : Bool} {s : Shp} {o : Ord} (h : LayS w0 w b g base sectors limit q u last now dead s o) (k : ∀ x, x < w.heap.size → (x = b ∨ x = w0.heap.size ∨ x = w0.heap.size + 1) → w'.heap[x]? = w.heap[x]?) : LayS w0 w' b g base sectors limit q u last now dead s o :=
  ⟨h.1.kept (k _ (lt_of_block h.1) (.inl rfl)), (k _ (lt_of_block h.2.1) (.inr (.inl rfl))).trans h.2.1, (k _ (lt_of_block h.2.2) (.inr (.inr rfl))).trans h.2.2⟩

section
variable {w0 w : World} {b g : Nat} {base sectors limit : Int} {q u : Nat} {last now : Int} {dead : Bool} {s : Shp} {o : Ord}
theorem LayS.s0 (h : LayS w0 w b g base sectors limit q u last now dead s o) : w.cell? ⟨w0.heap.size, 0, none⟩ = some (.int .i64 s.kind) := cell_of_block h.2.1
theorem LayS.s1 (h : LayS w0 w b g base sectors limit q u last now dead s o) : w.cell? ⟨w0.heap.size, 1, none⟩ = some (.int .u64 s.num) := cell_of_block h.2.1
theorem LayS.s2 (h : LayS w0 w b g base sectors limit q u last now dead s o) : w.cell? ⟨w0.heap.size, 2, none⟩ = some (.int .i64 s.len) := cell_of_block h.2.1
theorem LayS.s3 (h : LayS w0 w b g base sectors limit q u last now dead s o) : w.cell? ⟨w0.heap.size, 3, none⟩ = some (.bool s.back) := cell_of_block h.2.1
theorem LayS.s4 (h : LayS w0 w b g base sectors limit q u last now dead s o) : w.cell? ⟨w0.heap.size, 4, none⟩ = some (.int .i64 s.sec) := cell_of_block h.2.1
theorem LayS.o0 (h : LayS w0 w b g base sectors limit q u last now dead s o) : w.cell? ⟨w0.heap.size + 1, 0, none⟩ = some (.int .i64 o.kind) := cell_of_block h.2.2
theorem LayS.o1 (h : LayS w0 w b g base sectors limit q u last now dead s o) : w.cell? ⟨w0.heap.size + 1, 1, none⟩ = some (.int .i64 o.sec) := cell_of_block h.2.2
theorem LayS.o2 (h : LayS w0 w b g base sectors limit q u last now dead s o) : w.cell? ⟨w0.heap.size + 1, 2, none⟩ = some (.string o.data) := cell_of_block h.2.2
end

theorem toArray_size (l : List UInt8) : (⟨l.toArray⟩ : ByteArray).size = l.length := by simp [ByteArray.size]
theorem grown_any {w w' : World} (k : w.grownBy w' none) (r : Option Nat) : w.grownBy w' r := ⟨k.os, k.tape, k.output, k.size, fun j hj _ => k.block j hj (by simp)⟩

set_option maxRecDepth 100000 in
set_option maxHeartbeats 2000000 in
theorem klay_any (w : World) (b g h : Nat) (base sectors limit : Int) (q u : Nat) (last now : Int) (dead : Bool) (lm : List UInt8) (hk : KAt w b g base sectors limit q u last now dead) (m : Mem w g h lm) (l2 : lm.length ≤ 65536) (at_ : Int) (a0 : 0 ≤ at_) (a1 : at_ ≤ 65536)
    (s : Shp) (o : Ord) (h0 : 0 ≤ s.num) (k0 : 0 ≤ o.sec) (k1 : o.sec ≤ 9223372036854775807) (hd : o.data.size ≤ 65536) :
    Calls Tryz.prog 24 #[.pointer (some ⟨b, 0, none⟩), .int .i64 at_, s.val, o.val] w fun e w' => e = .returned (.tuple #[]) ∧ Mem w' g h (slotL lm at_ s o) ∧ w.grownBy w' (some h) := by
  have HC := Lib.hid (fun w => head_any w s o h0 k0 k1)
  have DC := Lib.hid (fun w => data_any w s o k0 k1)
  have hH2 := headL_len s o
  have hD2 := dataL_len s o hd
  obtain ⟨H, hH⟩ : ∃ H, H = headL s o := ⟨_, rfl⟩
  obtain ⟨D, hD⟩ : ∃ D, D = dataL s o := ⟨_, rfl⟩
  unfold slotL
  rw [← hH, ← hD]
  rw [← hH] at HC hH2
  rw [← hD] at DC hD2
  have Hs : (⟨H.toArray⟩ : ByteArray).size ≤ 9223372036854775807 := by rw [toArray_size]; omega
  have Ds : (⟨D.toArray⟩ : ByteArray).size ≤ 9223372036854775807 := by rw [toArray_size]; omega
  have l1 : lm.length ≤ 9223372036854775807 := by omega
  obtain ⟨L1, hL1⟩ : ∃ L, L = writeL lm at_ H := ⟨_, rfl⟩
  have l3 : L1.length ≤ 9223372036854775807 := by rw [hL1, writeL_length]; omega
  obtain ⟨L2, hL2⟩ : ∃ L, L = writeL L1 (at_ + 16) D := ⟨_, rfl⟩
  have l4 : L2.length ≤ 9223372036854775807 := by rw [hL2, writeL_length]; exact l3
  have HL1 := Lib.hid hL1
  have HL2 := Lib.hid hL2
  clear hH hD hL1 hL2 hH2 hD2 hd
  have ka := (World.grownBy_alloc w (.cells #[.int .i64 s.kind, .int .u64 s.num, .int .i64 s.len, .bool s.back, .int .i64 s.sec] 74) none).trans (World.grownBy_alloc _ (.cells #[.int .i64 o.kind, .int .i64 o.sec, .string o.data] 39) none)
  have hw16 : IntKind.i64.wrap (at_ + 16) = at_ + 16 := IntWalk.i64_in _ (by omega)
  have s1 : LayS w ((w.alloc (.cells #[.int .i64 s.kind, .int .u64 s.num, .int .i64 s.len, .bool s.back, .int .i64 s.sec] 74)).alloc (.cells #[.int .i64 o.kind, .int .i64 o.sec, .string o.data] 39)) b g base sectors limit q u last now dead s o :=
    ⟨hk.kept (ka.block _ (lt_of_block hk) (by simp)), (Below.heap_alloc _ _ _ (lt_of_block (heap_alloc_new w _))).trans (heap_alloc_new w _), alloc_two _ _ _⟩
  have m1 := m.same ka
  have hbh : b ≠ h := m.not_u8 hk.c0 (fun x e => by cases e)
  have hlh := m.lt2
  clear hk m
  unfold Shp.val Ord.val at *
  obtain ⟨sk, sn, sl, sb, ss⟩ := s
  obtain ⟨ok, os_, od⟩ := o
  simp only at *
  go_enter Tryz.func24, Tryz.ntmps24
  go_wp2_with fail
  generalize (w.alloc _).alloc _ = W1 at ka s1 m1 ⊢
  have kh : w.grownBy W1 (some h) := grown_any ka _
  refine wp_region_noPanic ?_
  refine region_held (S := fun w' => LayS w w' b g base sectors limit q u last now dead ⟨sk, sn, sl, sb, ss⟩ ⟨ok, os_, od⟩) (by kernel_rfl) (fun V d => s1.kept (fun x _ _ => d.block x)) (fun V d hS => ?_)
  have mV := m1.same d.grown
  have gV : w.grownBy V (some h) := kh.trans (grown_any d.grown _)
  refine wpAnyH_take (i := 0) (v := (.pointer (some ⟨b, 0, none⟩))) rfl (by kernel_rfl) (by kernel_rfl) (by kernel_rfl) (fun _ _ _ h => h) (Or.inl ⟨by rfl, fun w' h' => ?_⟩) hS ?_
  · clear h'
    go_simp
  simp only [Act.put]
  refine wpAnyH_take (i := 1) (v := (.pointer (some ⟨b, 0, none⟩))) rfl (by kernel_rfl) (by kernel_rfl) (by kernel_rfl) (fun _ _ _ h => h) (Or.inl ⟨by rfl, fun w' h' => ?_⟩) hS ?_
  · clear h'
    go_simp
  simp only [Act.put]
  refine wpAnyH_take (i := 2) (v := (.pointer (some ⟨b, 0, none⟩))) rfl (by kernel_rfl) (by kernel_rfl) (by kernel_rfl) (fun _ _ _ h => h) (Or.inl ⟨by rfl, fun w' h' => ?_⟩) hS ?_
  · clear h'
    go_simp
  simp only [Act.put]
  refine wpAnyH_take (i := 3) (v := (.pointer (some ⟨g, 0, none⟩))) rfl (by kernel_rfl) (by kernel_rfl) (by kernel_rfl) (fun _ _ _ h => h) (Or.inl ⟨by rfl, fun w' h' => ?_⟩) hS ?_
  · have c0 := h'.1.c0
    clear h'
    go_simp
  simp only [Act.put]
  refine wpAnyH_take (i := 4) (v := (.int .i64 at_)) rfl (by kernel_rfl) (by kernel_rfl) (by kernel_rfl) (fun _ _ _ h => h) (Or.inl ⟨by rfl, fun w' h' => ?_⟩) hS ?_
  · clear h'
    go_simp
  simp only [Act.put]
  refine wpAnyH_take (i := 5) (v := (.agg #[.int .i64 sk, .int .u64 sn, .int .i64 sl, .bool sb, .int .i64 ss])) rfl (by kernel_rfl) (by kernel_rfl) (by kernel_rfl) (fun _ _ _ h => h) (Or.inl ⟨by rfl, fun w' h' => ?_⟩) hS ?_
  · have c0 := h'.s0
    have c1 := h'.s1
    have c2 := h'.s2
    have c3 := h'.s3
    have c4 := h'.s4
    clear h'
    go_simp
  simp only [Act.put]
  refine wpAnyH_take (i := 6) (v := (.agg #[.int .i64 ok, .int .i64 os_, .string od])) rfl (by kernel_rfl) (by kernel_rfl) (by kernel_rfl) (fun _ _ _ h => h) (Or.inl ⟨by rfl, fun w' h' => ?_⟩) hS ?_
  · have c0 := h'.o0
    have c1 := h'.o1
    have c2 := h'.o2
    clear h'
    go_simp
  simp only [Act.put]
  refine wpAnyH_ready (rs := [7]) (by kernel_rfl) (by simp) ?_
  refine AllReadyH.cons rfl (fun K hK => ?_) AllReadyH.nil
  go_simp
  refine (HC.out V).mono ?_
  rintro e w2 ⟨rfl, k2⟩
  have s2 := hS.kept (fun x hx _ => k2.block x hx (by simp))
  have m2 := mV.same k2
  have g2 := gV.trans (grown_any k2 _)
  go_simp
  refine hK.out _ _ s2 (fun _ => ?_)
  clear hK K
  refine wpAnyH_ready (rs := [8]) (by kernel_rfl) (by simp) ?_
  refine AllReadyH.cons rfl (fun K hK => ?_) AllReadyH.nil
  go_simp
  refine (Write_all w2 g h lm m2 (by first | exact l1 | exact l3) _ _ Hs).mono ?_
  rintro e w3 ⟨rfl, m3, k3⟩
  have s3 := s2.kept (fun x hx hd => k3.block x hx (by intro e; injection e with e; rcases hd with rfl | rfl | rfl <;> omega))
  have g3 := g2.trans k3
  go_simp
  refine hK.out _ _ s3 (fun _ => ?_)
  clear hK K
  refine wpAnyH_done (by kernel_rfl) (NoPanic.normal ?_) _
  clear mV gV hS d m2 k2 s2 g2 k3 ka kh s1 m1
  rw [show (⟨H.toArray⟩ : ByteArray).data.toList = H from rfl, ← HL1.out] at m3
  go_wp2_with fail
  refine wp_region_noPanic ?_
  refine region_held (S := fun w' => LayS w w' b g base sectors limit q u last now dead ⟨sk, sn, sl, sb, ss⟩ ⟨ok, os_, od⟩) (by kernel_rfl) (fun V d => s3.kept (fun x _ _ => d.block x)) (fun V d hS => ?_)
  have mV := m3.same d.grown
  have gV : w.grownBy V (some h) := g3.trans (grown_any d.grown _)
  refine wpAnyH_take (i := 0) (v := (.pointer (some ⟨b, 0, none⟩))) rfl (by kernel_rfl) (by kernel_rfl) (by kernel_rfl) (fun _ _ _ h => h) (Or.inl ⟨by rfl, fun w' h' => ?_⟩) hS ?_
  · clear h'
    go_simp
  simp only [Act.put]
  refine wpAnyH_take (i := 1) (v := (.pointer (some ⟨b, 0, none⟩))) rfl (by kernel_rfl) (by kernel_rfl) (by kernel_rfl) (fun _ _ _ h => h) (Or.inl ⟨by rfl, fun w' h' => ?_⟩) hS ?_
  · clear h'
    go_simp
  simp only [Act.put]
  refine wpAnyH_take (i := 2) (v := (.pointer (some ⟨b, 0, none⟩))) rfl (by kernel_rfl) (by kernel_rfl) (by kernel_rfl) (fun _ _ _ h => h) (Or.inl ⟨by rfl, fun w' h' => ?_⟩) hS ?_
  · clear h'
    go_simp
  simp only [Act.put]
  refine wpAnyH_take (i := 3) (v := (.pointer (some ⟨g, 0, none⟩))) rfl (by kernel_rfl) (by kernel_rfl) (by kernel_rfl) (fun _ _ _ h => h) (Or.inl ⟨by rfl, fun w' h' => ?_⟩) hS ?_
  · have c0 := h'.1.c0
    clear h'
    go_simp
  simp only [Act.put]
  refine wpAnyH_take (i := 4) (v := (.int .i64 at_)) rfl (by kernel_rfl) (by kernel_rfl) (by kernel_rfl) (fun _ _ _ h => h) (Or.inl ⟨by rfl, fun w' h' => ?_⟩) hS ?_
  · clear h'
    go_simp
  simp only [Act.put]
  refine wpAnyH_take (i := 5) (v := (.int .i64 (at_ + 16))) rfl (by kernel_rfl) (by kernel_rfl) (by kernel_rfl) (fun _ _ _ h => h) (Or.inl ⟨by rfl, fun w' h' => ?_⟩) hS ?_
  · clear h'
    go_simp
  simp only [Act.put]
  refine wpAnyH_take (i := 6) (v := (.agg #[.int .i64 sk, .int .u64 sn, .int .i64 sl, .bool sb, .int .i64 ss])) rfl (by kernel_rfl) (by kernel_rfl) (by kernel_rfl) (fun _ _ _ h => h) (Or.inl ⟨by rfl, fun w' h' => ?_⟩) hS ?_
  · have c0 := h'.s0
    have c1 := h'.s1
    have c2 := h'.s2
    have c3 := h'.s3
    have c4 := h'.s4
    clear h'
    go_simp
  simp only [Act.put]
  refine wpAnyH_take (i := 7) (v := (.agg #[.int .i64 ok, .int .i64 os_, .string od])) rfl (by kernel_rfl) (by kernel_rfl) (by kernel_rfl) (fun _ _ _ h => h) (Or.inl ⟨by rfl, fun w' h' => ?_⟩) hS ?_
  · have c0 := h'.o0
    have c1 := h'.o1
    have c2 := h'.o2
    clear h'
    go_simp
  simp only [Act.put]
  refine wpAnyH_ready (rs := [8]) (by kernel_rfl) (by simp) ?_
  refine AllReadyH.cons rfl (fun K hK => ?_) AllReadyH.nil
  go_simp
  refine (DC.out V).mono ?_
  rintro e w4 ⟨rfl, k4⟩
  have s4 := hS.kept (fun x hx _ => k4.block x hx (by simp))
  have m4 := mV.same k4
  have g4 := gV.trans (grown_any k4 _)
  go_simp
  refine hK.out _ _ s4 (fun _ => ?_)
  clear hK K
  refine wpAnyH_ready (rs := [9]) (by kernel_rfl) (by simp) ?_
  refine AllReadyH.cons rfl (fun K hK => ?_) AllReadyH.nil
  go_simp
  refine (Write_all w4 g h L1 m4 (by first | exact l1 | exact l3) _ _ Ds).mono ?_
  rintro e w5 ⟨rfl, m5, k5⟩
  have s5 := s4.kept (fun x hx hd => k5.block x hx (by intro e; injection e with e; rcases hd with rfl | rfl | rfl <;> omega))
  have g5 := g4.trans k5
  go_simp
  refine hK.out _ _ s5 (fun _ => ?_)
  clear hK K
  refine wpAnyH_done (by kernel_rfl) (NoPanic.normal ?_) _
  clear mV gV hS d m4 k4 s4 g4 k5 s3 m3 g3
  rw [show (⟨D.toArray⟩ : ByteArray).data.toList = D from rfl, ← HL2.out] at m5
  have c0 := s5.1.c0
  clear s5 HC DC
  go_wp2_with fail
  refine (Put_all w5 g h L2 m5 l4 _ 1 255 (by omega)).mono ?_
  rintro e w6 ⟨rfl, m6, k6⟩
  have M6 := Lib.hid m6
  have G6 := Lib.hid (g5.trans k6)
  clear m6 k6 g5 m5 c0
  go_wp2_with fail
  go_end0
  exact ⟨rfl, by rw [← HL1.out, ← HL2.out]; exact M6.out, G6.out⟩

end Go.Proofs.YtdchlnffbiooaaaGreatDoor
