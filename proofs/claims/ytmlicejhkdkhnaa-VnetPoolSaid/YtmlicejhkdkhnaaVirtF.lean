/-
  The contract of package virtq's wiping: all bytes of a queue become noughts. Conditions as before.
-/
import Derived.Test.YtmlicejhkdkhnaaVirtD
namespace Go.Proofs.Ytmlicejhkdkhnaa
open Go.RowKit Go.Sort

/-- What 'string(make([]byte, n))' is. -/
theorem vconv_zeros (W : World) (n : Nat) :
    (convert 66 9 (.slice (some ⟨W.heap.size, 0, none⟩) n n)).run Try.prog (W.alloc (.cells (zeros n) 5)) = .ok (.string ⟨(List.replicate n (0 : UInt8)).toArray⟩) (W.alloc (.cells (zeros n) 5)) := by
  refine conv_text _ _ _ _ _ (List.replicate n 0) (by simp) fun j hj => ?_
  have hb := heap_alloc_new W (.cells (zeros n) 5)
  have hj' : j < n := by simpa using hj
  refine ⟨?_, frozen_of_block hb⟩
  rw [cell_of_block hb, getElem!_pos (List.replicate n (0 : UInt8)).toArray j hj]
  simp [zeros, eb, hj']

/-- What stays through wipe's operations. -/
def WipeS (w w' : World) (b g h : Nat) (base n : Int) : Prop := AreaAt w' b g base n ∧ b ≠ h ∧ w.grownBy w' (some h)
theorem WipeS.next {w w1 w2 : World} {b g h : Nat} {base n : Int} (s : WipeS w w1 b g h base n) (k : w1.grownBy w2 (some h)) : WipeS w w2 b g h base n := by
  obtain ⟨s1, s2, s3⟩ := s
  exact ⟨s1.kept (k.block _ (lt_of_block s1) (fun e => s2 (by injection e))), s2, s3.trans k⟩
theorem WipeS.alloc {w w1 : World} {b g h : Nat} {base n : Int} (s : WipeS w w1 b g h base n) (o : Obj) : WipeS w (w1.alloc o) b g h base n := s.next ((World.grownBy_alloc w1 o none).but _)
theorem WipeS.all {w w' : World} {b g h : Nat} {base n : Int} (s : WipeS w w' b g h base n) :
    w'.cell? ⟨b, 0, none⟩ = some (.pointer (some ⟨g, 0, none⟩)) ∧ w'.cell? ⟨b, 1, none⟩ = some (.int .i64 base) ∧ w'.cell? ⟨b, 2, none⟩ = some (.int .i64 n) ∧ WipeS w w' b g h base n := ⟨s.1.c0, s.1.c1, s.1.c2, s⟩

set_option maxRecDepth 100000 in
set_option maxHeartbeats 1000000 in
theorem wipe_any (w : World) (g h : Nat) (l : List UInt8) (m : Mem w g h l) (base n : Int) (hl : l.length ≤ 65536) (hn : n ≤ 64) :
    Calls Try.prog 88 #[.agg #[.pointer (some ⟨g, 0, none⟩), .int .i64 base, .int .i64 n]] w
      fun e w' => e = .returned (.tuple #[]) ∧ Mem w' g h (writeL l base (List.replicate (bytesOf n).toNat 0)) ∧ w.grownBy w' (some h) := by
  have hb := bytesOf_bd n
  obtain ⟨B, hB⟩ : ∃ B : Nat, bytesOf n = B := ⟨(bytesOf n).toNat, by omega⟩
  have BC := fun w => vbytes_any n w (by omega)
  rw [hB] at BC hb ⊢
  rw [Int.toNat_natCast]
  have hB2 : B ≤ 65536 := by omega
  obtain ⟨s, hs⟩ : ∃ s : ByteArray, s = ⟨(List.replicate B (0 : UInt8)).toArray⟩ := ⟨_, rfl⟩
  have hs1 : s.data.toList = List.replicate B 0 := by rw [hs]
  have hs2 : s.size ≤ 9223372036854775807 := by have : s.size = B := by rw [hs]; simp [ByteArray.size]
                                                omega
  have WC := fun w m => Write_all w g h l m (by omega) base s hs2
  rw [hs1] at WC
  have WC' := Lib.hid WC
  have BC' := Lib.hid BC
  have CZ := fun W => vconv_zeros W B
  rw [← hs] at CZ
  have m1 := m.alloc (.cells #[.pointer (some ⟨g, 0, none⟩), .int .i64 base, .int .i64 n] 107)
  have s1 : WipeS w (w.alloc (.cells #[.pointer (some ⟨g, 0, none⟩), .int .i64 base, .int .i64 n] 107)) w.heap.size g h base n :=
    ⟨area_box w g base n, Nat.ne_of_gt m.lt2, (World.grownBy_alloc w _ none).but _⟩
  have hmk := make_bytes B hB2
  clear WC BC hB hb hs hs1
  go_enter Try.func88, Try.ntmps88
  go_wp2_with fail
  generalize w.alloc _ = W at s1 m1 ⊢
  have hA : AreaAt W.drew w.heap.size g base n := s1.1
  have hmk1 := hmk W.drew
  have cz1 : (convert 66 9 (.slice (some ⟨W.heap.size, 0, none⟩) B B)).run Try.prog (W.alloc (.cells (zeros B) 5)).drew = .ok (.string s) (W.alloc (.cells (zeros B) 5)).drew := CZ W.drew
  have m2 := m1.drew.alloc (.cells (zeros B) 5)
  have s2 : WipeS w W.drew w.heap.size g h base n := s1.next ((Drew.grown (w := W) rfl).but _)
  have s3 := s2.alloc (.cells (zeros B) 5)
  refine wp_region_noPanic ?_
  refine wp_region_held_drew (S := fun w' => AreaAt w' w.heap.size g base n) (by kernel_rfl) hA (fun hS => ?_)
  refine wpAnyH_take (i := 0) (v := .pointer (some ⟨w.heap.size, 0, none⟩)) rfl (by kernel_rfl) (by kernel_rfl) (by kernel_rfl) (fun _ _ _ h => h) (Or.inl ⟨by rfl, fun w' h' => ?_⟩) hS ?_
  · go_simp
  simp only [Act.put]
  refine wpAnyH_take (i := 1) (v := .pointer (some ⟨g, 0, none⟩)) rfl (by kernel_rfl) (by kernel_rfl) (by kernel_rfl) (fun _ _ _ h => h) (Or.inl ⟨by rfl, fun w' h' => ?_⟩) hS ?_
  · have c := h'.c0
    clear h'
    go_simp
  simp only [Act.put]
  refine wpAnyH_take (i := 2) (v := .pointer (some ⟨w.heap.size, 1, none⟩)) rfl (by kernel_rfl) (by kernel_rfl) (by kernel_rfl) (fun _ _ _ h => h) (Or.inl ⟨by rfl, fun w' h' => ?_⟩) hS ?_
  · go_simp
  simp only [Act.put]
  refine wpAnyH_take (i := 3) (v := .int .i64 base) rfl (by kernel_rfl) (by kernel_rfl) (by kernel_rfl) (fun _ _ _ h => h) (Or.inl ⟨by rfl, fun w' h' => ?_⟩) hS ?_
  · have c := h'.c1
    clear h'
    go_simp
  simp only [Act.put]
  refine wpAnyH_take (i := 4) (v := .pointer (some ⟨w.heap.size, 2, none⟩)) rfl (by kernel_rfl) (by kernel_rfl) (by kernel_rfl) (fun _ _ _ h => h) (Or.inl ⟨by rfl, fun w' h' => ?_⟩) hS ?_
  · go_simp
  simp only [Act.put]
  refine wpAnyH_take (i := 5) (v := .int .i64 n) rfl (by kernel_rfl) (by kernel_rfl) (by kernel_rfl) (fun _ _ _ h => h) (Or.inl ⟨by rfl, fun w' h' => ?_⟩) hS ?_
  · have c := h'.c2
    clear h'
    go_simp
  simp only [Act.put]
  refine wpAnyH_ready (rs := [6]) (by kernel_rfl) (by simp) ?_
  refine AllReadyH.cons rfl (fun K hK => ?_) AllReadyH.nil
  go_simp
  refine (BC'.out _).mono ?_
  rintro e w1 ⟨rfl, rfl⟩
  go_simp
  refine hK.out _ _ hS (fun _ => ?_)
  clear hK K
  refine wpAnyH_ready (rs := [7]) (by kernel_rfl) (by simp) ?_
  refine AllReadyH.cons rfl (fun K hK => ?_) AllReadyH.nil
  go_simp
  refine hK.out _ _ s3.1 (fun _ => ?_)
  clear hK K
  refine wpAnyH_ready (rs := [8]) (by kernel_rfl) (by simp) ?_
  refine AllReadyH.cons rfl (fun K hK => ?_) AllReadyH.nil
  go_simp
  refine hK.out _ _ s3.1 (fun _ => ?_)
  clear hK K
  refine wpAnyH_ready (rs := [9]) (by kernel_rfl) (by simp) ?_
  refine AllReadyH.cons rfl (fun K hK => ?_) AllReadyH.nil
  go_simp
  refine (WC'.out _ m2).mono ?_
  rintro e w1 ⟨rfl, m3, k⟩
  have s4 := s3.next k
  go_simp
  refine hK.out _ _ s4.1 (fun _ => ?_)
  clear hK K
  refine wpAnyH_done (by kernel_rfl) (NoPanic.normal ?_) _
  go_wp2_with fail
  go_end0
  exact ⟨rfl, m3, s4.2.2⟩

end Go.Proofs.Ytmlicejhkdkhnaa
