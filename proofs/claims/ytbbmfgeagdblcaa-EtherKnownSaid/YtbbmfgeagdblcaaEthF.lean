/-
  Layer 6: the document's own functions on frames. Conditions: a frame's type is a number of its kind, its data no longer than a string may be.
-/
import Derived.Test.YtbbmfgeagdblcaaEthD
import Derived.Test.YtbbmfgeagdblcaaRef
namespace Go.Proofs.Ytbbmfgeagdblcaa
open Go.RowKit Go.Sort
set_option linter.unusedVariables false

theorem FrAt.grow {w w' : World} {n : Nat} {f : Fr} (h : FrAt w n f) (hb : Below w.heap.size w w') : FrAt w' n f := (hb.block n (lt_of_block h)).trans h
theorem conv_two (w : World) (u v : Int) (h0 : 0 ≤ u) (h1 : u < 256) (h2 : 0 ≤ v) (h3 : v < 256) :
    (convert 96 9 (.slice (some ⟨w.heap.size, 0, none⟩) 2 2)).run Try.prog (w.alloc (.cells #[.int .u8 u, .int .u8 v] 5)) = .ok (.string ⟨#[UInt8.ofNat u.toNat, UInt8.ofNat v.toNat]⟩) (w.alloc (.cells #[.int .u8 u, .int .u8 v] 5)) := by
  refine conv_text _ w.heap.size 0 2 2 [UInt8.ofNat u.toNat, UInt8.ofNat v.toNat] rfl ?_
  intro j hj
  have hj' : j < 2 := hj
  have hb := heap_alloc_new w (.cells #[.int .u8 u, .int .u8 v] 5)
  refine ⟨?_, by simp only [World.frozen?, hb]; simp⟩
  rw [cell_of_block hb]
  rcases j with _ | _ | j
  · show some (Value.int .u8 u) = some (eb (UInt8.ofNat u.toNat))
    unfold eb
    rw [UInt8.toNat_ofNat']
    congr 2
    omega
  · show some (Value.int .u8 v) = some (eb (UInt8.ofNat v.toNat))
    unfold eb
    rw [UInt8.toNat_ofNat']
    congr 2
    omega
  · omega
theorem six_get (l : List UInt8) (k : Nat) (hl : l.length = 6) (h : k < 6) : ∃ X : UInt8, l[k]? = some X ∧ l.take (k + 1) = l.take k ++ [X] := by
  refine ⟨l[k]'(by omega), List.getElem?_eq_getElem (by omega), ?_⟩
  rw [List.take_succ_eq_append_getElem (by omega)]
theorem FrAt.toC {w : World} {n : Nat} {f : Fr} (h : FrAt w n f) (k : Nat) (X : UInt8) (hX : f.to.list[k]? = some X) : w.cell? ⟨n, k, none⟩ = some (.int .u8 (X.toNat : Int)) := by
  have hk : k < f.to.list.toArray.size := by simpa using (List.getElem?_eq_some_iff.1 hX).1
  have := (h.to k hk).1
  rw [Nat.zero_add] at this
  rw [this]
  simp [eb, getElem!_pos f.to.list.toArray k hk, (List.getElem?_eq_some_iff.1 hX).2]
theorem FrAt.frC {w : World} {n : Nat} {f : Fr} (h : FrAt w n f) (k : Nat) (X : UInt8) (hX : f.fr.list[k]? = some X) : w.cell? ⟨n, 6 + k, none⟩ = some (.int .u8 (X.toNat : Int)) := by
  have hk : k < f.fr.list.toArray.size := by simpa using (List.getElem?_eq_some_iff.1 hX).1
  have := (h.fr k hk).1
  rw [this]
  simp [eb, getElem!_pos f.fr.list.toArray k hk, (List.getElem?_eq_some_iff.1 hX).2]
theorem conv_byte (w : World) (X : UInt8) :
    (convert 96 9 (.slice (some ⟨w.heap.size, 0, none⟩) 1 1)).run Try.prog (w.alloc (.cells #[.int .u8 (X.toNat : Int)] 5)) = .ok (.string ⟨#[X]⟩) (w.alloc (.cells #[.int .u8 (X.toNat : Int)] 5)) := by
  have h := conv_one w (X.toNat : Int) (by omega) (by have := X.toNat_lt; omega)
  rw [Int.toNat_natCast, UInt8.ofNat_toNat] at h
  exact h

theorem ref_list (f : Fr) (h1 : 0 ≤ f.ty) (h2 : f.ty ≤ 65535) : (⟨(f.to.list ++ f.fr.list).toArray⟩ : ByteArray) ++ ⟨#[UInt8.ofNat (f.ty / 256).toNat, UInt8.ofNat (f.ty % 256).toNat]⟩ ++ f.da = ⟨(frL f).toArray⟩ := by
  obtain ⟨X, hX⟩ := Int.eq_ofNat_of_zero_le h1
  have hl : (leL f.ty 2).reverse = [UInt8.ofNat (f.ty / 256).toNat, UInt8.ofNat (f.ty % 256).toNat] := by
    rw [hX]
    have e1 : ((X : Int) / 256).toNat = X / 256 := by omega
    have e2 : ((X : Int) % 256).toNat = X % 256 := by omega
    rw [e1, e2, ofNat_mod]
    simp [leL, le, List.range_succ]
  unfold frL
  rw [hl]
  apply ByteArray.ext
  apply Array.toList_inj.1
  simp

set_option maxRecDepth 100000 in
set_option maxHeartbeats 1000000 in
theorem refBytes_kind (w : World) (f : Fr) (h : f.ty < 0 ∨ 65535 < f.ty) :
    Calls Try.prog 28 #[.agg #[.int .u8 (f.to.a.toNat : Int), .int .u8 (f.to.b.toNat : Int), .int .u8 (f.to.c.toNat : Int), .int .u8 (f.to.d.toNat : Int), .int .u8 (f.to.e.toNat : Int), .int .u8 (f.to.f.toNat : Int), .int .u8 (f.fr.a.toNat : Int), .int .u8 (f.fr.b.toNat : Int), .int .u8 (f.fr.c.toNat : Int), .int .u8 (f.fr.d.toNat : Int), .int .u8 (f.fr.e.toNat : Int), .int .u8 (f.fr.f.toNat : Int), .int .i64 f.ty, .string f.da]] w fun e w' => e = .returned (.tuple #[.string ⟨#[]⟩, .int .i64 1]) ∧ Below w.heap.size w w' := by
  rcases h with h | h
  · go_enter Try.func28, Try.ntmps28
    go_wp2
    go_ret2
    exact ⟨rfl, (Below.refl _ _).alloc (Nat.le_refl _) _⟩
  · have h2 : 0 ≤ f.ty := by omega
    go_enter Try.func28, Try.ntmps28
    go_wp2
    go_ret2
    exact ⟨rfl, (Below.refl _ _).alloc (Nat.le_refl _) _⟩
set_option maxRecDepth 100000 in
set_option maxHeartbeats 2000000 in
theorem refBytes_yes (w : World) (f : Fr) (h1 : 0 ≤ f.ty) (h2 : f.ty ≤ 65535) (h4 : f.da.size ≤ 140737488355328) (E : Int) (S : ByteArray) (hE : E = frE f) (hS : S = frS f) :
    Calls Try.prog 28 #[.agg #[.int .u8 (f.to.a.toNat : Int), .int .u8 (f.to.b.toNat : Int), .int .u8 (f.to.c.toNat : Int), .int .u8 (f.to.d.toNat : Int), .int .u8 (f.to.e.toNat : Int), .int .u8 (f.to.f.toNat : Int), .int .u8 (f.fr.a.toNat : Int), .int .u8 (f.fr.b.toNat : Int), .int .u8 (f.fr.c.toNat : Int), .int .u8 (f.fr.d.toNat : Int), .int .u8 (f.fr.e.toNat : Int), .int .u8 (f.fr.f.toNat : Int), .int .i64 f.ty, .string f.da]] w fun e w' => e = .returned (.tuple #[.string S, .int .i64 E]) ∧ Below w.heap.size w w' := by
  have HE := Lib.hid hE
  have HS := Lib.hid hS
  clear hE hS
  go_enter Try.func28, Try.ntmps28
  go_upto_region 3 with fail
  have FA : Hid (FrAt (w.alloc (.cells #[.int .u8 (f.to.a.toNat : Int), .int .u8 (f.to.b.toNat : Int), .int .u8 (f.to.c.toNat : Int), .int .u8 (f.to.d.toNat : Int), .int .u8 (f.to.e.toNat : Int), .int .u8 (f.to.f.toNat : Int), .int .u8 (f.fr.a.toNat : Int), .int .u8 (f.fr.b.toNat : Int), .int .u8 (f.fr.c.toNat : Int), .int .u8 (f.fr.d.toNat : Int), .int .u8 (f.fr.e.toNat : Int), .int .u8 (f.fr.f.toNat : Int), .int .i64 f.ty, .string f.da] 51)) w.heap.size f) := Lib.hid (heap_alloc_new w _)
  have BL : Hid (Below w.heap.size w (w.alloc (.cells #[.int .u8 (f.to.a.toNat : Int), .int .u8 (f.to.b.toNat : Int), .int .u8 (f.to.c.toNat : Int), .int .u8 (f.to.d.toNat : Int), .int .u8 (f.to.e.toNat : Int), .int .u8 (f.to.f.toNat : Int), .int .u8 (f.fr.a.toNat : Int), .int .u8 (f.fr.b.toNat : Int), .int .u8 (f.fr.c.toNat : Int), .int .u8 (f.fr.d.toNat : Int), .int .u8 (f.fr.e.toNat : Int), .int .u8 (f.fr.f.toNat : Int), .int .i64 f.ty, .string f.da] 51))) := Lib.hid ((Below.refl _ _).alloc (Nat.le_refl _) _)
  generalize w.alloc _ = W1 at FA BL ⊢
  go_wp2
  go_loopw [4, 5] (fun s i wr => ∃ k : Nat, k ≤ 6 ∧ i = .int .i64 k ∧ s = .string ⟨(f.to.list.take k).toArray⟩ ∧ Hid (FrAt wr w.heap.size f) ∧ Hid (Below w.heap.size w wr)) (fun _ i _ => 6 - (intOf i).toNat)
  case atStart => exact ⟨0, by omega, rfl, rfl, FA, BL⟩
  case round =>
    obtain ⟨k, hk, rfl, rfl, fa, bl⟩ := hrel
    clear FA BL
    have hlen : (f.to.list.take k).length ≤ 6 := by rw [List.length_take]; exact Nat.le_trans (Nat.min_le_right _ _) (Nat.le_refl _)
    by_cases hlt : k < 6
    · obtain ⟨X, hX, ht⟩ := six_get f.to.list k rfl hlt
      have hc := fa.out.toC k X hX
      have hv := conv_byte wr X
      have HT := Lib.hid ht
      clear hX ht
      go_wp2
      go_roundw
      case rel => exact ⟨k + 1, by omega, by go_num, by rw [cat_lists, HT.out], Lib.hid (fa.out.grow ((Below.refl _ _).alloc (Nat.le_refl _) _)), Lib.hid (bl.out.alloc bl.out.size _)⟩
      case measure => simp [intOf]; omega
    · have hz : k = 6 := by omega
      have hzi : (k : Int) = 6 := by omega
      have htk : f.to.list.take k = f.to.list := by rw [hz]; rfl
      rw [hzi, htk]
      clear hlen hlt hk hz hzi htk
      go_wp2
      go_loopw [4, 6] (fun s i wr => ∃ k : Nat, k ≤ 6 ∧ i = .int .i64 k ∧ s = .string ⟨(f.to.list ++ f.fr.list.take k).toArray⟩ ∧ Hid (FrAt wr w.heap.size f) ∧ Hid (Below w.heap.size w wr)) (fun _ i _ => 6 - (intOf i).toNat)
      case atStart => exact ⟨0, by omega, rfl, by simp [Mac6.list], fa, bl⟩
      case round =>
        obtain ⟨k, hk, rfl, rfl, fa2, bl2⟩ := hrel
        rename World => wq
        clear fa bl
        have hlen : (f.to.list ++ f.fr.list.take k).length ≤ 12 := by
          rw [List.length_append, List.length_take]
          exact Nat.add_le_add (Nat.le_refl 6) (Nat.le_trans (Nat.min_le_right _ _) (Nat.le_refl _))
        by_cases hlt : k < 6
        · obtain ⟨X, hX, ht⟩ := six_get f.fr.list k rfl hlt
          have hc := fa2.out.frC k X hX
          have hv := conv_byte wq X
          have hL := (congrArg (fun z => f.to.list ++ z) ht).trans (List.append_assoc _ _ _).symm
          generalize f.to.list ++ f.fr.list.take k = L at hlen hL ⊢
          have HT := Lib.hid hL
          clear hX ht hL
          go_wp2
          go_roundw
          case rel => exact ⟨k + 1, by omega, by go_num, by rw [cat_lists]; exact congrArg (fun z : List UInt8 => Value.string ⟨z.toArray⟩) HT.out.symm, Lib.hid (fa2.out.grow ((Below.refl _ _).alloc (Nat.le_refl _) _)), Lib.hid (bl2.out.alloc bl2.out.size _)⟩
          case measure => simp [intOf]; omega
        · have hz : k = 6 := by omega
          have hzi : (k : Int) = 6 := by omega
          have htk : f.fr.list.take k = f.fr.list := by rw [hz]; rfl
          rw [hzi, htk]
          clear hlen hlt hk hz hzi htk
          have hl1 : f.to.list.length = 6 := rfl
          have hl2 : f.fr.list.length = 6 := rfl
          have hlt := lt_of_block fa2.out
          have c12 := fa2.out.ty
          have c13 := fa2.out.da
          have q1 : 0 ≤ f.ty / 256 := by omega
          have q2 : f.ty / 256 < 256 := by omega
          have q3 : 0 ≤ f.ty % 256 := by omega
          have q4 : f.ty % 256 < 256 := by omega
          have hv := conv_two wq (f.ty / 256) (f.ty % 256) q1 q2 q3 q4
          by_cases h9 : 586 < f.da.size
          · go_wp2
            go_ret2
            have e1 : frE f = 3 := by rw [frE, if_neg (by omega), if_pos h9]
            refine ⟨?_, bl2.out.alloc bl2.out.size _⟩
            rw [HE.out, HS.out, frS, e1, if_neg (by decide)]
            rfl
          · go_wp2
            go_ret2
            have e1 : frE f = 0 := by rw [frE, if_neg (by omega), if_neg h9]
            refine ⟨?_, bl2.out.alloc bl2.out.size _⟩
            rw [HE.out, HS.out, frS, e1, if_pos rfl, ← ref_list f h1 h2]
            rfl

theorem refBytes_any (w : World) (f : Fr) (h4 : f.da.size ≤ 140737488355328) (E : Int) (S : ByteArray) (hE : E = frE f) (hS : S = frS f) :
    Calls Try.prog 28 #[.agg #[.int .u8 (f.to.a.toNat : Int), .int .u8 (f.to.b.toNat : Int), .int .u8 (f.to.c.toNat : Int), .int .u8 (f.to.d.toNat : Int), .int .u8 (f.to.e.toNat : Int), .int .u8 (f.to.f.toNat : Int), .int .u8 (f.fr.a.toNat : Int), .int .u8 (f.fr.b.toNat : Int), .int .u8 (f.fr.c.toNat : Int), .int .u8 (f.fr.d.toNat : Int), .int .u8 (f.fr.e.toNat : Int), .int .u8 (f.fr.f.toNat : Int), .int .i64 f.ty, .string f.da]] w fun e w' => e = .returned (.tuple #[.string S, .int .i64 E]) ∧ Below w.heap.size w w' := by
  by_cases h1 : f.ty < 0 ∨ 65535 < f.ty
  · have e1 : frE f = 1 := if_pos h1
    rw [hE, hS, frS, e1, if_neg (by decide)]
    exact refBytes_kind w f h1
  · exact refBytes_yes w f (by omega) (by omega) h4 E S hE hS

/-- An address that lies in a block of its own. -/
def MacAt (w : World) (n : Nat) (m : Mac6) : Prop := w.heap[n]? = some (.cells #[.int .u8 (m.a.toNat : Int), .int .u8 (m.b.toNat : Int), .int .u8 (m.c.toNat : Int), .int .u8 (m.d.toNat : Int), .int .u8 (m.e.toNat : Int), .int .u8 (m.f.toNat : Int)] 49 (0, 0))
theorem MacAt.cell {w : World} {n : Nat} {m : Mac6} (h : MacAt w n m) (k : Nat) (X : UInt8) (hX : m.list[k]? = some X) : w.cell? ⟨n, k, none⟩ = some (.int .u8 (X.toNat : Int)) := by
  rw [cell_of_block h]
  have hk : k < 6 := (List.getElem?_eq_some_iff.1 hX).1
  rcases k with _ | _ | _ | _ | _ | _ | k <;> first | omega | (simp only [Mac6.list, List.getElem?_cons_zero, List.getElem?_cons_succ, Option.some.injEq] at hX; subst hX; rfl)
theorem mac_new (w : World) (n : Nat) (m : Mac6) (h : n = w.heap.size) : MacAt (w.alloc (.cells #[.int .u8 (m.a.toNat : Int), .int .u8 (m.b.toNat : Int), .int .u8 (m.c.toNat : Int), .int .u8 (m.d.toNat : Int), .int .u8 (m.e.toNat : Int), .int .u8 (m.f.toNat : Int)] 49)) n m := by rw [h]; exact heap_alloc_new w _
def forL (f : Fr) (me : Mac6) (k : Nat) : Bool := decide (f.to.list.take k = me.list.take k)
def allL (f : Fr) (k : Nat) : Bool := decide (f.to.list.take k = Mac6.all.list.take k)
theorem take_eq (l m : List UInt8) (k : Nat) (X Y : UInt8) (h1 : l.take (k + 1) = l.take k ++ [X]) (h2 : m.take (k + 1) = m.take k ++ [Y]) (h3 : l.length = 6) (h4 : m.length = 6) :
    decide (l.take (k + 1) = m.take (k + 1)) = (decide (l.take k = m.take k) && decide (X = Y)) := by
  rw [h1, h2, Bool.eq_iff_iff]
  simp only [Bool.and_eq_true, decide_eq_true_eq]
  constructor
  · intro h
    have := List.append_inj h (by simp [h3, h4])
    exact ⟨this.1, by simpa using this.2⟩
  · rintro ⟨a, rfl⟩
    rw [a]
theorem beq_u8 (X Y : UInt8) : ((X.toNat : Int) == (Y.toNat : Int)) = decide (X = Y) := by
  rw [Bool.eq_iff_iff]
  simp only [beq_iff_eq, decide_eq_true_eq, nat_u8]
theorem beq_255 (X : UInt8) : ((X.toNat : Int) == 255) = decide (X = 255) := beq_u8 X 255
theorem all_get (k : Nat) (h : k < 6) : Mac6.all.list.take (k + 1) = Mac6.all.list.take k ++ [255] := by
  rcases k with _ | _ | _ | _ | _ | _ | k <;> first | omega | rfl
theorem for_full (f : Fr) (me : Mac6) : (forL f me 6 || allL f 6) = forB f me := by
  have h1 : forL f me 6 = decide (f.to = me) := by
    unfold forL
    rw [Bool.eq_iff_iff]
    simp only [decide_eq_true_eq]
    exact ⟨fun h => Mac6.same h, fun h => by rw [h]⟩
  have h2 : allL f 6 = decide (f.to = Mac6.all) := by
    unfold allL
    rw [Bool.eq_iff_iff]
    simp only [decide_eq_true_eq]
    exact ⟨fun h => Mac6.same h, fun h => by rw [h]⟩
  rw [h1, h2]
  rfl

set_option maxRecDepth 100000 in
set_option maxHeartbeats 2000000 in
theorem refFor_any (w : World) (f : Fr) (me : Mac6) :
    Calls Try.prog 29 #[.agg #[.int .u8 (f.to.a.toNat : Int), .int .u8 (f.to.b.toNat : Int), .int .u8 (f.to.c.toNat : Int), .int .u8 (f.to.d.toNat : Int), .int .u8 (f.to.e.toNat : Int), .int .u8 (f.to.f.toNat : Int), .int .u8 (f.fr.a.toNat : Int), .int .u8 (f.fr.b.toNat : Int), .int .u8 (f.fr.c.toNat : Int), .int .u8 (f.fr.d.toNat : Int), .int .u8 (f.fr.e.toNat : Int), .int .u8 (f.fr.f.toNat : Int), .int .i64 f.ty, .string f.da], .agg #[.int .u8 (me.a.toNat : Int), .int .u8 (me.b.toNat : Int), .int .u8 (me.c.toNat : Int), .int .u8 (me.d.toNat : Int), .int .u8 (me.e.toNat : Int), .int .u8 (me.f.toNat : Int)]] w fun e w' => e = .returned (.bool (forB f me)) ∧ Below w.heap.size w w' := by
  go_enter Try.func29, Try.ntmps29
  go_upto_region 1 with fail
  have FA : Hid (FrAt ((w.alloc (.cells #[.int .u8 (f.to.a.toNat : Int), .int .u8 (f.to.b.toNat : Int), .int .u8 (f.to.c.toNat : Int), .int .u8 (f.to.d.toNat : Int), .int .u8 (f.to.e.toNat : Int), .int .u8 (f.to.f.toNat : Int), .int .u8 (f.fr.a.toNat : Int), .int .u8 (f.fr.b.toNat : Int), .int .u8 (f.fr.c.toNat : Int), .int .u8 (f.fr.d.toNat : Int), .int .u8 (f.fr.e.toNat : Int), .int .u8 (f.fr.f.toNat : Int), .int .i64 f.ty, .string f.da] 51)).alloc (.cells #[.int .u8 (me.a.toNat : Int), .int .u8 (me.b.toNat : Int), .int .u8 (me.c.toNat : Int), .int .u8 (me.d.toNat : Int), .int .u8 (me.e.toNat : Int), .int .u8 (me.f.toNat : Int)] 49)) w.heap.size f) := Lib.hid ((FrAt.grow (heap_alloc_new w _) ((Below.refl _ _).alloc (Nat.le_refl _) _)))
  have ME : Hid (MacAt ((w.alloc (.cells #[.int .u8 (f.to.a.toNat : Int), .int .u8 (f.to.b.toNat : Int), .int .u8 (f.to.c.toNat : Int), .int .u8 (f.to.d.toNat : Int), .int .u8 (f.to.e.toNat : Int), .int .u8 (f.to.f.toNat : Int), .int .u8 (f.fr.a.toNat : Int), .int .u8 (f.fr.b.toNat : Int), .int .u8 (f.fr.c.toNat : Int), .int .u8 (f.fr.d.toNat : Int), .int .u8 (f.fr.e.toNat : Int), .int .u8 (f.fr.f.toNat : Int), .int .i64 f.ty, .string f.da] 51)).alloc (.cells #[.int .u8 (me.a.toNat : Int), .int .u8 (me.b.toNat : Int), .int .u8 (me.c.toNat : Int), .int .u8 (me.d.toNat : Int), .int .u8 (me.e.toNat : Int), .int .u8 (me.f.toNat : Int)] 49)) (w.heap.size + 1) me) := Lib.hid (mac_new _ _ _ (by simp))
  have BL : Hid (Below w.heap.size w ((w.alloc (.cells #[.int .u8 (f.to.a.toNat : Int), .int .u8 (f.to.b.toNat : Int), .int .u8 (f.to.c.toNat : Int), .int .u8 (f.to.d.toNat : Int), .int .u8 (f.to.e.toNat : Int), .int .u8 (f.to.f.toNat : Int), .int .u8 (f.fr.a.toNat : Int), .int .u8 (f.fr.b.toNat : Int), .int .u8 (f.fr.c.toNat : Int), .int .u8 (f.fr.d.toNat : Int), .int .u8 (f.fr.e.toNat : Int), .int .u8 (f.fr.f.toNat : Int), .int .i64 f.ty, .string f.da] 51)).alloc (.cells #[.int .u8 (me.a.toNat : Int), .int .u8 (me.b.toNat : Int), .int .u8 (me.c.toNat : Int), .int .u8 (me.d.toNat : Int), .int .u8 (me.e.toNat : Int), .int .u8 (me.f.toNat : Int)] 49))) := Lib.hid (((Below.refl _ _).alloc (Nat.le_refl _) _).alloc (by simp) _)
  generalize (w.alloc _).alloc _ = W1 at FA ME BL ⊢
  go_wp2
  go_loopw [5, 6, 7] (fun x y i wr => ∃ k : Nat, k ≤ 6 ∧ i = .int .i64 k ∧ x = .bool (forL f me k) ∧ y = .bool (allL f k) ∧ Hid (FrAt wr w.heap.size f) ∧ Hid (MacAt wr (w.heap.size + 1) me) ∧ Hid (Below w.heap.size w wr)) (fun _ _ i _ => 6 - (intOf i).toNat)
  case atStart => exact ⟨0, by omega, rfl, rfl, rfl, FA, ME, BL⟩
  case round =>
    obtain ⟨k, hk, rfl, rfl, rfl, fa, ma, bl⟩ := hrel
    clear FA ME BL
    by_cases hlt : k < 6
    · obtain ⟨X, hX, hx⟩ := six_get f.to.list k rfl hlt
      obtain ⟨Y, hY, hy⟩ := six_get me.list k rfl hlt
      have hc := fa.out.toC k X hX
      have hd := ma.out.cell k Y hY
      have e5 : forL f me (k + 1) = (forL f me k && decide (X = Y)) := take_eq _ _ k X Y hx hy rfl rfl
      have e6 : allL f (k + 1) = (allL f k && decide (X = 255)) := take_eq _ _ k X 255 hx (all_get k hlt) rfl rfl
      generalize forL f me k = b5 at e5 ⊢
      generalize allL f k = b6 at e6 ⊢
      have E5 := Lib.hid e5
      have E6 := Lib.hid e6
      clear hX hY hx hy e5 e6
      cases b5 <;> cases b6
      all_goals
        go_wp2
        go_quiet (fail)
        go_wp2
        go_roundw
        case rel => exact ⟨k + 1, by omega, by go_num, by rw [E5.out]; first | rfl | (rw [beq_u8]; rfl), by rw [E6.out]; first | rfl | (rw [beq_255]; rfl), fa, ma, Lib.hid (below_drewN bl.out _)⟩
        case measure => simp [intOf]; omega
    · have hz : k = 6 := by omega
      have hzi : (k : Int) = 6 := by omega
      have hf := for_full f me
      rw [hzi, hz]
      clear hlt hk hz hzi
      generalize forL f me 6 = b5 at hf ⊢
      generalize allL f 6 = b6 at hf ⊢
      have HF := Lib.hid hf
      clear hf
      cases b5 <;> cases b6
      all_goals
        go_wp2
        go_ret
        exact ⟨by rw [← HF.out]; rfl, bl.out⟩

end Go.Proofs.Ytbbmfgeagdblcaa
