/-
  Layer 8: Put. Conditions: as said.
-/
import Derived.Test.YtbjoibgkhooljaaJoH
namespace Go.Proofs.Ytbjoibgkhooljaa
open Go.RowKit Go.Sort Go.Shelf
set_option linter.unusedVariables false

/-- A joiner that is used, beside the boxes of the packet and of the answer. -/
structure PF (w W : World) (g : Nat) (lim : Int) (v : Value) (l : List Dg) (n3 n4 : Nat) (f : Pd) (v' : Value) (l' : List Dg) : Prop where
  fa : PdAt W n3 f
  rm : PdRoom W n4
  jt : JoT w W g lim v l v' l'
  x3 : ¬ JoO g v' l' n3
  x4 : ¬ JoO g v' l' n4
  b4 : w.heap.size ≤ n4
section
variable {w W W' : World} {g : Nat} {lim : Int} {v v' v2 : Value} {l l' l2 : List Dg} {n3 n4 : Nat} {f : Pd}
theorem PF.grow (h : PF w W g lim v l n3 n4 f v' l') (b : Below W.heap.size W W') : PF w W' g lim v l n3 n4 f v' l' := ⟨h.fa.grow b, h.rm.grow b, h.jt.grow b, h.x3, h.x4, h.b4⟩
theorem PF.step (h : PF w W g lim v l n3 n4 f v' l') (k : JoT W W' g lim v' l' v2 l2) : PF w W' g lim v l n3 n4 f v2 l2 := by
  have h3 := h.fa.lt
  have h4 := h.rm.lt
  exact ⟨h.fa.kept (k.tn.block _ h3 h.x3), h.rm.kept (k.tn.block _ h4 h.x4), h.jt.trans k, fun ho => (k.nw _ ho).elim h.x3 (fun e => by omega), fun ho => (k.nw _ ho).elim h.x4 (fun e => by omega), h.b4⟩
theorem PF.put (h : PF w W g lim v l n3 n4 f v' l') (Q : Pd) : (storeVar 35 ⟨n4, 0, none⟩ (.agg (pdC Q))).run Try.prog W = .ok () (W.setRow n4 (pdC Q)) ∧ PdAt (W.setRow n4 (pdC Q)) n4 Q ∧ JoT w (W.setRow n4 (pdC Q)) g lim v l v' l' := by
  obtain ⟨h1, h2⟩ := h.rm.put Q
  have hs : (W.setRow n4 (pdC Q)).heap.size = W.heap.size := by simp [World.setRow]
  refine ⟨h1, h2, h.jt.jo.kept (Nat.le_of_eq hs.symm) (fun j hj _ => setRow_other _ _ _ _ (fun e => h.x4 (by rw [← e]; exact hj))), ⟨h.jt.tn.os, h.jt.tn.tape, h.jt.tn.output, by rw [hs]; exact h.jt.tn.size, fun k hk ho => ?_⟩, h.jt.nw⟩
  rw [setRow_other _ _ _ _ (by have := h.b4; omega)]
  exact h.jt.tn.block k hk ho
theorem PF.start {w : World} {g : Nat} {lim : Int} {v : Value} {l : List Dg} (h : Jo w g lim v l) (f : Pd) : PF w ((w.alloc (.cells (pdC f) 35)).alloc (.cells #[.int .i64 0, .int .u8 0, .int .u8 0, .int .u8 0, .int .u8 0, .int .u8 0, .int .u8 0, .int .u8 0, .int .u8 0, .int .i64 0, .int .i64 0, .int .i64 0, .bool false, .string ⟨#[]⟩] 35)) g lim v l w.heap.size (w.heap.size + 1) f v l :=
  ⟨(pd_new w _ f rfl).grow ((Below.refl _ _).alloc (Nat.le_refl _) _), pdroom_new _ _ _ rfl (by simp), (JoT.refl h).grow (((Below.refl _ _).alloc (Nat.le_refl _) _).alloc (by simp) _), fun ho => by have := h.inn ho; omega, fun ho => by have := h.inn ho; omega, by omega⟩
end
theorem nmOf_id {f : Pd} (h : mayB f = true) : f.id = ((nmOf f).id.toNat : Int) := by
  have := mayB_all h
  show f.id = ((UInt16.ofNat f.id.toNat).toNat : Int)
  rw [UInt16.toNat_ofNat_of_lt' (by show f.id.toNat < 65536; omega)]
  omega
theorem nmOf_pr {f : Pd} (h : mayB f = true) : f.pr = ((nmOf f).pr.toNat : Int) := by
  have := mayB_all h
  show f.pr = ((UInt8.ofNat f.pr.toNat).toNat : Int)
  rw [UInt8.toNat_ofNat_of_lt' (by show f.pr.toNat < 256; omega)]
  omega
theorem pcOf_fine {f : Pd} (h : mayB f = true) : (pcOf f).fine := by
  have := mayB_all h
  exact ⟨by show 0 ≤ f.ps; omega, by show f.ps ≤ 100000; omega, by show f.da.size ≤ 100000; omega⟩
theorem PdAt.nmc {w : World} {n : Nat} {f : Pd} (h : PdAt w n f) (hm : mayB f = true) (s : Nm) (hs : s = nmOf f) : w.cell? ⟨n, 0, none⟩ = some (.int .i64 (s.id.toNat : Int)) ∧ (w.cell? ⟨n, 1, none⟩ = some (.int .u8 (s.sr.a.toNat : Int)) ∧ w.cell? ⟨n, 2, none⟩ = some (.int .u8 (s.sr.b.toNat : Int)) ∧ w.cell? ⟨n, 3, none⟩ = some (.int .u8 (s.sr.c.toNat : Int)) ∧ w.cell? ⟨n, 4, none⟩ = some (.int .u8 (s.sr.d.toNat : Int))) ∧
    (w.cell? ⟨n, 5, none⟩ = some (.int .u8 (s.ds.a.toNat : Int)) ∧ w.cell? ⟨n, 6, none⟩ = some (.int .u8 (s.ds.b.toNat : Int)) ∧ w.cell? ⟨n, 7, none⟩ = some (.int .u8 (s.ds.c.toNat : Int)) ∧ w.cell? ⟨n, 8, none⟩ = some (.int .u8 (s.ds.d.toNat : Int))) ∧ w.cell? ⟨n, 9, none⟩ = some (.int .i64 (s.pr.toNat : Int)) := by
  subst hs
  rw [← nmOf_id hm, ← nmOf_pr hm]
  unfold PdAt at h
  refine ⟨?_, ⟨?_, ?_, ?_, ?_⟩, ⟨?_, ?_, ?_, ?_⟩, ?_⟩ <;> (rw [cell_of_block h]; rfl)
theorem BegunL.len {s : Nm} {l l' : List Dg} {i : Nat} (h : BegunL s l l' i) (hl : l.length ≤ 4) : l'.length ≤ 4 := by
  rcases h with ⟨rfl, _⟩ | ⟨_, rfl, _⟩
  · exact hl
  · split
    · rw [List.length_append, List.length_eraseIdx_of_lt (by omega)]; simp; omega
    · rw [List.length_append]; simp; omega
theorem BegunL.all {s : Nm} {l l' : List Dg} {i : Nat} (h : BegunL s l l' i) (P : Dg → Prop) (hl : ∀ x ∈ l, P x) (h0 : P ⟨s, 0, 0, none, 0, []⟩) : ∀ x ∈ l', P x := by
  rcases h with ⟨rfl, _⟩ | ⟨_, rfl, _⟩
  · exact hl
  · intro x hx
    rcases List.mem_append.1 hx with hx | hx
    · split at hx
      · exact hl x (List.mem_of_mem_eraseIdx hx)
      · exact hl x hx
    · rw [List.mem_singleton] at hx; subst hx; exact h0
theorem erase_set {α : Type} : ∀ (l : List α) (i : Nat) (x : α), (l.set i x).eraseIdx i = l.eraseIdx i
  | [], _, _ => rfl
  | _ :: _, 0, _ => rfl
  | y :: l, i + 1, x => by simp [erase_set l i x]
theorem whole_le {l : List Pc} (h : wholeP l = true) (hy : ∀ y ∈ l, pEnd y ≤ 1200) : sumP l ≤ 1200 := by
  have h1 : (sumP l : Int) = endP l := by simpa [wholeP] using h
  have h2 : ∀ (l : List Pc) (e : Int), e ≤ 1200 → (∀ y ∈ l, pEnd y ≤ 1200) → l.foldl (fun e x => if x.mo then e else pEnd x) e ≤ 1200 := by
    intro l
    induction l with
    | nil => intro e he _; exact he
    | cons x l ih =>
      intro e he hy
      refine ih _ ?_ (fun y h => hy y (.tail _ h))
      show (if x.mo then e else pEnd x) ≤ 1200
      split
      · exact he
      · exact hy x (.head _)
  have h3 : endP l ≤ 1200 := h2 l (-1) (by omega) hy
  omega

set_option maxRecDepth 100000 in
set_option maxHeartbeats 1000000 in
theorem jput_bad {w : World} {g : Nat} {lim : Int} {v : Value} {l : List Dg} (h : Jo w g lim v l) (f : Pd) (hz : f.da.size ≤ 140737488355328) (hm : mayB f = false) :
    Calls Try.prog 14 #[.pointer (some ⟨g, 0, none⟩), .agg (pdC f)] w fun e w' => e = .returned (.tuple #[.agg (pdC pdZ), .bool false]) ∧ JoT w w' g lim v l v l := by
  have hk := Lib.hid (fun w => pMay_any w f hz)
  rw [hm] at hk
  have F1 := Lib.hid (PF.start h f)
  clear h
  go_enter Try.func14, Try.ntmps14
  go_upto_region 1 with fail
  obtain ⟨n4, hn4⟩ : ∃ n, n = w.heap.size + 1 := ⟨_, rfl⟩
  generalize (w.alloc _).alloc _ = W1 at F1 ⊢
  rw [← hn4] at F1 ⊢
  clear hn4
  obtain ⟨n3, hn3⟩ : ∃ n, n = w.heap.size := ⟨_, rfl⟩
  rw [← hn3] at F1 ⊢
  clear hn3
  have hp := F1.out.fa
  go_wp2_with fail
  refine (jnone_no F1.out.jt.jo).mono ?_
  rintro e w' ⟨rfl, rfl⟩
  go_wp2_with (refine pd_ld (by rfl) _ rfl n3 rfl _ hp ?_)
  refine (hk.out _).mono ?_
  rintro e w2 ⟨rfl, b2⟩
  have F2 := Lib.hid (F1.out.grow b2)
  clear b2 hp F1 hk
  obtain ⟨hst, S6, TJ⟩ := F2.out.put pdZ
  have S6 := Lib.hid S6
  have TJ := Lib.hid TJ
  go_wp2_with (refine wpList_storeW 35 _ _ rfl rfl _ n4 rfl rfl hst ?_)
  exact bodyPost_ret (v := .tuple #[.agg (pdC pdZ), .bool false]) (results_row _ 4 5 35 (by kernel_rfl) _ n4 _ _ _ _ rfl rfl S6.out Try.underlying35 rfl (by kernel_rfl)) rfl ⟨rfl, TJ.out⟩

set_option maxRecDepth 100000 in
set_option maxHeartbeats 1000000 in
theorem jput_one {w : World} {g : Nat} {lim : Int} {v : Value} {l : List Dg} (h : Jo w g lim v l) (f : Pd) (hz : f.da.size ≤ 140737488355328) (hm : mayB f = true) (h0 : f.ps = 0) (h1 : f.mo = false) :
    Calls Try.prog 14 #[.pointer (some ⟨g, 0, none⟩), .agg (pdC f)] w fun e w' => e = .returned (.tuple #[.agg (pdC f), .bool true]) ∧ JoT w w' g lim v l v l := by
  have hk := Lib.hid (fun w => pMay_any w f hz)
  rw [hm] at hk
  have F1 := Lib.hid (PF.start h f)
  clear h
  go_enter Try.func14, Try.ntmps14
  go_upto_region 1 with fail
  obtain ⟨n4, hn4⟩ : ∃ n, n = w.heap.size + 1 := ⟨_, rfl⟩
  generalize (w.alloc _).alloc _ = W1 at F1 ⊢
  rw [← hn4] at F1 ⊢
  clear hn4
  obtain ⟨n3, hn3⟩ : ∃ n, n = w.heap.size := ⟨_, rfl⟩
  rw [← hn3] at F1 ⊢
  clear hn3
  have hp := F1.out.fa
  go_wp2_with fail
  refine (jnone_no F1.out.jt.jo).mono ?_
  rintro e w' ⟨rfl, rfl⟩
  go_wp2_with (refine pd_ld (by rfl) _ rfl n3 rfl _ hp ?_)
  refine (hk.out _).mono ?_
  rintro e w2 ⟨rfl, b2⟩
  have F2 := Lib.hid (F1.out.grow b2)
  clear b2 hp F1 hk
  have c11 := F2.out.fa.ps
  have c12 := F2.out.fa.mo
  rw [h0] at c11
  rw [h1] at c12
  have hp := F2.out.fa
  obtain ⟨hst, S6, TJ⟩ := F2.out.put f
  have S6 := Lib.hid S6
  have TJ := Lib.hid TJ
  clear h0 h1
  go_wp2_with (first | (refine pd_ld (by rfl) _ rfl n3 rfl _ hp ?_) | (refine wpList_storeW 35 _ _ rfl rfl _ n4 rfl rfl hst ?_))
  exact bodyPost_ret (v := .tuple #[.agg (pdC f), .bool true]) (results_row _ 4 5 35 (by kernel_rfl) _ n4 _ _ _ _ rfl rfl S6.out Try.underlying35 rfl (by kernel_rfl)) rfl ⟨rfl, TJ.out⟩

section
variable {w : World} {g : Nat} {lim : Int} {v : Value} {l : List Dg}
/-- Where a datagram lies, and its pieces. -/
theorem Jo.at2 (h : Jo w g lim v l) {i : Nat} (hi : i < l.length) {b cap : Nat} (hv : v = .slice (some ⟨b, 0, none⟩) l.length cap) : w.rangeAt b (i * 13) (dgE l[i]) ∧ PcRow w l[i].pv l[i].ps ∧ ∀ k, w.frozen? ⟨b, k, none⟩ = false := by
  obtain ⟨b', cap', hv', _, _, _, hfz, hE⟩ := RowA.elem dgE_len h.row (by omega)
  rw [hv] at hv'
  injection hv' with hv' _ hc; injection hv' with hv'; injection hv' with hv'
  subst hv' hc
  exact ⟨hE i hi, (h.ps _ (List.getElem_mem hi)).1, hfz⟩
theorem Jo.at (h : Jo w g lim v l) {i : Nat} (hi : i < l.length) {b cap : Nat} (hv : v = .slice (some ⟨b, 0, none⟩) l.length cap) : w.cell? ⟨b, i * 13 + 12, none⟩ = some (.slice l[i].pp l[i].ps.length l[i].pc) ∧ PcRow w (.slice l[i].pp l[i].ps.length l[i].pc) l[i].ps ∧ w.frozen? ⟨b, i * 13 + 12, none⟩ = false :=
  ⟨(h.at2 hi hv).1 12 _ rfl, (h.at2 hi hv).2.1, (h.at2 hi hv).2.2 _⟩
end
theorem PcAt.kept8 {w w' : World} {n : Nat} {x : Pc} (h : PcAt w n x) (k : w'.heap[n]? = w.heap[n]?) : PcAt w' n x := k.trans h
theorem pc_new2 (w : World) (y : Pc) : ∀ (j : Nat) (u : Value), (pcE y)[j]? = some u → (w.alloc (.cells #[.int .i64 y.o, .string y.da, .bool y.mo] 89)).cell? ((⟨w.heap.size, 0, none⟩ : Addr).add j) = some u := by
  intro j u hu
  rw [add_off, Nat.zero_add, cell_of_block (heap_alloc_new w _)]
  exact (List.getElem?_toArray (xs := pcE y)).trans hu

end Go.Proofs.Ytbjoibgkhooljaa
