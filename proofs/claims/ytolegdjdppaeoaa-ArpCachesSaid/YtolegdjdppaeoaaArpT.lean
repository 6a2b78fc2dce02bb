/-
  Layer 7: the document's own cache: Tick, Learn. Conditions: as said.
-/
import Derived.Test.YtolegdjdppaeoaaArpS
namespace Go.Proofs.Ytolegdjdppaeoaa
open Go.RowKit Go.Sort Go.Shelf
set_option linter.unusedVariables false

theorem RaS.start (w : World) : RaS w w [] (.slice none 0 0) [] := ⟨World.ownsRow_nil _ _ _ _, fun k hk => (by cases hk), Below.refl _ _, fun p hp => (by cases hp)⟩
section
variable {w wr wr' : World} {F : List (Nat × Obj)} {va va' : Value} {la la' : List En}
theorem RaS.more (h : RaS w wr F va la) {n : Nat} {o : Obj} (hn : wr.heap[n]? = some o) (hv : ∀ k, va.ownBlock = some k → k ≠ n) : RaS w wr ((n, o) :: F) va la :=
  ⟨h.acc, h.own, h.bl, fun p hp => by
    rcases List.mem_cons.1 hp with rfl | hp
    · exact ⟨hn, hv⟩
    · exact h.fx p hp⟩
theorem RaS.push (h : RaS w wr F va la) (o : Obj) : RaS w (wr.alloc o) ((wr.heap.size, o) :: F) va la :=
  (h.alloc o).more (heap_alloc_new wr o) (fun k hk => by have := (h.acc.lt k hk).2; omega)
/-- The row is kept beside, another one is begun. -/
theorem RaS.fresh (h : RaS w wr F va la) {b : Nat} {o : Obj} (hb : wr.heap[b]? = some o) : RaS w wr ((b, o) :: F) (.slice none 0 0) [] :=
  ⟨World.ownsRow_nil _ _ _ _, fun k hk => (by cases hk), h.bl, fun p hp => by
    rcases List.mem_cons.1 hp with rfl | hp
    · exact ⟨hb, fun k hk => (by cases hk)⟩
    · exact ⟨(h.fx p hp).1, fun k hk => (by cases hk)⟩⟩
/-- The answer is laid. -/
theorem RaS.laid (h : RaS w wr F va la) {n1 n2 : Nat} {o1 o2 : Obj} (h1 : (n1, o1) ∈ F) (h2 : (n2, o2) ∈ F) (l1 : w.heap.size ≤ n1) (l2 : w.heap.size ≤ n2) (x y z : Value) :
    RnRow (((wr.setCell ⟨n1, 0, none⟩ x).setCell ⟨n2, 0, none⟩ y).setCell ⟨n2, 1, none⟩ z) va la ∧ Below w.heap.size w (((wr.setCell ⟨n1, 0, none⟩ x).setCell ⟨n2, 0, none⟩ y).setCell ⟨n2, 1, none⟩ z) := by
  refine ⟨h.acc.kept (by simp [World.setCell]) (fun b hb => ?_), ((h.bl.setCell l1 _).setCell l2 _).setCell l2 _⟩
  have e1 := (h.fx _ h1).2 b hb
  have e2 := (h.fx _ h2).2 b hb
  rw [Below.heap_setCell _ _ _ _ e2, Below.heap_setCell _ _ _ _ e2, Below.heap_setCell _ _ _ _ e1]
end
theorem cells2 {w : World} {n : Nat} {x y : Value} {t : TypeId} (h : w.heap[n]? = some (.cells #[x, y] t (0, 0))) : w.cell? ⟨n, 0, none⟩ = some x ∧ w.cell? ⟨n, 1, none⟩ = some y ∧ w.frozen? ⟨n, 0, none⟩ = false ∧ w.frozen? ⟨n, 1, none⟩ = false :=
  ⟨by rw [cell_of_block h]; rfl, by rw [cell_of_block h]; rfl, by simp [World.frozen?, h], by simp [World.frozen?, h]⟩
theorem rn_at (w : World) (y : En) : (w.alloc (.cells #[.int .u8 (y.ip.a.toNat : Int), .int .u8 (y.ip.b.toNat : Int), .int .u8 (y.ip.c.toNat : Int), .int .u8 (y.ip.d.toNat : Int), .int .u8 (y.ma.a.toNat : Int), .int .u8 (y.ma.b.toNat : Int), .int .u8 (y.ma.c.toNat : Int), .int .u8 (y.ma.d.toNat : Int), .int .u8 (y.ma.e.toNat : Int), .int .u8 (y.ma.f.toNat : Int), .int .i64 y.age] 58)).rangeAt w.heap.size 0 [.int .u8 (y.ip.a.toNat : Int), .int .u8 (y.ip.b.toNat : Int), .int .u8 (y.ip.c.toNat : Int), .int .u8 (y.ip.d.toNat : Int), .int .u8 (y.ma.a.toNat : Int), .int .u8 (y.ma.b.toNat : Int), .int .u8 (y.ma.c.toNat : Int), .int .u8 (y.ma.d.toNat : Int), .int .u8 (y.ma.e.toNat : Int), .int .u8 (y.ma.f.toNat : Int), .int .i64 y.age] := fun k u hu => by
  have := rn_new w y k u hu
  rw [add_off] at this
  exact this

set_option maxRecDepth 100000 in
set_option maxHeartbeats 4000000 in
/-- The document's Tick. -/
theorem rTick {w : World} {p : Option Addr} {c : Nat} {lim : Int} {l : List En} (h : RnRow w (.slice p l.length c) l) (hl : l.length ≤ 1000000) (ha : ∀ x ∈ l, 0 ≤ x.age ∧ x.age ≤ 1048576) :
    Calls Try.prog 22 #[rcV p l.length c lim] w fun e w' => ∃ p' c', e = .returned (rcV p' (tickL lim l).length c' lim) ∧ RnRow w' (.slice p' (tickL lim l).length c') (tickL lim l) ∧ (∀ k, (Value.slice p' (tickL lim l).length c').ownBlock = some k → w.heap.size ≤ k) ∧ Below w.heap.size w w' := by
  have S0 := ((RaS.start w).push (.cells #[.slice p l.length c, .int .i64 lim] 52)).push (.cells #[.slice none 0 0, .int .i64 0] 52)
  rw [show (w.alloc (.cells #[.slice p l.length c, .int .i64 lim] 52)).heap.size = w.heap.size + 1 from by simp] at S0
  have HS0 := Lib.hid S0
  have HR := Lib.hid h
  have HA := Lib.hid ha
  clear S0 h ha
  go_enter Try.func22, Try.ntmps22
  go_upto_region 1 with fail
  generalize (w.alloc _).alloc _ = W1 at HS0 ⊢
  go_wp2_with fail
  go_loopw [3, 4] (fun va iv wr => ∃ j : Nat, j ≤ l.length ∧ iv = .int .i64 j ∧ Hid (RaS w wr [(w.heap.size + 1, .cells #[.slice none 0 0, .int .i64 0] 52), (w.heap.size, .cells #[.slice p l.length c, .int .i64 lim] 52)] va (tickL lim (l.take j)))) (fun _ iv _ => l.length - (intOf iv).toNat)
  case atStart => exact ⟨0, Nat.zero_le _, rfl, HS0⟩
  case round =>
    obtain ⟨j, hj, rfl, SS⟩ := hrel
    obtain ⟨b0, b1, -, -⟩ := cells2 (SS.out.get (.tail _ (.head _)))
    by_cases hlt : j < l.length
    · have hj1 : decide ((j : Int) < (l.length : Int)) = true := by simp; omega
      have R := Lib.hid (HR.out.kept SS.out.bl.size (fun k hk => SS.out.bl.block k (HR.out.lt k hk).2))
      obtain ⟨b, cap, hv, hcap, hcm, hbl, hfz, hE0⟩ := RowA.elem enE_len R.out (by omega)
      injection hv with hv _ hc
      subst hv hc
      have hE := Lib.hid (hE0 j hlt)
      have hag := HA.out l[j] (List.getElem_mem hlt)
      have hT : Hid (tickL lim (l.take (j + 1)) = tickL lim (l.take j) ++ if lim ≤ l[j].age + 1 then [] else [age1 l[j]]) := Lib.hid (by
        rw [take_succ_get hlt, tickL, tickL, List.map_append, List.filter_append]
        congr 1
        by_cases h : lim ≤ l[j].age + 1 <;> simp [age1, h])
      generalize l[j] = x at hE hT hag
      have q1 : (0 : Int) ≤ (j : Int) := by omega
      have q2 : (j : Int) < (l.length : Int) := by omega
      have hwj : IntKind.i64.wrap ((j : Int) + 1) = (j : Int) + 1 := IntWalk.i64_in _ (by omega)
      have hwa : IntKind.i64.wrap (x.age + 1) = x.age + 1 := IntWalk.i64_in _ (by omega)
      clear hE0 hfz hag hcm
      go_upto_region 7 with (refine wpList_load_mid rfl 58 _ rfl b (j * 11) rfl [.int .u8 (x.ip.a.toNat : Int), .int .u8 (x.ip.b.toNat : Int), .int .u8 (x.ip.c.toNat : Int), .int .u8 (x.ip.d.toNat : Int), .int .u8 (x.ma.a.toNat : Int), .int .u8 (x.ma.b.toNat : Int), .int .u8 (x.ma.c.toNat : Int), .int .u8 (x.ma.d.toNat : Int), .int .u8 (x.ma.e.toNat : Int), .int .u8 (x.ma.f.toNat : Int), .int .i64 x.age] _ hE.out Try.underlying58 rfl (by kernel_rfl) ?_)
      have S5 := Lib.hid (SS.out.alloc (.cells #[.int .u8 (x.ip.a.toNat : Int), .int .u8 (x.ip.b.toNat : Int), .int .u8 (x.ip.c.toNat : Int), .int .u8 (x.ip.d.toNat : Int), .int .u8 (x.ma.a.toNat : Int), .int .u8 (x.ma.b.toNat : Int), .int .u8 (x.ma.c.toNat : Int), .int .u8 (x.ma.d.toNat : Int), .int .u8 (x.ma.e.toNat : Int), .int .u8 (x.ma.f.toNat : Int), .int .i64 (x.age + 1)] 58))
      have hX : Hid ((wr.alloc (.cells #[.int .u8 (x.ip.a.toNat : Int), .int .u8 (x.ip.b.toNat : Int), .int .u8 (x.ip.c.toNat : Int), .int .u8 (x.ip.d.toNat : Int), .int .u8 (x.ma.a.toNat : Int), .int .u8 (x.ma.b.toNat : Int), .int .u8 (x.ma.c.toNat : Int), .int .u8 (x.ma.d.toNat : Int), .int .u8 (x.ma.e.toNat : Int), .int .u8 (x.ma.f.toNat : Int), .int .i64 (x.age + 1)] 58)).rangeAt wr.heap.size 0 [.int .u8 (x.ip.a.toNat : Int), .int .u8 (x.ip.b.toNat : Int), .int .u8 (x.ip.c.toNat : Int), .int .u8 (x.ip.d.toNat : Int), .int .u8 (x.ma.a.toNat : Int), .int .u8 (x.ma.b.toNat : Int), .int .u8 (x.ma.c.toNat : Int), .int .u8 (x.ma.d.toNat : Int), .int .u8 (x.ma.e.toNat : Int), .int .u8 (x.ma.f.toNat : Int), .int .i64 (x.age + 1)]) := Lib.hid (rn_at wr (age1 x))
      have hX10 : (wr.alloc (.cells #[.int .u8 (x.ip.a.toNat : Int), .int .u8 (x.ip.b.toNat : Int), .int .u8 (x.ip.c.toNat : Int), .int .u8 (x.ip.d.toNat : Int), .int .u8 (x.ma.a.toNat : Int), .int .u8 (x.ma.b.toNat : Int), .int .u8 (x.ma.c.toNat : Int), .int .u8 (x.ma.d.toNat : Int), .int .u8 (x.ma.e.toNat : Int), .int .u8 (x.ma.f.toNat : Int), .int .i64 (x.age + 1)] 58)).cell? ⟨wr.heap.size, 10, none⟩ = some (.int .i64 (x.age + 1)) := hX.out 10 _ rfl
      obtain ⟨n5, hn⟩ : ∃ n, n = wr.heap.size := ⟨_, rfl⟩
      clear SS b0 b1
      generalize wr.alloc _ = W5 at S5 hX hX10 ⊢
      rw [← hn] at hX hX10 ⊢
      clear hn
      obtain ⟨b0, b1, -, -⟩ := cells2 (S5.out.get (.tail _ (.head _)))
      by_cases hq : lim ≤ x.age + 1
      · have d1 : decide (x.age + 1 < lim) = false := by simp; omega
        go_wp2_with fail
        go_roundw
        case rel => exact ⟨j + 1, by omega, by go_num, Lib.hid (by rw [hT.out, if_pos hq, List.append_nil]; exact S5.out)⟩
        case measure => simp [intOf]; omega
      · have d1 : decide (x.age + 1 < lim) = true := by simp; omega
        have HA := Lib.hid (S5.out.alloc (.cells #[.int .u8 (x.ip.a.toNat : Int), .int .u8 (x.ip.b.toNat : Int), .int .u8 (x.ip.c.toNat : Int), .int .u8 (x.ip.d.toNat : Int), .int .u8 (x.ma.a.toNat : Int), .int .u8 (x.ma.b.toNat : Int), .int .u8 (x.ma.c.toNat : Int), .int .u8 (x.ma.d.toNat : Int), .int .u8 (x.ma.e.toNat : Int), .int .u8 (x.ma.f.toNat : Int), .int .i64 (x.age + 1)] 58))
        have HNW := Lib.hid (rn_new W5 (age1 x))
        have hll : (tickL lim (l.take j)).length ≤ 1000000 := by have h1 : (tickL lim (l.take j)).length ≤ (l.take j).length := tickL_len; have h2 := List.length_take_le j l; omega
        go_wp2_with (first | (refine wpList_load_mid rfl 58 _ rfl n5 0 rfl [.int .u8 (x.ip.a.toNat : Int), .int .u8 (x.ip.b.toNat : Int), .int .u8 (x.ip.c.toNat : Int), .int .u8 (x.ip.d.toNat : Int), .int .u8 (x.ma.a.toNat : Int), .int .u8 (x.ma.b.toNat : Int), .int .u8 (x.ma.c.toNat : Int), .int .u8 (x.ma.d.toNat : Int), .int .u8 (x.ma.e.toNat : Int), .int .u8 (x.ma.f.toNat : Int), .int .i64 (x.age + 1)] _ hX.out Try.underlying58 rfl (by kernel_rfl) ?_) | (refine wpList_append_rn rfl (.tmp 27) (.tmp 29) rfl _ _ rfl HA.out.acc hll ⟨W5.heap.size, 0, none⟩ 1 (age1 x) rfl HNW.out ?_; intro v' w2 hrow hgr hbl2; have HS3 := Lib.hid (HA.out.app hgr hrow hbl2); clear hrow hgr hbl2))
        go_roundw
        case rel => exact ⟨j + 1, by omega, by go_num, Lib.hid (by rw [hT.out, if_neg hq]; exact HS3.out)⟩
        case measure => simp [intOf]; omega
    · obtain rfl : j = l.length := by omega
      have hj1 : decide ((l.length : Int) < (l.length : Int)) = false := by simp
      rw [List.take_length] at SS
      clear b0 b1
      obtain ⟨p', c', hv'⟩ := RowA.shape SS.out.acc
      subst hv'
      obtain ⟨b0, b1, f0, -⟩ := cells2 (SS.out.get (.tail _ (.head _)))
      obtain ⟨r0, r1, g0, g1⟩ := cells2 (SS.out.get (.head _))
      have HL := Lib.hid (SS.out.laid (.tail _ (.head _)) (.head _) (Nat.le_refl _) (by omega) (.slice p' (tickL lim l).length c') (.slice p' (tickL lim l).length c') (.int .i64 lim))
      go_wp2_with fail
      refine bodyPost_ret (v := rcV p' (tickL lim l).length c' lim) (by simp [results, Try.results22, go_sem, r0, r1]) rfl ⟨p', c', by first | rfl | (congr 2; done), HL.out.1, SS.out.own, HL.out.2⟩

end Go.Proofs.Ytolegdjdppaeoaa
