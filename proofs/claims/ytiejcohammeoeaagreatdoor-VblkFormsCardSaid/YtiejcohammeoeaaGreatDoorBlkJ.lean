/-
  Layer 3: an order is given to the device: it is out. Conditions: as the errors' before it.
-/
import Derived.Test.YtiejcohammeoeaaGreatDoorBlkI
namespace Go.Proofs.YtiejcohammeoeaaGreatDoor
open Go.RowKit Go.Sort

/-- What Submit comes to, where it gives the order to the device. -/
def SubPost (w : World) (b g h q u mb : Nat) (lm : List UInt8) (base sectors limit : Int) (os : List Snt) (cs : List Oc) (off back last now : Int) (k : Nat) (o : Ord) (e : Ending) (w' : World) : Prop :=
  ∃ (y : Snt) (x : Oc), e = .returned (.tuple #[.int .i64 (last + 1), .int .i64 0]) ∧ y.id = last + 1 ∧ y.kind = o.kind ∧ y.since = now ∧ y.hd = x.c.head ∧ (0 ≤ y.slot ∧ y.slot < 8 ∧ ∀ z ∈ os, z.slot ≠ y.slot) ∧ (∀ j : Nat, (j : Int) < y.slot → ∃ z ∈ os, z.slot = (j : Int)) ∧ x.c = newCh cs 32 (chainL (shpAt k) (base + 848 + 96 * y.slot)) ∧
      KS w' b g h q u mb (addL (slotL lm (base + 848 + 96 * y.slot) (shpAt k) o) base 32 off x.c.of (chainL (shpAt k) (base + 848 + 96 * y.slot))) base sectors limit (os ++ [y]) (cs ++ [x]) ((off + 1) % 65536) back false (last + 1) now false ∧ Turned (KB b q h mb u) w w'

/-- One's map is written: the queue stays. -/
theorem QS.keep9 {w w' : World} {q g h : Nat} {lm : List UInt8} {base : Int} {n mb : Nat} {cs : List Oc} {off back : Int} {broken : Bool} (s : QS w q g h lm base n mb cs off back broken) {u : Nat} (k : w.grownBy w' (some u)) {es : List (Int × Value)} (t : IsTab w u es) (une : u ≠ mb) :
    QS w' q g h lm base n mb cs off back broken := by
  have e2 := tab_ne t s.mem.1
  have e3 := tab_ne t s.mem.2
  have e4 := tab_ne t s.at_
  have keep : ∀ x, x < w.heap.size → x ≠ u → w'.heap[x]? = w.heap[x]? := fun x hx hn => k.block x hx (fun e => hn (by injection e with e))
  have m : Mem w' g h lm := ⟨(keep _ s.mem.lt1 (fun e => e2 e.symm)).trans s.mem.1, (keep _ s.mem.lt2 (fun e => e3 e.symm)).trans s.mem.2⟩
  refine { s with mem := m, at_ := s.at_.kept (keep _ s.lts.1 (fun e => e4 e.symm)), tab := s.tab.kept (keep _ s.lts.2.2.2 (fun e => une e.symm)), nums := fun x hx => ?_ }
  obtain ⟨a1, a2, a3⟩ := s.nums x hx
  refine ⟨a1, fun i hi => ?_, a3⟩
  have hc := a2 i hi
  by_cases hb : x.blk = u
  · exfalso
    rw [hb] at hc
    obtain ⟨es, clock, h0, _⟩ := t
    simp [World.cell?, h0] at hc
  · rw [World.cell?_of_block (w := w) (a := ⟨x.blk, i, none⟩) (keep _ (World.block_lt_of_cell? w _ hc) hb)]
    exact hc
/-- A block of cells is written that is none of the queue's: the queue stays. -/
theorem QS.keepC {w w' : World} {q g h : Nat} {lm : List UInt8} {base : Int} {n mb : Nat} {cs : List Oc} {off back : Int} {broken : Bool} (s : QS w q g h lm base n mb cs off back broken) {b : Nat} (k : w.grownBy w' (some b)) {g1 : Nat} (h0 : w.cell? ⟨b, 0, none⟩ = some (.pointer (some ⟨g1, 0, none⟩)))
    (n1 : b ≠ g) (n2 : b ≠ h) (n3 : b ≠ q) (n4 : b ≠ mb) : QS w' q g h lm base n mb cs off back broken := by
  have keep : ∀ x, x < w.heap.size → x ≠ b → w'.heap[x]? = w.heap[x]? := fun x hx hn => k.block x hx (fun e => hn (by injection e with e))
  have m : Mem w' g h lm := ⟨(keep _ s.mem.lt1 (fun e => n1 e.symm)).trans s.mem.1, (keep _ s.mem.lt2 (fun e => n2 e.symm)).trans s.mem.2⟩
  refine { s with mem := m, at_ := s.at_.kept (keep _ s.lts.1 (fun e => n3 e.symm)), tab := s.tab.kept (keep _ s.lts.2.2.2 (fun e => n4 e.symm)), nums := fun x hx => ?_ }
  obtain ⟨a1, a2, a3⟩ := s.nums x hx
  refine ⟨a1, fun i hi => ?_, a3⟩
  have hc := a2 i hi
  by_cases hb : x.blk = b
  · exfalso
    have h1 := a2 0 (by omega)
    rw [hb, h0] at h1
    cases h1
  · rw [World.cell?_of_block (w := w) (a := ⟨x.blk, i, none⟩) (keep _ (World.block_lt_of_cell? w _ hc) hb)]
    exact hc

set_option maxRecDepth 100000 in
set_option maxHeartbeats 2000000 in
theorem Submit_ok (w : World) (b g h q u mb : Nat) (lm : List UInt8) (base sectors limit : Int) (os : List Snt) (cs : List Oc) (off back : Int) (broken : Bool) (last now : Int) (dead : Bool) (s : KS w b g h q u mb lm base sectors limit os cs off back broken last now dead) (o : Ord) (hd : dead = false) (hS : Shapes w) (k : Nat) (hk5 : k < 5) (hk : o.kind = (shpAt k).kind) (hm : mayOrd sectors o = true) (hf : os.length < 8) (hbr : broken = false) (hsec : sectors ≤ 9223372036854775807) (hlast : last ≤ 1000000) :
    Calls Tryz.prog 8 #[.pointer (some ⟨b, 0, none⟩), o.val] w (SubPost w b g h q u mb lm base sectors limit os cs off back last now k o) := by
  obtain ⟨ok, os_, od⟩ := o
  unfold Ord.val
  subst hd
  subst hbr
  have ka := World.grownBy_alloc w (.cells #[.int .i64 ok, .int .i64 os_, .string od] 35) none
  have hob := heap_alloc_new w (.cells #[.int .i64 ok, .int .i64 os_, .string od] 35)
  have s1 := s.grown ka
  have h8 := s1.kat.c8
  have h9 := s1.kat.c9
  have o0 : (w.alloc (.cells #[.int .i64 ok, .int .i64 os_, .string od] 35)).cell? ⟨w.heap.size, 0, none⟩ = some (.int .i64 ok) := cell_of_block hob
  simp only at hk hm
  subst hk
  have OC := Lib.hid (ofKind_yes _ (hS.grown ka) k hk5)
  have S1 := Lib.hid s1
  have h0l := s.qs.mem.lt2
  have b0l := lt_of_block s.kat
  have q0l := s.qs.lts.1
  have m0l := s.qs.lts.2.2.2
  have u0l := s.tab.lt
  have HOB := Lib.hid hob
  clear s s1 hS hob
  simp only
  go_enter Tryz.func8, Tryz.ntmps8
  go_wp2_with fail
  refine (knone_no _ _ h9).mono ?_
  rintro e w1 ⟨rfl, rfl⟩
  go_wp2_with fail
  refine OC.out.mono ?_
  rintro e w1 ⟨rfl, k1⟩
  have z01 : w.heap.size ≤ w1.heap.size := (ka.trans k1).size
  unfold Shp.val
  have kb := (ka.trans k1).trans (World.grownBy_alloc w1 (.cells #[.int .i64 (shpAt k).kind, .int .u64 (shpAt k).num, .int .i64 (shpAt k).len, .bool (shpAt k).back, .int .i64 (shpAt k).sec] 66) none)
  have s2 := (S1.out.grown k1).grown (World.grownBy_alloc w1 (.cells #[.int .i64 (shpAt k).kind, .int .u64 (shpAt k).num, .int .i64 (shpAt k).len, .bool (shpAt k).back, .int .i64 (shpAt k).sec] 66) none)
  have hob2 : (w1.alloc (.cells #[.int .i64 (shpAt k).kind, .int .u64 (shpAt k).num, .int .i64 (shpAt k).len, .bool (shpAt k).back, .int .i64 (shpAt k).sec] 66)).heap[w.heap.size]? = some (.cells #[.int .i64 (shpAt k).kind, .int .i64 os_, .string od] 35 (0, 0)) :=
    (((World.grownBy_alloc w1 (.cells #[.int .i64 (shpAt k).kind, .int .u64 (shpAt k).num, .int .i64 (shpAt k).len, .bool (shpAt k).back, .int .i64 (shpAt k).sec] 66) none).block _ (Nat.lt_of_lt_of_le (lt_of_block HOB.out) k1.size) (by simp)).trans (k1.block _ (lt_of_block HOB.out) (by simp))).trans HOB.out
  have hsb2 := heap_alloc_new w1 (.cells #[.int .i64 (shpAt k).kind, .int .u64 (shpAt k).num, .int .i64 (shpAt k).len, .bool (shpAt k).back, .int .i64 (shpAt k).sec] 66)
  have o1 : (w1.alloc (.cells #[.int .i64 (shpAt k).kind, .int .u64 (shpAt k).num, .int .i64 (shpAt k).len, .bool (shpAt k).back, .int .i64 (shpAt k).sec] 66)).cell? ⟨w.heap.size, 0, none⟩ = some (.int .i64 (shpAt k).kind) := cell_of_block hob2
  have o2 : (w1.alloc (.cells #[.int .i64 (shpAt k).kind, .int .u64 (shpAt k).num, .int .i64 (shpAt k).len, .bool (shpAt k).back, .int .i64 (shpAt k).sec] 66)).cell? ⟨w.heap.size, 1, none⟩ = some (.int .i64 os_) := cell_of_block hob2
  have o3 : (w1.alloc (.cells #[.int .i64 (shpAt k).kind, .int .u64 (shpAt k).num, .int .i64 (shpAt k).len, .bool (shpAt k).back, .int .i64 (shpAt k).sec] 66)).cell? ⟨w.heap.size, 2, none⟩ = some (.string od) := cell_of_block hob2
  have S2 := Lib.hid s2
  have KB2 := Lib.hid kb
  have HOB2 := Lib.hid hob2
  have HSB2 := Lib.hid hsb2
  clear s2 kb hob2 hsb2 ka k1 h8 h9 o0
  go_wp2_with fail
  generalize w1.alloc _ = W1 at S2 KB2 HOB2 HSB2 o1 o2 o3 ⊢
  have MC := kmayBe_any W1 b g base sectors limit q u last now false S2.out.kat ⟨(shpAt k).kind, os_, od⟩
  rw [hm] at MC
  refine MC.mono ?_
  rintro e w2 ⟨rfl, k2⟩
  clear MC
  have S3 := Lib.hid (S2.out.grown k2)
  have KB3 := Lib.hid (KB2.out.trans k2)
  have t5 := S3.out.kat.c5
  have HOB3 : Hid (w2.heap[w.heap.size]? = some (.cells #[.int .i64 (shpAt k).kind, .int .i64 os_, .string od] 35 (0, 0))) := Lib.hid ((k2.block _ (lt_of_block HOB2.out) (by simp)).trans HOB2.out)
  have HSB3 : Hid (w2.heap[w1.heap.size]? = some (.cells #[.int .i64 (shpAt k).kind, .int .u64 (shpAt k).num, .int .i64 (shpAt k).len, .bool (shpAt k).back, .int .i64 (shpAt k).sec] 66 (0, 0))) := Lib.hid ((k2.block _ (lt_of_block HSB2.out) (by simp)).trans HSB2.out)
  clear k2 o1 o2 o3 S2 KB2 HOB2 HSB2
  have hlen3 : decide ((8 : Int) ≤ (os.length : Int)) = false := decide_eq_false (by omega)
  have HFEW := Lib.hid hf
  have hul := S3.out.tab.lt
  have hHl0 := S3.out.qs.mem.lt2
  have hqb0 := S3.out.qs.lts
  go_wp2_with (at_len; refine wpList_len_tab _ rfl _ 55 rfl 3 77 Tryz.underlying55 u (os.map Snt.ent) S3.out.tab rfl ?_)
--@0
  refine (freeSlot_any w2 b g base sectors limit q u last now false S3.out.kat os S3.out.tab hf (fun x hx => by have := S3.out.bds x hx; omega)).mono ?_
  rintro e w3 ⟨⟨z, rfl, hz8, hzn, hzf⟩, k3⟩
  have S4 := Lib.hid (S3.out.grown k3)
  have T4 : Turned (KB b q h mb u) w w3 := (Turned.of KB3.out (fun j e => by cases e)).step k3 (fun j e => by cases e)
  have hSub : Hid (SubS w3 w.heap.size w1.heap.size b g base sectors limit q u last now false (shpAt k) ⟨(shpAt k).kind, os_, od⟩) :=
    Lib.hid ⟨S4.out.kat, (k3.block _ (lt_of_block HSB3.out) (by simp)).trans HSB3.out, (k3.block _ (lt_of_block HOB3.out) (by simp)).trans HOB3.out⟩
  obtain ⟨b0, b1, l2⟩ := S4.out.bl
  have hmo := hm
  unfold mayOrd at hmo
  simp only [Bool.and_eq_true, decide_eq_true_eq] at hmo
  obtain ⟨⟨ho0, hmo2⟩, hod1⟩ := hmo
  have ho1 : os_ ≤ 9223372036854775807 := by split at hmo2 <;> omega
  have hod : od.size ≤ 65536 := by split at hod1 <;> omega
  obtain ⟨hn0, hn1⟩ := shp_bd k hk5
  have hm1 := S4.out.b1
  have HBD := Lib.hid (chain_bd (shpAt k) (base + 848 + 96 * (z : Int)) hn1)
  have HE : Hid (∀ lm' : List UInt8, lm'.length = lm.length → refuseE lm' (chainL (shpAt k) (base + 848 + 96 * (z : Int))) (freeL (cs.map Oc.c) 32).length = 0) := Lib.hid (fun lm' hl => chain_fits k hk5 lm' _ (by omega) (by omega) _ (by
    have h1 := free_three cs 32 7 S4.out.three (by rw [S4.out.len]; omega)
    omega))
  have hHl : h < w.heap.size ∧ q < w.heap.size ∧ mb < w.heap.size ∧ w.heap.size ≤ w1.heap.size := ⟨h0l, q0l, m0l, z01⟩
  have hul2 : u < w.heap.size := u0l
  have HZN := Lib.hid hzn
  have HZF := Lib.hid hzf
  have hune := S4.out.une
  clear hmo2 hod1 hm S3 KB3 HOB3 HSB3 t5 k3 hn1 hzn hzf hf hlen3 hqb0 hHl0 hul
  have hul := hul2
  go_wp2_with fail
--@1
  refine wp_region_noPanic ?_
  refine region_held (S := fun w' => SubS w' w.heap.size w1.heap.size b g base sectors limit q u last now false (shpAt k) ⟨(shpAt k).kind, os_, od⟩) (by kernel_rfl) (fun V d => hSub.out.grown d.grown) (fun V d hS => ?_)
  have sV := Lib.hid (S4.out.grown d.grown)
  have tV : Turned (KB b q h mb u) w V := T4.step d.grown (fun j e => by cases e)
  refine wpAnyH_take (i := 0) (v := (.pointer (some ⟨b, 0, none⟩))) rfl (by kernel_rfl) (by kernel_rfl) (by kernel_rfl) (fun _ _ _ h => h) (Or.inl ⟨by rfl, fun w' h' => ?_⟩) hS ?_
  · clear h'
    go_simp
  simp only [Act.put]
  refine wpAnyH_take (i := 1) (v := (.pointer (some ⟨b, 0, none⟩))) rfl (by kernel_rfl) (by kernel_rfl) (by kernel_rfl) (fun _ _ _ h => h) (Or.inl ⟨by rfl, fun w' h' => ?_⟩) hS ?_
  · clear h'
    go_simp
  simp only [Act.put]
  refine wpAnyH_take (i := 2) (v := (.int .i64 (z : Int))) rfl (by kernel_rfl) (by kernel_rfl) (by kernel_rfl) (fun _ _ _ h => h) (Or.inl ⟨by rfl, fun w' h' => ?_⟩) hS ?_
  · clear h'
    go_simp
  simp only [Act.put]
  refine wpAnyH_take (i := 4) (v := (.agg #[.int .i64 (shpAt k).kind, .int .u64 (shpAt k).num, .int .i64 (shpAt k).len, .bool (shpAt k).back, .int .i64 (shpAt k).sec])) rfl (by kernel_rfl) (by kernel_rfl) (by kernel_rfl) (fun _ _ _ h => h) (Or.inl ⟨by rfl, fun w' h' => ?_⟩) hS ?_
  · have c0 := h'.s0
    have c1 := h'.s1
    have c2 := h'.s2
    have c3 := h'.s3
    have c4 := h'.s4
    clear h'
    go_simp
  simp only [Act.put]
  refine wpAnyH_take (i := 5) (v := (.agg #[.int .i64 (shpAt k).kind, .int .i64 os_, .string od])) rfl (by kernel_rfl) (by kernel_rfl) (by kernel_rfl) (fun _ _ _ h => h) (Or.inl ⟨by rfl, fun w' h' => ?_⟩) hS ?_
  · have c0 := h'.o0
    have c1 := h'.o1
    have c2 := h'.o2
    clear h'
    go_simp
  simp only [Act.put]
  refine wpAnyH_ready (rs := [3]) (by kernel_rfl) (by simp) ?_
  refine AllReadyH.cons rfl (fun K hK => ?_) AllReadyH.nil
  go_simp
  refine (kat_any V b g base sectors limit q u last now false hS.1 b0 (by omega) (z : Int) (by omega) (by omega)).mono ?_
  rintro e w4 ⟨rfl, rfl⟩
  go_simp
  refine hK.out _ _ hS (fun _ => ?_)
  clear hK K
  refine wpAnyH_ready (rs := [6]) (by kernel_rfl) (by simp) ?_
  refine AllReadyH.cons rfl (fun K hK => ?_) AllReadyH.nil
  go_simp
  refine (klay_any V b g h base sectors limit q u last now false lm hS.1 sV.out.qs.mem l2 (base + 848 + 96 * (z : Int)) (by omega) (by omega) (shpAt k) ⟨(shpAt k).kind, os_, od⟩ hn0 ho0 ho1 hod).mono ?_
  rintro e w5 ⟨rfl, m5, k5⟩
  have s5 := hS.kept (w' := w5) (fun x hx hd => k5.block x hx (by intro e; injection e with e; have := sV.out.bh; have := hHl; rcases hd with rfl | rfl | rfl <;> omega))
  have S5 := Lib.hid (sV.out.wrote m5 k5 (slotL_length lm _ _ _))
  have T5 : Turned (KB b q h mb u) w w5 := tV.step k5 (fun j e => .inl (.inl (by injection e with e; exact e.symm)))
  go_simp
  refine hK.out _ _ s5 (fun _ => ?_)
  clear hK K
  refine wpAnyH_done (by kernel_rfl) (NoPanic.normal ?_) _
--@2
  clear hS d sV tV m5 k5 S4 T4 hSub
  go_wp2_with fail
--@3
  refine wp_region_noPanic ?_
  refine region_held (S := fun w' => SubS w' w.heap.size w1.heap.size b g base sectors limit q u last now false (shpAt k) ⟨(shpAt k).kind, os_, od⟩) (by kernel_rfl) (fun V d => s5.grown d.grown) (fun V d hS => ?_)
  have sV := Lib.hid (S5.out.grown d.grown)
  have tV : Turned (KB b q h mb u) w V := T5.step d.grown (fun j e => by cases e)
  clear T5 s5
  refine wpAnyH_take (i := 0) (v := (.pointer (some ⟨b, 0, none⟩))) rfl (by kernel_rfl) (by kernel_rfl) (by kernel_rfl) (fun _ _ _ h => h) (Or.inl ⟨by rfl, fun w' h' => ?_⟩) hS ?_
  · clear h'
    go_simp
  simp only [Act.put]
  refine wpAnyH_take (i := 1) (v := (.pointer (some ⟨b, 0, none⟩))) rfl (by kernel_rfl) (by kernel_rfl) (by kernel_rfl) (fun _ _ _ h => h) (Or.inl ⟨by rfl, fun w' h' => ?_⟩) hS ?_
  · clear h'
    go_simp
  simp only [Act.put]
  refine wpAnyH_take (i := 2) (v := (.pointer (some ⟨b, 4, none⟩))) rfl (by kernel_rfl) (by kernel_rfl) (by kernel_rfl) (fun _ _ _ h => h) (Or.inl ⟨by rfl, fun w' h' => ?_⟩) hS ?_
  · clear h'
    go_simp
  simp only [Act.put]
  refine wpAnyH_take (i := 3) (v := (.pointer (some ⟨q, 0, none⟩))) rfl (by kernel_rfl) (by kernel_rfl) (by kernel_rfl) (fun _ _ _ h => h) (Or.inl ⟨by rfl, fun w' h' => ?_⟩) hS ?_
  · have c0 := h'.1.c4
    clear h'
    go_simp
  simp only [Act.put]
  refine wpAnyH_take (i := 4) (v := (.agg #[.int .i64 (shpAt k).kind, .int .u64 (shpAt k).num, .int .i64 (shpAt k).len, .bool (shpAt k).back, .int .i64 (shpAt k).sec])) rfl (by kernel_rfl) (by kernel_rfl) (by kernel_rfl) (fun _ _ _ h => h) (Or.inl ⟨by rfl, fun w' h' => ?_⟩) hS ?_
  · have c0 := h'.s0
    have c1 := h'.s1
    have c2 := h'.s2
    have c3 := h'.s3
    have c4 := h'.s4
    clear h'
    go_simp
  simp only [Act.put]
  refine wpAnyH_take (i := 5) (v := (.pointer (some ⟨b, 0, none⟩))) rfl (by kernel_rfl) (by kernel_rfl) (by kernel_rfl) (fun _ _ _ h => h) (Or.inl ⟨by rfl, fun w' h' => ?_⟩) hS ?_
  · clear h'
    go_simp
  simp only [Act.put]
  refine wpAnyH_take (i := 6) (v := (.int .i64 (z : Int))) rfl (by kernel_rfl) (by kernel_rfl) (by kernel_rfl) (fun _ _ _ h => h) (Or.inl ⟨by rfl, fun w' h' => ?_⟩) hS ?_
  · clear h'
    go_simp
  simp only [Act.put]
  refine wpAnyH_ready (rs := [7]) (by kernel_rfl) (by simp) ?_
  refine AllReadyH.cons rfl (fun K hK => ?_) AllReadyH.nil
  go_simp
  refine (kat_any V b g base sectors limit q u last now false hS.1 b0 (by omega) (z : Int) (by omega) (by omega)).mono ?_
  rintro e w6 ⟨rfl, rfl⟩
  go_simp
  refine hK.out _ _ hS (fun _ => ?_)
  clear hK K
  refine wpAnyH_ready (rs := [8]) (by kernel_rfl) (by simp) ?_
  refine AllReadyH.cons rfl (fun K hK => ?_) AllReadyH.nil
  go_simp
  refine (chain_any V (shpAt k) (base + 848 + 96 * (z : Int)) (by omega) (by omega)).mono ?_
  rintro e w6 ⟨vb, rfl, bv, k6⟩
  have s6 := hS.grown k6
  have S6 := Lib.hid (sV.out.grown k6)
  have t6 := tV.step k6 (fun j e => by cases e)
  go_simp
  refine hK.out _ _ s6 (fun _ => ?_)
  clear hK K
  refine wpAnyH_ready (rs := [9]) (by kernel_rfl) (by simp) ?_
  refine AllReadyH.cons rfl (fun K hK => ?_) AllReadyH.nil
  go_simp
  refine (Add_ok w6 q g h (slotL lm (base + 848 + 96 * (z : Int)) (shpAt k) ⟨(shpAt k).kind, os_, od⟩) base 32 mb cs off back S6.out.qs vb (chainL (shpAt k) (base + 848 + 96 * (z : Int))) bv HBD.out (HE.out _ (slotL_length lm _ _ _))).mono ?_
  rintro e w7 ⟨x, rfl, hx, qs7, t7⟩
  have s7 := s6.kept (w' := w7) (fun y hy hd => t7.block y hy (by
    have := S6.out.bh
    have := S6.out.bq
    have := S6.out.bmb
    have := hHl
    rintro (e | e | e) <;> rcases hd with rfl | rfl | rfl <;> omega))
  have u7 := tab_turned S6.out.tab S6.out.qs S6.out.une t7
  have T7 : Turned (KB b q h mb u) w w7 := t6.trans (t7.mono (fun y _ hy => by rcases hy with e | e | e; exact .inl e; exact .inr (.inl e); exact .inr (.inr (.inl e))))
  have z7 := t7.size
  go_simp
  refine hK.out _ _ s7 (fun _ => ?_)
  clear hK K
  refine wpAnyH_take (i := 10) (oi := ⟨some 44, Op.move (Operand.tmp 54), _, _, _, none⟩) (v := (.tuple #[.int .i64 x.c.head, .int .i64 0])) rfl (by kernel_rfl) (by kernel_rfl) (by kernel_rfl) (fun _ _ _ h => h) (Or.inl ⟨by rfl, fun w' h' => ?_⟩) s7 ?_
  · clear h'
    go_simp
  simp only [Act.put]
  refine wpAnyH_take (i := 11) (oi := ⟨some 55, Op.extract (Operand.tmp 44) 0, _, _, _, none⟩) (v := (.int .i64 x.c.head)) rfl (by kernel_rfl) (by kernel_rfl) (by kernel_rfl) (fun _ _ _ h => h) (Or.inl ⟨by rfl, fun w' h' => ?_⟩) s7 ?_
  · clear h'
    go_simp
  simp only [Act.put]
  refine wpAnyH_take (i := 12) (oi := ⟨some 56, Op.extract (Operand.tmp 44) 1, _, _, _, none⟩) (v := (.int .i64 0)) rfl (by kernel_rfl) (by kernel_rfl) (by kernel_rfl) (fun _ _ _ h => h) (Or.inl ⟨by rfl, fun w' h' => ?_⟩) s7 ?_
  · clear h'
    go_simp
  simp only [Act.put]
  refine wpAnyH_take (i := 13) (oi := ⟨some 9, Op.assign (Operand.tmp 55), _, _, _, none⟩) (v := (.int .i64 x.c.head)) rfl (by kernel_rfl) (by kernel_rfl) (by kernel_rfl) (fun _ _ _ h => h) (Or.inl ⟨by rfl, fun w' h' => ?_⟩) s7 ?_
  · clear h'
    go_simp
  simp only [Act.put]
  refine wpAnyH_take (i := 14) (oi := ⟨some 10, Op.assign (Operand.tmp 56), _, _, _, none⟩) (v := (.int .i64 0)) rfl (by kernel_rfl) (by kernel_rfl) (by kernel_rfl) (fun _ _ _ h => h) (Or.inl ⟨by rfl, fun w' h' => ?_⟩) s7 ?_
  · clear h'
    go_simp
  simp only [Act.put]
  refine wpAnyH_done (by kernel_rfl) (NoPanic.normal ?_) _
--@4
  clear hS d tV S6 k6 t6 s6 bv
  have q7b : b ≠ g ∧ b ≠ h ∧ b ≠ q ∧ b ≠ mb := ⟨sV.out.bg, sV.out.bh, sV.out.bq, sV.out.bmb⟩
  have S6 := sV
  have w7l : IntKind.i64.wrap (last + 1) = last + 1 := IntWalk.i64_in _ (by have := S5.out.last0; omega)
  have c6 := s7.1.c6
  have f6 := s7.1.fz 6
  have QS7 := Lib.hid qs7
  have HX := Lib.hid hx
  have HNEW : Hid (∀ c ∈ os.map Snt.ent, c.1 ≠ x.c.head) := Lib.hid (by
    intro c hc e
    obtain ⟨y, hy, rfl⟩ := List.mem_map.1 hc
    have h1 := heads_nodup QS7.out
    rw [List.map_append, List.nodup_append] at h1
    have h2 : y.hd ∈ cs.map fun x => x.c.head := by rw [← S5.out.hds]; exact List.mem_map.2 ⟨y, hy, rfl⟩
    exact h1.2.2 _ h2 x.c.head (by simp) e)
  have HWF : Hid ((Lit.int .i64 x.c.head).wf = true) := Lib.hid (by
    obtain ⟨es, clock, _, F⟩ := QS7.out.tab
    exact F.wf x.ent (by rw [List.map_append]; exact List.mem_append_right _ (by simp)))
  clear qs7 hx sV
  go_wp2_with fail
  have k8 := grown_setCell w7 b 6 (.int .i64 (last + 1))
  have kat8 : KAt (w7.setCell ⟨b, 6, none⟩ (.int .i64 (last + 1))) b g base sectors limit q u (last + 1) now false := set_block s7.1 6 (.int .i64 (last + 1))
  have hbo : b ≠ w.heap.size ∧ b ≠ w1.heap.size := by have := b0l; have := z01; omega
  have s8 : SubS (w7.setCell ⟨b, 6, none⟩ (.int .i64 (last + 1))) w.heap.size w1.heap.size b g base sectors limit q u (last + 1) now false (shpAt k) ⟨(shpAt k).kind, os_, od⟩ :=
    ⟨kat8, (k8.block _ (lt_of_block s7.2.1) (fun e => hbo.2 (by injection e with e; exact e.symm))).trans s7.2.1, (k8.block _ (lt_of_block s7.2.2) (fun e => hbo.1 (by injection e with e; exact e.symm))).trans s7.2.2⟩
  have Q8 := Lib.hid (QS7.out.keepC k8 s7.1.c0 q7b.1 q7b.2.1 q7b.2.2.1 q7b.2.2.2)
  have u8 := u7.kept (k8.block _ u7.lt (fun e => S6.out.ub.1 (by injection e with e)))
  have T8 : Turned (KB b q h mb u) w (w7.setCell ⟨b, 6, none⟩ (.int .i64 (last + 1))) := T7.step k8 (fun j e => .inl (.inr (.inr (.inr (.inl (by injection e with e; exact e.symm))))))
  clear c6 f6 w7l k8 kat8 s7 u7 T7 z7 QS7 t7
  generalize w7.setCell ⟨b, 6, none⟩ (.int .i64 (last + 1)) = w8 at s8 Q8 u8 T8 ⊢
--@5
  refine region_tail 17 (by kernel_rfl) (by kernel_rfl) (fun V d => ?_)
  have hS := s8.grown d.grown
  have uV := u8.grown d.grown
  have tV : Turned (KB b q h mb u) w V := T8.step d.grown (fun j e => by cases e)
  have QV := Lib.hid (Q8.out.grown d.grown)
  have d5 := hS.1.c5
  have d6 := hS.1.c6
  have d7 := hS.1.c7
  have d0 := hS.o0
  obtain ⟨w9, hrun, b9, k9⟩ := uV.add (P := Tryz.prog) Tryz.underlying55 Tryz.underlying3 HWF.out HNEW.out (.agg #[.int .i64 (last + 1), .int .i64 (shpAt k).kind, .int .i64 (z : Int), .int .i64 now])
  have s9 := hS.kept (w' := w9) (fun y hy hd => k9.block y hy (by intro e; injection e with e; obtain ⟨u1, u2, u3, u4⟩ := S6.out.ub; have := hul; rcases hd with rfl | rfl | rfl <;> omega))
  have T9 := tV.step k9 (fun j e => .inl (.inr (.inr (.inr (.inr (by injection e with e; exact e.symm))))))
  have Q9 := Lib.hid (QV.out.keep9 k9 uV hune)
  have SS9 := Lib.hid s9
  have B9 := Lib.hid b9
  have TT9 := Lib.hid T9
  have c6 := s9.1.c6
  clear s9 b9 T9 k9 hS uV tV QV s8 u8 T8 Q8 d
  simp only [List.take_succ_cons, List.take_zero, List.drop_succ_cons, List.drop_zero]
  repeat still_step
  refine wpStill_nil ?_
--@6
  have hfin := S5.out.submit x ⟨x.c.head, last + 1, (shpAt k).kind, (z : Int), now⟩ (chainL (shpAt k) (base + 848 + 96 * (z : Int))) (chainL_len _ _) HX.out Q9.out SS9.out.1 (by
    rw [List.map_append]
    exact B9.out) (by unfold addL; simp [putL_length, descs_length]) HFEW.out rfl rfl rfl ⟨by show (0 : Int) ≤ (z : Int); omega, by show (z : Int) < 8; omega, fun y hy => HZN.out y hy⟩
  have FIN := Lib.hid hfin
  clear hfin S6 S5
  go_wp2_with fail
  go_ret2
  refine ⟨⟨x.c.head, last + 1, (shpAt k).kind, (z : Int), now⟩, x, rfl, rfl, rfl, rfl, rfl, ⟨by show (0 : Int) ≤ (z : Int); omega, by show (z : Int) < 8; omega, fun y hy => HZN.out y hy⟩, fun j hj => HZF.out j (by have h2 : (j : Int) < (z : Int) := hj; omega), HX.out, ?_, TT9.out⟩
  have := FIN.out
  exact this

end Go.Proofs.YtiejcohammeoeaaGreatDoor
