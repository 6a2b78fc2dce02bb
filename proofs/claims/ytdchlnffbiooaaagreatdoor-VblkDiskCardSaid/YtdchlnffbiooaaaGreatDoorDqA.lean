/-
  Layer 3: a driver is made, a port is opened, and what has come back is told while the device lives. Conditions: the memory is of at most 65536 bytes.
-/
import Derived.Test.YtdchlnffbiooaaaGreatDoorBlkI
import Derived.Test.YtdchlnffbiooaaaGreatDoorBlkL
namespace Go.Proofs.YtdchlnffbiooaaaGreatDoor
open Go.RowKit Go.Sort

/-- What Submit comes to, where it gives the order to the device. -/
def SubPost (w : World) (b g h q u mb : Nat) (lm : List UInt8) (base sectors limit : Int) (os : List Snt) (cs : List Oc) (off back last now : Int) (k : Nat) (o : Ord) (e : Ending) (w' : World) : Prop :=
  ∃ (y : Snt) (x : Oc), e = .returned (.tuple #[.int .i64 (last + 1), .int .i64 0]) ∧ y.id = last + 1 ∧ y.kind = o.kind ∧ y.since = now ∧ y.hd = x.c.head ∧ (0 ≤ y.slot ∧ y.slot < 8 ∧ ∀ z ∈ os, z.slot ≠ y.slot) ∧ (∀ j : Nat, (j : Int) < y.slot → ∃ z ∈ os, z.slot = (j : Int)) ∧ x.c = newCh cs 32 (chainL (shpAt k) (base + 848 + 96 * y.slot)) ∧
      KS w' b g h q u mb (addL (slotL lm (base + 848 + 96 * y.slot) (shpAt k) o) base 32 off x.c.of (chainL (shpAt k) (base + 848 + 96 * y.slot))) base sectors limit (os ++ [y]) (cs ++ [x]) ((off + 1) % 65536) back false (last + 1) now false ∧ Turned (KB b q h mb u) w w'

/-- One's map is written: the queue stays. -/
theorem QS.keep9 {w w' : World} {q g h : Nat} {lm : List UInt8} {base : Int} {n mb : Nat} {cs : List Oc} {off back : Int} {broken : Bool} (s : QS w q g h lm base n mb cs off back broken) {u : Nat} (k : w.grownBy w' (some u)) {es : List (Int × Value)} (t : IsTab w u es) (une : u ≠ mb) :
    QS w' q g h lm base n mb cs off back broken := by
  have e2 := tab_ne t s.mem.1
  have e3 := tab_ne t s.mem.2
  have e4 := tab_ne t s.at_
  have keep : ∀ x, x < w.heap.size → x ≠ u → w'.heap[x]? = w.heap[x]? := fun x hx hn => k.block x hx (fun e => hn (by injection e with e))
  have m : Mem w' g h lm := ⟨(keep _ s.mem.lt1 (fun e => e2 e.symm)).trans s.mem.1, (keep _ s.mem.lt2 (fun e => e3 e.symm)).trans s.mem.2⟩
  refine { s with mem := m, at_ := s.at_.kept (keep _ s.lts.1 (fun e => e4 e.symm)), tab := s.tab.kept (keep _ s.lts.2.2.2 (fun e => une e.symm)), nums := fun x hx => ?_ }
  obtain ⟨a1, a2, a3⟩ := s.nums x hx
  refine ⟨a1, fun i hi => ?_, a3⟩
  have hc := a2 i hi
  by_cases hb : x.blk = u
  · exfalso
    rw [hb] at hc
    obtain ⟨es, clock, h0, _⟩ := t
    simp [World.cell?, h0] at hc
  · rw [World.cell?_of_block (w := w) (a := ⟨x.blk, i, none⟩) (keep _ (World.block_lt_of_cell? w _ hc) hb)]
    exact hc
/-- A block of cells is written that is none of the queue's: the queue stays. -/
theorem QS.keepC {w w' : World} {q g h : Nat} {lm : List UInt8} {base : Int} {n mb : Nat} {cs : List Oc} {off back : Int} {broken : Bool} (s : QS w q g h lm base n mb cs off back broken) {b : Nat} (k : w.grownBy w' (some b)) {g1 : Nat} (h0 : w.cell? ⟨b, 0, none⟩ = some (.pointer (some ⟨g1, 0, none⟩)))
    (n1 : b ≠ g) (n2 : b ≠ h) (n3 : b ≠ q) (n4 : b ≠ mb) : QS w' q g h lm base n mb cs off back broken := by
  have keep : ∀ x, x < w.heap.size → x ≠ b → w'.heap[x]? = w.heap[x]? := fun x hx hn => k.block x hx (fun e => hn (by injection e with e))
  have m : Mem w' g h lm := ⟨(keep _ s.mem.lt1 (fun e => n1 e.symm)).trans s.mem.1, (keep _ s.mem.lt2 (fun e => n2 e.symm)).trans s.mem.2⟩
  refine { s with mem := m, at_ := s.at_.kept (keep _ s.lts.1 (fun e => n3 e.symm)), tab := s.tab.kept (keep _ s.lts.2.2.2 (fun e => n4 e.symm)), nums := fun x hx => ?_ }
  obtain ⟨a1, a2, a3⟩ := s.nums x hx
  refine ⟨a1, fun i hi => ?_, a3⟩
  have hc := a2 i hi
  by_cases hb : x.blk = b
  · exfalso
    have h1 := a2 0 (by omega)
    rw [hb, h0] at h1
    cases h1
  · rw [World.cell?_of_block (w := w) (a := ⟨x.blk, i, none⟩) (keep _ (World.block_lt_of_cell? w _ hc) hb)]
    exact hc

set_option maxRecDepth 100000 in
set_option maxHeartbeats 2000000 in
theorem Submit_ok (w : World) (b g h q u mb : Nat) (lm : List UInt8) (base sectors limit : Int) (os : List Snt) (cs : List Oc) (off back : Int) (broken : Bool) (last now : Int) (dead : Bool) (s : KS w b g h q u mb lm base sectors limit os cs off back broken last now dead) (o : Ord) (hd : dead = false) (hS : Shapes w) (k : Nat) (hk5 : k < 5) (hk : o.kind = (shpAt k).kind) (hm : mayOrd sectors o = true) (hf : os.length < 8) (hbr : broken = false) (hsec : sectors ≤ 9223372036854775807) (hlast : last ≤ 1000000) :
    Calls Tryz.prog 9 #[.pointer (some ⟨b, 0, none⟩), o.val] w (SubPost w b g h q u mb lm base sectors limit os cs off back last now k o) := by
  obtain ⟨ok, os_, od⟩ := o
  unfold Ord.val
  subst hd
  subst hbr
  have ka := World.grownBy_alloc w (.cells #[.int .i64 ok, .int .i64 os_, .string od] 39) none
  have hob := heap_alloc_new w (.cells #[.int .i64 ok, .int .i64 os_, .string od] 39)
  have s1 := s.grown ka
  have h8 := s1.kat.c8
  have h9 := s1.kat.c9
  have o0 : (w.alloc (.cells #[.int .i64 ok, .int .i64 os_, .string od] 39)).cell? ⟨w.heap.size, 0, none⟩ = some (.int .i64 ok) := cell_of_block hob
  simp only at hk hm
  subst hk
  have OC := Lib.hid (ofKind_yes _ (hS.grown ka) k hk5)
  have S1 := Lib.hid s1
  have h0l := s.qs.mem.lt2
  have b0l := lt_of_block s.kat
  have q0l := s.qs.lts.1
  have m0l := s.qs.lts.2.2.2
  have u0l := s.tab.lt
  have HOB := Lib.hid hob
  clear s s1 hS hob
  simp only
  go_enter Tryz.func9, Tryz.ntmps9
  go_wp2_with fail
  refine (knone_no _ _ h9).mono ?_
  rintro e w1 ⟨rfl, rfl⟩
  go_wp2_with fail
  refine OC.out.mono ?_
  rintro e w1 ⟨rfl, k1⟩
  have z01 : w.heap.size ≤ w1.heap.size := (ka.trans k1).size
  unfold Shp.val
  have kb := (ka.trans k1).trans (World.grownBy_alloc w1 (.cells #[.int .i64 (shpAt k).kind, .int .u64 (shpAt k).num, .int .i64 (shpAt k).len, .bool (shpAt k).back, .int .i64 (shpAt k).sec] 74) none)
  have s2 := (S1.out.grown k1).grown (World.grownBy_alloc w1 (.cells #[.int .i64 (shpAt k).kind, .int .u64 (shpAt k).num, .int .i64 (shpAt k).len, .bool (shpAt k).back, .int .i64 (shpAt k).sec] 74) none)
  have hob2 : (w1.alloc (.cells #[.int .i64 (shpAt k).kind, .int .u64 (shpAt k).num, .int .i64 (shpAt k).len, .bool (shpAt k).back, .int .i64 (shpAt k).sec] 74)).heap[w.heap.size]? = some (.cells #[.int .i64 (shpAt k).kind, .int .i64 os_, .string od] 39 (0, 0)) :=
    (((World.grownBy_alloc w1 (.cells #[.int .i64 (shpAt k).kind, .int .u64 (shpAt k).num, .int .i64 (shpAt k).len, .bool (shpAt k).back, .int .i64 (shpAt k).sec] 74) none).block _ (Nat.lt_of_lt_of_le (lt_of_block HOB.out) k1.size) (by simp)).trans (k1.block _ (lt_of_block HOB.out) (by simp))).trans HOB.out
  have hsb2 := heap_alloc_new w1 (.cells #[.int .i64 (shpAt k).kind, .int .u64 (shpAt k).num, .int .i64 (shpAt k).len, .bool (shpAt k).back, .int .i64 (shpAt k).sec] 74)
  have o1 : (w1.alloc (.cells #[.int .i64 (shpAt k).kind, .int .u64 (shpAt k).num, .int .i64 (shpAt k).len, .bool (shpAt k).back, .int .i64 (shpAt k).sec] 74)).cell? ⟨w.heap.size, 0, none⟩ = some (.int .i64 (shpAt k).kind) := cell_of_block hob2
  have o2 : (w1.alloc (.cells #[.int .i64 (shpAt k).kind, .int .u64 (shpAt k).num, .int .i64 (shpAt k).len, .bool (shpAt k).back, .int .i64 (shpAt k).sec] 74)).cell? ⟨w.heap.size, 1, none⟩ = some (.int .i64 os_) := cell_of_block hob2
  have o3 : (w1.alloc (.cells #[.int .i64 (shpAt k).kind, .int .u64 (shpAt k).num, .int .i64 (shpAt k).len, .bool (shpAt k).back, .int .i64 (shpAt k).sec] 74)).cell? ⟨w.heap.size, 2, none⟩ = some (.string od) := cell_of_block hob2
  have S2 := Lib.hid s2
  have KB2 := Lib.hid kb
  have HOB2 := Lib.hid hob2
  have HSB2 := Lib.hid hsb2
  clear s2 kb hob2 hsb2 ka k1 h8 h9 o0
  go_wp2_with fail
  generalize w1.alloc _ = W1 at S2 KB2 HOB2 HSB2 o1 o2 o3 ⊢
  have MC := kmayBe_any W1 b g base sectors limit q u last now false S2.out.kat ⟨(shpAt k).kind, os_, od⟩
  rw [hm] at MC
  refine MC.mono ?_
  rintro e w2 ⟨rfl, k2⟩
  clear MC
  have S3 := Lib.hid (S2.out.grown k2)
  have KB3 := Lib.hid (KB2.out.trans k2)
  have t5 := S3.out.kat.c5
  have HOB3 : Hid (w2.heap[w.heap.size]? = some (.cells #[.int .i64 (shpAt k).kind, .int .i64 os_, .string od] 39 (0, 0))) := Lib.hid ((k2.block _ (lt_of_block HOB2.out) (by simp)).trans HOB2.out)
  have HSB3 : Hid (w2.heap[w1.heap.size]? = some (.cells #[.int .i64 (shpAt k).kind, .int .u64 (shpAt k).num, .int .i64 (shpAt k).len, .bool (shpAt k).back, .int .i64 (shpAt k).sec] 74 (0, 0))) := Lib.hid ((k2.block _ (lt_of_block HSB2.out) (by simp)).trans HSB2.out)
  clear k2 o1 o2 o3 S2 KB2 HOB2 HSB2
  have hlen3 : decide ((8 : Int) ≤ (os.length : Int)) = false := decide_eq_false (by omega)
  have HFEW := Lib.hid hf
  have hul := S3.out.tab.lt
  have hHl0 := S3.out.qs.mem.lt2
  have hqb0 := S3.out.qs.lts
  go_wp2_with (at_len; refine wpList_len_tab _ rfl _ 62 rfl 3 84 Tryz.underlying62 u (os.map Snt.ent) S3.out.tab rfl ?_)
--@0
  refine (freeSlot_any w2 b g base sectors limit q u last now false S3.out.kat os S3.out.tab hf (fun x hx => by have := S3.out.bds x hx; omega)).mono ?_
  rintro e w3 ⟨⟨z, rfl, hz8, hzn, hzf⟩, k3⟩
  have S4 := Lib.hid (S3.out.grown k3)
  have T4 : Turned (KB b q h mb u) w w3 := (Turned.of KB3.out (fun j e => by cases e)).step k3 (fun j e => by cases e)
  have hSub : Hid (SubS w3 w.heap.size w1.heap.size b g base sectors limit q u last now false (shpAt k) ⟨(shpAt k).kind, os_, od⟩) :=
    Lib.hid ⟨S4.out.kat, (k3.block _ (lt_of_block HSB3.out) (by simp)).trans HSB3.out, (k3.block _ (lt_of_block HOB3.out) (by simp)).trans HOB3.out⟩
  obtain ⟨b0, b1, l2⟩ := S4.out.bl
  have hmo := hm
  unfold mayOrd at hmo
  simp only [Bool.and_eq_true, decide_eq_true_eq] at hmo
  obtain ⟨⟨ho0, hmo2⟩, hod1⟩ := hmo
  have ho1 : os_ ≤ 9223372036854775807 := by split at hmo2 <;> omega
  have hod : od.size ≤ 65536 := by split at hod1 <;> omega
  obtain ⟨hn0, hn1⟩ := shp_bd k hk5
  have hm1 := S4.out.b1
  have HBD := Lib.hid (chain_bd (shpAt k) (base + 848 + 96 * (z : Int)) hn1)
  have HE : Hid (∀ lm' : List UInt8, lm'.length = lm.length → refuseE lm' (chainL (shpAt k) (base + 848 + 96 * (z : Int))) (freeL (cs.map Oc.c) 32).length = 0) := Lib.hid (fun lm' hl => chain_fits k hk5 lm' _ (by omega) (by omega) _ (by
    have h1 := free_three cs 32 7 S4.out.three (by rw [S4.out.len]; omega)
    omega))
  have hHl : h < w.heap.size ∧ q < w.heap.size ∧ mb < w.heap.size ∧ w.heap.size ≤ w1.heap.size := ⟨h0l, q0l, m0l, z01⟩
  have hul2 : u < w.heap.size := u0l
  have HZN := Lib.hid hzn
  have HZF := Lib.hid hzf
  have hune := S4.out.une
  clear hmo2 hod1 hm S3 KB3 HOB3 HSB3 t5 k3 hn1 hzn hzf hf hlen3 hqb0 hHl0 hul
  have hul := hul2
  go_wp2_with fail
--@1
  refine wp_region_noPanic ?_
  refine region_held (S := fun w' => SubS w' w.heap.size w1.heap.size b g base sectors limit q u last now false (shpAt k) ⟨(shpAt k).kind, os_, od⟩) (by kernel_rfl) (fun V d => hSub.out.grown d.grown) (fun V d hS => ?_)
  have sV := Lib.hid (S4.out.grown d.grown)
  have tV : Turned (KB b q h mb u) w V := T4.step d.grown (fun j e => by cases e)
  refine wpAnyH_take (i := 0) (v := (.pointer (some ⟨b, 0, none⟩))) rfl (by kernel_rfl) (by kernel_rfl) (by kernel_rfl) (fun _ _ _ h => h) (Or.inl ⟨by rfl, fun w' h' => ?_⟩) hS ?_
  · clear h'
    go_simp
  simp only [Act.put]
  refine wpAnyH_take (i := 1) (v := (.pointer (some ⟨b, 0, none⟩))) rfl (by kernel_rfl) (by kernel_rfl) (by kernel_rfl) (fun _ _ _ h => h) (Or.inl ⟨by rfl, fun w' h' => ?_⟩) hS ?_
  · clear h'
    go_simp
  simp only [Act.put]
  refine wpAnyH_take (i := 2) (v := (.int .i64 (z : Int))) rfl (by kernel_rfl) (by kernel_rfl) (by kernel_rfl) (fun _ _ _ h => h) (Or.inl ⟨by rfl, fun w' h' => ?_⟩) hS ?_
  · clear h'
    go_simp
  simp only [Act.put]
  refine wpAnyH_take (i := 4) (v := (.agg #[.int .i64 (shpAt k).kind, .int .u64 (shpAt k).num, .int .i64 (shpAt k).len, .bool (shpAt k).back, .int .i64 (shpAt k).sec])) rfl (by kernel_rfl) (by kernel_rfl) (by kernel_rfl) (fun _ _ _ h => h) (Or.inl ⟨by rfl, fun w' h' => ?_⟩) hS ?_
  · have c0 := h'.s0
    have c1 := h'.s1
    have c2 := h'.s2
    have c3 := h'.s3
    have c4 := h'.s4
    clear h'
    go_simp
  simp only [Act.put]
  refine wpAnyH_take (i := 5) (v := (.agg #[.int .i64 (shpAt k).kind, .int .i64 os_, .string od])) rfl (by kernel_rfl) (by kernel_rfl) (by kernel_rfl) (fun _ _ _ h => h) (Or.inl ⟨by rfl, fun w' h' => ?_⟩) hS ?_
  · have c0 := h'.o0
    have c1 := h'.o1
    have c2 := h'.o2
    clear h'
    go_simp
  simp only [Act.put]
  refine wpAnyH_ready (rs := [3]) (by kernel_rfl) (by simp) ?_
  refine AllReadyH.cons rfl (fun K hK => ?_) AllReadyH.nil
  go_simp
  refine (kat_any V b g base sectors limit q u last now false hS.1 b0 (by omega) (z : Int) (by omega) (by omega)).mono ?_
  rintro e w4 ⟨rfl, rfl⟩
  go_simp
  refine hK.out _ _ hS (fun _ => ?_)
  clear hK K
  refine wpAnyH_ready (rs := [6]) (by kernel_rfl) (by simp) ?_
  refine AllReadyH.cons rfl (fun K hK => ?_) AllReadyH.nil
  go_simp
  refine (klay_any V b g h base sectors limit q u last now false lm hS.1 sV.out.qs.mem l2 (base + 848 + 96 * (z : Int)) (by omega) (by omega) (shpAt k) ⟨(shpAt k).kind, os_, od⟩ hn0 ho0 ho1 hod).mono ?_
  rintro e w5 ⟨rfl, m5, k5⟩
  have s5 := hS.kept (w' := w5) (fun x hx hd => k5.block x hx (by intro e; injection e with e; have := sV.out.bh; have := hHl; rcases hd with rfl | rfl | rfl <;> omega))
  have S5 := Lib.hid (sV.out.wrote m5 k5 (slotL_length lm _ _ _))
  have T5 : Turned (KB b q h mb u) w w5 := tV.step k5 (fun j e => .inl (.inl (by injection e with e; exact e.symm)))
  go_simp
  refine hK.out _ _ s5 (fun _ => ?_)
  clear hK K
  refine wpAnyH_done (by kernel_rfl) (NoPanic.normal ?_) _
--@2
  clear hS d sV tV m5 k5 S4 T4 hSub
  go_wp2_with fail
--@3
  refine wp_region_noPanic ?_
  refine region_held (S := fun w' => SubS w' w.heap.size w1.heap.size b g base sectors limit q u last now false (shpAt k) ⟨(shpAt k).kind, os_, od⟩) (by kernel_rfl) (fun V d => s5.grown d.grown) (fun V d hS => ?_)
  have sV := Lib.hid (S5.out.grown d.grown)
  have tV : Turned (KB b q h mb u) w V := T5.step d.grown (fun j e => by cases e)
  clear T5 s5
  refine wpAnyH_take (i := 0) (v := (.pointer (some ⟨b, 0, none⟩))) rfl (by kernel_rfl) (by kernel_rfl) (by kernel_rfl) (fun _ _ _ h => h) (Or.inl ⟨by rfl, fun w' h' => ?_⟩) hS ?_
  · clear h'
    go_simp
  simp only [Act.put]
  refine wpAnyH_take (i := 1) (v := (.pointer (some ⟨b, 0, none⟩))) rfl (by kernel_rfl) (by kernel_rfl) (by kernel_rfl) (fun _ _ _ h => h) (Or.inl ⟨by rfl, fun w' h' => ?_⟩) hS ?_
  · clear h'
    go_simp
  simp only [Act.put]
  refine wpAnyH_take (i := 2) (v := (.pointer (some ⟨b, 4, none⟩))) rfl (by kernel_rfl) (by kernel_rfl) (by kernel_rfl) (fun _ _ _ h => h) (Or.inl ⟨by rfl, fun w' h' => ?_⟩) hS ?_
  · clear h'
    go_simp
  simp only [Act.put]
  refine wpAnyH_take (i := 3) (v := (.pointer (some ⟨q, 0, none⟩))) rfl (by kernel_rfl) (by kernel_rfl) (by kernel_rfl) (fun _ _ _ h => h) (Or.inl ⟨by rfl, fun w' h' => ?_⟩) hS ?_
  · have c0 := h'.1.c4
    clear h'
    go_simp
  simp only [Act.put]
  refine wpAnyH_take (i := 4) (v := (.agg #[.int .i64 (shpAt k).kind, .int .u64 (shpAt k).num, .int .i64 (shpAt k).len, .bool (shpAt k).back, .int .i64 (shpAt k).sec])) rfl (by kernel_rfl) (by kernel_rfl) (by kernel_rfl) (fun _ _ _ h => h) (Or.inl ⟨by rfl, fun w' h' => ?_⟩) hS ?_
  · have c0 := h'.s0
    have c1 := h'.s1
    have c2 := h'.s2
    have c3 := h'.s3
    have c4 := h'.s4
    clear h'
    go_simp
  simp only [Act.put]
  refine wpAnyH_take (i := 5) (v := (.pointer (some ⟨b, 0, none⟩))) rfl (by kernel_rfl) (by kernel_rfl) (by kernel_rfl) (fun _ _ _ h => h) (Or.inl ⟨by rfl, fun w' h' => ?_⟩) hS ?_
  · clear h'
    go_simp
  simp only [Act.put]
  refine wpAnyH_take (i := 6) (v := (.int .i64 (z : Int))) rfl (by kernel_rfl) (by kernel_rfl) (by kernel_rfl) (fun _ _ _ h => h) (Or.inl ⟨by rfl, fun w' h' => ?_⟩) hS ?_
  · clear h'
    go_simp
  simp only [Act.put]
  refine wpAnyH_ready (rs := [7]) (by kernel_rfl) (by simp) ?_
  refine AllReadyH.cons rfl (fun K hK => ?_) AllReadyH.nil
  go_simp
  refine (kat_any V b g base sectors limit q u last now false hS.1 b0 (by omega) (z : Int) (by omega) (by omega)).mono ?_
  rintro e w6 ⟨rfl, rfl⟩
  go_simp
  refine hK.out _ _ hS (fun _ => ?_)
  clear hK K
  refine wpAnyH_ready (rs := [8]) (by kernel_rfl) (by simp) ?_
  refine AllReadyH.cons rfl (fun K hK => ?_) AllReadyH.nil
  go_simp
  refine (chain_any V (shpAt k) (base + 848 + 96 * (z : Int)) (by omega) (by omega)).mono ?_
  rintro e w6 ⟨vb, rfl, bv, k6⟩
  have s6 := hS.grown k6
  have S6 := Lib.hid (sV.out.grown k6)
  have t6 := tV.step k6 (fun j e => by cases e)
  go_simp
  refine hK.out _ _ s6 (fun _ => ?_)
  clear hK K
  refine wpAnyH_ready (rs := [9]) (by kernel_rfl) (by simp) ?_
  refine AllReadyH.cons rfl (fun K hK => ?_) AllReadyH.nil
  go_simp
  refine (Add_ok w6 q g h (slotL lm (base + 848 + 96 * (z : Int)) (shpAt k) ⟨(shpAt k).kind, os_, od⟩) base 32 mb cs off back S6.out.qs vb (chainL (shpAt k) (base + 848 + 96 * (z : Int))) bv HBD.out (HE.out _ (slotL_length lm _ _ _))).mono ?_
  rintro e w7 ⟨x, rfl, hx, qs7, t7⟩
  have s7 := s6.kept (w' := w7) (fun y hy hd => t7.block y hy (by
    have := S6.out.bh
    have := S6.out.bq
    have := S6.out.bmb
    have := hHl
    rintro (e | e | e) <;> rcases hd with rfl | rfl | rfl <;> omega))
  have u7 := tab_turned S6.out.tab S6.out.qs S6.out.une t7
  have T7 : Turned (KB b q h mb u) w w7 := t6.trans (t7.mono (fun y _ hy => by rcases hy with e | e | e; exact .inl e; exact .inr (.inl e); exact .inr (.inr (.inl e))))
  have z7 := t7.size
  go_simp
  refine hK.out _ _ s7 (fun _ => ?_)
  clear hK K
  refine wpAnyH_take (i := 10) (oi := ⟨some 44, Op.move (Operand.tmp 54), _, _, _, none⟩) (v := (.tuple #[.int .i64 x.c.head, .int .i64 0])) rfl (by kernel_rfl) (by kernel_rfl) (by kernel_rfl) (fun _ _ _ h => h) (Or.inl ⟨by rfl, fun w' h' => ?_⟩) s7 ?_
  · clear h'
    go_simp
  simp only [Act.put]
  refine wpAnyH_take (i := 11) (oi := ⟨some 55, Op.extract (Operand.tmp 44) 0, _, _, _, none⟩) (v := (.int .i64 x.c.head)) rfl (by kernel_rfl) (by kernel_rfl) (by kernel_rfl) (fun _ _ _ h => h) (Or.inl ⟨by rfl, fun w' h' => ?_⟩) s7 ?_
  · clear h'
    go_simp
  simp only [Act.put]
  refine wpAnyH_take (i := 12) (oi := ⟨some 56, Op.extract (Operand.tmp 44) 1, _, _, _, none⟩) (v := (.int .i64 0)) rfl (by kernel_rfl) (by kernel_rfl) (by kernel_rfl) (fun _ _ _ h => h) (Or.inl ⟨by rfl, fun w' h' => ?_⟩) s7 ?_
  · clear h'
    go_simp
  simp only [Act.put]
  refine wpAnyH_take (i := 13) (oi := ⟨some 9, Op.assign (Operand.tmp 55), _, _, _, none⟩) (v := (.int .i64 x.c.head)) rfl (by kernel_rfl) (by kernel_rfl) (by kernel_rfl) (fun _ _ _ h => h) (Or.inl ⟨by rfl, fun w' h' => ?_⟩) s7 ?_
  · clear h'
    go_simp
  simp only [Act.put]
  refine wpAnyH_take (i := 14) (oi := ⟨some 10, Op.assign (Operand.tmp 56), _, _, _, none⟩) (v := (.int .i64 0)) rfl (by kernel_rfl) (by kernel_rfl) (by kernel_rfl) (fun _ _ _ h => h) (Or.inl ⟨by rfl, fun w' h' => ?_⟩) s7 ?_
  · clear h'
    go_simp
  simp only [Act.put]
  refine wpAnyH_done (by kernel_rfl) (NoPanic.normal ?_) _
--@4
  clear hS d tV S6 k6 t6 s6 bv
  have q7b : b ≠ g ∧ b ≠ h ∧ b ≠ q ∧ b ≠ mb := ⟨sV.out.bg, sV.out.bh, sV.out.bq, sV.out.bmb⟩
  have S6 := sV
  have w7l : IntKind.i64.wrap (last + 1) = last + 1 := IntWalk.i64_in _ (by have := S5.out.last0; omega)
  have c6 := s7.1.c6
  have f6 := s7.1.fz 6
  have QS7 := Lib.hid qs7
  have HX := Lib.hid hx
  have HNEW : Hid (∀ c ∈ os.map Snt.ent, c.1 ≠ x.c.head) := Lib.hid (by
    intro c hc e
    obtain ⟨y, hy, rfl⟩ := List.mem_map.1 hc
    have h1 := heads_nodup QS7.out
    rw [List.map_append, List.nodup_append] at h1
    have h2 : y.hd ∈ cs.map fun x => x.c.head := by rw [← S5.out.hds]; exact List.mem_map.2 ⟨y, hy, rfl⟩
    exact h1.2.2 _ h2 x.c.head (by simp) e)
  have HWF : Hid ((Lit.int .i64 x.c.head).wf = true) := Lib.hid (by
    obtain ⟨es, clock, _, F⟩ := QS7.out.tab
    exact F.wf x.ent (by rw [List.map_append]; exact List.mem_append_right _ (by simp)))
  clear qs7 hx sV
  go_wp2_with fail
  have k8 := grown_setCell w7 b 6 (.int .i64 (last + 1))
  have kat8 : KAt (w7.setCell ⟨b, 6, none⟩ (.int .i64 (last + 1))) b g base sectors limit q u (last + 1) now false := set_block s7.1 6 (.int .i64 (last + 1))
  have hbo : b ≠ w.heap.size ∧ b ≠ w1.heap.size := by have := b0l; have := z01; omega
  have s8 : SubS (w7.setCell ⟨b, 6, none⟩ (.int .i64 (last + 1))) w.heap.size w1.heap.size b g base sectors limit q u (last + 1) now false (shpAt k) ⟨(shpAt k).kind, os_, od⟩ :=
    ⟨kat8, (k8.block _ (lt_of_block s7.2.1) (fun e => hbo.2 (by injection e with e; exact e.symm))).trans s7.2.1, (k8.block _ (lt_of_block s7.2.2) (fun e => hbo.1 (by injection e with e; exact e.symm))).trans s7.2.2⟩
  have Q8 := Lib.hid (QS7.out.keepC k8 s7.1.c0 q7b.1 q7b.2.1 q7b.2.2.1 q7b.2.2.2)
  have u8 := u7.kept (k8.block _ u7.lt (fun e => S6.out.ub.1 (by injection e with e)))
  have T8 : Turned (KB b q h mb u) w (w7.setCell ⟨b, 6, none⟩ (.int .i64 (last + 1))) := T7.step k8 (fun j e => .inl (.inr (.inr (.inr (.inl (by injection e with e; exact e.symm))))))
  clear c6 f6 w7l k8 kat8 s7 u7 T7 z7 QS7 t7
  generalize w7.setCell ⟨b, 6, none⟩ (.int .i64 (last + 1)) = w8 at s8 Q8 u8 T8 ⊢
--@5
  refine region_tail 17 (by kernel_rfl) (by kernel_rfl) (fun V d => ?_)
  have hS := s8.grown d.grown
  have uV := u8.grown d.grown
  have tV : Turned (KB b q h mb u) w V := T8.step d.grown (fun j e => by cases e)
  have QV := Lib.hid (Q8.out.grown d.grown)
  have d5 := hS.1.c5
  have d6 := hS.1.c6
  have d7 := hS.1.c7
  have d0 := hS.o0
  obtain ⟨w9, hrun, b9, k9⟩ := uV.add (P := Tryz.prog) Tryz.underlying62 Tryz.underlying3 HWF.out HNEW.out (.agg #[.int .i64 (last + 1), .int .i64 (shpAt k).kind, .int .i64 (z : Int), .int .i64 now])
  have s9 := hS.kept (w' := w9) (fun y hy hd => k9.block y hy (by intro e; injection e with e; obtain ⟨u1, u2, u3, u4⟩ := S6.out.ub; have := hul; rcases hd with rfl | rfl | rfl <;> omega))
  have T9 := tV.step k9 (fun j e => .inl (.inr (.inr (.inr (.inr (by injection e with e; exact e.symm))))))
  have Q9 := Lib.hid (QV.out.keep9 k9 uV hune)
  have SS9 := Lib.hid s9
  have B9 := Lib.hid b9
  have TT9 := Lib.hid T9
  have c6 := s9.1.c6
  clear s9 b9 T9 k9 hS uV tV QV s8 u8 T8 Q8 d
  simp only [List.take_succ_cons, List.take_zero, List.drop_succ_cons, List.drop_zero]
  repeat still_step
  refine wpStill_nil ?_
--@6
  have hfin := S5.out.submit x ⟨x.c.head, last + 1, (shpAt k).kind, (z : Int), now⟩ (chainL (shpAt k) (base + 848 + 96 * (z : Int))) (chainL_len _ _) HX.out Q9.out SS9.out.1 (by
    rw [List.map_append]
    exact B9.out) (by unfold addL; simp [putL_length, descs_length]) HFEW.out rfl rfl rfl ⟨by show (0 : Int) ≤ (z : Int); omega, by show (z : Int) < 8; omega, fun y hy => HZN.out y hy⟩
  have FIN := Lib.hid hfin
  clear hfin S6 S5
  go_wp2_with fail
  go_ret2
  refine ⟨⟨x.c.head, last + 1, (shpAt k).kind, (z : Int), now⟩, x, rfl, rfl, rfl, rfl, rfl, ⟨by show (0 : Int) ≤ (z : Int); omega, by show (z : Int) < 8; omega, fun y hy => HZN.out y hy⟩, fun j hj => HZF.out j (by have h2 : (j : Int) < (z : Int) := hj; omega), HX.out, ?_, TT9.out⟩
  have := FIN.out
  exact this

end Go.Proofs.YtdchlnffbiooaaaGreatDoor

namespace Go.Proofs.YtdchlnffbiooaaaGreatDoor
open Go.RowKit Go.Sort

/-- A port with what it has taken. -/
structure RS (w : World) (r g h p u : Nat) (lm : List UInt8) (base taken told : Int) (ts : List (Int × Tkn)) : Prop where
  ra : RAt w r g p u
  ps : PS w p g h lm base 32 taken told
  tab : IsTab w u (ts.map fun t => (t.1, t.2.val))
def RB (h p u : Nat) : Nat → Prop := fun k => k = h ∨ k = p ∨ k = u
section
variable {w w' : World} {r g h p u : Nat} {lm : List UInt8} {base taken told : Int} {ts : List (Int × Tkn)}
theorem RS.grown (s : RS w r g h p u lm base taken told ts) (k : w.grownBy w' none) : RS w' r g h p u lm base taken told ts :=
  ⟨s.ra.kept (k.block _ (lt_of_block s.ra) (by simp)), s.ps.grown k, s.tab.kept (k.block _ s.tab.lt (by simp))⟩
theorem RS.ne (s : RS w r g h p u lm base taken told ts) : r ≠ g ∧ r ≠ h ∧ r ≠ p ∧ u ≠ r ∧ u ≠ g ∧ u ≠ h ∧ u ≠ p := by
  refine ⟨?_, s.ps.mem.not_u8 s.ra.c0 (fun x e => by cases e), ?_, tab_ne s.tab s.ra, tab_ne s.tab s.ps.mem.1, tab_ne s.tab s.ps.mem.2, tab_ne s.tab s.ps.at_⟩
  · rintro rfl
    have h1 := s.ra
    have h2 := s.ps.mem.1
    unfold RAt at h1
    rw [h1] at h2
    injection h2 with h2
    injection h2 with _ h2
    exact absurd h2 (by decide)
  · rintro rfl
    have h1 := s.ra
    have h2 := s.ps.at_
    unfold PAt at h2
    unfold RAt at h1
    rw [h1] at h2
    injection h2 with h2
    injection h2 with _ h2
    exact absurd h2 (by decide)
theorem RS.lts (s : RS w r g h p u lm base taken told ts) : r < w.heap.size ∧ g < w.heap.size ∧ h < w.heap.size ∧ p < w.heap.size ∧ u < w.heap.size := ⟨lt_of_block s.ra, s.ps.mem.lt1, s.ps.mem.lt2, lt_of_block s.ps.at_, s.tab.lt⟩
/-- Another block is written: the port stays. -/
theorem RS.aside (s : RS w r g h p u lm base taken told ts) {b : Nat} (k : w.grownBy w' (some b)) (hb : b ≠ r ∧ b ≠ g ∧ b ≠ h ∧ b ≠ p ∧ b ≠ u) : RS w' r g h p u lm base taken told ts := by
  obtain ⟨h1, h2, h3, h4, h5⟩ := hb
  have keep : ∀ x, x < w.heap.size → b ≠ x → w'.heap[x]? = w.heap[x]? := fun x hx hn => k.block x hx (fun e => hn (by injection e with e; exact e.symm))
  obtain ⟨l1, l2, l3, l4, l5⟩ := s.lts
  exact ⟨s.ra.kept (keep _ l1 h1), { s.ps with mem := ⟨(keep _ l2 h2).trans s.ps.mem.1, (keep _ l3 h3).trans s.ps.mem.2⟩, at_ := s.ps.at_.kept (keep _ l4 h4) }, s.tab.kept (keep _ l5 h5)⟩
end

theorem ask_len {lm : List UInt8} {l : List Bf} {o : Ord} (h : askL lm l = some o) : 2 ≤ l.length ∧ l.length ≤ 3 := by
  unfold askL at h
  split at h
  · rename_i k _
    split at h
    · rename_i hl
      have h1 := like_len hl
      have h2 := chainL_len (shpAt k) 0
      have h3 : 2 ≤ (chainL (shpAt k) 0).length := by
        unfold chainL
        split <;> simp
      omega
    · cases h
  · cases h
theorem follow_all (lm : List UInt8) (base : Int) (n : Nat) (P : Bf → Prop) (hP : ∀ i, (dX lm base i).2 = true → P (bfOf (dX lm base i).1)) : ∀ (f : Nat) (i : Int) (acc l : List Bf), followF lm base n f i acc = some l → (∀ x ∈ acc, P x) → ∀ x ∈ l, P x
  | 0, _, _, _, h, _ => by cases h
  | f + 1, i, acc, l, h, ha => by
    rw [followF_succ] at h
    split at h
    · split at h
      · rename_i hd
        have hacc : ∀ x ∈ acc ++ [bfOf (dX lm base i).1], P x := by
          intro x hx
          rcases List.mem_append.1 hx with hx | hx
          · exact ha x hx
          · rw [List.mem_singleton] at hx; subst hx; exact hP i hd
        split at h
        · split at h
          · injection h with h; subst h; exact hacc
          · cases h
        · exact follow_all lm base n P hP f _ _ l h hacc
      · cases h
    · cases h
theorem follow_bd {lm : List UInt8} {base : Int} {n : Nat} {i : Int} {l : List Bf} (h : followF lm base n n i [] = some l) (l2 : lm.length ≤ 65536) : ∀ x ∈ l, x.n ≤ 65536 := by
  refine follow_all lm base n (fun x => x.n ≤ 65536) (fun i hi => ?_) n i [] l h (by simp)
  unfold dX dbuf at hi ⊢
  split at hi
  · cases hi
  · rename_i hc
    rw [if_neg hc]
    show (getX lm (base + 16 * i + 8) 4 : Int) ≤ 65536
    omega

/-- What the device keeps of an order. -/
def tknOf (o : Ord) (l : List Bf) : Tkn := ⟨o.kind == 1, (l.getD 1 ⟨0, 0, false⟩).a, (l.getD (l.length - 1) ⟨0, 0, false⟩).a⟩
/-- What Next comes to, where there is an order. -/
def RNextPost (w : World) (r g h p u : Nat) (lm : List UInt8) (base taken told : Int) (ts : List (Int × Tkn)) (k : Int) (l : List Bf) (o : Ord) (e : Ending) (w' : World) : Prop :=
  e = .returned (.tuple #[.int .i64 k, o.val, .int .i64 0]) ∧ RS w' r g h p u lm base ((taken + 1) % 65536) told (ts ++ [(k, tknOf o l)]) ∧ Turned (RB h p u) w w'

set_option maxHeartbeats 400000 in
theorem RNext_none (w : World) (q : Option Addr) (hp : NoR w q) :
    Calls Tryz.prog 10 #[.pointer q] w fun e w' => e = .returned (.tuple #[.int .i64 0, .agg #[.int .i64 0, .int .i64 0, .string ⟨#[]⟩], .int .i64 2]) ∧ w.grownBy w' none := by
  have ka := World.grownBy_alloc w (.cells #[.int .i64 0, .int .i64 0, .string ⟨#[]⟩] 39) none
  have hrb := heap_alloc_new w (.cells #[.int .i64 0, .int .i64 0, .string ⟨#[]⟩] 39)
  have hp1 : NoR (w.alloc (.cells #[.int .i64 0, .int .i64 0, .string ⟨#[]⟩] 39)) q := by
    rcases hp with rfl | ⟨g, rfl, hc⟩
    · exact .inl rfl
    · exact .inr ⟨g, rfl, by rw [kept_grown ka ⟨g, 3, none⟩ (by rw [hc]; rfl)]; exact hc⟩
  clear hp
  go_enter Tryz.func10, Tryz.ntmps10
  go_upto_region 1 with fail
  generalize w.alloc _ = W1 at ka hrb hp1 ⊢
  have f0 := frozen_of_block (i := 0) hrb
  have f1 := frozen_of_block (i := 1) hrb
  have f2 := frozen_of_block (i := 2) hrb
  have d0 : W1.cell? ⟨w.heap.size, 0, none⟩ = some (.int .i64 0) := cell_of_block hrb
  have d1 : W1.cell? ⟨w.heap.size, 1, none⟩ = some (.int .i64 0) := cell_of_block hrb
  have d2 : W1.cell? ⟨w.heap.size, 2, none⟩ = some (.string ⟨#[]⟩) := cell_of_block hrb
  have RBK := Lib.hid hrb
  clear hrb
  go_wp2_with (go_at_call 28; refine (rnone_yes _ _ hp1).mono ?_; rintro e w' ⟨rfl, rfl⟩)
  exact ord_out RBK.out ka ⟨0, 0, ⟨#[]⟩⟩ (fun q0 q1 q2 => bodyPost_ret (v := .tuple #[.int .i64 0, .agg #[.int .i64 0, .int .i64 0, .string ⟨#[]⟩], .int .i64 2]) (by simp [results, Tryz.results10, go_sem, q0, q1, q2]) rfl ⟨rfl, ord_grown ka (Nat.le_refl _) _ _ _⟩)

theorem RS.setThree {w : World} {r g h p u : Nat} {lm : List UInt8} {base taken told : Int} {ts : List (Int × Tkn)} (s : RS w r g h p u lm base taken told ts) {b : Nat} (x0 x1 x2 : Value) (hb : b ≠ r ∧ b ≠ g ∧ b ≠ h ∧ b ≠ p ∧ b ≠ u) :
    RS (((w.setCell ⟨b, 0, none⟩ x0).setCell ⟨b, 1, none⟩ x1).setCell ⟨b, 2, none⟩ x2) r g h p u lm base taken told ts :=
  ((s.aside (grown_setCell w b 0 x0) hb).aside (grown_setCell _ b 1 x1) hb).aside (grown_setCell _ b 2 x2) hb
theorem Turned.setThree {S : Nat → Prop} {w v : World} (t : Turned S v w) (x0 x1 x2 : Value) : Turned S v (((w.setCell ⟨v.heap.size, 0, none⟩ x0).setCell ⟨v.heap.size, 1, none⟩ x1).setCell ⟨v.heap.size, 2, none⟩ x2) :=
  ((t.step (grown_setCell w v.heap.size 0 x0) (fun j e => .inr (by injection e with e; omega))).step (grown_setCell _ v.heap.size 1 x1) (fun j e => .inr (by injection e with e; omega))).step (grown_setCell _ v.heap.size 2 x2) (fun j e => .inr (by injection e with e; omega))

set_option maxRecDepth 100000 in
set_option maxHeartbeats 4000000 in
theorem RNext_ok (w : World) (r g h p u : Nat) (lm : List UInt8) (base taken told : Int) (ts : List (Int × Tkn)) (hS : Shapes w) (hp0 : p ≠ 0) (s : RS w r g h p u lm base taken told ts) (k : Int) (l : List Bf) (o : Ord)
    (h0 : offI lm base 32 ≠ taken) (h1 : (offI lm base 32 - taken) % 65536 ≤ 32) (hh : Hid (offHead lm base 32 taken = k)) (hF : Hid (followF lm base 32 32 k [] = some l)) (ho : Hid (askL lm l = some o)) (hn : ∀ t ∈ ts, t.1 ≠ k) :
    Calls Tryz.prog 10 #[.pointer (some ⟨r, 0, none⟩)] w (RNextPost w r g h p u lm base taken told ts k l o) := by
  have ka := World.grownBy_alloc w (.cells #[.int .i64 0, .int .i64 0, .string ⟨#[]⟩] 39) none
  have hrb := heap_alloc_new w (.cells #[.int .i64 0, .int .i64 0, .string ⟨#[]⟩] 39)
  have S1 := Lib.hid (s.grown ka)
  have SH := Lib.hid (hS.grown ka)
  have hll := ask_len ho.out
  have hFo := hF.out
  have hl0 : 0 < l.length := by omega
  have hbd := follow_bd hFo s.ps.len
  obtain ⟨lr, lg, lh, lp, lu⟩ := s.lts
  have LU := Lib.hid lu
  have hk01 := offHead_bd lm base 32 taken
  rw [hh.out] at hk01
  have HK01 := Lib.hid hk01
  have HZ : Hid (p ≠ 0) := Lib.hid hp0
  have H0 := Lib.hid h0
  have H1 := Lib.hid h1
  have HN := Lib.hid hn
  have HBD := Lib.hid hbd
  have RB1 := Lib.hid hrb
  have KA := Lib.hid ka
  clear hS s h0 h1 hn hFo hbd hrb ka
  go_enter Tryz.func10, Tryz.ntmps10
  go_upto_region 1 with fail
  generalize w.alloc _ = W1 at S1 SH RB1 KA ⊢
  have c3 := S1.out.ra.c3
  have c1 := S1.out.ra.c1
  go_wp2_with (go_at_call 28; refine (rnone_no _ _ c3).mono ?_; rintro e w' ⟨rfl, rfl⟩)
--@1
  refine (vNext_any W1 p g h lm base 32 taken told S1.out.ps).mono ?_
  rintro e w2 hpost
  rcases hpost with ⟨a, _, _⟩ | ⟨_, a, _, _⟩ | ⟨l', v, _, _, e3, rfl, bv, ps2, k2⟩
  · exact absurd a H0.out
  · rcases a with a | a
    · exact absurd H1.out (by omega)
    · rw [hh.out, hF.out] at a; cases a
  rw [hh.out, hF.out] at e3
  injection e3 with e3
  subst e3
  rw [hh.out]
  obtain ⟨n1, n2, n3, n4, n5, n6, n7⟩ := S1.out.ne
  have s2 : RS w2 r g h p u lm base ((taken + 1) % 65536) told ts :=
    ⟨S1.out.ra.kept (k2.block _ S1.out.lts.1 (fun e => n3 (by injection e))), ps2, S1.out.tab.kept (k2.block _ S1.out.tab.lt (fun e => n7 (by injection e)))⟩
  have S2 := Lib.hid s2
  have SH2 := Lib.hid (SH.out.kept (k2.block 0 SH.out.pos (fun e => HZ.out (by injection e with e; exact e.symm))))
  have RB2 : Hid (w2.heap[w.heap.size]? = some (.cells #[.int .i64 0, .int .i64 0, .string ⟨#[]⟩] 39 (0, 0))) := Lib.hid ((k2.block _ (lt_of_block RB1.out) (fun e => by injection e with e; omega)).trans RB1.out)
  have T2 : Hid (Turned (RB h p u) w w2) := Lib.hid ((Turned.of KA.out (fun j e => by cases e)).step k2 (fun j e => .inl (.inr (.inl (by injection e with e; exact e.symm)))))
  have BV := Lib.hid bv
  clear c1 c3 k2 ps2 bv s2 S1 SH RB1 KA n1 n2 n3 n4 n5 n6 n7
  obtain ⟨pp, cap, rfl, hle⟩ := BV.out.form
  go_wp2_with fail
--@2
  refine (order_any w2 r g p u h lm SH2.out S2.out.ra S2.out.ps.mem S2.out.ps.len _ l BV.out hl0 (fun x hx => by have := HBD.out x hx; omega)).mono ?_
  rintro e w3 hpost
  obtain ⟨o', e4, rfl, k3⟩ : ∃ o, askL lm l = some o ∧ e = .returned (.tuple #[o.val, .bool true]) ∧ w2.grownBy w3 none := by
    rcases hpost with h | ⟨e4, _⟩
    · exact h
    · rw [ho.out] at e4; cases e4
  rw [ho.out] at e4
  injection e4 with e4
  subst e4
  obtain ⟨ok, os_, od⟩ := o
  unfold Ord.val
  simp only
  have K3 := Lib.hid (k3.trans (World.grownBy_alloc w3 (.cells #[.int .i64 ok, .int .i64 os_, .string od] 39) none))
  have hob3 := heap_alloc_new w3 (.cells #[.int .i64 ok, .int .i64 os_, .string od] 39)
  have z3 := k3.size
  have zb := lt_of_block RB2.out
  obtain ⟨ob, hob⟩ : ∃ ob, ob = w3.heap.size := ⟨_, rfl⟩
  have hobn : ob ≠ w.heap.size := by omega
  have huo : u ≠ ob := by have := LU.out; omega
  rw [← hob] at hob3
  have HOB := Lib.hid hob
  clear k3 hob
  go_upto_region 7 with fail
  rw [← HOB.out]
  generalize w3.alloc _ = W3 at K3 hob3 ⊢
  have S3 := Lib.hid (S2.out.grown K3.out)
  have T3 := Lib.hid (T2.out.step K3.out (fun j e => by cases e))
  have RB3 : Hid (W3.heap[w.heap.size]? = some (.cells #[.int .i64 0, .int .i64 0, .string ⟨#[]⟩] 39 (0, 0))) := Lib.hid ((K3.out.block _ (lt_of_block RB2.out) (by simp)).trans RB2.out)
  have BV3 := Lib.hid (BV.out.grown K3.out)
  have OB3 := Lib.hid hob3
  clear hob3 S2 T2 RB2 BV SH2 K3
  go_wp2_with fail
--@3
  have hwa : IntKind.i64.wrap 1 = 1 := IntWalk.i64_in _ (by omega)
  have hwb : IntKind.i64.wrap 2 = 2 := IntWalk.i64_in _ (by omega)
  rcases (show l.length = 2 ∨ l.length = 3 by omega) with hl2 | hl2
  all_goals rw [hl2]
  all_goals (
  refine region_tail 20 (by kernel_rfl) (by kernel_rfl) (fun V d => ?_)
  have sV := S3.out.grown d.grown
  have bV := BV3.out.grown d.grown
  obtain ⟨b1, o1, y1, rfl, hy1, g0, g1, g2⟩ := bV.at_ 1 (by omega)
  obtain ⟨b2, o2, y2, hb2, hy2, i0, i1, i2⟩ := bV.at_ (l.length - 1) (by omega)
  injection hb2 with hb2
  injection hb2 with hb2a hb2b
  subst hb2a hb2b
  have obV := (d.block ob).trans OB3.out
  have j0 : V.cell? ⟨ob, 0, none⟩ = some (.int .i64 ok) := cell_of_block obV
  have c2 := sV.ra.c2
  have ht : tknOf ⟨ok, os_, od⟩ l = ⟨ok == 1, y1.a, y2.a⟩ := by
    unfold tknOf
    rw [List.getD_eq_getElem?_getD, List.getD_eq_getElem?_getD, hy1, hy2]
    rfl
  obtain ⟨w5, hrun, t5, k5⟩ := sV.tab.add (P := Tryz.prog) (x := k) Tryz.underlying68 Tryz.underlying3 (WalkArith.wf_i64 (by have := HK01.out; omega)) (fun c hc => by obtain ⟨t, ht, rfl⟩ := List.mem_map.1 hc; exact HN.out t ht) (Tkn.val ⟨ok == 1, y1.a, y2.a⟩)
  unfold Tkn.val at hrun
  simp only at hrun
  obtain ⟨n1, n2, n3, n4, n5, n6, n7⟩ := sV.ne
  have s5 : RS w5 r g h p u lm base ((taken + 1) % 65536) told (ts ++ [(k, tknOf ⟨ok, os_, od⟩ l)]) := by
    have keep : ∀ x, x < V.heap.size → u ≠ x → w5.heap[x]? = V.heap[x]? := fun x hx hn => k5.block x hx (fun e => hn (by injection e with e; exact e.symm))
    obtain ⟨l1, l2, l3, l4, l5⟩ := sV.lts
    refine ⟨sV.ra.kept (keep _ l1 n4), { sV.ps with mem := ⟨(keep _ l2 n5).trans sV.ps.mem.1, (keep _ l3 n6).trans sV.ps.mem.2⟩, at_ := sV.ps.at_.kept (keep _ l4 n7) }, ?_⟩
    rw [List.map_append, ht]
    exact t5
  have zV : W3.heap.size = V.heap.size := d.size.symm
  have T5 := Lib.hid ((T3.out.step d.grown (fun j e => by cases e)).step k5 (fun j e => .inl (.inr (.inr (by injection e with e; exact e.symm)))))
  have zob := lt_of_block obV
  have rbV := (d.block w.heap.size).trans RB3.out
  have OB5 := Lib.hid ((k5.block ob zob (fun e => by injection e with e; exact huo e.symm)).trans obV)
  have RB5 : Hid (w5.heap[w.heap.size]? = some (.cells #[.int .i64 0, .int .i64 0, .string ⟨#[]⟩] 39 (0, 0))) := Lib.hid ((k5.block _ (lt_of_block rbV) (fun e => by injection e with e; have := LU.out; omega)).trans rbV)
  have S6 := Lib.hid s5
  have T6 := T5
  have OB6 := OB5
  have RB6 := RB5
  obtain ⟨ya, yn, yw⟩ := y1
  obtain ⟨za, zn, zw⟩ := y2
  simp only [Nat.one_mul] at g0 i0 hrun
  rw [hl2] at i0
  simp only [Nat.reduceSub, Nat.reduceMul, Nat.one_mul] at i0
  have HL2 := Lib.hid hl2
  try (rw [g0] at i0; injection i0 with i0; injection i0 with _ i0; subst i0)
  clear sV bV hy1 hy2 g1 g2 i1 i2 obV t5 k5 n1 n2 n3 n4 n5 n6 n7 s5 T5 OB5 RB5 S3 BV3 d T3 zob rbV OB3 RB3 zV hl2 hll hl0
  simp only [List.take_succ_cons, List.take_zero, List.drop_succ_cons, List.drop_zero]
  repeat still_step
  refine wpStill_nil ?_
  go_wp2_with fail
--@4
  refine wp_region_noPanic ?_
  refine region_held (S := fun w' => w'.heap[ob]? = some (.cells #[.int .i64 ok, .int .i64 os_, .string od] 39 (0, 0))) (by kernel_rfl) (fun V d => (d.block _).trans OB6.out) (fun V d hS => ?_)
  have S7 := Lib.hid (S6.out.grown d.grown)
  have T7 : Turned (RB h p u) w V := T6.out.step d.grown (fun j e => by cases e)
  refine wpAnyH_take (i := 0) (v := (.int .i64 k)) rfl (by kernel_rfl) (by kernel_rfl) (by kernel_rfl) (fun _ _ _ h => h) (Or.inl ⟨by rfl, fun w' h' => ?_⟩) hS ?_
  · clear h'
    go_simp
  simp only [Act.put]
  refine wpAnyH_take (i := 1) (v := (.agg #[.int .i64 ok, .int .i64 os_, .string od])) rfl (by kernel_rfl) (by kernel_rfl) (by kernel_rfl) (fun _ _ _ h => h) (Or.inl ⟨by rfl, fun w' h' => ?_⟩) hS ?_
  · have c0 := (cell_of_block h' : w'.cell? ⟨ob, 0, none⟩ = some (.int .i64 ok))
    have c1 := (cell_of_block h' : w'.cell? ⟨ob, 1, none⟩ = some (.int .i64 os_))
    have c2 := (cell_of_block h' : w'.cell? ⟨ob, 2, none⟩ = some (.string od))
    clear h'
    go_simp
  simp only [Act.put]
  refine wpAnyH_take (i := 2) (oi := ⟨some 2, Op.assign (Operand.tmp 55), _, _, _, none⟩) (v := (.int .i64 k)) rfl (by kernel_rfl) (by kernel_rfl) (by kernel_rfl) (fun _ _ _ h => h) (Or.inl ⟨by rfl, fun w' h' => ?_⟩) hS ?_
  · clear h'
    go_simp
  simp only [Act.put]
  have rb := (d.block _).trans RB6.out
  have f0 := frozen_of_block (i := 0) rb
  have f1 := frozen_of_block (i := 1) rb
  have f2 := frozen_of_block (i := 2) rb
  have d0 : V.cell? ⟨w.heap.size, 0, none⟩ = some (.int .i64 0) := cell_of_block rb
  have d1 : V.cell? ⟨w.heap.size, 1, none⟩ = some (.int .i64 0) := cell_of_block rb
  have d2 : V.cell? ⟨w.heap.size, 2, none⟩ = some (.string ⟨#[]⟩) := cell_of_block rb
  have RB7 := Lib.hid rb
  have jE : (((V.setCell ⟨w.heap.size, 0, none⟩ (.int .i64 ok)).setCell ⟨w.heap.size, 1, none⟩ (.int .i64 os_)).setCell ⟨w.heap.size, 2, none⟩ (.string od)).heap[ob]? = some (.cells #[.int .i64 ok, .int .i64 os_, .string od] 39 (0, 0)) := by
    rw [Below.heap_setCell _ _ _ _ hobn, Below.heap_setCell _ _ _ _ hobn, Below.heap_setCell _ _ _ _ hobn]
    exact hS
  clear rb
  refine wpAnyH_ready (rs := [3]) (by kernel_rfl) (by simp) ?_
  refine AllReadyH.cons rfl (fun K hK => ?_) AllReadyH.nil
  go_simp
  refine hK.out _ _ jE (fun _ => ?_)
  clear hK K
  refine wpAnyH_take (i := 4) (oi := ⟨some 4, Op.assign (Operand.const (Value.int IntKind.i64 0)), _, _, _, none⟩) (v := (.int .i64 0)) rfl (by kernel_rfl) (by kernel_rfl) (by kernel_rfl) (fun _ _ _ h => h) (Or.inl ⟨by rfl, fun w' h' => ?_⟩) jE ?_
  · clear h'
    go_simp
  simp only [Act.put]
  refine wpAnyH_done (by kernel_rfl) (NoPanic.normal ?_) _
  have S8 := Lib.hid (S7.out.setThree (b := w.heap.size) (.int .i64 ok) (.int .i64 os_) (.string od) (by omega))
  have T8 := Lib.hid (T7.setThree (.int .i64 ok) (.int .i64 os_) (.string od))
  clear d0 d1 d2 f0 f1 f2 jE d hS hrun T7
  go_wp2_with fail
  have b9 := three_block RB7.out (.int .i64 ok) (.int .i64 os_) (.string od)
  have q0 : ((((V.setCell ⟨w.heap.size, 0, none⟩ (.int .i64 ok)).setCell ⟨w.heap.size, 1, none⟩ (.int .i64 os_)).setCell ⟨w.heap.size, 2, none⟩ (.string od))).cell? ⟨w.heap.size, 0, none⟩ = some (.int .i64 ok) := cell_of_block b9
  have q1 : ((((V.setCell ⟨w.heap.size, 0, none⟩ (.int .i64 ok)).setCell ⟨w.heap.size, 1, none⟩ (.int .i64 os_)).setCell ⟨w.heap.size, 2, none⟩ (.string od))).cell? ⟨w.heap.size, 1, none⟩ = some (.int .i64 os_) := cell_of_block b9
  have q2 : ((((V.setCell ⟨w.heap.size, 0, none⟩ (.int .i64 ok)).setCell ⟨w.heap.size, 1, none⟩ (.int .i64 os_)).setCell ⟨w.heap.size, 2, none⟩ (.string od))).cell? ⟨w.heap.size, 2, none⟩ = some (.string od) := cell_of_block b9
  exact bodyPost_ret (v := .tuple #[.int .i64 k, .agg #[.int .i64 ok, .int .i64 os_, .string od], .int .i64 0]) (by simp [results, Tryz.results10, go_sem, q0, q1, q2]) rfl ⟨rfl, S8.out, T8.out⟩)

end Go.Proofs.YtdchlnffbiooaaaGreatDoor

namespace Go.Proofs.YtdchlnffbiooaaaGreatDoor
open Go.RowKit Go.Sort

set_option maxHeartbeats 400000 in
theorem RDone_none (w : World) (q : Option Addr) (hp : NoR w q) (k : Int) (ok : Bool) (d : ByteArray) :
    Calls Tryz.prog 11 #[.pointer q, .int .i64 k, .bool ok, .string d] w fun e w' => e = .returned (.int .i64 2) ∧ w = w' := by
  go_enter Tryz.func11, Tryz.ntmps11
  go_wp2_with (go_at_call 28; refine (rnone_yes _ _ hp).mono ?_; rintro e w' ⟨rfl, rfl⟩)
  go_ret
  exact ⟨rfl, rfl⟩

/-- The memory behind an answer. -/
def answerL (lm : List UInt8) (base told k : Int) (x : Tkn) (ok : Bool) (d : ByteArray) : List UInt8 :=
  vdoneL (putL (writeL lm x.dat d.data.toList) x.st 1 (if ok then 0 else 1)) base 32 told k (d.size + 1)
theorem answerL_length (lm : List UInt8) (base told k : Int) (x : Tkn) (ok : Bool) (d : ByteArray) : (answerL lm base told k x ok d).length = lm.length := by unfold answerL; rw [vdoneL_length, putL_length, writeL_length]

theorem mayAns_size {x : Tkn} {ok : Bool} {d : ByteArray} (h : mayAns x ok d = true) : d.size ≤ 64 := by
  unfold mayAns at h
  split at h
  · have := of_decide_eq_true h; omega
  · have h1 : d.toList = [] := by simpa using h
    rw [ByteArray.toList_eq] at h1
    have h2 : d.size = 0 := by
      show d.data.size = 0
      rw [← Array.length_toList, h1]
      rfl
    omega

set_option maxRecDepth 100000 in
set_option maxHeartbeats 1000000 in
theorem RDone_absent (w : World) (r g h p u : Nat) (lm : List UInt8) (base taken told : Int) (ts : List (Int × Tkn)) (s : RS w r g h p u lm base taken told ts) (k : Int) (hk : (Lit.int .i64 k).wf = true) (hn : ∀ t ∈ ts, t.1 ≠ k) (ok : Bool) (d : ByteArray) :
    Calls Tryz.prog 11 #[.pointer (some ⟨r, 0, none⟩), .int .i64 k, .bool ok, .string d] w fun e w' => e = .returned (.int .i64 4) ∧ w.grownBy w' none := by
  have c3 := s.ra.c3
  have c2 := s.ra.c2
  have hz : (zeroValue 92).run Tryz.prog w = .ok (.agg #[.bool false, .int .i64 0, .int .i64 0]) w := by kernel_rfl
  have hrun := s.tab.look_no (P := Tryz.prog) Tryz.underlying68 Tryz.underlying3 hz hk (fun c hc => by obtain ⟨t, ht, rfl⟩ := List.mem_map.1 hc; exact hn t ht)
  have ka := World.grownBy_alloc w (.cells #[.bool false, .int .i64 0, .int .i64 0] 92) none
  clear s hn hz hk
  go_enter Tryz.func11, Tryz.ntmps11
  go_wp2_with (first | (go_at_call 28; refine (rnone_no _ _ c3).mono ?_; rintro e w' ⟨rfl, rfl⟩) | (at_lookup; refine wpList_lookup_tab _ rfl _ _ 68 rfl u k (.agg #[.bool false, .int .i64 0, .int .i64 0]) false rfl rfl hrun ?_))
  go_ret
  exact ⟨rfl, ka⟩

/-- What Done comes to, where the answer may be. -/
def RDonePost (w : World) (r g h p u : Nat) (lm : List UInt8) (base taken told : Int) (ts : List (Int × Tkn)) (k : Int) (x : Tkn) (ok : Bool) (d : ByteArray) (e : Ending) (w' : World) : Prop :=
  e = .returned (.int .i64 0) ∧ RS w' r g h p u (answerL lm base told k x ok d) base taken ((told + 1) % 65536) (ts.filter fun t => t.1 != k) ∧ Turned (RB h p u) w w'
theorem tab_filter (ts : List (Int × Tkn)) (k : Int) : (ts.map fun t => (t.1, t.2.val)).filter (fun c => c.1 != k) = (ts.filter fun t => t.1 != k).map fun t => (t.1, t.2.val) := by
  rw [List.filter_map]
  rfl
/-- What stays in Done's regions. -/
def DonS (w : World) (r g p u xb : Nat) (x : Tkn) : Prop := RAt w r g p u ∧ w.heap[xb]? = some (.cells #[.bool x.read, .int .i64 x.dat, .int .i64 x.st] 92 (0, 0))
theorem DonS.c1 {w : World} {r g p u xb : Nat} {x : Tkn} (h : DonS w r g p u xb x) : w.cell? ⟨xb, 1, none⟩ = some (.int .i64 x.dat) := cell_of_block h.2
theorem DonS.c2 {w : World} {r g p u xb : Nat} {x : Tkn} (h : DonS w r g p u xb x) : w.cell? ⟨xb, 2, none⟩ = some (.int .i64 x.st) := cell_of_block h.2
theorem DonS.kept {w w' : World} {r g p u xb : Nat} {x : Tkn} (h : DonS w r g p u xb x) (k1 : w'.heap[r]? = w.heap[r]?) (k2 : w'.heap[xb]? = w.heap[xb]?) : DonS w' r g p u xb x := ⟨h.1.kept k1, k2.trans h.2⟩
/-- The memory is written: the port stays. -/
theorem RS.wrote {w w' : World} {r g h p u : Nat} {lm lm' : List UInt8} {base taken told : Int} {ts : List (Int × Tkn)} (s : RS w r g h p u lm base taken told ts) (m : Mem w' g h lm') (k : w.grownBy w' (some h)) (hl : lm'.length = lm.length) : RS w' r g h p u lm' base taken told ts := by
  obtain ⟨n1, n2, n3, n4, n5, n6, n7⟩ := s.ne
  have keep : ∀ x, x < w.heap.size → x ≠ h → w'.heap[x]? = w.heap[x]? := fun x hx hn => k.block x hx (fun e => hn (by injection e with e))
  obtain ⟨l1, l2, l3, l4, l5⟩ := s.lts
  exact ⟨s.ra.kept (keep _ l1 n2), { s.ps with mem := m, len := by rw [hl]; exact s.ps.len, b1 := by rw [hl]; exact s.ps.b1, at_ := s.ps.at_.kept (keep _ l4 s.ps.ph) }, s.tab.kept (keep _ l5 n6)⟩

set_option maxRecDepth 100000 in
set_option maxHeartbeats 4000000 in
theorem RDone_ok (w : World) (r g h p u : Nat) (lm : List UInt8) (base taken told : Int) (ts : List (Int × Tkn)) (s : RS w r g h p u lm base taken told ts) (k : Int) (k0 : 0 ≤ k) (k1 : k ≤ 65535) (x : Tkn) (hx : (k, x) ∈ ts) (ok : Bool) (d : ByteArray) (hm : mayAns x ok d = true) :
    Calls Tryz.prog 11 #[.pointer (some ⟨r, 0, none⟩), .int .i64 k, .bool ok, .string d] w (RDonePost w r g h p u lm base taken told ts k x ok d) := by
  obtain ⟨n1, n2, n3, n4, n5, n6, n7⟩ := s.ne
  obtain ⟨l1, l2, l3, l4, l5⟩ := s.lts
  have hsz := mayAns_size hm
  have c3 := s.ra.c3
  have c2 := s.ra.c2
  have hlen := s.ps.len
  have hrun := s.tab.look_yes (P := Tryz.prog) Tryz.underlying68 Tryz.underlying3 (x := k) (v := x.val) (List.mem_map.2 ⟨(k, x), hx, rfl⟩)
  obtain ⟨xr, xd, xs⟩ := x
  unfold Tkn.val at hrun
  simp only at hrun
  have ka := World.grownBy_alloc w (.cells #[.bool xr, .int .i64 xd, .int .i64 xs] 92) none
  have hb := heap_alloc_new w (.cells #[.bool xr, .int .i64 xd, .int .i64 xs] 92)
  have S1 := Lib.hid (s.grown ka)
  have T1 : Hid (Turned (RB h p u) w (w.alloc (.cells #[.bool xr, .int .i64 xd, .int .i64 xs] 92))) := Lib.hid (Turned.of ka (fun j e => by cases e))
  have HB := Lib.hid hb
  have HL := Lib.hid l5
  have HL3 := Lib.hid l3
  have HL4 := Lib.hid l4
  have HD := Lib.hid hsz
  have HM := Lib.hid hm
  have hwk : IntKind.u32.wrap k = k := IntWalk.u32_in _ (by omega)
  have hwd : IntKind.i64.wrap ((d.size : Int) + 1) = (d.size : Int) + 1 := IntWalk.i64_in _ (by omega)
  have hwu : IntKind.u32.wrap ((d.size : Int) + 1) = (d.size : Int) + 1 := IntWalk.u32_in _ (by omega)
  have hds : d.size ≤ 9223372036854775807 := by omega
  clear s hx ka hb hm hsz
  go_enter Tryz.func11, Tryz.ntmps11
  go_wp2_with (first | (go_at_call 28; refine (rnone_no _ _ c3).mono ?_; rintro e w' ⟨rfl, rfl⟩) | (at_lookup; refine wpList_lookup_tab _ rfl _ _ 68 rfl u k (.agg #[.bool xr, .int .i64 xd, .int .i64 xs]) true rfl rfl hrun ?_; clear hrun c2 c3))
--@1
  generalize w.alloc _ = W1 at S1 T1 HB ⊢
  have MC := rmayAnswer_any W1 ⟨xr, xd, xs⟩ ok d
  rw [HM.out] at MC
  refine MC.mono ?_
  clear MC
  rintro e w2 ⟨rfl, k2⟩
  have S2 := Lib.hid (S1.out.grown k2)
  have T2 := Lib.hid (T1.out.step k2 (fun j e => by cases e))
  have HB2 : Hid (w2.heap[w.heap.size]? = some (.cells #[.bool xr, .int .i64 xd, .int .i64 xs] 92 (0, 0))) := Lib.hid ((k2.block _ (lt_of_block HB.out) (by simp)).trans HB.out)
  have d2 := S2.out.ra.c2
  have zb := lt_of_block HB2.out
  clear k2 S1 T1 HB
  have hxh : w.heap.size ≠ h := by have := HL3.out; omega
  have hrh := n2
  cases ok with
  | true =>
    go_wp2_with (at_delete; refine wpList_delete_tab _ rfl _ _ 68 3 rfl 92 Tryz.underlying68 Tryz.underlying3 u k (ts.map fun t => (t.1, t.2.val)) S2.out.tab (WalkArith.wf_i64 (by omega)) rfl rfl ?_; intro w3 t3 k3; clear d2)
    rw [tab_filter] at t3
    have s3 : RS w3 r g h p u lm base taken told (ts.filter fun t => t.1 != k) := by
      have keep : ∀ y, y < w2.heap.size → u ≠ y → w3.heap[y]? = w2.heap[y]? := fun y hy hn => k3.block y hy (fun e => hn (by injection e with e; exact e.symm))
      obtain ⟨l1, l2, l3, l4, l5⟩ := S2.out.lts
      exact ⟨S2.out.ra.kept (keep _ l1 n4), { S2.out.ps with mem := ⟨(keep _ l2 n5).trans S2.out.ps.mem.1, (keep _ l3 n6).trans S2.out.ps.mem.2⟩, at_ := S2.out.ps.at_.kept (keep _ l4 n7) }, t3⟩
    have S3 := Lib.hid s3
    have T3 := Lib.hid (T2.out.step k3 (fun j e => .inl (.inr (.inr (by injection e with e; exact e.symm)))))
    have HB3 : Hid (w3.heap[w.heap.size]? = some (.cells #[.bool xr, .int .i64 xd, .int .i64 xs] 92 (0, 0))) := Lib.hid ((k3.block _ zb (fun e => by injection e with e; have := HL.out; omega)).trans HB2.out)
    clear k3 t3 s3 zb S2 T2 HB2
    have HJ : Hid (DonS w3 r g p u w.heap.size ⟨xr, xd, xs⟩) := Lib.hid ⟨S3.out.ra, HB3.out⟩
    clear HB3
--@2true
    refine wp_region_noPanic ?_
    refine region_held (S := fun w' => DonS w' r g p u w.heap.size ⟨xr, xd, xs⟩) (by kernel_rfl) (fun V dd => HJ.out.kept (dd.block _) (dd.block _)) (fun V dd hS => ?_)
    have sV := Lib.hid (S3.out.grown dd.grown)
    have tV := T3.out.step dd.grown (fun j e => by cases e)
    refine wpAnyH_take (i := 0) (v := (.pointer (some ⟨r, 0, none⟩))) rfl (by kernel_rfl) (by kernel_rfl) (by kernel_rfl) (fun _ _ _ h => h) (Or.inl ⟨by rfl, fun w' h' => ?_⟩) hS ?_
    · clear h'
      go_simp
    simp only [Act.put]
    refine wpAnyH_take (i := 1) (v := (.pointer (some ⟨r, 0, none⟩))) rfl (by kernel_rfl) (by kernel_rfl) (by kernel_rfl) (fun _ _ _ h => h) (Or.inl ⟨by rfl, fun w' h' => ?_⟩) hS ?_
    · clear h'
      go_simp
    simp only [Act.put]
    refine wpAnyH_take (i := 2) (v := (.pointer (some ⟨r, 0, none⟩))) rfl (by kernel_rfl) (by kernel_rfl) (by kernel_rfl) (fun _ _ _ h => h) (Or.inl ⟨by rfl, fun w' h' => ?_⟩) hS ?_
    · clear h'
      go_simp
    simp only [Act.put]
    refine wpAnyH_take (i := 3) (v := (.pointer (some ⟨g, 0, none⟩))) rfl (by kernel_rfl) (by kernel_rfl) (by kernel_rfl) (fun _ _ _ h => h) (Or.inl ⟨by rfl, fun w' h' => ?_⟩) hS ?_
    · have c0 := h'.1.c0
      clear h'
      go_simp
    simp only [Act.put]
    refine wpAnyH_take (i := 4) (v := (.pointer (some ⟨w.heap.size, 1, none⟩))) rfl (by kernel_rfl) (by kernel_rfl) (by kernel_rfl) (fun _ _ _ h => h) (Or.inl ⟨by rfl, fun w' h' => ?_⟩) hS ?_
    · clear h'
      go_simp
    simp only [Act.put]
    refine wpAnyH_take (i := 5) (v := (.int .i64 xd)) rfl (by kernel_rfl) (by kernel_rfl) (by kernel_rfl) (fun _ _ _ h => h) (Or.inl ⟨by rfl, fun w' h' => ?_⟩) hS ?_
    · have c0 := h'.c1
      clear h'
      go_simp
    simp only [Act.put]
    refine wpAnyH_take (i := 6) (v := (.string d)) rfl (by kernel_rfl) (by kernel_rfl) (by kernel_rfl) (fun _ _ _ h => h) (Or.inl ⟨by rfl, fun w' h' => ?_⟩) hS ?_
    · clear h'
      go_simp
    simp only [Act.put]
    refine wpAnyH_ready (rs := [7]) (by kernel_rfl) (by simp) ?_
    refine AllReadyH.cons rfl (fun K hK => ?_) AllReadyH.nil
    go_simp
    refine (Write_all V g h lm sV.out.ps.mem (by omega) xd d hds).mono ?_
    rintro e w4 ⟨rfl, m4, k4⟩
    have S4 := Lib.hid (sV.out.wrote m4 k4 (writeL_length _ _ _))
    have j4 := hS.kept (w' := w4) (k4.block _ (lt_of_block hS.1) (fun e => hrh (by injection e))) (k4.block _ (lt_of_block hS.2) (fun e => hxh (by injection e)))
    have T4 := Lib.hid (tV.step k4 (fun j e => .inl (.inl (by injection e with e; exact e.symm))))
    go_simp
    refine hK.out _ _ j4 (fun _ => ?_)
    clear hK K
    refine wpAnyH_done (by kernel_rfl) (NoPanic.normal ?_) _
    clear sV tV hS dd m4 k4 S3 T3 HJ
    obtain ⟨L1, hL1⟩ : ∃ L, L = writeL lm xd d.data.toList := ⟨_, rfl⟩
    rw [← hL1] at S4
    have HL1 := Lib.hid hL1
    clear hL1
    go_wp2_with fail
    refine wp_region_noPanic ?_
    refine region_held (S := fun w' => DonS w' r g p u w.heap.size ⟨xr, xd, xs⟩) (by kernel_rfl) (fun V dd => j4.kept (dd.block _) (dd.block _)) (fun V dd hS => ?_)
    have sV := Lib.hid (S4.out.grown dd.grown)
    have tV := T4.out.step dd.grown (fun j e => by cases e)
    refine wpAnyH_take (i := 0) (v := (.pointer (some ⟨r, 0, none⟩))) rfl (by kernel_rfl) (by kernel_rfl) (by kernel_rfl) (fun _ _ _ h => h) (Or.inl ⟨by rfl, fun w' h' => ?_⟩) hS ?_
    · clear h'
      go_simp
    simp only [Act.put]
    refine wpAnyH_take (i := 1) (v := (.pointer (some ⟨r, 0, none⟩))) rfl (by kernel_rfl) (by kernel_rfl) (by kernel_rfl) (fun _ _ _ h => h) (Or.inl ⟨by rfl, fun w' h' => ?_⟩) hS ?_
    · clear h'
      go_simp
    simp only [Act.put]
    refine wpAnyH_take (i := 2) (v := (.pointer (some ⟨r, 0, none⟩))) rfl (by kernel_rfl) (by kernel_rfl) (by kernel_rfl) (fun _ _ _ h => h) (Or.inl ⟨by rfl, fun w' h' => ?_⟩) hS ?_
    · clear h'
      go_simp
    simp only [Act.put]
    refine wpAnyH_take (i := 3) (v := (.pointer (some ⟨g, 0, none⟩))) rfl (by kernel_rfl) (by kernel_rfl) (by kernel_rfl) (fun _ _ _ h => h) (Or.inl ⟨by rfl, fun w' h' => ?_⟩) hS ?_
    · have c0 := h'.1.c0
      clear h'
      go_simp
    simp only [Act.put]
    refine wpAnyH_take (i := 4) (v := (.pointer (some ⟨w.heap.size, 2, none⟩))) rfl (by kernel_rfl) (by kernel_rfl) (by kernel_rfl) (fun _ _ _ h => h) (Or.inl ⟨by rfl, fun w' h' => ?_⟩) hS ?_
    · clear h'
      go_simp
    simp only [Act.put]
    refine wpAnyH_take (i := 5) (v := (.int .i64 xs)) rfl (by kernel_rfl) (by kernel_rfl) (by kernel_rfl) (fun _ _ _ h => h) (Or.inl ⟨by rfl, fun w' h' => ?_⟩) hS ?_
    · have c0 := h'.c2
      clear h'
      go_simp
    simp only [Act.put]
    refine wpAnyH_take (i := 6) (v := (.int .u64 0)) rfl (by kernel_rfl) (by kernel_rfl) (by kernel_rfl) (fun _ _ _ h => h) (Or.inl ⟨by rfl, fun w' h' => ?_⟩) hS ?_
    · clear h'
      go_simp
    simp only [Act.put]
    refine wpAnyH_ready (rs := [7]) (by kernel_rfl) (by simp) ?_
    refine AllReadyH.cons rfl (fun K hK => ?_) AllReadyH.nil
    go_simp
    refine (Put_all V g h L1 sV.out.ps.mem (by rw [HL1.out, writeL_length]; omega) xs 1 0 (by omega)).mono ?_
    rintro e w5 ⟨rfl, m5, k5⟩
    have S5 := Lib.hid (sV.out.wrote m5 k5 (putL_length _ _ _ _))
    have j5 := hS.kept (w' := w5) (k5.block _ (lt_of_block hS.1) (fun e => hrh (by injection e))) (k5.block _ (lt_of_block hS.2) (fun e => hxh (by injection e)))
    have T5 := Lib.hid (tV.step k5 (fun j e => .inl (.inl (by injection e with e; exact e.symm))))
    go_simp
    refine hK.out _ _ j5 (fun _ => ?_)
    clear hK K
    refine wpAnyH_done (by kernel_rfl) (NoPanic.normal ?_) _
    clear sV tV hS dd m5 k5 S4 T4 j4
    have e1 := j5.1.c1
    clear j5
    go_wp2_with fail
    refine (vDone_any w5 p g h _ base 32 taken told S5.out.ps k (d.size + 1) k0 (by omega) (by omega) (by have := HD.out; omega)).mono ?_
    rintro e w6 ⟨rfl, ps6, t6⟩
    have FIN : Hid (RDonePost w r g h p u lm base taken told ts k ⟨xr, xd, xs⟩ true d (.returned (.int .i64 0)) w6) := Lib.hid ⟨rfl, ⟨S5.out.ra.kept (t6.block _ S5.out.lts.1 (by rintro (e | e); exact n2 e; exact n3 e)), by
      unfold answerL
      rw [← HL1.out]
      exact ps6, S5.out.tab.kept (t6.block _ S5.out.tab.lt (by rintro (e | e); exact n6 e; exact n7 e))⟩, T5.out.trans (t6.mono (fun y _ hy => by rcases hy with e | e; exact .inl e; exact .inr (.inl e)))⟩
    clear ps6 t6 S5 T5 e1
    go_wp2_with fail
    go_ret
    exact FIN.out
  | false =>
    go_wp2_with (at_delete; refine wpList_delete_tab _ rfl _ _ 68 3 rfl 92 Tryz.underlying68 Tryz.underlying3 u k (ts.map fun t => (t.1, t.2.val)) S2.out.tab (WalkArith.wf_i64 (by omega)) rfl rfl ?_; intro w3 t3 k3; clear d2)
    rw [tab_filter] at t3
    have s3 : RS w3 r g h p u lm base taken told (ts.filter fun t => t.1 != k) := by
      have keep : ∀ y, y < w2.heap.size → u ≠ y → w3.heap[y]? = w2.heap[y]? := fun y hy hn => k3.block y hy (fun e => hn (by injection e with e; exact e.symm))
      obtain ⟨l1, l2, l3, l4, l5⟩ := S2.out.lts
      exact ⟨S2.out.ra.kept (keep _ l1 n4), { S2.out.ps with mem := ⟨(keep _ l2 n5).trans S2.out.ps.mem.1, (keep _ l3 n6).trans S2.out.ps.mem.2⟩, at_ := S2.out.ps.at_.kept (keep _ l4 n7) }, t3⟩
    have S3 := Lib.hid s3
    have T3 := Lib.hid (T2.out.step k3 (fun j e => .inl (.inr (.inr (by injection e with e; exact e.symm)))))
    have HB3 : Hid (w3.heap[w.heap.size]? = some (.cells #[.bool xr, .int .i64 xd, .int .i64 xs] 92 (0, 0))) := Lib.hid ((k3.block _ zb (fun e => by injection e with e; have := HL.out; omega)).trans HB2.out)
    clear k3 t3 s3 zb S2 T2 HB2
    have HJ : Hid (DonS w3 r g p u w.heap.size ⟨xr, xd, xs⟩) := Lib.hid ⟨S3.out.ra, HB3.out⟩
    clear HB3
--@2false
    refine wp_region_noPanic ?_
    refine region_held (S := fun w' => DonS w' r g p u w.heap.size ⟨xr, xd, xs⟩) (by kernel_rfl) (fun V dd => HJ.out.kept (dd.block _) (dd.block _)) (fun V dd hS => ?_)
    have sV := Lib.hid (S3.out.grown dd.grown)
    have tV := T3.out.step dd.grown (fun j e => by cases e)
    refine wpAnyH_take (i := 0) (v := (.pointer (some ⟨r, 0, none⟩))) rfl (by kernel_rfl) (by kernel_rfl) (by kernel_rfl) (fun _ _ _ h => h) (Or.inl ⟨by rfl, fun w' h' => ?_⟩) hS ?_
    · clear h'
      go_simp
    simp only [Act.put]
    refine wpAnyH_take (i := 1) (v := (.pointer (some ⟨r, 0, none⟩))) rfl (by kernel_rfl) (by kernel_rfl) (by kernel_rfl) (fun _ _ _ h => h) (Or.inl ⟨by rfl, fun w' h' => ?_⟩) hS ?_
    · clear h'
      go_simp
    simp only [Act.put]
    refine wpAnyH_take (i := 2) (v := (.pointer (some ⟨r, 0, none⟩))) rfl (by kernel_rfl) (by kernel_rfl) (by kernel_rfl) (fun _ _ _ h => h) (Or.inl ⟨by rfl, fun w' h' => ?_⟩) hS ?_
    · clear h'
      go_simp
    simp only [Act.put]
    refine wpAnyH_take (i := 3) (v := (.pointer (some ⟨g, 0, none⟩))) rfl (by kernel_rfl) (by kernel_rfl) (by kernel_rfl) (fun _ _ _ h => h) (Or.inl ⟨by rfl, fun w' h' => ?_⟩) hS ?_
    · have c0 := h'.1.c0
      clear h'
      go_simp
    simp only [Act.put]
    refine wpAnyH_take (i := 4) (v := (.pointer (some ⟨w.heap.size, 1, none⟩))) rfl (by kernel_rfl) (by kernel_rfl) (by kernel_rfl) (fun _ _ _ h => h) (Or.inl ⟨by rfl, fun w' h' => ?_⟩) hS ?_
    · clear h'
      go_simp
    simp only [Act.put]
    refine wpAnyH_take (i := 5) (v := (.int .i64 xd)) rfl (by kernel_rfl) (by kernel_rfl) (by kernel_rfl) (fun _ _ _ h => h) (Or.inl ⟨by rfl, fun w' h' => ?_⟩) hS ?_
    · have c0 := h'.c1
      clear h'
      go_simp
    simp only [Act.put]
    refine wpAnyH_take (i := 6) (v := (.string d)) rfl (by kernel_rfl) (by kernel_rfl) (by kernel_rfl) (fun _ _ _ h => h) (Or.inl ⟨by rfl, fun w' h' => ?_⟩) hS ?_
    · clear h'
      go_simp
    simp only [Act.put]
    refine wpAnyH_ready (rs := [7]) (by kernel_rfl) (by simp) ?_
    refine AllReadyH.cons rfl (fun K hK => ?_) AllReadyH.nil
    go_simp
    refine (Write_all V g h lm sV.out.ps.mem (by omega) xd d hds).mono ?_
    rintro e w4 ⟨rfl, m4, k4⟩
    have S4 := Lib.hid (sV.out.wrote m4 k4 (writeL_length _ _ _))
    have j4 := hS.kept (w' := w4) (k4.block _ (lt_of_block hS.1) (fun e => hrh (by injection e))) (k4.block _ (lt_of_block hS.2) (fun e => hxh (by injection e)))
    have T4 := Lib.hid (tV.step k4 (fun j e => .inl (.inl (by injection e with e; exact e.symm))))
    go_simp
    refine hK.out _ _ j4 (fun _ => ?_)
    clear hK K
    refine wpAnyH_done (by kernel_rfl) (NoPanic.normal ?_) _
    clear sV tV hS dd m4 k4 S3 T3 HJ
    obtain ⟨L1, hL1⟩ : ∃ L, L = writeL lm xd d.data.toList := ⟨_, rfl⟩
    rw [← hL1] at S4
    have HL1 := Lib.hid hL1
    clear hL1
    go_wp2_with fail
    refine wp_region_noPanic ?_
    refine region_held (S := fun w' => DonS w' r g p u w.heap.size ⟨xr, xd, xs⟩) (by kernel_rfl) (fun V dd => j4.kept (dd.block _) (dd.block _)) (fun V dd hS => ?_)
    have sV := Lib.hid (S4.out.grown dd.grown)
    have tV := T4.out.step dd.grown (fun j e => by cases e)
    refine wpAnyH_take (i := 0) (v := (.pointer (some ⟨r, 0, none⟩))) rfl (by kernel_rfl) (by kernel_rfl) (by kernel_rfl) (fun _ _ _ h => h) (Or.inl ⟨by rfl, fun w' h' => ?_⟩) hS ?_
    · clear h'
      go_simp
    simp only [Act.put]
    refine wpAnyH_take (i := 1) (v := (.pointer (some ⟨r, 0, none⟩))) rfl (by kernel_rfl) (by kernel_rfl) (by kernel_rfl) (fun _ _ _ h => h) (Or.inl ⟨by rfl, fun w' h' => ?_⟩) hS ?_
    · clear h'
      go_simp
    simp only [Act.put]
    refine wpAnyH_take (i := 2) (v := (.pointer (some ⟨r, 0, none⟩))) rfl (by kernel_rfl) (by kernel_rfl) (by kernel_rfl) (fun _ _ _ h => h) (Or.inl ⟨by rfl, fun w' h' => ?_⟩) hS ?_
    · clear h'
      go_simp
    simp only [Act.put]
    refine wpAnyH_take (i := 3) (v := (.pointer (some ⟨g, 0, none⟩))) rfl (by kernel_rfl) (by kernel_rfl) (by kernel_rfl) (fun _ _ _ h => h) (Or.inl ⟨by rfl, fun w' h' => ?_⟩) hS ?_
    · have c0 := h'.1.c0
      clear h'
      go_simp
    simp only [Act.put]
    refine wpAnyH_take (i := 4) (v := (.pointer (some ⟨w.heap.size, 2, none⟩))) rfl (by kernel_rfl) (by kernel_rfl) (by kernel_rfl) (fun _ _ _ h => h) (Or.inl ⟨by rfl, fun w' h' => ?_⟩) hS ?_
    · clear h'
      go_simp
    simp only [Act.put]
    refine wpAnyH_take (i := 5) (v := (.int .i64 xs)) rfl (by kernel_rfl) (by kernel_rfl) (by kernel_rfl) (fun _ _ _ h => h) (Or.inl ⟨by rfl, fun w' h' => ?_⟩) hS ?_
    · have c0 := h'.c2
      clear h'
      go_simp
    simp only [Act.put]
    refine wpAnyH_take (i := 6) (v := (.int .u64 1)) rfl (by kernel_rfl) (by kernel_rfl) (by kernel_rfl) (fun _ _ _ h => h) (Or.inl ⟨by rfl, fun w' h' => ?_⟩) hS ?_
    · clear h'
      go_simp
    simp only [Act.put]
    refine wpAnyH_ready (rs := [7]) (by kernel_rfl) (by simp) ?_
    refine AllReadyH.cons rfl (fun K hK => ?_) AllReadyH.nil
    go_simp
    refine (Put_all V g h L1 sV.out.ps.mem (by rw [HL1.out, writeL_length]; omega) xs 1 1 (by omega)).mono ?_
    rintro e w5 ⟨rfl, m5, k5⟩
    have S5 := Lib.hid (sV.out.wrote m5 k5 (putL_length _ _ _ _))
    have j5 := hS.kept (w' := w5) (k5.block _ (lt_of_block hS.1) (fun e => hrh (by injection e))) (k5.block _ (lt_of_block hS.2) (fun e => hxh (by injection e)))
    have T5 := Lib.hid (tV.step k5 (fun j e => .inl (.inl (by injection e with e; exact e.symm))))
    go_simp
    refine hK.out _ _ j5 (fun _ => ?_)
    clear hK K
    refine wpAnyH_done (by kernel_rfl) (NoPanic.normal ?_) _
    clear sV tV hS dd m5 k5 S4 T4 j4
    have e1 := j5.1.c1
    clear j5
    go_wp2_with fail
    refine (vDone_any w5 p g h _ base 32 taken told S5.out.ps k (d.size + 1) k0 (by omega) (by omega) (by have := HD.out; omega)).mono ?_
    rintro e w6 ⟨rfl, ps6, t6⟩
    have FIN : Hid (RDonePost w r g h p u lm base taken told ts k ⟨xr, xd, xs⟩ false d (.returned (.int .i64 0)) w6) := Lib.hid ⟨rfl, ⟨S5.out.ra.kept (t6.block _ S5.out.lts.1 (by rintro (e | e); exact n2 e; exact n3 e)), by
      unfold answerL
      rw [← HL1.out]
      exact ps6, S5.out.tab.kept (t6.block _ S5.out.tab.lt (by rintro (e | e); exact n6 e; exact n7 e))⟩, T5.out.trans (t6.mono (fun y _ hy => by rcases hy with e | e; exact .inl e; exact .inr (.inl e)))⟩
    clear ps6 t6 S5 T5 e1
    go_wp2_with fail
    go_ret
    exact FIN.out

end Go.Proofs.YtdchlnffbiooaaaGreatDoor

namespace Go.Proofs.YtdchlnffbiooaaaGreatDoor
open Go.RowKit Go.Sort

/-- An answer. -/
structure Dn where
  id : Int
  ok : Bool
  data : ByteArray
def Dn.val (x : Dn) : Value := .agg #[.int .i64 x.id, .bool x.ok, .string x.data]
def ansS (lm : List UInt8) (base slot : Int) : Int := getX lm (base + 848 + 96 * slot + 80) 1
/-- What the device told of an order that has come back with this length. -/
def ansF (lm : List UInt8) (base : Int) (x : Snt) (len : Int) : Dn :=
  if ansS lm base x.slot ≠ 0 ∨ (x.kind = 1 ∧ len ≠ 65) then ⟨x.id, false, ⟨#[]⟩⟩ else ⟨x.id, true, if x.kind = 1 then ⟨(textS lm (base + 848 + 96 * x.slot + 16) 64).toArray⟩ else ⟨#[]⟩⟩

/-- What stays through answer. -/
structure AnsI (w0 w : World) (b g h : Nat) (base sectors limit : Int) (q u : Nat) (last now : Int) (dead : Bool) (lm : List UInt8) (xb : Nat) (x : Snt) (es : List (Int × Value)) : Prop where
  ka : KAt w b g base sectors limit q u last now dead
  mem : Mem w g h lm
  xbk : w.heap[xb]? = some (.cells #[.int .i64 x.id, .int .i64 x.kind, .int .i64 x.slot, .int .i64 x.since] 84 (0, 0))
  rbk : w.heap[w0.heap.size]? = some (.cells #[.int .i64 0, .bool false, .string ⟨#[]⟩] 51 (0, 0))
  tab : IsTab w u es
  tu : Turned (fun k => k = u) w0 w
  old : w0.heap.size < xb
  b0 : b < w0.heap.size
section
variable {w0 w w' : World} {b g h : Nat} {base sectors limit : Int} {q u : Nat} {last now : Int} {dead : Bool} {lm : List UInt8} {xb : Nat} {x : Snt} {es : List (Int × Value)}
theorem AnsI.grown (i : AnsI w0 w b g h base sectors limit q u last now dead lm xb x es) (k : w.grownBy w' none) : AnsI w0 w' b g h base sectors limit q u last now dead lm xb x es :=
  ⟨i.ka.kept (k.block _ (lt_of_block i.ka) (by simp)), i.mem.same k, (k.block _ (lt_of_block i.xbk) (by simp)).trans i.xbk, (k.block _ (lt_of_block i.rbk) (by simp)).trans i.rbk, i.tab.kept (k.block _ i.tab.lt (by simp)), i.tu.step k (fun j e => by cases e), i.old, i.b0⟩
theorem AnsI.x0 (i : AnsI w0 w b g h base sectors limit q u last now dead lm xb x es) : w.cell? ⟨xb, 0, none⟩ = some (.int .i64 x.id) := cell_of_block i.xbk
theorem AnsI.x1 (i : AnsI w0 w b g h base sectors limit q u last now dead lm xb x es) : w.cell? ⟨xb, 1, none⟩ = some (.int .i64 x.kind) := cell_of_block i.xbk
/-- What it comes to. -/
def AnsPost (w : World) (u : Nat) (es : List (Int × Value)) (d : Dn) (e : Ending) (w' : World) : Prop := e = .returned d.val ∧ IsTab w' u es ∧ Turned (fun k => k = u) w w'
/-- The result's cells, written anew. -/
theorem AnsI.out (i : AnsI w0 w b g h base sectors limit q u last now dead lm xb x es) (hu : u < w0.heap.size) (y0 y1 y2 : Value) :
    IsTab (((w.setCell ⟨w0.heap.size, 0, none⟩ y0).setCell ⟨w0.heap.size, 1, none⟩ y1).setCell ⟨w0.heap.size, 2, none⟩ y2) u es ∧ Turned (fun k => k = u) w0 (((w.setCell ⟨w0.heap.size, 0, none⟩ y0).setCell ⟨w0.heap.size, 1, none⟩ y1).setCell ⟨w0.heap.size, 2, none⟩ y2) := by
  refine ⟨i.tab.kept ?_, i.tu.setThree y0 y1 y2⟩
  rw [Below.heap_setCell _ _ _ _ (Nat.ne_of_lt hu), Below.heap_setCell _ _ _ _ (Nat.ne_of_lt hu), Below.heap_setCell _ _ _ _ (Nat.ne_of_lt hu)]
end
def AnsS (w : World) (b g : Nat) (base sectors limit : Int) (q u : Nat) (last now : Int) (dead : Bool) (xb : Nat) (x : Snt) : Prop :=
  KAt w b g base sectors limit q u last now dead ∧ w.heap[xb]? = some (.cells #[.int .i64 x.id, .int .i64 x.kind, .int .i64 x.slot, .int .i64 x.since] 84 (0, 0))
theorem AnsS.x2 {w : World} {b g : Nat} {base sectors limit : Int} {q u : Nat} {last now : Int} {dead : Bool} {xb : Nat} {x : Snt} (h : AnsS w b g base sectors limit q u last now dead xb x) : w.cell? ⟨xb, 2, none⟩ = some (.int .i64 x.slot) := cell_of_block h.2
theorem AnsS.kept {w w' : World} {b g : Nat} {base sectors limit : Int} {q u : Nat} {last now : Int} {dead : Bool} {xb : Nat} {x : Snt} (h : AnsS w b g base sectors limit q u last now dead xb x) (k1 : w'.heap[b]? = w.heap[b]?) (k2 : w'.heap[xb]? = w.heap[xb]?) : AnsS w' b g base sectors limit q u last now dead xb x := ⟨h.1.kept k1, k2.trans h.2⟩
theorem snt_filter (os : List Snt) (k : Int) : (os.map Snt.ent).filter (fun c => c.1 != k) = (os.filter fun y => y.hd != k).map Snt.ent := by
  rw [List.filter_map]
  rfl

theorem ans_start {w W2 w3 : World} {b g h : Nat} {base sectors limit : Int} {q u : Nat} {last now : Int} {dead : Bool} {lm : List UInt8} {xb : Nat} {x : Snt} {os : List Snt} (k : KAt W2 b g base sectors limit q u last now dead) (m : Mem W2 g h lm)
    (hx : W2.heap[xb]? = some (.cells #[.int .i64 x.id, .int .i64 x.kind, .int .i64 x.slot, .int .i64 x.since] 84 (0, 0))) (hr : W2.heap[w.heap.size]? = some (.cells #[.int .i64 0, .bool false, .string ⟨#[]⟩] 51 (0, 0)))
    (tu : Turned (fun k => k = u) w W2) (t3 : IsTab w3 u ((os.map Snt.ent).filter fun c => c.1 != x.hd)) (k3 : W2.grownBy w3 (some u)) (n1 : u ≠ b) (n2 : u ≠ g) (n3 : u ≠ h) (z1 : w.heap.size < xb) (lb : b < w.heap.size) (lu : u < w.heap.size) :
    AnsI w w3 b g h base sectors limit q u last now dead lm xb x ((os.filter fun y => y.hd != x.hd).map Snt.ent) := by
  have keep : ∀ y, y < W2.heap.size → u ≠ y → w3.heap[y]? = W2.heap[y]? := fun y hy hn => k3.block y hy (fun e => hn (by injection e with e; exact e.symm))
  exact ⟨k.kept (keep _ (lt_of_block k) n1), ⟨(keep _ m.lt1 n2).trans m.1, (keep _ m.lt2 n3).trans m.2⟩, (keep _ (lt_of_block hx) (by omega)).trans hx, (keep _ (lt_of_block hr) (by omega)).trans hr, by rw [← snt_filter]; exact t3, tu.step k3 (fun j e => .inl (by injection e with e; exact e.symm)), z1, lb⟩

theorem AnsI.aside {w0 w w' : World} {b g h : Nat} {base sectors limit : Int} {q u : Nat} {last now : Int} {dead : Bool} {lm : List UInt8} {xb : Nat} {x : Snt} {es : List (Int × Value)} (i : AnsI w0 w b g h base sectors limit q u last now dead lm xb x es) {db : Nat} (k : w.grownBy w' (some db))
    (n1 : b ≠ db) (n2 : g ≠ db) (n3 : h ≠ db) (n4 : xb ≠ db) (n5 : w0.heap.size < db) (n6 : u ≠ db) : AnsI w0 w' b g h base sectors limit q u last now dead lm xb x es := by
  have keep : ∀ y, y < w.heap.size → y ≠ db → w'.heap[y]? = w.heap[y]? := fun y hy hn => k.block y hy (fun e => hn (by injection e with e))
  exact ⟨i.ka.kept (keep _ (lt_of_block i.ka) n1), ⟨(keep _ i.mem.lt1 n2).trans i.mem.1, (keep _ i.mem.lt2 n3).trans i.mem.2⟩, (keep _ (lt_of_block i.xbk) n4).trans i.xbk, (keep _ (lt_of_block i.rbk) (by omega)).trans i.rbk, i.tab.kept (keep _ i.tab.lt n6), i.tu.step k (fun j e => .inr (by injection e with e; omega)), i.old, i.b0⟩

set_option maxRecDepth 100000 in
set_option maxHeartbeats 4000000 in
theorem answer_any (w : World) (b g h : Nat) (base sectors limit : Int) (q u : Nat) (last now : Int) (dead : Bool) (lm : List UInt8) (hk : KAt w b g base sectors limit q u last now dead) (m : Mem w g h lm) (b0 : 0 ≤ base) (b1 : base + 1616 ≤ lm.length) (l2 : lm.length ≤ 65536)
    (os : List Snt) (ht : IsTab w u (os.map Snt.ent)) (x : Snt) (hx : x ∈ os) (s0 : 0 ≤ x.slot) (s1 : x.slot < 8) (len : Int) :
    Calls Tryz.prog 71 #[.pointer (some ⟨b, 0, none⟩), .int .i64 x.hd, .int .i64 len] w (AnsPost w u ((os.filter fun y => y.hd != x.hd).map Snt.ent) (ansF lm base x len)) := by
  obtain ⟨R, hR⟩ : ∃ R, R = ansF lm base x len := ⟨_, rfl⟩
  rw [← hR]
  have HR := Lib.hid hR
  have hwf : (Lit.int .i64 x.hd).wf = true := by
    obtain ⟨es, clock, _, F⟩ := ht
    exact F.wf x.ent (List.mem_map.2 ⟨x, hx, rfl⟩)
  have hmem : (x.hd, x.val) ∈ os.map Snt.ent := List.mem_map.2 ⟨x, hx, rfl⟩
  have lb := lt_of_block hk
  have lu := ht.lt
  have lg := m.lt1
  have lh := m.lt2
  obtain ⟨n1, n2, n3⟩ : u ≠ b ∧ u ≠ g ∧ u ≠ h := ⟨tab_ne ht hk, tab_ne ht m.1, tab_ne ht m.2⟩
  obtain ⟨xh, xi, xk, xs, xt⟩ := x
  unfold Snt.val at hmem
  simp only at hmem s0 s1 hwf
  have ka := World.grownBy_alloc w (.cells #[.int .i64 0, .bool false, .string ⟨#[]⟩] 51) none
  have hrb := heap_alloc_new w (.cells #[.int .i64 0, .bool false, .string ⟨#[]⟩] 51)
  have k1 := hk.kept (ka.block _ lb (by simp))
  have m1 := m.same ka
  have t1 := ht.kept (ka.block _ lu (by simp))
  have HU := Lib.hid lu
  have HWF := Lib.hid hwf
  have HMEM := Lib.hid hmem
  clear hR hk m ht hx hwf hmem
  go_enter Tryz.func71, Tryz.ntmps71
  go_upto_region 1 with fail
  generalize w.alloc _ = W1 at ka hrb k1 m1 t1 ⊢
  have c5 := k1.c5
  have lk := t1.get_yes (P := Tryz.prog) Tryz.underlying62 Tryz.underlying3 HMEM.out
  have kb := World.grownBy_alloc W1 (.cells #[.int .i64 xi, .int .i64 xk, .int .i64 xs, .int .i64 xt] 84) none
  have hxb := heap_alloc_new W1 (.cells #[.int .i64 xi, .int .i64 xk, .int .i64 xs, .int .i64 xt] 84)
  have z1 := lt_of_block hrb
  go_upto_region 2 with fail
  generalize W1.alloc _ = W2 at kb hxb ⊢
--@1
  have k2 := k1.kept (kb.block _ (lt_of_block k1) (by simp))
  have T2 := Lib.hid (t1.kept (kb.block _ t1.lt (by simp)))
  have M2 := Lib.hid (m1.same kb)
  have RB2 : Hid (W2.heap[w.heap.size]? = some (.cells #[.int .i64 0, .bool false, .string ⟨#[]⟩] 51 (0, 0))) := Lib.hid ((kb.block _ z1 (by simp)).trans hrb)
  have TU2 : Hid (Turned (fun k => k = u) w W2) := Lib.hid ((Turned.of ka (fun j e => by cases e)).step kb (fun j e => by cases e))
  have d5 := k2.c5
  have K2 := Lib.hid k2
  have XB2 := Lib.hid hxb
  clear lk c5 k1 m1 t1 ka kb hrb hxb k2
  go_wp2_with (at_delete; refine wpList_delete_tab _ rfl _ _ 62 3 rfl 84 Tryz.underlying62 Tryz.underlying3 u xh (os.map Snt.ent) T2.out HWF.out rfl rfl ?_; intro w3 t3 k3; have i3 : AnsI w w3 b g h base sectors limit q u last now dead lm W1.heap.size ⟨xh, xi, xk, xs, xt⟩ ((os.filter fun y => y.hd != xh).map Snt.ent) := ans_start K2.out M2.out XB2.out RB2.out TU2.out t3 k3 n1 n2 n3 z1 lb HU.out; have e1 := i3.x1; clear d5)
  rw [snt_filter] at t3
  have I3 := Lib.hid i3
  clear i3 t3 k3 K2 T2 M2 RB2 TU2 XB2 e1
--@2
  obtain ⟨ST, hST⟩ : ∃ ST : Int, ST = ansS lm base xs := ⟨_, rfl⟩
  have HST := Lib.hid hST
  obtain ⟨TX, hTX⟩ : ∃ TX, TX = textS lm (base + 848 + 96 * xs + 16) 64 := ⟨_, rfl⟩
  have HTX := Lib.hid hTX
  have HR2 : Hid (R = if ST ≠ 0 ∨ (xk = 1 ∧ len ≠ 65) then ⟨xi, false, ⟨#[]⟩⟩ else ⟨xi, true, if xk = 1 then ⟨TX.toArray⟩ else ⟨#[]⟩⟩) := Lib.hid (by rw [HR.out]; unfold ansF; rw [hST, hTX])
  have hw80 : IntKind.i64.wrap (base + 848 + 96 * xs + 80) = base + 848 + 96 * xs + 80 := IntWalk.i64_in _ (by omega)
  have hw16 : IntKind.i64.wrap (base + 848 + 96 * xs + 16) = base + 848 + 96 * xs + 16 := IntWalk.i64_in _ (by omega)
  clear hST hTX
--@3
  refine wp_region_noPanic ?_
  refine region_held (S := fun w' => AnsS w' b g base sectors limit q u last now dead W1.heap.size ⟨xh, xi, xk, xs, xt⟩) (by kernel_rfl) (fun V d => ⟨I3.out.ka.kept (d.block _), (d.block _).trans I3.out.xbk⟩) (fun V d hS => ?_)
  have iV := Lib.hid (I3.out.grown d.grown)
  refine wpAnyH_take (i := 0) (v := (.pointer (some ⟨b, 0, none⟩))) rfl (by kernel_rfl) (by kernel_rfl) (by kernel_rfl) (fun _ _ _ h => h) (Or.inl ⟨by rfl, fun w' h' => ?_⟩) hS ?_
  · clear h'
    go_simp
  simp only [Act.put]
  refine wpAnyH_take (i := 1) (v := (.pointer (some ⟨b, 0, none⟩))) rfl (by kernel_rfl) (by kernel_rfl) (by kernel_rfl) (fun _ _ _ h => h) (Or.inl ⟨by rfl, fun w' h' => ?_⟩) hS ?_
  · clear h'
    go_simp
  simp only [Act.put]
  refine wpAnyH_take (i := 2) (v := (.pointer (some ⟨b, 0, none⟩))) rfl (by kernel_rfl) (by kernel_rfl) (by kernel_rfl) (fun _ _ _ h => h) (Or.inl ⟨by rfl, fun w' h' => ?_⟩) hS ?_
  · clear h'
    go_simp
  simp only [Act.put]
  refine wpAnyH_take (i := 3) (v := (.pointer (some ⟨g, 0, none⟩))) rfl (by kernel_rfl) (by kernel_rfl) (by kernel_rfl) (fun _ _ _ h => h) (Or.inl ⟨by rfl, fun w' h' => ?_⟩) hS ?_
  · have c0 := h'.1.c0
    clear h'
    go_simp
  simp only [Act.put]
  refine wpAnyH_take (i := 4) (v := (.pointer (some ⟨b, 0, none⟩))) rfl (by kernel_rfl) (by kernel_rfl) (by kernel_rfl) (fun _ _ _ h => h) (Or.inl ⟨by rfl, fun w' h' => ?_⟩) hS ?_
  · clear h'
    go_simp
  simp only [Act.put]
  refine wpAnyH_take (i := 5) (v := (.pointer (some ⟨W1.heap.size, 2, none⟩))) rfl (by kernel_rfl) (by kernel_rfl) (by kernel_rfl) (fun _ _ _ h => h) (Or.inl ⟨by rfl, fun w' h' => ?_⟩) hS ?_
  · clear h'
    go_simp
  simp only [Act.put]
  refine wpAnyH_take (i := 6) (v := (.int .i64 xs)) rfl (by kernel_rfl) (by kernel_rfl) (by kernel_rfl) (fun _ _ _ h => h) (Or.inl ⟨by rfl, fun w' h' => ?_⟩) hS ?_
  · have c0 := h'.x2
    clear h'
    go_simp
  simp only [Act.put]
  refine wpAnyH_ready (rs := [7]) (by kernel_rfl) (by simp) ?_
  refine AllReadyH.cons rfl (fun K hK => ?_) AllReadyH.nil
  go_simp
  refine (kat_any V b g base sectors limit q u last now dead hS.1 b0 (by omega) xs s0 (by omega)).mono ?_
  rintro e w4 ⟨rfl, rfl⟩
  go_simp
  refine hK.out _ _ hS (fun _ => ?_)
  clear hK K
  refine wpAnyH_take (i := 8) (v := (.int .i64 (base + 848 + 96 * xs + 80))) rfl (by kernel_rfl) (by kernel_rfl) (by kernel_rfl) (fun _ _ _ h => h) (Or.inl ⟨by rfl, fun w' h' => ?_⟩) hS ?_
  · clear h'
    go_simp
  simp only [Act.put]
  refine wpAnyH_ready (rs := [9]) (by kernel_rfl) (by simp) ?_
  refine AllReadyH.cons rfl (fun K hK => ?_) AllReadyH.nil
  go_simp
  refine (Get_all V g h lm iV.out.mem (by omega) (base + 848 + 96 * xs + 80) 1).mono ?_
  rintro e w4 ⟨rfl, rfl⟩
  rw [show (getX lm (base + 848 + 96 * xs + 80) 1 : Int) = ST from HST.out.symm]
  go_simp
  refine hK.out _ _ hS (fun _ => ?_)
  clear hK K
  refine wpAnyH_take (i := 10) (oi := ⟨some 26, Op.move (Operand.tmp 36), _, _, _, none⟩) (v := (.tuple #[.int .u64 ST, .int .i64 (putE lm (base + 848 + 96 * xs + 80) 1)])) rfl (by kernel_rfl) (by kernel_rfl) (by kernel_rfl) (fun _ _ _ h => h) (Or.inl ⟨by rfl, fun w' h' => ?_⟩) hS ?_
  · clear h'
    go_simp
  simp only [Act.put]
  refine wpAnyH_take (i := 11) (oi := ⟨some 37, Op.extract (Operand.tmp 26) 0, _, _, _, none⟩) (v := (.int .u64 ST)) rfl (by kernel_rfl) (by kernel_rfl) (by kernel_rfl) (fun _ _ _ h => h) (Or.inl ⟨by rfl, fun w' h' => ?_⟩) hS ?_
  · clear h'
    go_simp
  simp only [Act.put]
  refine wpAnyH_take (i := 12) (oi := ⟨some 38, Op.extract (Operand.tmp 26) 1, _, _, _, none⟩) (v := (.int .i64 (putE lm (base + 848 + 96 * xs + 80) 1))) rfl (by kernel_rfl) (by kernel_rfl) (by kernel_rfl) (fun _ _ _ h => h) (Or.inl ⟨by rfl, fun w' h' => ?_⟩) hS ?_
  · clear h'
    go_simp
  simp only [Act.put]
  refine wpAnyH_take (i := 13) (oi := ⟨some 9, Op.assign (Operand.tmp 37), _, _, _, none⟩) (v := (.int .u64 ST)) rfl (by kernel_rfl) (by kernel_rfl) (by kernel_rfl) (fun _ _ _ h => h) (Or.inl ⟨by rfl, fun w' h' => ?_⟩) hS ?_
  · clear h'
    go_simp
  simp only [Act.put]
  refine wpAnyH_take (i := 14) (oi := ⟨some 10, Op.assign (Operand.tmp 38), _, _, _, none⟩) (v := (.int .i64 (putE lm (base + 848 + 96 * xs + 80) 1))) rfl (by kernel_rfl) (by kernel_rfl) (by kernel_rfl) (fun _ _ _ h => h) (Or.inl ⟨by rfl, fun w' h' => ?_⟩) hS ?_
  · clear h'
    go_simp
  simp only [Act.put]
  refine wpAnyH_done (by kernel_rfl) (NoPanic.normal ?_) _
--@4
  have I4 := Lib.hid iV.out
  clear iV hS d I3
  by_cases hs : ST = 0
  · by_cases hk1 : xk = 1
    · by_cases hl : len = 65
      · have HRN : Hid (R = ⟨xi, true, ⟨TX.toArray⟩⟩) := Lib.hid (by rw [HR2.out, if_neg (by rw [hs, hl]; simp), if_pos hk1])
        have ek : (xk == 1) = true := beq_iff_eq.2 hk1
        subst hs hl
        clear hk1
        have e0 := I4.out.x0
        have kd := World.grownBy_alloc V (.cells #[.int .i64 xi, .bool true, .string ⟨#[]⟩] 51) none
        have hdb := heap_alloc_new V (.cells #[.int .i64 xi, .bool true, .string ⟨#[]⟩] 51)
        have i8 := I4.out.grown kd
        have zr := lt_of_block I4.out.rbk
        have zx := lt_of_block I4.out.xbk
        have zb := lt_of_block I4.out.ka
        go_upto_region 9 with fail
        generalize V.alloc _ = W8 at hdb i8 ⊢
        clear kd e0
        have I8 := Lib.hid i8
        have DB := Lib.hid hdb
        clear i8 hdb
        refine wp_region_noPanic ?_
        refine region_held (S := fun w' => AnsS w' b g base sectors limit q u last now dead W1.heap.size ⟨xh, xi, xk, xs, xt⟩) (by kernel_rfl) (fun U dd => ⟨I8.out.ka.kept (dd.block _), (dd.block _).trans I8.out.xbk⟩) (fun U dd hS => ?_)
        have iU := Lib.hid (I8.out.grown dd.grown)
        have dbV := (dd.block V.heap.size).trans DB.out
        refine wpAnyH_take (i := 0) (v := (.pointer (some ⟨b, 0, none⟩))) rfl (by kernel_rfl) (by kernel_rfl) (by kernel_rfl) (fun _ _ _ h => h) (Or.inl ⟨by rfl, fun w' h' => ?_⟩) hS ?_
        · clear h'
          go_simp
        simp only [Act.put]
        refine wpAnyH_take (i := 1) (v := (.pointer (some ⟨b, 0, none⟩))) rfl (by kernel_rfl) (by kernel_rfl) (by kernel_rfl) (fun _ _ _ h => h) (Or.inl ⟨by rfl, fun w' h' => ?_⟩) hS ?_
        · clear h'
          go_simp
        simp only [Act.put]
        refine wpAnyH_take (i := 2) (v := (.pointer (some ⟨b, 0, none⟩))) rfl (by kernel_rfl) (by kernel_rfl) (by kernel_rfl) (fun _ _ _ h => h) (Or.inl ⟨by rfl, fun w' h' => ?_⟩) hS ?_
        · clear h'
          go_simp
        simp only [Act.put]
        refine wpAnyH_take (i := 3) (v := (.pointer (some ⟨g, 0, none⟩))) rfl (by kernel_rfl) (by kernel_rfl) (by kernel_rfl) (fun _ _ _ h => h) (Or.inl ⟨by rfl, fun w' h' => ?_⟩) hS ?_
        · have c0 := h'.1.c0
          clear h'
          go_simp
        simp only [Act.put]
        refine wpAnyH_take (i := 4) (v := (.pointer (some ⟨b, 0, none⟩))) rfl (by kernel_rfl) (by kernel_rfl) (by kernel_rfl) (fun _ _ _ h => h) (Or.inl ⟨by rfl, fun w' h' => ?_⟩) hS ?_
        · clear h'
          go_simp
        simp only [Act.put]
        refine wpAnyH_take (i := 5) (v := (.pointer (some ⟨W1.heap.size, 2, none⟩))) rfl (by kernel_rfl) (by kernel_rfl) (by kernel_rfl) (fun _ _ _ h => h) (Or.inl ⟨by rfl, fun w' h' => ?_⟩) hS ?_
        · clear h'
          go_simp
        simp only [Act.put]
        refine wpAnyH_take (i := 6) (v := (.int .i64 xs)) rfl (by kernel_rfl) (by kernel_rfl) (by kernel_rfl) (fun _ _ _ h => h) (Or.inl ⟨by rfl, fun w' h' => ?_⟩) hS ?_
        · have c0 := h'.x2
          clear h'
          go_simp
        simp only [Act.put]
        refine wpAnyH_ready (rs := [7]) (by kernel_rfl) (by simp) ?_
        refine AllReadyH.cons rfl (fun K hK => ?_) AllReadyH.nil
        go_simp
        refine (kat_any U b g base sectors limit q u last now dead hS.1 b0 (by omega) xs s0 (by omega)).mono ?_
        rintro e w4 ⟨rfl, rfl⟩
        go_simp
        refine hK.out _ _ hS (fun _ => ?_)
        clear hK K
        refine wpAnyH_take (i := 8) (v := (.int .i64 (base + 848 + 96 * xs + 16))) rfl (by kernel_rfl) (by kernel_rfl) (by kernel_rfl) (fun _ _ _ h => h) (Or.inl ⟨by rfl, fun w' h' => ?_⟩) hS ?_
        · clear h'
          go_simp
        simp only [Act.put]
        refine wpAnyH_ready (rs := [9]) (by kernel_rfl) (by simp) ?_
        refine AllReadyH.cons rfl (fun K hK => ?_) AllReadyH.nil
        go_simp
        refine (Text_all U g h lm iU.out.mem (by omega) (base + 848 + 96 * xs + 16) 64 (by omega)).mono ?_
        rintro e w4 ⟨rfl, rfl⟩
        rw [← HTX.out]
        go_simp
        refine hK.out _ _ hS (fun _ => ?_)
        clear hK K
        refine wpAnyH_take (i := 10) (oi := ⟨some 55, Op.move (Operand.tmp 65), _, _, _, none⟩) (v := (.tuple #[.string ⟨TX.toArray⟩, .int .i64 (textE lm (base + 848 + 96 * xs + 16) 64)])) rfl (by kernel_rfl) (by kernel_rfl) (by kernel_rfl) (fun _ _ _ h => h) (Or.inl ⟨by rfl, fun w' h' => ?_⟩) hS ?_
        · clear h'
          go_simp
        simp only [Act.put]
        refine wpAnyH_take (i := 11) (oi := ⟨some 66, Op.extract (Operand.tmp 55) 0, _, _, _, none⟩) (v := (.string ⟨TX.toArray⟩)) rfl (by kernel_rfl) (by kernel_rfl) (by kernel_rfl) (fun _ _ _ h => h) (Or.inl ⟨by rfl, fun w' h' => ?_⟩) hS ?_
        · clear h'
          go_simp
        simp only [Act.put]
        refine wpAnyH_take (i := 12) (oi := ⟨some 67, Op.extract (Operand.tmp 55) 1, _, _, _, none⟩) (v := (.int .i64 (textE lm (base + 848 + 96 * xs + 16) 64))) rfl (by kernel_rfl) (by kernel_rfl) (by kernel_rfl) (fun _ _ _ h => h) (Or.inl ⟨by rfl, fun w' h' => ?_⟩) hS ?_
        · clear h'
          go_simp
        simp only [Act.put]
        refine wpAnyH_take (i := 13) (oi := ⟨some 68, Op.fieldAddr 51 (Operand.tmp 11) 2, _, _, _, none⟩) (v := (.pointer (some ⟨V.heap.size, 2, none⟩))) rfl (by kernel_rfl) (by kernel_rfl) (by kernel_rfl) (fun _ _ _ h => h) (Or.inl ⟨by rfl, fun w' h' => ?_⟩) hS ?_
        · clear h'
          go_simp
        simp only [Act.put]
        have dbU := dbV
        have f2 := frozen_of_block (i := 2) dbU
        have d2 : U.cell? ⟨V.heap.size, 2, none⟩ = some (.string ⟨#[]⟩) := cell_of_block dbU
        have ks := grown_setCell U V.heap.size 2 (.string ⟨TX.toArray⟩)
        have jE : AnsS (U.setCell ⟨V.heap.size, 2, none⟩ (.string ⟨TX.toArray⟩)) b g base sectors limit q u last now dead W1.heap.size ⟨xh, xi, xk, xs, xt⟩ := hS.kept (ks.block _ (lt_of_block hS.1) (fun e => by injection e with e; omega)) (ks.block _ (lt_of_block hS.2) (fun e => by injection e with e; omega))
        clear ks
        refine wpAnyH_ready (rs := [14]) (by kernel_rfl) (by simp) ?_
        refine AllReadyH.cons rfl (fun K hK => ?_) AllReadyH.nil
        go_simp
        refine hK.out _ _ jE (fun _ => ?_)
        clear hK K
        refine wpAnyH_done (by kernel_rfl) (NoPanic.normal ?_) _
        have b8 := set_block dbV 2 (.string ⟨TX.toArray⟩)
        have i9 : AnsI w (U.setCell ⟨V.heap.size, 2, none⟩ (.string ⟨TX.toArray⟩)) b g h base sectors limit q u last now dead lm W1.heap.size ⟨xh, xi, xk, xs, xt⟩ ((os.filter fun y => y.hd != xh).map Snt.ent) := iU.out.aside (grown_setCell U V.heap.size 2 (.string ⟨TX.toArray⟩)) (by have := iU.out.b0; omega) (by omega) (by omega) (by omega) (by omega) (by have := HU.out; omega)
        clear d2 f2 jE hS dd I8 DB dbV iU
        generalize U.setCell _ _ = W9 at b8 i9 ⊢
        have I9 := Lib.hid i9
        clear i9
        have j0 : W9.cell? ⟨V.heap.size, 0, none⟩ = some (.int .i64 xi) := cell_of_block b8
        have j1 : W9.cell? ⟨V.heap.size, 1, none⟩ = some (.bool true) := cell_of_block b8
        have j2 : W9.cell? ⟨V.heap.size, 2, none⟩ = some (.string ⟨TX.toArray⟩) := cell_of_block b8
        clear b8
        have rb := I9.out.rbk
        have f0 := frozen_of_block (i := 0) rb
        have f1 := frozen_of_block (i := 1) rb
        have f2 := frozen_of_block (i := 2) rb
        have d0 : W9.cell? ⟨w.heap.size, 0, none⟩ = some (.int .i64 0) := cell_of_block rb
        have d1 : W9.cell? ⟨w.heap.size, 1, none⟩ = some (.bool false) := cell_of_block rb
        have d2 : W9.cell? ⟨w.heap.size, 2, none⟩ = some (.string ⟨#[]⟩) := cell_of_block rb
        have b9 := three_block rb (.int .i64 xi) (.bool true) (.string ⟨TX.toArray⟩)
        have q0 : (((W9.setCell ⟨w.heap.size, 0, none⟩ (.int .i64 xi)).setCell ⟨w.heap.size, 1, none⟩ (.bool true)).setCell ⟨w.heap.size, 2, none⟩ (.string ⟨TX.toArray⟩)).cell? ⟨w.heap.size, 0, none⟩ = some (.int .i64 xi) := cell_of_block b9
        have q1 : (((W9.setCell ⟨w.heap.size, 0, none⟩ (.int .i64 xi)).setCell ⟨w.heap.size, 1, none⟩ (.bool true)).setCell ⟨w.heap.size, 2, none⟩ (.string ⟨TX.toArray⟩)).cell? ⟨w.heap.size, 1, none⟩ = some (.bool true) := cell_of_block b9
        have q2 : (((W9.setCell ⟨w.heap.size, 0, none⟩ (.int .i64 xi)).setCell ⟨w.heap.size, 1, none⟩ (.bool true)).setCell ⟨w.heap.size, 2, none⟩ (.string ⟨TX.toArray⟩)).cell? ⟨w.heap.size, 2, none⟩ = some (.string ⟨TX.toArray⟩) := cell_of_block b9
        have Q0 := Lib.hid q0
        have Q1 := Lib.hid q1
        have Q2 := Lib.hid q2
        clear rb b9 q0 q1 q2
        go_wp2_with fail
        have q0 := Q0.out
        have q1 := Q1.out
        have q2 := Q2.out
        exact bodyPost_ret (v := .agg #[.int .i64 xi, .bool true, .string ⟨TX.toArray⟩]) (by simp [results, Tryz.results71, go_sem, q0, q1, q2]) rfl ⟨by rw [show R = ⟨xi, true, ⟨TX.toArray⟩⟩ from HRN.out]; rfl, I9.out.out HU.out _ _ _⟩
      · have HRN : Hid (R = ⟨xi, false, ⟨#[]⟩⟩) := Lib.hid (by rw [HR2.out, if_pos (.inr ⟨hk1, hl⟩)])
        have el : (len != 65) = true := by simpa using hl
        have ek : (xk == 1) = true := beq_iff_eq.2 hk1
        subst hs
        clear hl hk1
        have e0 := I4.out.x0
        have rb := I4.out.rbk
        have f0 := frozen_of_block (i := 0) rb
        have f1 := frozen_of_block (i := 1) rb
        have f2 := frozen_of_block (i := 2) rb
        have d0 : V.cell? ⟨w.heap.size, 0, none⟩ = some (.int .i64 0) := cell_of_block rb
        have d1 : V.cell? ⟨w.heap.size, 1, none⟩ = some (.bool false) := cell_of_block rb
        have d2 : V.cell? ⟨w.heap.size, 2, none⟩ = some (.string ⟨#[]⟩) := cell_of_block rb
        have b9 := three_block rb (.int .i64 xi) (.bool false) (.string ⟨#[]⟩)
        have q0 : (((V.setCell ⟨w.heap.size, 0, none⟩ (.int .i64 xi)).setCell ⟨w.heap.size, 1, none⟩ (.bool false)).setCell ⟨w.heap.size, 2, none⟩ (.string ⟨#[]⟩)).cell? ⟨w.heap.size, 0, none⟩ = some (.int .i64 xi) := cell_of_block b9
        have q1 : (((V.setCell ⟨w.heap.size, 0, none⟩ (.int .i64 xi)).setCell ⟨w.heap.size, 1, none⟩ (.bool false)).setCell ⟨w.heap.size, 2, none⟩ (.string ⟨#[]⟩)).cell? ⟨w.heap.size, 1, none⟩ = some (.bool false) := cell_of_block b9
        have q2 : (((V.setCell ⟨w.heap.size, 0, none⟩ (.int .i64 xi)).setCell ⟨w.heap.size, 1, none⟩ (.bool false)).setCell ⟨w.heap.size, 2, none⟩ (.string ⟨#[]⟩)).cell? ⟨w.heap.size, 2, none⟩ = some (.string ⟨#[]⟩) := cell_of_block b9
        have Q0 := Lib.hid q0
        have Q1 := Lib.hid q1
        have Q2 := Lib.hid q2
        clear rb b9 q0 q1 q2
        go_wp2_with fail
        have q0 := Q0.out
        have q1 := Q1.out
        have q2 := Q2.out
        exact bodyPost_ret (v := .agg #[.int .i64 xi, .bool false, .string ⟨#[]⟩]) (by simp [results, Tryz.results71, go_sem, q0, q1, q2]) rfl ⟨by rw [show R = ⟨xi, false, ⟨#[]⟩⟩ from HRN.out]; rfl, I4.out.out HU.out _ _ _⟩
    · have HRN : Hid (R = ⟨xi, true, ⟨#[]⟩⟩) := Lib.hid (by rw [HR2.out, if_neg (by rw [hs]; simp [hk1]), if_neg hk1])
      have ek : (xk == 1) = false := beq_eq_false_iff_ne.2 hk1
      subst hs
      clear hk1
      have e0 := I4.out.x0
      have kd := World.grownBy_alloc V (.cells #[.int .i64 xi, .bool true, .string ⟨#[]⟩] 51) none
      have hdb := heap_alloc_new V (.cells #[.int .i64 xi, .bool true, .string ⟨#[]⟩] 51)
      have i8 := I4.out.grown kd
      have zr := lt_of_block I4.out.rbk
      have zx := lt_of_block I4.out.xbk
      have zb := lt_of_block I4.out.ka
      go_upto_region 10 with fail
      generalize V.alloc _ = W8 at hdb i8 ⊢
      clear kd e0
      have I8 := Lib.hid i8
      clear i8
      have j0 : W8.cell? ⟨V.heap.size, 0, none⟩ = some (.int .i64 xi) := cell_of_block hdb
      have j1 : W8.cell? ⟨V.heap.size, 1, none⟩ = some (.bool true) := cell_of_block hdb
      have j2 : W8.cell? ⟨V.heap.size, 2, none⟩ = some (.string ⟨#[]⟩) := cell_of_block hdb
      clear hdb
      have rb := I8.out.rbk
      have f0 := frozen_of_block (i := 0) rb
      have f1 := frozen_of_block (i := 1) rb
      have f2 := frozen_of_block (i := 2) rb
      have d0 : W8.cell? ⟨w.heap.size, 0, none⟩ = some (.int .i64 0) := cell_of_block rb
      have d1 : W8.cell? ⟨w.heap.size, 1, none⟩ = some (.bool false) := cell_of_block rb
      have d2 : W8.cell? ⟨w.heap.size, 2, none⟩ = some (.string ⟨#[]⟩) := cell_of_block rb
      have b9 := three_block rb (.int .i64 xi) (.bool true) (.string ⟨#[]⟩)
      have q0 : (((W8.setCell ⟨w.heap.size, 0, none⟩ (.int .i64 xi)).setCell ⟨w.heap.size, 1, none⟩ (.bool true)).setCell ⟨w.heap.size, 2, none⟩ (.string ⟨#[]⟩)).cell? ⟨w.heap.size, 0, none⟩ = some (.int .i64 xi) := cell_of_block b9
      have q1 : (((W8.setCell ⟨w.heap.size, 0, none⟩ (.int .i64 xi)).setCell ⟨w.heap.size, 1, none⟩ (.bool true)).setCell ⟨w.heap.size, 2, none⟩ (.string ⟨#[]⟩)).cell? ⟨w.heap.size, 1, none⟩ = some (.bool true) := cell_of_block b9
      have q2 : (((W8.setCell ⟨w.heap.size, 0, none⟩ (.int .i64 xi)).setCell ⟨w.heap.size, 1, none⟩ (.bool true)).setCell ⟨w.heap.size, 2, none⟩ (.string ⟨#[]⟩)).cell? ⟨w.heap.size, 2, none⟩ = some (.string ⟨#[]⟩) := cell_of_block b9
      have Q0 := Lib.hid q0
      have Q1 := Lib.hid q1
      have Q2 := Lib.hid q2
      clear rb b9 q0 q1 q2
      go_wp2_with fail
      have q0 := Q0.out
      have q1 := Q1.out
      have q2 := Q2.out
      exact bodyPost_ret (v := .agg #[.int .i64 xi, .bool true, .string ⟨#[]⟩]) (by simp [results, Tryz.results71, go_sem, q0, q1, q2]) rfl ⟨by rw [show R = ⟨xi, true, ⟨#[]⟩⟩ from HRN.out]; rfl, I8.out.out HU.out _ _ _⟩
  · have HRN : Hid (R = ⟨xi, false, ⟨#[]⟩⟩) := Lib.hid (by rw [HR2.out, if_pos (.inl hs)])
    have es : (ST != 0) = true := by simpa using hs
    clear hs
    have e0 := I4.out.x0
    have rb := I4.out.rbk
    have f0 := frozen_of_block (i := 0) rb
    have f1 := frozen_of_block (i := 1) rb
    have f2 := frozen_of_block (i := 2) rb
    have d0 : V.cell? ⟨w.heap.size, 0, none⟩ = some (.int .i64 0) := cell_of_block rb
    have d1 : V.cell? ⟨w.heap.size, 1, none⟩ = some (.bool false) := cell_of_block rb
    have d2 : V.cell? ⟨w.heap.size, 2, none⟩ = some (.string ⟨#[]⟩) := cell_of_block rb
    have b9 := three_block rb (.int .i64 xi) (.bool false) (.string ⟨#[]⟩)
    have q0 : (((V.setCell ⟨w.heap.size, 0, none⟩ (.int .i64 xi)).setCell ⟨w.heap.size, 1, none⟩ (.bool false)).setCell ⟨w.heap.size, 2, none⟩ (.string ⟨#[]⟩)).cell? ⟨w.heap.size, 0, none⟩ = some (.int .i64 xi) := cell_of_block b9
    have q1 : (((V.setCell ⟨w.heap.size, 0, none⟩ (.int .i64 xi)).setCell ⟨w.heap.size, 1, none⟩ (.bool false)).setCell ⟨w.heap.size, 2, none⟩ (.string ⟨#[]⟩)).cell? ⟨w.heap.size, 1, none⟩ = some (.bool false) := cell_of_block b9
    have q2 : (((V.setCell ⟨w.heap.size, 0, none⟩ (.int .i64 xi)).setCell ⟨w.heap.size, 1, none⟩ (.bool false)).setCell ⟨w.heap.size, 2, none⟩ (.string ⟨#[]⟩)).cell? ⟨w.heap.size, 2, none⟩ = some (.string ⟨#[]⟩) := cell_of_block b9
    have Q0 := Lib.hid q0
    have Q1 := Lib.hid q1
    have Q2 := Lib.hid q2
    clear rb b9 q0 q1 q2
    go_wp2_with fail
    have q0 := Q0.out
    have q1 := Q1.out
    have q2 := Q2.out
    exact bodyPost_ret (v := .agg #[.int .i64 xi, .bool false, .string ⟨#[]⟩]) (by simp [results, Tryz.results71, go_sem, q0, q1, q2]) rfl ⟨by rw [show R = ⟨xi, false, ⟨#[]⟩⟩ from HRN.out]; rfl, I4.out.out HU.out _ _ _⟩

end Go.Proofs.YtdchlnffbiooaaaGreatDoor

namespace Go.Proofs.YtdchlnffbiooaaaGreatDoor
open Go.RowKit Go.Sort

/-- A row of answers of one's own, in a block from B on. -/
def dnCells (x : Dn) : List Value := [.int .i64 x.id, .bool x.ok, .string x.data]
def OwnDns (B : Nat) (w : World) (v : Value) (l : List Dn) : Prop := w.ownsRow B 51 3 v l.length (l.flatMap dnCells) ∧ l.length ≤ 100
theorem dns_one (l : List Dn) : ∀ u ∈ l.flatMap dnCells, u.oneCell' = true := by
  intro u hu
  obtain ⟨x, _, hx⟩ := List.mem_flatMap.1 hu
  simp [dnCells] at hx
  rcases hx with rfl | rfl | rfl <;> rfl
theorem OwnDns.zero {B : Nat} (w : World) (hB : B ≤ w.heap.size) : OwnDns B (w.alloc (.cells #[] 51)) (.slice (some ⟨w.heap.size, 0, none⟩) 0 0) [] :=
  ⟨⟨rfl, .inr ⟨w.heap.size, 0, #[], rfl, hB, heap_alloc_new w _, Nat.le_refl _, Nat.zero_le _, rfl, rfl⟩⟩, by simp⟩
theorem OwnDns.grown {B : Nat} {w w' : World} {v : Value} {l : List Dn} (h : OwnDns B w v l) (k : w.grownBy w' none) : OwnDns B w' v l := ⟨h.1.kept k (by
  by_cases hn : v.ownBlock = none
  · exact .inl hn
  · exact .inr hn), h.2⟩
/-- 'append(v, x)'. -/
theorem OwnDns.push {B : Nat} {w : World} {v : Value} {l : List Dn} (h : OwnDns B w v l) (hB : B ≤ w.heap.size) (x : Dn) (hl : l.length + 1 ≤ 100) :
    ∃ v' w', (Builtin.append_ #[48, 48] 48 #[v, .slice (some ⟨w.heap.size, 0, none⟩) 1 1]).run Tryz.prog (w.alloc (.cells #[.int .i64 x.id, .bool x.ok, .string x.data] 51)) = .ok v' w' ∧ OwnDns B w' v' (l ++ [x]) ∧ w.grownBy w' v.ownBlock := by
  have ka := World.grownBy_alloc w (.cells #[.int .i64 x.id, .bool x.ok, .string x.data] 51) none
  obtain ⟨i0, hi⟩ : ∃ j, Tryz.prog.info? 51 = some j := Option.isSome_iff_exists.1 (by kernel_rfl)
  have hz : (Tryz.prog.info? 51).bind (·.zero) = some (.agg #[.int .i64 0, .bool false, .string ⟨#[]⟩]) := by kernel_rfl
  have hs : (Tryz.prog.info? 51).map (·.size) = some 3 := by kernel_rfl
  have hb : (Tryz.prog.info? 51).map (·.bytes) = some 32 := by kernel_rfl
  rw [hi] at hz hs hb
  simp only [Option.bind_some, Option.map_some, Option.some.injEq] at hz hs hb
  obtain ⟨v', w', h1, h2, h3, _⟩ := run_append_own (P := Tryz.prog) (w.alloc (.cells #[.int .i64 x.id, .bool x.ok, .string x.data] 51)) B 48 48 51 i0 (.agg #[.int .i64 0, .bool false, .string ⟨#[]⟩]) 3 32 Tryz.underlying48 hi hz hs hb rfl (by decide) v l.length (l.flatMap dnCells) (h.grown ka).1
    ⟨w.heap.size, 0, none⟩ 1 1 (dnCells x) rfl (fun j u hu => by
      rw [Addr.add_mid, Nat.zero_add, cell_of_block (heap_alloc_new w _)]
      simpa [dnCells] using hu) (by simpa using dns_one [x]) (by unfold maxLen; omega) (by omega) (by have := ka.size; omega)
  refine ⟨v', w', h1, ⟨by rw [List.length_append, List.flatMap_append]; simpa using h2, by simpa using hl⟩, ⟨h3.os.trans ka.os, h3.tape.trans ka.tape, h3.output.trans ka.output, Nat.le_trans ka.size h3.size, fun j hj hn => (h3.block j (Nat.lt_of_lt_of_le hj ka.size) hn).trans (ka.block j hj (by simp))⟩⟩

/-- What comes of all that has come back: the answers; what is out behind it; where the driver stands; has the queue broken? -/
inductive Told (lm : List UInt8) (base : Int) : List Snt → List Oc → Int → List Dn → List Snt → List Oc → Int → Bool → Prop
  | stop (os : List Snt) (cs : List Oc) (back : Int) (h : usedI lm base 32 = back) : Told lm base os cs back [] os cs back false
  | brk (os : List Snt) (cs : List Oc) (back : Int) (h : usedI lm base 32 ≠ back) (hb : (cs.length : Int) < (usedI lm base 32 - back) % 65536 ∨ (∀ x ∈ cs, x.c.head ≠ usedNum lm base 32 back) ∨ (∃ x ∈ cs, x.c.head = usedNum lm base 32 back ∧ x.c.most < usedLen lm base 32 back)) : Told lm base os cs back [] os cs back true
  | step (os : List Snt) (cs : List Oc) (back : Int) (x : Oc) (hx : x ∈ cs) (y : Snt) (hy : y ∈ os) (h : usedI lm base 32 ≠ back) (hc : (usedI lm base 32 - back) % 65536 ≤ cs.length) (hk : x.c.head = usedNum lm base 32 back) (hyk : y.hd = usedNum lm base 32 back) (hl : usedLen lm base 32 back ≤ x.c.most)
      (l : List Dn) (os' : List Snt) (cs' : List Oc) (back' : Int) (d : Bool) (r : Told lm base (os.filter fun z => z.hd != usedNum lm base 32 back) (cs.filter fun z => z.c.head != usedNum lm base 32 back) ((back + 1) % 65536) l os' cs' back' d) :
      Told lm base os cs back (ansF lm base y (usedLen lm base 32 back) :: l) os' cs' back' d

section
variable {w w1 w2 : World} {b g h q u mb : Nat} {lm : List UInt8} {base sectors limit : Int} {os : List Snt} {cs : List Oc} {off back : Int} {broken : Bool} {last now : Int} {dead : Bool}
/-- Pop, and the answer. -/
theorem KS.gone (s : KS w b g h q u mb lm base sectors limit os cs off back broken last now dead) (k back' : Int) (qs : QS w1 q g h lm base 32 mb (cs.filter fun z => z.c.head != k) off back' broken) (t : Turned (QB q h mb) w w1)
    (tab : IsTab w2 u ((os.filter fun z => z.hd != k).map Snt.ent)) (t2 : Turned (fun j => j = u) w1 w2) :
    KS w2 b g h q u mb lm base sectors limit (os.filter fun z => z.hd != k) (cs.filter fun z => z.c.head != k) off back' broken last now dead := by
  have k1 := s.kat.turned s.qs t
  have u1 := tab_turned s.tab s.qs s.une t
  obtain ⟨e1, e2, e3, e4⟩ : u ≠ b ∧ u ≠ g ∧ u ≠ h ∧ u ≠ q := s.ub
  have keep : ∀ x, x < w1.heap.size → x ≠ u → w2.heap[x]? = w1.heap[x]? := fun x hx hn => t2.block x hx hn
  have m : Mem w2 g h lm := ⟨(keep _ qs.mem.lt1 (fun e => e2 e.symm)).trans qs.mem.1, (keep _ qs.mem.lt2 (fun e => e3 e.symm)).trans qs.mem.2⟩
  have q2 : QS w2 q g h lm base 32 mb (cs.filter fun z => z.c.head != k) off back' broken := by
    refine { qs with mem := m, at_ := qs.at_.kept (keep _ qs.lts.1 (fun e => e4 e.symm)), tab := qs.tab.kept (keep _ qs.lts.2.2.2 (fun e => s.une e.symm)), nums := fun x hx => ?_ }
    obtain ⟨a1, a2, a3⟩ := qs.nums x hx
    refine ⟨a1, fun i hi => ?_, a3⟩
    have hc := a2 i hi
    by_cases hb : x.blk = u
    · exfalso
      rw [hb] at hc
      obtain ⟨es, clock, h0, _⟩ := u1
      simp [World.cell?, h0] at hc
    · rw [World.cell?_of_block (w := w1) (a := ⟨x.blk, i, none⟩) (keep _ (World.block_lt_of_cell? w1 _ hc) hb)]
      exact hc
  refine ⟨k1.kept (keep _ (lt_of_block k1) (fun e => e1 e.symm)), q2, tab, s.une, ?_, ?_, fun x hx => s.bds x (List.mem_filter.1 hx).1, ?_, Nat.le_trans (List.length_filter_le _ _) s.few, fun x hx => s.three x (List.mem_filter.1 hx).1, s.brk, s.b1, s.last0, s.now0⟩
  · have h1 : ((os.map Snt.hd).filter fun z => z != k) = (os.filter fun z => z.hd != k).map Snt.hd := by rw [List.filter_map]; rfl
    have h2 : ((cs.map fun x => x.c.head).filter fun z => z != k) = (cs.filter fun z => z.c.head != k).map fun x => x.c.head := by rw [List.filter_map]; rfl
    rw [← h1, ← h2, s.hds]
  · exact List.Sublist.nodup (List.Sublist.map _ List.filter_sublist) s.slots
  · exact List.Pairwise.sublist (List.Sublist.map _ List.filter_sublist) s.ids
/-- The queue has broken, and the driver is dead. -/
theorem KS.dies (s : KS w b g h q u mb lm base sectors limit os cs off back false last now false) (qs : QS w1 q g h lm base 32 mb cs off back true) (t : Turned (QB q h mb) w w1) :
    KS (w1.setCell ⟨b, 8, none⟩ (.bool true)) b g h q u mb lm base sectors limit os cs off back true last now true := by
  have k1 := s.kat.turned s.qs t
  have u1 := tab_turned s.tab s.qs s.une t
  have ks := grown_setCell w1 b 8 (.bool true)
  exact ⟨set_block k1 8 (.bool true), qs.keepC ks k1.c0 s.bg s.bh s.bq s.bmb, u1.kept (ks.block _ u1.lt (fun e => s.ub.1 (by injection e))), s.une, s.hds, s.slots, s.bds, s.ids, s.few, s.three, fun _ => rfl, s.b1, s.last0, s.now0⟩
end

theorem OwnDns.turned {B : Nat} {w w' : World} {v : Value} {l : List Dn} (h : OwnDns B w v l) {S : Nat → Prop} (t : Turned S w w') (hS : ∀ k, S k → k < B) : OwnDns B w' v l := by
  refine ⟨⟨h.1.1, ?_⟩, h.2⟩
  rcases h.1.2 with ⟨rfl, h0⟩ | ⟨g, cap, cur, rfl, hg, hb, r⟩
  · exact .inl ⟨rfl, h0⟩
  · exact .inr ⟨g, cap, cur, rfl, hg, (t.block g (lt_of_block hb) (fun hs => by have := hS g hs; omega)).trans hb, r⟩
/-- A block from B on is written: the driver stays, all of whose blocks lie ahead of B. -/
theorem KS.far {w w' : World} {b g h q u mb : Nat} {lm : List UInt8} {base sectors limit : Int} {os : List Snt} {cs : List Oc} {off back : Int} {broken : Bool} {last now : Int} {dead : Bool} (s : KS w b g h q u mb lm base sectors limit os cs off back broken last now dead) {r : Option Nat} (k : w.grownBy w' r) {B : Nat} (hr : ∀ j, r = some j → B ≤ j)
    (hb : b < B ∧ g < B ∧ h < B ∧ q < B ∧ u < B ∧ mb < B) (hx : ∀ x ∈ cs, x.blk < B) : KS w' b g h q u mb lm base sectors limit os cs off back broken last now dead := by
  have keep : ∀ x, x < w.heap.size → x < B → w'.heap[x]? = w.heap[x]? := fun x hx hn => k.block x hx (fun e => by have := hr x e.symm; omega)
  obtain ⟨h1, h2, h3, h4, h5, h6⟩ := hb
  have m : Mem w' g h lm := ⟨(keep _ s.qs.mem.lt1 h2).trans s.qs.mem.1, (keep _ s.qs.mem.lt2 h3).trans s.qs.mem.2⟩
  refine { s with kat := s.kat.kept (keep _ (lt_of_block s.kat) h1), tab := s.tab.kept (keep _ s.tab.lt h5), qs := { s.qs with mem := m, at_ := s.qs.at_.kept (keep _ s.qs.lts.1 h4), tab := s.qs.tab.kept (keep _ s.qs.lts.2.2.2 h6), nums := fun x hx' => ?_ } }
  obtain ⟨a1, a2, a3⟩ := s.qs.nums x hx'
  refine ⟨a1, fun i hi => ?_, a3⟩
  have hc := a2 i hi
  rw [World.cell?_of_block (w := w) (a := ⟨x.blk, i, none⟩) (keep _ (World.block_lt_of_cell? w _ hc) (hx x hx'))]
  exact hc
theorem KS.blk {w : World} {b g h q u mb : Nat} {lm : List UInt8} {base sectors limit : Int} {os : List Snt} {cs : List Oc} {off back : Int} {broken : Bool} {last now : Int} {dead : Bool} (s : KS w b g h q u mb lm base sectors limit os cs off back broken last now dead) : ∀ x ∈ cs, x.blk < w.heap.size := fun x hx => by
  obtain ⟨_, a2, _⟩ := s.qs.nums x hx
  have hm := s.qs.heads x hx
  have hp : 0 < x.c.of.length := List.length_pos_of_mem hm
  exact World.block_lt_of_cell? w _ (a2 0 hp)
theorem KS.lts {w : World} {b g h q u mb : Nat} {lm : List UInt8} {base sectors limit : Int} {os : List Snt} {cs : List Oc} {off back : Int} {broken : Bool} {last now : Int} {dead : Bool} (s : KS w b g h q u mb lm base sectors limit os cs off back broken last now dead) : b < w.heap.size ∧ g < w.heap.size ∧ h < w.heap.size ∧ q < w.heap.size ∧ u < w.heap.size ∧ mb < w.heap.size := ⟨lt_of_block s.kat, s.qs.mem.lt1, s.qs.mem.lt2, s.qs.lts.1, s.tab.lt, s.qs.lts.2.2.2⟩

/-- How many entries a map has; whether a flag is down. -/
def tabSize (w : World) (u : Nat) : Nat := match w.heap[u]? with
  | some (.map es _) => es.size
  | _ => 0
def flagDown (w : World) (b : Nat) : Nat := match w.cell? ⟨b, 8, none⟩ with
  | some (.bool false) => 1
  | _ => 0
theorem tabSize_is {w : World} {u : Nat} {cs : List (Int × Value)} (h : IsTab w u cs) : tabSize w u = cs.length := by
  obtain ⟨es, clock, h1, F⟩ := h
  unfold tabSize
  rw [h1]
  exact F.length

theorem strike_one {w : World} {b g h q u mb : Nat} {lm : List UInt8} {base sectors limit : Int} {os : List Snt} {cs : List Oc} {off back : Int} {broken : Bool} {last now : Int} {dead : Bool} (s : KS w b g h q u mb lm base sectors limit os cs off back broken last now dead) (K : Int) (h1 : ∃ y ∈ os, y.hd = K) :
    os.length = (os.filter fun z => z.hd != K).length + 1 := by
  have hn : (os.map Snt.hd).Nodup := by rw [s.hds]; exact heads_nodup s.qs
  clear s
  obtain ⟨y, hy, hyk⟩ := h1
  induction os with
  | nil => cases hy
  | cons a os ih =>
    rw [List.map_cons, List.nodup_cons] at hn
    by_cases ha : a.hd = K
    · have h2 : (os.filter fun z => z.hd != K) = os := List.filter_eq_self.2 (fun z hz => by
        have : z.hd ≠ K := fun e => hn.1 (List.mem_map.2 ⟨z, hz, by rw [e, ha]⟩)
        simpa using this)
      rw [List.filter_cons_of_neg (by simp [ha]), h2, List.length_cons]
    · rw [List.filter_cons_of_pos (by simpa using ha), List.length_cons, List.length_cons]
      rcases List.mem_cons.1 hy with rfl | hy
      · exact absurd hyk ha
      · rw [ih hn.2 hy]

/-- What told comes to. -/
def ToldPost (w : World) (b g h q u mb : Nat) (lm : List UInt8) (base sectors limit : Int) (os : List Snt) (cs : List Oc) (off back last now : Int) (e : Ending) (w' : World) : Prop :=
  ∃ (v : Value) (l : List Dn) (os' : List Snt) (cs' : List Oc) (back' : Int) (d : Bool), e = .returned v ∧ OwnDns w.heap.size w' v l ∧ Told lm base os cs back l os' cs' back' d ∧ KS w' b g h q u mb lm base sectors limit os' cs' off back' d last now d ∧ Turned (KB b q h mb u) w w'
/-- .. so far. -/
structure ToldI (w0 w : World) (b g h q u mb : Nat) (lm : List UInt8) (base sectors limit : Int) (os : List Snt) (cs : List Oc) (off back last now : Int) (v : Value) (acc : List Dn) (os' : List Snt) (cs' : List Oc) (back' : Int) (d : Bool) : Prop where
  ks : KS w b g h q u mb lm base sectors limit os' cs' off back' d last now d
  own : OwnDns w0.heap.size w v acc
  told : ∀ l os'' cs'' back'' d', (if d = true then l = [] ∧ os'' = os' ∧ cs'' = cs' ∧ back'' = back' ∧ d' = true else Told lm base os' cs' back' l os'' cs'' back'' d') → Told lm base os cs back (acc ++ l) os'' cs'' back'' d'
  few : acc.length + os'.length ≤ 8
  tu : Turned (KB b q h mb u) w0 w
  size : w0.heap.size ≤ w.heap.size
  blks : ∀ x ∈ cs', x.blk < w0.heap.size

set_option maxRecDepth 100000 in
set_option maxHeartbeats 4000000 in
theorem told_any (w : World) (b g h q u mb : Nat) (lm : List UInt8) (base sectors limit : Int) (os : List Snt) (cs : List Oc) (off back last now : Int) (s : KS w b g h q u mb lm base sectors limit os cs off back false last now false) :
    Calls Tryz.prog 34 #[.pointer (some ⟨b, 0, none⟩)] w (ToldPost w b g h q u mb lm base sectors limit os cs off back last now) := by
  have ka := World.grownBy_alloc w (.cells #[] 51) none
  have HLT := Lib.hid s.lts
  have i1 : ToldI w (w.alloc (.cells #[] 51)) b g h q u mb lm base sectors limit os cs off back last now (.slice (some ⟨w.heap.size, 0, none⟩) 0 0) [] os cs back false :=
    ⟨s.grown ka, OwnDns.zero w (Nat.le_refl _), fun l _ _ _ _ hl => by simpa using hl, by simpa using s.few, Turned.of ka (fun j e => by cases e), ka.size, s.blk⟩
  have HKB : Hid (∀ k, KB b q h mb u k → k < w.heap.size) := Lib.hid (fun k hk => by
    obtain ⟨h1, h2, h3, h4, h5, h6⟩ := HLT.out
    rcases hk with e | e | e | e | e <;> omega)
  clear s ka
  go_enter Tryz.func34, Tryz.ntmps34
  go_wp2_with fail
  generalize w.alloc _ = W1 at i1 ⊢
  go_loopw [3] (fun v wr => ∃ (acc : List Dn) (os' : List Snt) (cs' : List Oc) (back' : Int) (d : Bool), ToldI w wr b g h q u mb lm base sectors limit os cs off back last now v acc os' cs' back' d) (fun _ wr => tabSize wr u + flagDown wr b)
  case atStart => exact ⟨[], os, cs, back, false, i1⟩
  case round =>
    clear i1
    obtain ⟨acc, os', cs', back', d, i⟩ := hrel
    obtain ⟨wo, rfl⟩ : ∃ wo : World, wo = wr := ⟨_, rfl⟩
    have c8 := i.ks.kat.c8
    have HME : Hid (tabSize wo u + flagDown wo b = os'.length + if d = true then 0 else 1) := Lib.hid (by
      rw [tabSize_is i.ks.tab, List.length_map]
      unfold flagDown
      rw [c8]
      cases d <;> rfl)
    cases d with
    | true =>
      have I := Lib.hid i
      clear i
      go_wp2_with fail
      go_ret
      exact ⟨_, acc, os', cs', back', true, rfl, I.out.own, by have := I.out.told [] os' cs' back' true (by simp); rwa [List.append_nil] at this, I.out.ks, I.out.tu⟩
    | false =>
      have c4 := i.ks.kat.c4
      have I := Lib.hid i
      clear i
      go_wp2_with fail
      refine (Pop_any wo q g h lm base 32 mb cs' off back' I.out.ks.qs).mono ?_
      rintro e w2 hpost
      rcases hpost with ⟨hu, rfl, k2⟩ | ⟨hu, hbad, rfl, qs2, t2⟩ | ⟨x, hx, hu, hc, hk, hl, rfl, qs2, t2⟩
      · have HU := Lib.hid hu
        have K2 := Lib.hid k2
        clear hu k2 c8 c4
        go_wp2_with fail
        go_ret
        refine ⟨_, acc, os', cs', back', false, rfl, I.out.own.grown K2.out, ?_, I.out.ks.grown K2.out, I.out.tu.step K2.out (fun j e => by cases e)⟩
        have := I.out.told [] os' cs' back' false (by rw [if_neg (by decide)]; exact .stop os' cs' back' HU.out)
        rwa [List.append_nil] at this
      · have s3 := I.out.ks.dies qs2 t2
        have k1 := I.out.ks.kat.turned I.out.ks.qs t2
        have d8 := k1.c8
        have f8 := k1.fz 8
        have T3 : Hid (Turned (KB b q h mb u) w (w2.setCell ⟨b, 8, none⟩ (.bool true))) := Lib.hid ((I.out.tu.trans (t2.mono (fun y _ hy => by rcases hy with e | e | e; exact .inl e; exact .inr (.inl e); exact .inr (.inr (.inl e))))).step (grown_setCell w2 b 8 (.bool true)) (fun j e => .inl (.inr (.inr (.inr (.inl (by injection e with e; exact e.symm)))))))
        have o3 : OwnDns w.heap.size (w2.setCell ⟨b, 8, none⟩ (.bool true)) _ acc := (I.out.own.turned t2 (fun k hk => HKB.out k (by rcases hk with e | e | e; exact .inl e; exact .inr (.inl e); exact .inr (.inr (.inl e))))).turned (S := fun k => k = b) (Turned.of (grown_setCell w2 b 8 (.bool true)) (fun j e => by injection e with e; exact e.symm)) (fun k hk => by rw [hk]; exact HLT.out.1)
        have n3 : ToldI w (w2.setCell ⟨b, 8, none⟩ (.bool true)) b g h q u mb lm base sectors limit os cs off back last now _ acc os' cs' back' true :=
          ⟨s3, o3, fun l os'' cs'' back'' d' hh => by
            rw [if_pos rfl] at hh
            obtain ⟨rfl, rfl, rfl, rfl, rfl⟩ := hh
            exact I.out.told [] os'' cs'' back'' true (by rw [if_neg (by decide)]; exact .brk os'' cs'' back'' hu hbad), I.out.few, T3.out, Nat.le_trans I.out.size (by rw [show (w2.setCell ⟨b, 8, none⟩ (.bool true)).heap.size = w2.heap.size from by simp [World.setCell]]; exact t2.size), I.out.blks⟩
        have N3 := Lib.hid n3
        have HM3 : Hid (tabSize (w2.setCell ⟨b, 8, none⟩ (.bool true)) u + flagDown (w2.setCell ⟨b, 8, none⟩ (.bool true)) b < tabSize wo u + flagDown wo b) := Lib.hid (by
          rw [HME.out, tabSize_is s3.tab, List.length_map]
          unfold flagDown
          rw [s3.kat.c8]
          simp)
        clear s3 k1 n3 o3 qs2 t2 hu hbad c8 c4
        go_wp2_with fail
        go_roundw
        case rel => exact ⟨acc, os', cs', back', true, N3.out⟩
        case measure => exact HM3.out
      · have hyx : ∃ y ∈ os', y.hd = usedNum lm base 32 back' := by
          have h1 : x.c.head ∈ os'.map Snt.hd := by rw [I.out.ks.hds]; exact List.mem_map.2 ⟨x, hx, rfl⟩
          obtain ⟨y, hy, h2⟩ := List.mem_map.1 h1
          exact ⟨y, hy, h2.trans hk⟩
        obtain ⟨y, hy, hyk⟩ := hyx
        have HTS := Lib.hid (Told.step (lm := lm) (base := base) os' cs' back' x hx y hy hu hc hk hyk hl)
        have hyb := I.out.ks.bds y hy
        obtain ⟨b0, b1, l2⟩ := I.out.ks.bl
        obtain ⟨K, hK⟩ : ∃ K, K = usedNum lm base 32 back' := ⟨_, rfl⟩
        obtain ⟨LN, hLN⟩ : ∃ L, L = usedLen lm base 32 back' := ⟨_, rfl⟩
        rw [← hK] at qs2 hyk HTS ⊢
        rw [← hLN] at HTS ⊢
        have HHY := Lib.hid hy
        have HHK := Lib.hid hyk
        have QS2 := Lib.hid qs2
        have TT2 := Lib.hid t2
        have k2 := I.out.ks.kat.turned I.out.ks.qs t2
        have u2 := tab_turned I.out.ks.tab I.out.ks.qs I.out.ks.une t2
        have AC := answer_any w2 b g h base sectors limit q u last now false lm k2 qs2.mem b0 I.out.ks.b1 l2 os' u2 y hy hyb.1 hyb.2.1 LN
        rw [hyk] at AC
        have AC2 := Lib.hid AC
        have hln : os'.length = (os'.filter fun z => z.hd != K).length + 1 := strike_one I.out.ks K ⟨y, hy, hyk⟩
        have HLN2 := Lib.hid hln
        clear c8 c4 hu hc hk hl hx qs2 t2 k2 u2 AC hy hyk hyb hK hLN hln
        go_wp2_with fail
        refine AC2.out.mono ?_
        rintro e w3 ⟨rfl, t3, tt3⟩
        have s3 := I.out.ks.gone K _ QS2.out TT2.out t3 tt3
        have T3 := (I.out.tu.trans (TT2.out.mono (fun z _ hz => by rcases hz with e | e | e; exact .inl e; exact .inr (.inl e); exact .inr (.inr (.inl e))))).trans (tt3.mono (fun z _ hz => .inr (.inr (.inr (.inr hz)))))
        have o3 := (I.out.own.turned TT2.out (fun k hk => HKB.out k (by rcases hk with e | e | e; exact .inl e; exact .inr (.inl e); exact .inr (.inr (.inl e))))).turned tt3 (fun k hk => HKB.out k (.inr (.inr (.inr (.inr hk)))))
        have z3 : w.heap.size ≤ w3.heap.size := T3.size
        have hfew := I.out.few
        have h8 := I.out.ks.few
        obtain ⟨v4, w4, r4, o4, k4⟩ := o3.push z3 (ansF lm base y LN) (by omega)
        have oge := own_ge o3.1
        have n4 : ToldI w w4 b g h q u mb lm base sectors limit os cs off back last now v4 (acc ++ [ansF lm base y LN]) (os'.filter fun z => z.hd != K) (cs'.filter fun z => z.c.head != K) ((back' + 1) % 65536) false :=
          ⟨s3.far k4 oge HLT.out (fun z hz => I.out.blks z (List.mem_filter.1 hz).1), o4, fun l os'' cs'' back'' d' hh => by
            rw [if_neg (by decide)] at hh
            rw [List.append_assoc]
            exact I.out.told _ os'' cs'' back'' d' (by rw [if_neg (by decide)]; exact HTS.out l os'' cs'' back'' d' hh), by have := HLN2.out; rw [List.length_append, List.length_singleton]; omega, T3.step k4 (fun j e => .inr (oge j e)), Nat.le_trans z3 k4.size, fun z hz => I.out.blks z (List.mem_filter.1 hz).1⟩
        have N4 := Lib.hid n4
        have HM4 : Hid (tabSize w4 u + flagDown w4 b < tabSize wo u + flagDown wo b) := Lib.hid (by
          have := HLN2.out
          rw [HME.out, tabSize_is n4.ks.tab, List.length_map]
          unfold flagDown
          rw [n4.ks.kat.c8]
          simp only [Bool.false_eq_true, if_false]
          omega)
        clear s3 T3 o3 t3 tt3 o4 k4 n4 oge hfew h8
        obtain ⟨DN, hDN⟩ : ∃ DN, DN = ansF lm base y LN := ⟨_, rfl⟩
        rw [← hDN] at r4 N4 ⊢
        clear hDN
        obtain ⟨di, dk, dd⟩ := DN
        unfold Dn.val
        simp only at r4 ⊢
        go_wp2_with (at_builtin; refine wpList_append_run _ rfl _ _ 48 rfl _ _ v4 w4 rfl rfl r4 ?_; clear r4)
        go_roundw
        case rel => exact ⟨_, _, _, _, false, N4.out⟩
        case measure => exact HM4.out

end Go.Proofs.YtdchlnffbiooaaaGreatDoor

namespace Go.Proofs.YtdchlnffbiooaaaGreatDoor
open Go.RowKit Go.Sort

theorem blkBar_zero {size base : Int} (h : blkBar size base true = 0) : 0 ≤ base ∧ base % 16 = 0 ∧ base + 1616 ≤ size := by
  unfold blkBar at h
  split at h
  · cases h
  · rename_i h1
    split at h
    · cases h
    · simp at h1
      omega
theorem bar32 {size base : Int} (h : blkBar size base true = 0) : barOf size base 32 = 0 := by
  obtain ⟨h1, h2, h3⟩ := blkBar_zero h
  unfold barOf
  have e : bytesOf 32 = 840 := by decide +kernel
  have e2 : isSize 32 := by decide +kernel
  rw [if_neg (by intro c; rcases c with c | c | c; exact c e2; omega; omega), e, if_neg (by omega)]

/-- The memory behind New. -/
def madeL (l : List UInt8) (base : Int) : List UInt8 := wipeL (writeL l base (List.replicate 1616 0)) base 32
theorem madeL_length (l : List UInt8) (base : Int) : (madeL l base).length = l.length := by unfold madeL; rw [wipeL_length, writeL_length]
/-- What New comes to, where a driver may be. -/
def BNewPost (w : World) (g h : Nat) (l : List UInt8) (base sectors limit : Int) (e : Ending) (w' : World) : Prop :=
  ∃ b q mb u, e = .returned (.tuple #[.pointer (some ⟨b, 0, none⟩), .int .i64 0]) ∧ w.heap.size ≤ b ∧ w.heap.size ≤ q ∧ w.heap.size ≤ mb ∧ w.heap.size ≤ u ∧ KS w' b g h q u mb (madeL l base) base sectors limit [] [] 0 0 false 0 0 false ∧ Turned (fun k => k = h) w w'

theorem qs_made {w : World} {q g h : Nat} {l : List UInt8} {base : Int} {n mb : Nat} (m : Mem w g h (wipeL l base n)) (hl : l.length ≤ 65536) (hq : QAt w q g base n (some mb) 0 0 false) (hb : IsTab w mb []) (b0 : 0 ≤ base) (b1 : base + bytesOf n ≤ l.length) (hs : isSize n) :
    QS w q g h (wipeL l base n) base n mb [] 0 0 false :=
  ⟨m, by rw [wipeL_length]; exact hl, hq, hb, by simp, by simp, by simp, b0, by rw [wipeL_length]; exact b1, hs, by omega, by omega, by omega, by omega⟩

set_option maxRecDepth 100000 in
set_option maxHeartbeats 2000000 in
theorem bNew_ok (w : World) (g h : Nat) (l : List UInt8) (m : Mem w g h l) (l1 : 1 ≤ l.length) (l2 : l.length ≤ 65536) (base sectors limit : Int) (hbar : blkBar l.length base true = 0) (hs1 : 1 ≤ sectors) (hs2 : sectors ≤ 512) (hl1 : 1 ≤ limit) (hl2 : limit ≤ 1048576) :
    Calls Tryz.prog 6 #[.pointer (some ⟨g, 0, none⟩), .int .i64 base, .int .i64 sectors, .int .i64 limit] w (BNewPost w g h l base sectors limit) := by
  have BC := brefuse_any w g h l m l1 l2 base true
  rw [hbar] at BC
  have BC' := Lib.hid BC
  obtain ⟨Z, hZ⟩ : ∃ Z, Z = Obj.cells (zeros 1616) 5 := ⟨_, rfl⟩
  obtain ⟨s, hs⟩ : ∃ s : ByteArray, s = ⟨(List.replicate 1616 (0 : UInt8)).toArray⟩ := ⟨_, rfl⟩
  have hmk : (Instr.makeSlice 54 (.int .i64 1616) (.int .i64 1616)).run Tryz.prog w = .ok (.slice (some ⟨w.heap.size, 0, none⟩) 1616 1616) (w.alloc Z) := by rw [hZ]; exact make_bytes 1616 (by omega) w
  have hcz : (convert 54 9 (.slice (some ⟨w.heap.size, 0, none⟩) 1616 1616)).run Tryz.prog (w.alloc Z) = .ok (.string s) (w.alloc Z) := by rw [hZ, hs]; exact vconv_zeros w 1616
  have ka := World.grownBy_alloc w Z none
  have hsz : s.size ≤ 9223372036854775807 := by rw [hs, toArray_size, List.length_replicate]; omega
  have hsl : s.data.toList = List.replicate 1616 (0 : UInt8) := by rw [hs]
  have WC := Lib.hid (Write_all (w.alloc Z) g h l (m.same ka) (by omega) base s hsz)
  have HS := Lib.hid hsl
  have KA := Lib.hid ka
  have HB := Lib.hid hbar
  have L1 := Lib.hid l1
  have L2 := Lib.hid l2
  have lh := m.lt2
  clear BC hbar hs hsz hsl hZ ka m l1 l2
  go_enter Tryz.func6, Tryz.ntmps6
  go_wp2_with fail
  refine BC'.out.mono ?_
  rintro e w1 ⟨rfl, rfl⟩
  go_wp2_with fail
  refine WC.out.mono ?_
  rintro e w2 ⟨rfl, m2, k2⟩
  rw [HS.out] at m2
  have T2 : Hid (Turned (fun k => k = h) w w2) := Lib.hid ((Turned.of KA.out (fun j e => by cases e)).step k2 (fun j e => .inl (by injection e with e; exact e.symm)))
  obtain ⟨W, hW⟩ : ∃ W, W = writeL l base (List.replicate 1616 (0 : UInt8)) := ⟨_, rfl⟩
  rw [← hW] at m2
  have hWl : W.length = l.length := by rw [hW, writeL_length]
  have HW := Lib.hid hW
  have HWL := Lib.hid hWl
  clear hW hWl k2 hmk hcz
  go_wp2_with fail
  refine (vNew_ok w2 g h W m2 base 32 (by rw [HWL.out]; exact L1.out) (by rw [HWL.out]; exact L2.out) (by omega) (by have := blkBar_zero HB.out; have := L2.out; omega) (by rw [HWL.out]; exact bar32 HB.out)).mono ?_
  rintro e w3 ⟨q, mb, rfl, hq, hmb, q3, t3, m3, tt3⟩
  have z2 := T2.out.size
  have z3 := tt3.size
  have Q3 := Lib.hid (qs_made m3 (by rw [HWL.out]; exact L2.out) q3 t3 (blkBar_zero HB.out).1 (by rw [HWL.out, show bytesOf ((32 : Nat) : Int) = 840 from by decide +kernel]; have := blkBar_zero HB.out; omega) (by decide +kernel))
  have T3 : Hid (Turned (fun k => k = h) w w3) := Lib.hid (T2.out.trans tt3)
  clear m2 q3 t3 m3 tt3
  have hmm := @run_makeMap Tryz.prog
  go_wp2_with fail
  go_ret2
  have lt := Q3.out.lts
  have ku := (World.grownBy_alloc w3 (.map #[] 0) none).trans (World.grownBy_alloc _ (.cells #[.pointer (some ⟨g, 0, none⟩), .int .i64 base, .int .i64 sectors, .int .i64 limit, .pointer (some ⟨q, 0, none⟩), .map (some w3.heap.size), .int .i64 0, .int .i64 0, .bool false, .pointer (some ⟨w3.heap.size + 1, 0, none⟩)] 64) none)
  have hz := blkBar_zero HB.out
  refine ⟨w3.heap.size + 1, q, mb, w3.heap.size, rfl, by omega, by omega, by omega, by omega, ?_, T3.out.step ku (fun j e => by cases e)⟩
  refine ⟨alloc_two _ _ _, by unfold madeL; rw [← HW.out]; exact Q3.out.grown ku, (tab_made w3).kept (Below.heap_alloc _ _ _ (tab_made w3).lt), by omega, rfl, by simp, by simp, by simp, by simp, by simp, by simp, by rw [madeL_length]; omega, by omega, by omega⟩

/-- What Open comes to. -/
def BOpenPost (w : World) (g h : Nat) (l : List UInt8) (base : Int) (e : Ending) (w' : World) : Prop :=
  ∃ r p u, e = .returned (.tuple #[.pointer (some ⟨r, 0, none⟩), .int .i64 0]) ∧ w.heap.size ≤ r ∧ w.heap.size ≤ p ∧ w.heap.size ≤ u ∧ RS w' r g h p u l base 0 0 [] ∧ w.grownBy w' none
set_option maxRecDepth 100000 in
set_option maxHeartbeats 2000000 in
theorem bOpen_ok (w : World) (g h : Nat) (l : List UInt8) (m : Mem w g h l) (l1 : 1 ≤ l.length) (l2 : l.length ≤ 65536) (base : Int) (hbar : blkBar l.length base true = 0) :
    Calls Tryz.prog 7 #[.pointer (some ⟨g, 0, none⟩), .int .i64 base] w (BOpenPost w g h l base) := by
  have BC := brefuse_any w g h l m l1 l2 base true
  rw [hbar] at BC
  have BC' := Lib.hid BC
  have OC := Lib.hid (Open_ok w g h l m base 32 l1 l2 (by omega) (by have := blkBar_zero hbar; omega) (bar32 hbar))
  have HB := Lib.hid hbar
  have M := Lib.hid m
  clear BC hbar m
  go_enter Tryz.func7, Tryz.ntmps7
  go_wp2_with fail
  refine BC'.out.mono ?_
  rintro e w1 ⟨rfl, rfl⟩
  go_wp2_with fail
  refine OC.out.mono ?_
  rintro e w2 ⟨p, rfl, hp, p2, k2⟩
  have P2 := Lib.hid p2
  have K2 := Lib.hid k2
  have z2 := k2.size
  clear p2 k2
  have hmm := @run_makeMap Tryz.prog
  go_wp2_with fail
  go_ret2
  have ku := (World.grownBy_alloc w2 (.map #[] 0) none).trans (World.grownBy_alloc _ (.cells #[.pointer (some ⟨g, 0, none⟩), .pointer (some ⟨p, 0, none⟩), .map (some w2.heap.size), .pointer (some ⟨w2.heap.size + 1, 0, none⟩)] 70) none)
  have hz := blkBar_zero HB.out
  have m3 := M.out.same (K2.out.trans ku)
  refine ⟨w2.heap.size + 1, p, w2.heap.size, rfl, by omega, hp, by omega, ⟨alloc_two _ _ _, ?_, (tab_made w2).kept (Below.heap_alloc _ _ _ (tab_made w2).lt)⟩, K2.out.trans ku⟩
  exact ⟨m3, l2, P2.out.kept (ku.block _ (lt_of_block P2.out) (by simp)), hz.1, by rw [show bytesOf ((32 : Nat) : Int) = 840 from by decide +kernel]; omega, by decide +kernel, by omega, by omega, by omega, by omega⟩

/-- What Poll comes to while the device lives. -/
def PollPost (w : World) (b g h q u mb : Nat) (lm : List UInt8) (base sectors limit : Int) (os : List Snt) (cs : List Oc) (off back last now : Int) (e : Ending) (w' : World) : Prop :=
  ∃ (v : Value) (l : List Dn) (os' : List Snt) (cs' : List Oc) (back' : Int), e = .returned v ∧ OwnDns w.heap.size w' v l ∧ Told lm base os cs back l os' cs' back' false ∧ KS w' b g h q u mb lm base sectors limit os' cs' off back' false last now false ∧ Turned (KB b q h mb u) w w'
set_option maxRecDepth 100000 in
set_option maxHeartbeats 2000000 in
theorem Poll_live (w : World) (b g h q u mb : Nat) (lm : List UInt8) (base sectors limit : Int) (os : List Snt) (cs : List Oc) (off back last now : Int) (s : KS w b g h q u mb lm base sectors limit os cs off back false last now false)
    (hd : ∀ l os' cs' back' d, Told lm base os cs back l os' cs' back' d → d = false) :
    Calls Tryz.prog 12 #[.pointer (some ⟨b, 0, none⟩)] w (PollPost w b g h q u mb lm base sectors limit os cs off back last now) := by
  have TC := Lib.hid (told_any w b g h q u mb lm base sectors limit os cs off back last now s)
  have HD := Lib.hid hd
  have c9 := s.kat.c9
  clear s hd
  go_enter Tryz.func12, Tryz.ntmps12
  go_wp2_with (go_at_call 20; refine (knone_no _ _ c9).mono ?_; rintro e w' ⟨rfl, rfl⟩)
  refine TC.out.mono ?_
  rintro e w1 ⟨v, l, os', cs', back', d, rfl, ho, ht, hk, hT⟩
  have h0 := HD.out _ _ _ _ _ ht
  subst h0
  have c8 := hk.kat.c8
  have F : Hid (PollPost w b g h q u mb lm base sectors limit os cs off back last now (.returned v) w1) := Lib.hid ⟨v, l, os', cs', back', rfl, ho, ht, hk, hT⟩
  clear ho ht hk hT
  go_wp2_with fail
  go_ret
  exact F.out

end Go.Proofs.YtdchlnffbiooaaaGreatDoor
