/-
  Layer 3: an order is given to the device. Conditions: the memory is of at most 65536 bytes; the last order's number is at most 1000000; the data are of at most 65536 bytes.
-/
import Derived.Test.YtdchlnffbiooaaaGreatDoorBlkF
import Derived.Test.YtdchlnffbiooaaaGreatDoorBlkH
namespace Go.Proofs.YtdchlnffbiooaaaGreatDoor
open Go.RowKit Go.Sort

set_option maxHeartbeats 400000 in
theorem Submit_none (w : World) (p : Option Addr) (hp : NoK w p) (o : Ord) :
    Calls Tryz.prog 9 #[.pointer p, o.val] w fun e w' => e = .returned (.tuple #[.int .i64 0, .int .i64 2]) ∧ w.grownBy w' none := by
  obtain ⟨ok, os_, od⟩ := o
  unfold Ord.val
  have ka := World.grownBy_alloc w (.cells #[.int .i64 ok, .int .i64 os_, .string od] 39) none
  have hp1 : NoK (w.alloc (.cells #[.int .i64 ok, .int .i64 os_, .string od] 39)) p := by
    rcases hp with rfl | ⟨g, rfl, hc⟩
    · exact .inl rfl
    · exact .inr ⟨g, rfl, by rw [kept_grown ka ⟨g, 9, none⟩ (by rw [hc]; rfl)]; exact hc⟩
  clear hp
  simp only
  go_enter Tryz.func9, Tryz.ntmps9
  go_wp2_with (go_at_call 20; refine (knone_yes _ _ hp1).mono ?_; rintro e w' ⟨rfl, rfl⟩)
  go_ret2
  exact ⟨rfl, ka⟩

/-- What stays through Submit's calls. -/
def SubS (w : World) (ob sb b g : Nat) (base sectors limit : Int) (q u : Nat) (last now : Int) (dead : Bool) (s : Shp) (o : Ord) : Prop :=
  KAt w b g base sectors limit q u last now dead ∧ w.heap[sb]? = some (.cells #[.int .i64 s.kind, .int .u64 s.num, .int .i64 s.len, .bool s.back, .int .i64 s.sec] 74 (0, 0)) ∧
    w.heap[ob]? = some (.cells #[.int .i64 o.kind, .int .i64 o.sec, .string o.data] 39 (0, 0))
section
variable {w w' : World} {ob sb b g : Nat} {base sectors limit : Int} {q u : Nat} {last now : Int} {dead : Bool} {s : Shp} {o : Ord}
theorem SubS.kept (h : SubS w ob sb b g base sectors limit q u last now dead s o) (k : ∀ x, x < w.heap.size → (x = b ∨ x = sb ∨ x = ob) → w'.heap[x]? = w.heap[x]?) : SubS w' ob sb b g base sectors limit q u last now dead s o :=
  ⟨h.1.kept (k _ (lt_of_block h.1) (.inl rfl)), (k _ (lt_of_block h.2.1) (.inr (.inl rfl))).trans h.2.1, (k _ (lt_of_block h.2.2) (.inr (.inr rfl))).trans h.2.2⟩
theorem SubS.grown (h : SubS w ob sb b g base sectors limit q u last now dead s o) (k : w.grownBy w' none) : SubS w' ob sb b g base sectors limit q u last now dead s o := h.kept (fun x hx _ => k.block x hx (by simp))
theorem SubS.s0 (h : SubS w ob sb b g base sectors limit q u last now dead s o) : w.cell? ⟨sb, 0, none⟩ = some (.int .i64 s.kind) := cell_of_block h.2.1
theorem SubS.s1 (h : SubS w ob sb b g base sectors limit q u last now dead s o) : w.cell? ⟨sb, 1, none⟩ = some (.int .u64 s.num) := cell_of_block h.2.1
theorem SubS.s2 (h : SubS w ob sb b g base sectors limit q u last now dead s o) : w.cell? ⟨sb, 2, none⟩ = some (.int .i64 s.len) := cell_of_block h.2.1
theorem SubS.s3 (h : SubS w ob sb b g base sectors limit q u last now dead s o) : w.cell? ⟨sb, 3, none⟩ = some (.bool s.back) := cell_of_block h.2.1
theorem SubS.s4 (h : SubS w ob sb b g base sectors limit q u last now dead s o) : w.cell? ⟨sb, 4, none⟩ = some (.int .i64 s.sec) := cell_of_block h.2.1
theorem SubS.o0 (h : SubS w ob sb b g base sectors limit q u last now dead s o) : w.cell? ⟨ob, 0, none⟩ = some (.int .i64 o.kind) := cell_of_block h.2.2
theorem SubS.o1 (h : SubS w ob sb b g base sectors limit q u last now dead s o) : w.cell? ⟨ob, 1, none⟩ = some (.int .i64 o.sec) := cell_of_block h.2.2
theorem SubS.o2 (h : SubS w ob sb b g base sectors limit q u last now dead s o) : w.cell? ⟨ob, 2, none⟩ = some (.string o.data) := cell_of_block h.2.2
end

theorem chainL_len (s : Shp) (at_ : Int) : (chainL s at_).length ≤ 3 := by
  unfold chainL
  split <;> simp
theorem textE_zero (lm : List UInt8) (a n : Int) (h0 : 0 ≤ a) (h1 : 0 ≤ n) (h2 : a + n ≤ lm.length) : textE lm a n = 0 := by
  unfold textE
  rw [if_neg (by omega)]
theorem chain_fits (k : Nat) (hk : k < 5) (lm : List UInt8) (at_ : Int) (h0 : 0 ≤ at_) (h1 : at_ + 96 ≤ lm.length) (f : Nat) (hf : 3 ≤ f) : refuseE lm (chainL (shpAt k) at_) f = 0 := by
  have t1 := textE_zero lm at_ 16 h0 (by omega) (by omega)
  have t2 := textE_zero lm (at_ + 16) 64 (by omega) (by omega) (by omega)
  have t3 := textE_zero lm (at_ + 16) 16 (by omega) (by omega) (by omega)
  have t4 := textE_zero lm (at_ + 80) 1 (by omega) (by omega) (by omega)
  have f1 : ¬ f < 3 := by omega
  have f2 : ¬ f < 2 := by omega
  rcases (show k = 0 ∨ k = 1 ∨ k = 2 ∨ k = 3 ∨ k = 4 by omega) with rfl | rfl | rfl | rfl | rfl <;>
    simp [refuseE, chainL, shpAt, shp1, shp2, shp3, shp4, shp5, inOrd, okFrom, outside, t1, t2, t3, t4, f1, f2]
theorem chain_bd (s : Shp) (at_ : Int) (h : s.len ≤ 64) : ∀ x ∈ chainL s at_, x.n ≤ 9223372036854775807 := by
  intro x hx
  unfold chainL at hx
  split at hx
  · simp at hx
    rcases hx with rfl | rfl | rfl <;> simp only <;> omega
  · simp at hx
    rcases hx with rfl | rfl <;> simp only <;> omega
theorem shp_bd (k : Nat) (hk : k < 5) : 0 ≤ (shpAt k).num ∧ (shpAt k).len ≤ 64 := by
  rcases (show k = 0 ∨ k = 1 ∨ k = 2 ∨ k = 3 ∨ k = 4 by omega) with rfl | rfl | rfl | rfl | rfl <;> decide

/-- The bundle behind Submit. -/
theorem KS.submit {w w' : World} {b g h q u mb : Nat} {lm lm' : List UInt8} {base sectors limit : Int} {os : List Snt} {cs : List Oc} {off off' back : Int} {last now : Int} (s : KS w b g h q u mb lm base sectors limit os cs off back false last now false)
    (x : Oc) (y : Snt) (l : List Bf) (hl : l.length ≤ 3) (hx : x.c = newCh cs 32 l) (qs : QS w' q g h lm' base 32 mb (cs ++ [x]) off' back false) (kat : KAt w' b g base sectors limit q u (last + 1) now false) (tab : IsTab w' u ((os ++ [y]).map Snt.ent))
    (hlen : lm'.length = lm.length) (few : os.length < 8) (y0 : y.hd = x.c.head) (y1 : y.id = last + 1) (y2 : y.since = now) (y3 : 0 ≤ y.slot ∧ y.slot < 8 ∧ ∀ z ∈ os, z.slot ≠ y.slot) :
    KS w' b g h q u mb lm' base sectors limit (os ++ [y]) (cs ++ [x]) off' back false (last + 1) now false where
  kat := kat
  qs := qs
  tab := tab
  une := s.une
  hds := by rw [List.map_append, List.map_append, s.hds]; simp [y0]
  slots := by
    rw [List.map_append, List.nodup_append]
    refine ⟨s.slots, by simp, ?_⟩
    intro a ha c hc
    obtain ⟨z, hz, rfl⟩ := List.mem_map.1 ha
    simp at hc
    subst hc
    exact y3.2.2 z hz
  bds := by
    intro z hz
    have l0 := s.last0
    have n0 := s.now0
    rcases List.mem_append.1 hz with hz | hz
    · have := s.bds z hz; omega
    · rw [List.mem_singleton] at hz; subst hz; omega
  ids := by
    rw [List.map_append, List.pairwise_append]
    refine ⟨s.ids, by simp, ?_⟩
    intro a ha c hc
    obtain ⟨z, hz, rfl⟩ := List.mem_map.1 ha
    simp at hc
    have := s.bds z hz
    omega
  few := by simp; omega
  three := by
    intro z hz
    rcases List.mem_append.1 hz with hz | hz
    · exact s.three z hz
    · rw [List.mem_singleton] at hz
      subst hz
      rw [hx]
      show ((freeL (cs.map Oc.c) 32).take l.length).length ≤ 3
      rw [List.length_take]
      omega
  brk := by simp
  b1 := by rw [hlen]; exact s.b1
  last0 := by have := s.last0; omega
  now0 := s.now0

set_option maxRecDepth 100000 in
set_option maxHeartbeats 2000000 in
theorem Submit_dead (w : World) (b g h q u mb : Nat) (lm : List UInt8) (base sectors limit : Int) (os : List Snt) (cs : List Oc) (off back : Int) (broken : Bool) (last now : Int) (dead : Bool) (s : KS w b g h q u mb lm base sectors limit os cs off back broken last now dead) (o : Ord) (hd : dead = true) :
    Calls Tryz.prog 9 #[.pointer (some ⟨b, 0, none⟩), o.val] w fun e w' => e = .returned (.tuple #[.int .i64 0, .int .i64 14]) ∧ w.grownBy w' none := by
  obtain ⟨ok, os_, od⟩ := o
  unfold Ord.val
  subst hd
  have ka := World.grownBy_alloc w (.cells #[.int .i64 ok, .int .i64 os_, .string od] 39) none
  have s1 := s.grown ka
  have h8 := s1.kat.c8
  have h9 := s1.kat.c9
  clear s s1
  simp only
  go_enter Tryz.func9, Tryz.ntmps9
  go_wp2_with (go_at_call 20; refine (knone_no _ _ h9).mono ?_; rintro e w' ⟨rfl, rfl⟩)
  go_ret2
  exact ⟨rfl, ka⟩

set_option maxRecDepth 100000 in
set_option maxHeartbeats 2000000 in
theorem Submit_kind (w : World) (b g h q u mb : Nat) (lm : List UInt8) (base sectors limit : Int) (os : List Snt) (cs : List Oc) (off back : Int) (broken : Bool) (last now : Int) (dead : Bool) (s : KS w b g h q u mb lm base sectors limit os cs off back broken last now dead) (o : Ord) (hd : dead = false) (hS : Shapes w) (hk : ∀ k, k < 5 → o.kind ≠ (shpAt k).kind) :
    Calls Tryz.prog 9 #[.pointer (some ⟨b, 0, none⟩), o.val] w fun e w' => e = .returned (.tuple #[.int .i64 0, .int .i64 10]) ∧ w.grownBy w' none := by
  obtain ⟨ok, os_, od⟩ := o
  unfold Ord.val
  subst hd
  have ka := World.grownBy_alloc w (.cells #[.int .i64 ok, .int .i64 os_, .string od] 39) none
  have hob := heap_alloc_new w (.cells #[.int .i64 ok, .int .i64 os_, .string od] 39)
  have s1 := s.grown ka
  have h8 := s1.kat.c8
  have h9 := s1.kat.c9
  have o0 : (w.alloc (.cells #[.int .i64 ok, .int .i64 os_, .string od] 39)).cell? ⟨w.heap.size, 0, none⟩ = some (.int .i64 ok) := cell_of_block hob
  have OC := Lib.hid (ofKind_no _ (hS.grown ka) ok hk)
  clear s s1 hS hk hob
  simp only
  go_enter Tryz.func9, Tryz.ntmps9
  go_wp2_with fail
  refine (knone_no _ _ h9).mono ?_
  rintro e w1 ⟨rfl, rfl⟩
  go_wp2_with fail
  refine OC.out.mono ?_
  rintro e w1 ⟨rfl, k1⟩
  have kk := (ka.trans k1).trans (World.grownBy_alloc w1 (.cells #[.int .i64 0, .int .u64 0, .int .i64 0, .bool false, .int .i64 0] 74) none)
  have KK := Lib.hid kk
  unfold noShp Shp.val
  clear kk k1 ka h8 h9 o0
  go_wp2_with fail
  go_ret2
  exact ⟨rfl, KK.out⟩

set_option maxRecDepth 100000 in
set_option maxHeartbeats 2000000 in
theorem Submit_arg (w : World) (b g h q u mb : Nat) (lm : List UInt8) (base sectors limit : Int) (os : List Snt) (cs : List Oc) (off back : Int) (broken : Bool) (last now : Int) (dead : Bool) (s : KS w b g h q u mb lm base sectors limit os cs off back broken last now dead) (o : Ord) (hd : dead = false) (hS : Shapes w) (k : Nat) (hk5 : k < 5) (hk : o.kind = (shpAt k).kind) (hm : mayOrd sectors o = false) :
    Calls Tryz.prog 9 #[.pointer (some ⟨b, 0, none⟩), o.val] w fun e w' => e = .returned (.tuple #[.int .i64 0, .int .i64 1]) ∧ w.grownBy w' none := by
  obtain ⟨ok, os_, od⟩ := o
  unfold Ord.val
  subst hd
  have ka := World.grownBy_alloc w (.cells #[.int .i64 ok, .int .i64 os_, .string od] 39) none
  have hob := heap_alloc_new w (.cells #[.int .i64 ok, .int .i64 os_, .string od] 39)
  have s1 := s.grown ka
  have h8 := s1.kat.c8
  have h9 := s1.kat.c9
  have o0 : (w.alloc (.cells #[.int .i64 ok, .int .i64 os_, .string od] 39)).cell? ⟨w.heap.size, 0, none⟩ = some (.int .i64 ok) := cell_of_block hob
  simp only at hk hm
  subst hk
  have OC := Lib.hid (ofKind_yes _ (hS.grown ka) k hk5)
  have S1 := Lib.hid s1
  have HOB := Lib.hid hob
  clear s s1 hS hob
  simp only
  go_enter Tryz.func9, Tryz.ntmps9
  go_wp2_with fail
  refine (knone_no _ _ h9).mono ?_
  rintro e w1 ⟨rfl, rfl⟩
  go_wp2_with fail
  refine OC.out.mono ?_
  rintro e w1 ⟨rfl, k1⟩
  unfold Shp.val
  have kb := (ka.trans k1).trans (World.grownBy_alloc w1 (.cells #[.int .i64 (shpAt k).kind, .int .u64 (shpAt k).num, .int .i64 (shpAt k).len, .bool (shpAt k).back, .int .i64 (shpAt k).sec] 74) none)
  have s2 := (S1.out.grown k1).grown (World.grownBy_alloc w1 (.cells #[.int .i64 (shpAt k).kind, .int .u64 (shpAt k).num, .int .i64 (shpAt k).len, .bool (shpAt k).back, .int .i64 (shpAt k).sec] 74) none)
  have hob2 : (w1.alloc (.cells #[.int .i64 (shpAt k).kind, .int .u64 (shpAt k).num, .int .i64 (shpAt k).len, .bool (shpAt k).back, .int .i64 (shpAt k).sec] 74)).heap[w.heap.size]? = some (.cells #[.int .i64 (shpAt k).kind, .int .i64 os_, .string od] 39 (0, 0)) :=
    (((World.grownBy_alloc w1 (.cells #[.int .i64 (shpAt k).kind, .int .u64 (shpAt k).num, .int .i64 (shpAt k).len, .bool (shpAt k).back, .int .i64 (shpAt k).sec] 74) none).block _ (Nat.lt_of_lt_of_le (lt_of_block HOB.out) k1.size) (by simp)).trans (k1.block _ (lt_of_block HOB.out) (by simp))).trans HOB.out
  have hsb2 := heap_alloc_new w1 (.cells #[.int .i64 (shpAt k).kind, .int .u64 (shpAt k).num, .int .i64 (shpAt k).len, .bool (shpAt k).back, .int .i64 (shpAt k).sec] 74)
  have o1 : (w1.alloc (.cells #[.int .i64 (shpAt k).kind, .int .u64 (shpAt k).num, .int .i64 (shpAt k).len, .bool (shpAt k).back, .int .i64 (shpAt k).sec] 74)).cell? ⟨w.heap.size, 0, none⟩ = some (.int .i64 (shpAt k).kind) := cell_of_block hob2
  have o2 : (w1.alloc (.cells #[.int .i64 (shpAt k).kind, .int .u64 (shpAt k).num, .int .i64 (shpAt k).len, .bool (shpAt k).back, .int .i64 (shpAt k).sec] 74)).cell? ⟨w.heap.size, 1, none⟩ = some (.int .i64 os_) := cell_of_block hob2
  have o3 : (w1.alloc (.cells #[.int .i64 (shpAt k).kind, .int .u64 (shpAt k).num, .int .i64 (shpAt k).len, .bool (shpAt k).back, .int .i64 (shpAt k).sec] 74)).cell? ⟨w.heap.size, 2, none⟩ = some (.string od) := cell_of_block hob2
  have S2 := Lib.hid s2
  have KB2 := Lib.hid kb
  have HOB2 := Lib.hid hob2
  have HSB2 := Lib.hid hsb2
  clear s2 kb hob2 hsb2 ka k1 h8 h9 o0
  go_wp2_with fail
  generalize w1.alloc _ = W1 at S2 KB2 HOB2 HSB2 o1 o2 o3 ⊢
  have MC := kmayBe_any W1 b g base sectors limit q u last now false S2.out.kat ⟨(shpAt k).kind, os_, od⟩
  rw [hm] at MC
  refine MC.mono ?_
  rintro e w2 ⟨rfl, k2⟩
  clear MC
  have KB3 := Lib.hid (KB2.out.trans k2)
  clear k2
  go_wp2_with fail
  go_ret2
  exact ⟨rfl, KB3.out⟩

set_option maxRecDepth 100000 in
set_option maxHeartbeats 2000000 in
theorem Submit_full (w : World) (b g h q u mb : Nat) (lm : List UInt8) (base sectors limit : Int) (os : List Snt) (cs : List Oc) (off back : Int) (broken : Bool) (last now : Int) (dead : Bool) (s : KS w b g h q u mb lm base sectors limit os cs off back broken last now dead) (o : Ord) (hd : dead = false) (hS : Shapes w) (k : Nat) (hk5 : k < 5) (hk : o.kind = (shpAt k).kind) (hm : mayOrd sectors o = true) (hf : 8 ≤ os.length) :
    Calls Tryz.prog 9 #[.pointer (some ⟨b, 0, none⟩), o.val] w fun e w' => e = .returned (.tuple #[.int .i64 0, .int .i64 6]) ∧ w.grownBy w' none := by
  obtain ⟨ok, os_, od⟩ := o
  unfold Ord.val
  subst hd
  have ka := World.grownBy_alloc w (.cells #[.int .i64 ok, .int .i64 os_, .string od] 39) none
  have hob := heap_alloc_new w (.cells #[.int .i64 ok, .int .i64 os_, .string od] 39)
  have s1 := s.grown ka
  have h8 := s1.kat.c8
  have h9 := s1.kat.c9
  have o0 : (w.alloc (.cells #[.int .i64 ok, .int .i64 os_, .string od] 39)).cell? ⟨w.heap.size, 0, none⟩ = some (.int .i64 ok) := cell_of_block hob
  simp only at hk hm
  subst hk
  have OC := Lib.hid (ofKind_yes _ (hS.grown ka) k hk5)
  have S1 := Lib.hid s1
  have HOB := Lib.hid hob
  clear s s1 hS hob
  simp only
  go_enter Tryz.func9, Tryz.ntmps9
  go_wp2_with fail
  refine (knone_no _ _ h9).mono ?_
  rintro e w1 ⟨rfl, rfl⟩
  go_wp2_with fail
  refine OC.out.mono ?_
  rintro e w1 ⟨rfl, k1⟩
  unfold Shp.val
  have kb := (ka.trans k1).trans (World.grownBy_alloc w1 (.cells #[.int .i64 (shpAt k).kind, .int .u64 (shpAt k).num, .int .i64 (shpAt k).len, .bool (shpAt k).back, .int .i64 (shpAt k).sec] 74) none)
  have s2 := (S1.out.grown k1).grown (World.grownBy_alloc w1 (.cells #[.int .i64 (shpAt k).kind, .int .u64 (shpAt k).num, .int .i64 (shpAt k).len, .bool (shpAt k).back, .int .i64 (shpAt k).sec] 74) none)
  have hob2 : (w1.alloc (.cells #[.int .i64 (shpAt k).kind, .int .u64 (shpAt k).num, .int .i64 (shpAt k).len, .bool (shpAt k).back, .int .i64 (shpAt k).sec] 74)).heap[w.heap.size]? = some (.cells #[.int .i64 (shpAt k).kind, .int .i64 os_, .string od] 39 (0, 0)) :=
    (((World.grownBy_alloc w1 (.cells #[.int .i64 (shpAt k).kind, .int .u64 (shpAt k).num, .int .i64 (shpAt k).len, .bool (shpAt k).back, .int .i64 (shpAt k).sec] 74) none).block _ (Nat.lt_of_lt_of_le (lt_of_block HOB.out) k1.size) (by simp)).trans (k1.block _ (lt_of_block HOB.out) (by simp))).trans HOB.out
  have hsb2 := heap_alloc_new w1 (.cells #[.int .i64 (shpAt k).kind, .int .u64 (shpAt k).num, .int .i64 (shpAt k).len, .bool (shpAt k).back, .int .i64 (shpAt k).sec] 74)
  have o1 : (w1.alloc (.cells #[.int .i64 (shpAt k).kind, .int .u64 (shpAt k).num, .int .i64 (shpAt k).len, .bool (shpAt k).back, .int .i64 (shpAt k).sec] 74)).cell? ⟨w.heap.size, 0, none⟩ = some (.int .i64 (shpAt k).kind) := cell_of_block hob2
  have o2 : (w1.alloc (.cells #[.int .i64 (shpAt k).kind, .int .u64 (shpAt k).num, .int .i64 (shpAt k).len, .bool (shpAt k).back, .int .i64 (shpAt k).sec] 74)).cell? ⟨w.heap.size, 1, none⟩ = some (.int .i64 os_) := cell_of_block hob2
  have o3 : (w1.alloc (.cells #[.int .i64 (shpAt k).kind, .int .u64 (shpAt k).num, .int .i64 (shpAt k).len, .bool (shpAt k).back, .int .i64 (shpAt k).sec] 74)).cell? ⟨w.heap.size, 2, none⟩ = some (.string od) := cell_of_block hob2
  have S2 := Lib.hid s2
  have KB2 := Lib.hid kb
  have HOB2 := Lib.hid hob2
  have HSB2 := Lib.hid hsb2
  clear s2 kb hob2 hsb2 ka k1 h8 h9 o0
  go_wp2_with fail
  generalize w1.alloc _ = W1 at S2 KB2 HOB2 HSB2 o1 o2 o3 ⊢
  have MC := kmayBe_any W1 b g base sectors limit q u last now false S2.out.kat ⟨(shpAt k).kind, os_, od⟩
  rw [hm] at MC
  refine MC.mono ?_
  rintro e w2 ⟨rfl, k2⟩
  clear MC
  have S3 := Lib.hid (S2.out.grown k2)
  have KB3 := Lib.hid (KB2.out.trans k2)
  have t5 := S3.out.kat.c5
  have HOB3 : Hid (w2.heap[w.heap.size]? = some (.cells #[.int .i64 (shpAt k).kind, .int .i64 os_, .string od] 39 (0, 0))) := Lib.hid ((k2.block _ (lt_of_block HOB2.out) (by simp)).trans HOB2.out)
  have HSB3 : Hid (w2.heap[w1.heap.size]? = some (.cells #[.int .i64 (shpAt k).kind, .int .u64 (shpAt k).num, .int .i64 (shpAt k).len, .bool (shpAt k).back, .int .i64 (shpAt k).sec] 74 (0, 0))) := Lib.hid ((k2.block _ (lt_of_block HSB2.out) (by simp)).trans HSB2.out)
  clear k2 o1 o2 o3 S2 KB2 HOB2 HSB2
  have hlen : decide (((os.map Snt.ent).length : Int) ≥ 8) = true := decide_eq_true (by rw [List.length_map]; omega)
  have hlen2 : decide ((8 : Int) ≤ ((os.map Snt.ent).length : Int)) = true := hlen
  have hlen3 : decide ((8 : Int) ≤ (os.length : Int)) = true := decide_eq_true (by omega)
  clear hf
  go_wp2_with (at_len; refine wpList_len_tab _ rfl _ 62 rfl 3 84 Tryz.underlying62 u (os.map Snt.ent) S3.out.tab rfl ?_)
  go_ret2
  exact ⟨rfl, KB3.out⟩

end Go.Proofs.YtdchlnffbiooaaaGreatDoor
