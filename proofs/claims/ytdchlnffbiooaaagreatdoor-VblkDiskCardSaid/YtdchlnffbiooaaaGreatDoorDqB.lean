/-
  Layer 3: what the rows' condition says of the package's table; a world that meets it. No conditions.
-/
import Derived.Test.YtdchlnffbiooaaaGreatDoorDqA
import Derived.BigRegion
import Derived.Test.YtdchlnffbiooaaaGreatDoorShelfS
import Derived.Sort.Grow
import Derived.Maps.AppendAt
import Derived.ProofKit
import Derived.WalkKit
import Derived.WalkSpells
import Derived.WalkLawsBesides
import Derived.Lib.Hide
import Derived.Deep.MidRow
import Derived.Laws.AppendOwn
import Derived.Laws.IdiomCopy
import Derived.Below
import Derived.Laws.Tables
import Derived.Deep.RegionLaw
import Derived.Deep.AppendSrc
import Derived.Sort.WalkC
import Derived.Test.YtdchlnffbiooaaaGreatDoorBlkI
import Derived.Test.YtdchlnffbiooaaaGreatDoorShelf
import Derived.Test.YtdchlnffbiooaaaGreatDoorCards
import Derived.Test.YtdchlnffbiooaaaGreatDoorTie
import Derived.OpenShut
import Derived.LaidMore
import Derived.Stop.Joined
namespace Go.Proofs.YtdchlnffbiooaaaGreatDoor
open Go.RowKit Go.Sort

/-- An operation that is taken, and one that is not, ahead of a region's tail. -/
theorem still_yes {P : Program} {ops : Array Oper} {w : World} {Q : Act → Prop} {a : Act} {o : Oper} {rest : List Oper} (hw : Region.wanted o (yielded ops a.tmps) = true) (h : ∀ K : Act → Prop, (∀ a, wpStill P ops w Q rest a → K a) → o.still P a w K) : wpStill P ops w Q (o :: rest) a := by
  show (if _ then _ else _)
  rw [if_pos hw]
  exact h _ (fun _ h => h)
theorem still_no {P : Program} {ops : Array Oper} {w : World} {Q : Act → Prop} {a : Act} {o : Oper} {rest : List Oper} (hw : Region.wanted o (yielded ops a.tmps) = false) (h : ∀ K : Act → Prop, (∀ a, wpStill P ops w Q rest a → K a) → K (a.put o.dst undef)) : wpStill P ops w Q (o :: rest) a := by
  show (if _ then _ else _)
  rw [if_neg (by rw [hw]; decide)]
  exact h _ (fun _ h => h)

/-- Is an order out for too long? -/
def lateE (now limit : Int) (v : Value) : Bool := match v with
  | .agg c => match (c.toList[3]? : Option Value) with
    | some (Value.int IntKind.i64 s) => decide (limit ≤ now - s)
    | _ => false
  | _ => false
theorem lateE_val (now limit : Int) (x : Snt) : lateE now limit x.val = decide (limit ≤ now - x.since) := rfl
theorem late_all (now limit : Int) (os : List Snt) : (os.map Snt.ent).any (fun e => lateE now limit e.2) = os.any (fun x => decide (limit ≤ now - x.since)) := by
  rw [List.any_map]
  rfl
/-- A block of cells is turned that is none of the queue's: the queue stays. -/
theorem QS.keepT {w w' : World} {q g h : Nat} {lm : List UInt8} {base : Int} {n mb : Nat} {cs : List Oc} {off back : Int} {broken : Bool} (s : QS w q g h lm base n mb cs off back broken) {b : Nat} (t : Turned (fun k => k = b) w w') {g1 : Nat} (h0 : w.cell? ⟨b, 0, none⟩ = some (.pointer (some ⟨g1, 0, none⟩)))
    (n1 : b ≠ g) (n2 : b ≠ h) (n3 : b ≠ q) (n4 : b ≠ mb) : QS w' q g h lm base n mb cs off back broken := by
  have keep : ∀ x, x < w.heap.size → x ≠ b → w'.heap[x]? = w.heap[x]? := fun x hx hn => t.block x hx hn
  have m : Mem w' g h lm := ⟨(keep _ s.mem.lt1 (fun e => n1 e.symm)).trans s.mem.1, (keep _ s.mem.lt2 (fun e => n2 e.symm)).trans s.mem.2⟩
  refine { s with mem := m, at_ := s.at_.kept (keep _ s.lts.1 (fun e => n3 e.symm)), tab := s.tab.kept (keep _ s.lts.2.2.2 (fun e => n4 e.symm)), nums := fun x hx => ?_ }
  obtain ⟨a1, a2, a3⟩ := s.nums x hx
  refine ⟨a1, fun i hi => ?_, a3⟩
  have hc := a2 i hi
  by_cases hb : x.blk = b
  · exfalso
    have h1 := a2 0 (by omega)
    rw [hb, h0] at h1
    cases h1
  · rw [World.cell?_of_block (w := w) (a := ⟨x.blk, i, none⟩) (keep _ (World.block_lt_of_cell? w _ hc) hb)]
    exact hc
/-- What stays in Tick's region. -/
def TickS (w : World) (b g : Nat) (base sectors limit : Int) (q u : Nat) (last now : Int) (dead : Bool) (xb : Nat) (since : Int) : Prop := KAt w b g base sectors limit q u last now dead ∧ w.cell? ⟨xb, 3, none⟩ = some (.int .i64 since)
/-- What Tick comes to. -/
def TickPost (w : World) (b g h q u mb : Nat) (lm : List UInt8) (base sectors limit : Int) (os : List Snt) (cs : List Oc) (off back : Int) (broken : Bool) (last now : Int) (dead : Bool) (e : Ending) (w' : World) : Prop :=
  e = .returned (.tuple #[]) ∧ KS w' b g h q u mb lm base sectors limit os cs off back broken last (now + 1) (dead || os.any fun x => decide (limit ≤ now + 1 - x.since)) ∧ Turned (fun k => k = b) w w'


end Go.Proofs.YtdchlnffbiooaaaGreatDoor

namespace Go.Proofs.YtdchlnffbiooaaaGreatDoor
open Go.RowKit Go.Sort Go.Shelf

def cmpI (x y : Int) : Int := if x < y then -1 else if y < x then 1 else 0

set_option maxHeartbeats 400000 in
theorem isNaN_any (x : Int) (w : World) : Calls Tryz.prog 103 #[.int .i64 x] w fun e w' => e = .returned (.bool false) ∧ w = w' := by
  go_enter Tryz.func103, Tryz.ntmps103
  go_wp2
  go_ret
  exact ⟨rfl, rfl⟩
set_option maxHeartbeats 400000 in
theorem compare_any (x y : Int) (w : World) : Calls Tryz.prog 74 #[.int .i64 x, .int .i64 y] w fun e w' => e = .returned (.int .i64 (cmpI x y)) ∧ w = w' := by
  unfold cmpI
  by_cases h1 : x < y
  · rw [if_pos h1]
    go_enter Tryz.func74, Tryz.ntmps74
    go_wp2_with (go_at_call 103; refine (isNaN_any _ _).mono ?_; rintro e w' ⟨rfl, rfl⟩)
    go_ret
    exact ⟨rfl, rfl⟩
  · have h1' : decide (x < y) = false := by simpa using h1
    rw [if_neg h1]
    by_cases h2 : y < x
    · rw [if_pos h2]
      clear h1
      go_enter Tryz.func74, Tryz.ntmps74
      go_wp2_with (go_at_call 103; refine (isNaN_any _ _).mono ?_; rintro e w' ⟨rfl, rfl⟩)
      go_ret
      exact ⟨rfl, rfl⟩
    · have h2' : decide (y < x) = false := by simpa using h2
      rw [if_neg h2]
      clear h1 h2
      go_enter Tryz.func74, Tryz.ntmps74
      go_wp2_with (go_at_call 103; refine (isNaN_any _ _).mono ?_; rintro e w' ⟨rfl, rfl⟩)
      go_ret
      exact ⟨rfl, rfl⟩

def cmpD (x y : Dn) : Int := cmpI x.id y.id
theorem cmpD_lt (x y : Dn) : ltOf cmpD x y = true ↔ x.id < y.id := by
  unfold ltOf cmpD cmpI
  by_cases h1 : x.id < y.id
  · simp [h1]
  · by_cases h2 : y.id < x.id <;> simp [h1, h2]
theorem cmpD_nlt (x y : Dn) : ltOf cmpD x y = false ↔ ¬ x.id < y.id := by rw [← cmpD_lt]; simp
theorem swoD : SWO (ltOf cmpD) where
  irrefl x := by rw [cmpD_nlt]; omega
  trans x y z h1 h2 := by rw [cmpD_lt] at *; omega
  ntrans x y z h1 h2 := by rw [cmpD_nlt] at *; omega
instance : Inhabited Dn := ⟨⟨0, false, ⟨#[]⟩⟩⟩

set_option maxRecDepth 100000 in
set_option maxHeartbeats 1000000 in
theorem less_any (x y : Dn) (w : World) :
    Calls Tryz.prog 73 #[.agg (dnCells x).toArray, .agg (dnCells y).toArray] w fun e w' => e = .returned (.int .i64 (cmpD x y)) ∧ ∃ q os', w' = grow (w.drewN q) os' := by
  obtain ⟨xi, xo, xd⟩ := x
  obtain ⟨yi, yo, yd⟩ := y
  show Calls Tryz.prog 73 #[.agg #[.int .i64 xi, .bool xo, .string xd], .agg #[.int .i64 yi, .bool yo, .string yd]] w fun e w' => e = .returned (.int .i64 (cmpI xi yi)) ∧ ∃ q os', w' = grow (w.drewN q) os'
  have hc := fun w => compare_any xi yi w
  generalize cmpI xi yi = r at hc ⊢
  have b0 : ((w.alloc (.cells #[.int .i64 xi, .bool xo, .string xd] 51)).alloc (.cells #[.int .i64 yi, .bool yo, .string yd] 51)).cell? ⟨w.heap.size, 0, none⟩ = some (.int .i64 xi) := cell_of_block (heap_alloc2_old w _ _)
  have b1 : ((w.alloc (.cells #[.int .i64 xi, .bool xo, .string xd] 51)).alloc (.cells #[.int .i64 yi, .bool yo, .string yd] 51)).cell? ⟨w.heap.size + 1, 0, none⟩ = some (.int .i64 yi) := cell_of_block (heap_alloc2_new w _ _)
  go_enter Tryz.func73, Tryz.ntmps73
  go_wp2_with (go_at_call 74; refine (hc _).mono ?_; rintro e w' ⟨rfl, rfl⟩)
  go_ret
  exact ⟨rfl, 0, _, by rw [alloc_eq_grow, alloc_eq_grow, grow_grow]; rfl⟩

theorem dns_len (l : List Dn) : (l.flatMap dnCells).length = l.length * 3 := by
  induction l with
  | nil => rfl
  | cons x l ih => rw [List.flatMap_cons, List.length_append, ih, List.length_cons, show (dnCells x).length = 3 from rfl]; omega
theorem dns_at : ∀ (l : List Dn) (i j : Nat) (hi : i < l.length), j < 3 → (l.flatMap dnCells)[i * 3 + j]? = (dnCells l[i])[j]?
  | t :: l, 0, j, _, hj => by
    simp only [List.flatMap_cons, Nat.zero_mul, Nat.zero_add, List.getElem_cons_zero]
    rw [List.getElem?_append_left (by show j < (dnCells t).length; exact hj)]
  | t :: l, i + 1, j, hi, hj => by
    have := dns_at l i j (by simpa using hi) hj
    simp only [List.flatMap_cons, List.getElem_cons_succ] at this ⊢
    have h3 : (dnCells t).length = 3 := rfl
    rw [List.getElem?_append_right (by omega), h3, show (i + 1) * 3 + j - 3 = i * 3 + j by omega]
    exact this
theorem dns_flat (l : List Dn) (j : Nat) (hj : j < l.length * 3) : (l.flatMap dnCells)[j]? = some ((dnCells l.toArray[j / 3]!)[j % 3]!) := by
  have h1 : j / 3 < l.length := by omega
  have h2 := dns_at l (j / 3) (j % 3) h1 (by omega)
  rw [show j / 3 * 3 + j % 3 = j by omega] at h2
  have h3 : l.toArray[j / 3]! = l[j / 3] := by simp [h1]
  have hr : j % 3 < 3 := by omega
  rw [h2, h3]
  generalize j % 3 = r at hr
  match r, hr with
  | 0, _ => rfl
  | 1, _ => rfl
  | 2, _ => rfl

theorem dholds {B : Nat} {w : World} {b n cap : Nat} {l : List Dn} (h : OwnDns B w (.slice (some ⟨b, 0, none⟩) n cap) l) : HoldsK dnCells 3 w b 0 l.toArray := by
  intro j hj
  rw [size_flatK] at hj
  have hj' : j < l.length * 3 := by simpa using hj
  have hb : ∃ cur, w.heap[b]? = some (.cells cur 51 (0, 0)) := by
    rcases h.1.2 with ⟨h1, _⟩ | ⟨g, cap', cur, h1, _, h2, _⟩
    · cases h1
    · injection h1 with h1; injection h1 with h1; injection h1 with h1; subst h1; exact ⟨cur, h2⟩
  obtain ⟨cur, hb⟩ := hb
  refine ⟨?_, frozen_of_row w b _ cur _ hb⟩
  rw [get_flatK _ _ _ _ hj]
  have := h.1.cells (g := b) rfl j _ (dns_flat l j hj')
  have ha : (⟨b, 0, none⟩ : Addr).add j = ⟨b, j, none⟩ := by unfold Addr.add; split <;> simp_all
  rw [ha] at this
  rw [Nat.zero_add]
  exact this

theorem dput {B : Nat} {w : World} {b n cap : Nat} {l : List Dn} (h : OwnDns B w (.slice (some ⟨b, 0, none⟩) n cap) l) (d' : Array Dn) (hd : d'.size = l.length) (m : Nat) (os : Array Obj) :
    OwnDns B (sortWorldK dnCells 3 w b 0 m d' os) (.slice (some ⟨b, 0, none⟩) n cap) d'.toList ∧ w.grownBy (sortWorldK dnCells 3 w b 0 m d' os) (some b) := by
  rcases h.1.2 with ⟨h1, _⟩ | ⟨g, cap', cur, h1, h0, h2, h3, h4, h5, h6⟩
  · cases h1
  injection h1 with h1 hn hc; injection h1 with h1; injection h1 with h1; subst h1 hn hc
  have hbl : b < w.heap.size := (Array.getElem?_eq_some_iff.1 h2).1
  have hm : (mapBlock (Sort.ahead w m) b (putCells id 0 (flatK dnCells 3 d'))).heap[b]? = some (.cells (putCells id 0 (flatK dnCells 3 d') cur) 51 (0, 0)) := by
    show (w.heap.modify b _)[b]? = _
    rw [Array.getElem?_modify, if_pos rfl, h2]
    rfl
  have hsz : (mapBlock (Sort.ahead w m) b (putCells id 0 (flatK dnCells 3 d'))).heap.size = w.heap.size := by show (w.heap.modify b _).size = _; simp
  have hb2 : (sortWorldK dnCells 3 w b 0 m d' os).heap[b]? = some (.cells (putCells id 0 (flatK dnCells 3 d') cur) 51 (0, 0)) := by
    unfold sortWorldK
    rw [heap_grow_old _ _ (by show b < (mapBlock _ _ _).heap.size; rw [hsz]; exact hbl)]
    exact hm
  have hll : d'.toList.length = l.length := by rw [Array.length_toList, hd]
  refine ⟨⟨⟨by rw [dns_len], .inr ⟨b, cap, _, by rw [hll], h0, hb2, by rw [hll]; exact h3, h4, by simp [putCells]; exact h5, ?_⟩⟩, by rw [hll]; exact h.2⟩, ⟨rfl, rfl, rfl, ?_, fun k hk hkb => ?_⟩⟩
  · apply List.ext_getElem?
    intro j
    rw [hll]
    by_cases hj : j < d'.size * 3
    · rw [List.getElem?_take, if_pos (by omega), dns_flat d'.toList j (by simpa using hj)]
      have hjc : j < cur.size := by rw [h5]; have := Nat.mul_le_mul_right 3 h3; omega
      have hg := get_flatK dnCells 3 d' j hj
      simp only [putCells, Array.getElem?_toList, Array.getElem?_mapIdx, Array.getElem?_eq_getElem hjc, Option.map_some, size_flatK]
      rw [if_pos ⟨Nat.zero_le _, by omega⟩, Nat.sub_zero]
      simp only [id]
      rw [hg]
    · rw [List.getElem?_take, if_neg (by omega), List.getElem?_eq_none (by rw [dns_len]; simpa using hj)]
  · unfold sortWorldK
    simp only [size_grow]
    show w.heap.size ≤ (mapBlock _ _ _).heap.size + _
    rw [hsz]; omega
  · unfold sortWorldK
    rw [heap_grow_old _ _ (by show k < (mapBlock _ _ _).heap.size; rw [hsz]; exact hk)]
    show (w.heap.modify b _)[k]? = _
    rw [Array.getElem?_modify, if_neg (fun e => hkb (by rw [e]))]

theorem enters_less : ∀ args w, (callFunc 73 args).run Tryz.prog w = .ok (.enter 73 args) w := enters_of Tryz.func73 (by kernel_rfl) rfl

theorem dsort_ok (w : World) (B b cap : Nat) (l : List Dn) (h : OwnDns B w (.slice (some ⟨b, 0, none⟩) l.length cap) l) :
    Calls Tryz.prog 72 #[.slice (some ⟨b, 0, none⟩) l.length cap, .func (.func 73) #[] #[]] w fun e w' =>
      e = .returned (.tuple #[]) ∧ ∃ l', l'.Perm l ∧ l'.Pairwise (fun x y => ¬ y.id < x.id) ∧ OwnDns B w' (.slice (some ⟨b, 0, none⟩) l.length cap) l' ∧ w.grownBy w' (some b) := by
  have hl := h.2
  have hb : b < w.heap.size := by
    rcases h.1.2 with ⟨h1, _⟩ | ⟨g, cap', cur, h1, _, h2, _⟩
    · cases h1
    · injection h1 with h1; injection h1 with h1; injection h1 with h1; subst h1; exact (Array.getElem?_eq_some_iff.1 h2).1
  have hcon := AnyQ.slices_SortFunc Tryz.sortD 3 Tryz.isAgg51 Tryz.sizeOf51 dnCells (fun _ => rfl) (fun x v hv => by simp [dnCells] at hv; rcases hv with rfl | rfl | rfl <;> rfl) cmpD swoD 73 #[] b 0 cap l.toArray w enters_less (fun _ _ _ _ x y => less_any x y _) (dholds h) hb (by simp; omega)
  have hcon2 : Calls Tryz.prog 72 #[.slice (some ⟨b, 0, none⟩) l.length cap, .func (.func 73) #[] #[]] w _ := hcon
  refine hcon2.mono fun e w' ⟨he, d', n, os, hp, hs, hw⟩ => ?_
  obtain ⟨hsz, _, hperm⟩ := hp
  have hz : d'.size = l.length := by simpa using hsz
  subst hw
  obtain ⟨r1, r2⟩ := dput h d' hz n os
  refine ⟨he, d'.toList, ?_, ?_, r1, r2⟩
  · have e1 : (d'.extract 0 l.toArray.size).toList = d'.toList := by simp; exact List.take_of_length_le (by rw [Array.length_toList]; omega)
    have e2 : (l.toArray.extract 0 l.toArray.size).toList = l := by simp
    rw [e1, e2] at hperm
    exact hperm
  · rw [List.pairwise_iff_getElem]
    intro i j hi hj hij
    have := hs i j (Nat.zero_le _) hij (by simpa [hz] using hj)
    rw [cmpD_nlt] at this
    have hi' : i < d'.size := by simpa using hi
    have hj' : j < d'.size := by simpa using hj
    simpa [hi', hj'] using this

theorem dsort_any (w : World) (B : Nat) (D : Value) (l : List Dn) (h : OwnDns B w D l) :
    Calls Tryz.prog 72 #[D, .func (.func 73) #[] #[]] w fun e w' =>
      e = .returned (.tuple #[]) ∧ ∃ l', l'.Perm l ∧ l'.Pairwise (fun x y => ¬ y.id < x.id) ∧ OwnDns B w' D l' ∧ w.grownBy w' D.ownBlock := by
  rcases h.1.2 with ⟨hD, h0⟩ | ⟨b, cap, cur, hD, _, hb, _⟩
  · have h0' : l.length = 0 := by first | exact h0.1 | exact h0 | simpa using h0
    obtain rfl := List.length_eq_zero_iff.1 h0'
    subst hD
    exact (AnyF.slices_SortFunc_none Tryz.sortD none 0 _ w).mono fun e w' ⟨he, hw⟩ => ⟨he, [], List.Perm.refl _, List.Pairwise.nil, by subst hw; exact h, by subst hw; exact ⟨rfl, rfl, rfl, Nat.le_refl _, fun _ _ _ => rfl⟩⟩
  · subst hD
    exact (dsort_ok w B b cap l h).mono fun e w' ⟨he, l', h1, h2, h3, h4⟩ => ⟨he, l', h1, h2, h3, h4⟩

end Go.Proofs.YtdchlnffbiooaaaGreatDoor

namespace Go.Proofs.YtdchlnffbiooaaaGreatDoor
open Go.RowKit Go.ChangeMaps Go.MapKept Go.Sort

theorem OwnDns.besides {B : Nat} {w w' : World} {v : Value} {l : List Dn} {r : Nat} (h : OwnDns B w v l) (k : w.grownBy w' (some r)) (hn : ∀ j, v.ownBlock = some j → j ≠ r) : OwnDns B w' v l := ⟨h.1.kept k (.inr (fun e => hn r e rfl)), h.2⟩
theorem OwnDns.other {B : Nat} {w w' : World} {v : Value} {l : List Dn} {r : Nat} (h : OwnDns B w v l) (k : w.grownBy w' (some r)) (hr : r < B) : OwnDns B w' v l := h.besides k (fun j e => by have := own_ge h.1 _ e; omega)

/-- 'clear(m)'. -/
theorem IsTab.clear {P : Program} {t k e : TypeId} {w : World} {b : Nat} {cs : List (Int × Value)} (h : IsTab w b cs) (ht : P.underlying t = some (.map k e)) :
    ∃ w', (∀ ty, (Builtin.clear_ #[t] ty #[.map (some b)]).run P w = .ok (.tuple #[]) w') ∧ IsTab w' b [] ∧ w.grownBy w' (some b) := by
  obtain ⟨es, clock, hb, F⟩ := h
  have hg : ∀ o, w.grownBy (setBlock w b o) (some b) := fun o => ⟨rfl, rfl, rfl, by simp [setBlock], fun i _ hi => heap_setBlock_other hb _ (fun e => hi (by rw [e]))⟩
  refine ⟨setBlock w b (.map #[] clock), ?_, ⟨#[], clock, heap_setBlock_same hb _, ⟨rfl, List.nodup_nil, by simp, List.nodup_nil, by simp⟩⟩, hg _⟩
  intro ty
  simp [Builtin.clear_, run_underlying ht, MapKept.run_getObj_map hb, MapKept.run_setObj_map _ hb, Result.andThen, setBlock]
/-- 'append(v, x)'. -/
theorem OwnDns.push_at {B : Nat} {w : World} {v : Value} {l : List Dn} (h : OwnDns B w v l) (hB : B ≤ w.heap.size) (x : Dn) (hl : l.length + 1 ≤ 100) :
    ∃ v' w', (Builtin.append_ #[48, 48] 48 #[v, .slice (some ⟨w.heap.size, 0, none⟩) 1 1]).run Tryz.prog (w.alloc (.cells #[.int .i64 x.id, .bool x.ok, .string x.data] 51)) = .ok v' w' ∧ OwnDns B w' v' (l ++ [x]) ∧ w.grownBy w' v.ownBlock ∧ (v'.ownBlock = v.ownBlock ∨ v'.ownBlock = some (w.heap.size + 1)) := by
  have ka := World.grownBy_alloc w (.cells #[.int .i64 x.id, .bool x.ok, .string x.data] 51) none
  obtain ⟨i0, hi⟩ : ∃ j, Tryz.prog.info? 51 = some j := Option.isSome_iff_exists.1 (by kernel_rfl)
  have hz : (Tryz.prog.info? 51).bind (·.zero) = some (.agg #[.int .i64 0, .bool false, .string ⟨#[]⟩]) := by kernel_rfl
  have hs : (Tryz.prog.info? 51).map (·.size) = some 3 := by kernel_rfl
  have hb : (Tryz.prog.info? 51).map (·.bytes) = some 32 := by kernel_rfl
  rw [hi] at hz hs hb
  simp only [Option.bind_some, Option.map_some, Option.some.injEq] at hz hs hb
  obtain ⟨v', w', h1, h2, h3, _, h5⟩ := run_append_own_at (P := Tryz.prog) (w.alloc (.cells #[.int .i64 x.id, .bool x.ok, .string x.data] 51)) B 48 48 51 i0 (.agg #[.int .i64 0, .bool false, .string ⟨#[]⟩]) 3 32 Tryz.underlying48 hi hz hs hb rfl (by decide) v l.length (l.flatMap dnCells) (h.grown ka).1
    ⟨w.heap.size, 0, none⟩ 1 1 (dnCells x) rfl (fun j u hu => by
      rw [Addr.add_mid, Nat.zero_add, cell_of_block (heap_alloc_new w _)]
      simpa [dnCells] using hu) (by simpa using dns_one [x]) (by unfold maxLen; omega) (by omega) (by have := ka.size; omega)
  refine ⟨v', w', h1, ⟨by rw [List.length_append, List.flatMap_append]; simpa using h2, by simpa using hl⟩, ⟨h3.os.trans ka.os, h3.tape.trans ka.tape, h3.output.trans ka.output, Nat.le_trans ka.size h3.size, fun j hj hn => (h3.block j (Nat.lt_of_lt_of_le hj ka.size) hn).trans (ka.block j hj (by simp))⟩, by simpa using h5⟩

/-- What stands first in an entry. -/
def idE (v : Value) : Int := match v with
  | .agg c => match (c.toList[0]? : Option Value) with
    | some (Value.int IntKind.i64 s) => s
    | _ => 0
  | _ => 0
def lostD (e : Int × Value) : Dn := ⟨idE e.2, false, ⟨#[]⟩⟩
theorem lostD_ent (x : Snt) : lostD x.ent = ⟨x.id, false, ⟨#[]⟩⟩ := rfl
def LostPost (w : World) (b g : Nat) (base sectors limit : Int) (q u : Nat) (last now : Int) (os : List Snt) (e : Ending) (w' : World) : Prop :=
  ∃ (v : Value) (l : List Dn), e = .returned v ∧ OwnDns w.heap.size w' v l ∧ l.Perm (os.map fun x => ⟨x.id, false, ⟨#[]⟩⟩) ∧ l.Pairwise (fun x y => ¬ y.id < x.id) ∧ KAt w' b g base sectors limit q u last now true ∧ IsTab w' u [] ∧ Turned (fun k => k = u) w w'

set_option maxRecDepth 100000 in
set_option maxHeartbeats 4000000 in
theorem lost_any (w : World) (b g : Nat) (base sectors limit : Int) (q u : Nat) (last now : Int) (os : List Snt) (hK : KAt w b g base sectors limit q u last now true) (hT : IsTab w u (os.map Snt.ent)) (hu : u ≠ b) (h8 : os.length ≤ 8) :
    Calls Tryz.prog 35 #[.pointer (some ⟨b, 0, none⟩)] w (LostPost w b g base sectors limit q u last now os) := by
  have ka := World.grownBy_alloc w (.cells #[] 51) none
  have o1 : OwnDns w.heap.size (w.alloc (.cells #[] 51)) (.slice (some ⟨w.heap.size, 0, none⟩) 0 0) [] := OwnDns.zero w (Nat.le_refl _)
  have lb := lt_of_block hK
  have lu := hT.lt
  have K1 := hK.kept (ka.block _ lb (by simp))
  have tab1 := hT.kept (ka.block _ lu (by simp))
  have zz : w.heap.size < (w.alloc (.cells #[] 51)).heap.size := lt_of_block (heap_alloc_new w _)
  have T1 := Turned.of (S := fun k => k = u) ka (fun j e => by cases e)
  have H8 := Lib.hid h8
  clear hK hT ka h8
  go_enter Tryz.func35, Tryz.ntmps35
  go_upto_region 2 with fail
  generalize w.alloc _ = W1 at o1 K1 tab1 T1 zz ⊢
  have c5 := K1.c5
  go_wp2_with (at_range; refine wpList_range_tab _ rfl _ 62 rfl 3 84 Tryz.underlying62 u (os.map Snt.ent) tab1 rfl ?_; intro w2 hit hg0 hs0)
  go_frame
  have K2 := K1.kept (hg0.block _ (lt_of_block K1) (by simp))
  have T2 := T1.step hg0 (fun j e => by cases e)
  have o2 := o1.grown hg0
  have z1 := T1.size
  obtain ⟨it, hite⟩ : ∃ it, it = W1.heap.size := ⟨_, rfl⟩
  rw [← hite] at hit ⊢
  have hitb : it ≠ b := by omega
  have hitu : it ≠ u := hit.ne
  have hitw : w.heap.size ≤ it := by omega
  have hitn : it < w2.heap.size := by omega
  have oit : ∀ j, (Value.slice (some ⟨w.heap.size, 0, none⟩) 0 0).ownBlock = some j → j ≠ it := by
    intro j hj
    injection (show some w.heap.size = some j from hj) with hj
    omega
  clear c5 tab1 K1 hg0 hs0 T1 o1 hite zz
  go_loopw [3] (fun v wr => ∃ (acc : List Dn) (left : List (Int × Value)), KAt wr b g base sectors limit q u last now true ∧ TabIter wr u it (os.map Snt.ent) left ∧ OwnDns w.heap.size wr v acc ∧ Hid ((acc ++ left.map lostD).Perm ((os.map Snt.ent).map lostD)) ∧ Turned (fun k => k = u) w wr ∧ Hid (∀ j, v.ownBlock = some j → j ≠ it)) (fun _ wr => wr.rangeLeft u it)
  case atStart => exact ⟨[], os.map Snt.ent, K2, hit, o2, Lib.hid (List.Perm.refl _), T2, Lib.hid oit⟩
  case round =>
    obtain ⟨acc, left, kK, kI, kO, HP, kT, HO⟩ := hrel
    obtain ⟨wo, rfl⟩ : ∃ wo : World, wo = wr := ⟨_, rfl⟩
    have HM0 := Lib.hid kI.left_eq
    clear K2 hit o2 T2 oit
    go_wp2_with (at_next; refine wpList_next_tab _ Snt.val rfl _ rfl u it (os.map Snt.ent) left rfl kI (fun c hc => by obtain ⟨y, _, rfl⟩ := List.mem_map.1 hc; exact ⟨y, rfl⟩) ?_ ?_)
    · intro hl0
      subst hl0
      have c5 := kK.c5
      have itab := kI.tab
      have hlen : acc.length = os.length := by have := HP.out.length_eq; simpa using this
      obtain ⟨w4, hcl, tb4, g4⟩ := itab.clear Tryz.underlying62
      have K4 := Lib.hid (kK.kept (g4.block _ (lt_of_block kK) (fun e => by injection e with e; exact hu e.symm)))
      have T4 := Lib.hid (kT.step g4 (fun j e => .inl (by injection e with e; exact e.symm)))
      have TB4 := Lib.hid tb4
      have o4 := kO.other g4 lu
      have HACC := Lib.hid (own_ge kO.1)
      clear kK kI kO HO kT g4 tb4 itab HM0
      have SC := Lib.hid (dsort_any w4 w.heap.size _ acc o4)
      clear o4
      go_wp2_with fail
      refine SC.out.mono ?_
      clear SC
      rintro e w5 ⟨rfl, l', p1, p2, o5, g5⟩
      have K5 := K4.out.kept (g5.block _ (lt_of_block K4.out) (fun e => by have := HACC.out _ e.symm; omega))
      have TB5 := TB4.out.kept (g5.block _ TB4.out.lt (fun e => by have := HACC.out _ e.symm; omega))
      have T5 := T4.out.step g5 (fun j e => .inr (HACC.out _ e))
      have FIN : Hid (LostPost w b g base sectors limit q u last now os (.returned u3) w5) := Lib.hid ⟨_, l', rfl, o5, p1.trans (by have := HP.out; simpa [List.map_map, Function.comp_def, lostD_ent] using this), p2.imp (fun h => by omega), K5, TB5, T5⟩
      clear o5 g5 K5 TB5 T5 p1 p2 K4 TB4 T4 HACC HP
      go_wp2_with fail
      go_ret
      exact FIN.out
    · intro x y left' w' hp y' hy' hent hlt2 hI' hG' hsz' hen
      have HLT := Lib.hid hlt2
      have hla : acc.length + left.length = os.length := by have := HP.out.length_eq; simpa using this
      have hlf : left.length = left'.length + 1 := by have := hp.length_eq; simpa using this
      have P2 := HP.out.symm.trans ((List.Perm.refl acc).append (hp.map lostD))
      obtain ⟨yh, yi, yk, ys, yt⟩ := y
      have HP2 : Hid (((acc ++ [(⟨yi, false, ⟨#[]⟩⟩ : Dn)]) ++ left'.map lostD).Perm ((os.map Snt.ent).map lostD)) := Lib.hid (by
        have h3 := P2.symm
        rw [List.map_cons] at h3
        rw [List.append_assoc]
        exact h3)
      clear P2 hp hent HP
      have HN := Lib.hid hen
      unfold Snt.val at hen ⊢
      simp only at hen ⊢
      have K3 := kK.kept (hG'.block _ (lt_of_block kK) (fun e => by injection e with e; exact hitb e.symm))
      have T3 := kT.step hG' (fun j e => .inr (by injection e with e; omega))
      have o3 := kO.besides hG' HO.out
      have ka := World.grownBy_alloc w' (.cells #[.int .i64 yi, .int .i64 yk, .int .i64 ys, .int .i64 yt] 84) none
      have hxb := heap_alloc_new w' (.cells #[.int .i64 yi, .int .i64 yk, .int .i64 ys, .int .i64 yt] 84)
      clear kK kO kT hy' hlt2
      go_upto_region 5 with fail
      generalize hWe : w'.alloc _ = W3 at ka hxb ⊢
      clear hWe hen HN
      have K4 := K3.kept (ka.block _ (lt_of_block K3) (by simp))
      have I4 := hI'.kept (ka.block _ hI'.tab.lt (by simp)) (ka.block _ hI'.lt (by simp))
      have T4 := T3.step ka (fun j e => by cases e)
      have o4 := o3.grown ka
      have x0 : W3.cell? ⟨wo.heap.size, 0, none⟩ = some (.int .i64 yi) := by rw [← hsz']; exact cell_of_block hxb
      obtain ⟨v5, w5, r5, o5, k5, h5⟩ := o4.push_at T4.size ⟨yi, false, ⟨#[]⟩⟩ (by have := H8.out; have := o4.2; omega)
      have oge := own_ge o4.1
      have zi : it < W3.heap.size := I4.lt
      have K5 := K4.kept (k5.block _ (lt_of_block K4) (fun e => by have := oge _ e.symm; omega))
      have I5 := I4.kept (k5.block _ I4.tab.lt (fun e => by have := oge _ e.symm; omega)) (k5.block _ I4.lt (fun e => HO.out _ e.symm rfl))
      have T5 := T4.step k5 (fun j e => .inr (oge _ e))
      have HO5 : Hid (∀ j, v5.ownBlock = some j → j ≠ it) := Lib.hid (fun j hj => by
        rcases h5 with h5 | h5
        · exact HO.out j (h5 ▸ hj)
        · rw [h5] at hj
          injection hj with hj
          omega)
      have HM5 : Hid (w5.rangeLeft u it < wo.rangeLeft u it) := Lib.hid (by rw [I5.left_eq, HM0.out]; exact HLT.out)
      have N5 := Lib.hid (⟨K5, I5, o5, HP2, T5, HO5⟩ : KAt w5 b g base sectors limit q u last now true ∧ TabIter w5 u it (os.map Snt.ent) left' ∧ OwnDns w.heap.size w5 v5 (acc ++ [(⟨yi, false, ⟨#[]⟩⟩ : Dn)]) ∧ Hid (((acc ++ [(⟨yi, false, ⟨#[]⟩⟩ : Dn)]) ++ left'.map lostD).Perm ((os.map Snt.ent).map lostD)) ∧ Turned (fun k => k = u) w w5 ∧ Hid (∀ j, v5.ownBlock = some j → j ≠ it))
      clear K5 I5 o5 T5 HO5 K3 T3 o3 K4 I4 T4 o4 ka hxb oge zi k5 h5 HP2 HM0 HLT HO hG' hI' hla hlf hsz'
      simp only at r5
      go_wp2_with (at_builtin; refine wpList_append_run _ rfl _ _ 48 rfl _ _ v5 w5 rfl rfl r5 ?_; clear r5)
      go_roundw
      case rel => exact ⟨_, _, N5.out⟩
      case measure => exact HM5.out

end Go.Proofs.YtdchlnffbiooaaaGreatDoor

namespace Go.Proofs.YtdchlnffbiooaaaGreatDoor
open Go.RowKit
set_option linter.unusedVariables false

section
variable {α : Type} {k : Nat} {enc : α → List Value}
def encA (enc : α → List Value) (l : List α) : List Value := l.flatMap enc
theorem encA_append (enc : α → List Value) (l m : List α) : encA enc (l ++ m) = encA enc l ++ encA enc m := by simp [encA]
theorem encA_length (hk : ∀ x, (enc x).length = k) : ∀ l : List α, (encA enc l).length = l.length * k
  | [] => by simp [encA]
  | t :: l => by
    have := encA_length hk l
    simp only [encA, List.flatMap_cons, List.length_append, List.length_cons] at this ⊢
    rw [hk t, this, Nat.add_one_mul]
    omega
theorem encA_at (hk : ∀ x, (enc x).length = k) : ∀ (l : List α) (i j : Nat) (hi : i < l.length), j < k → (encA enc l)[i * k + j]? = (enc l[i])[j]?
  | t :: l, 0, j, _, hj => by
    simp only [encA, List.flatMap_cons, Nat.zero_mul, Nat.zero_add, List.getElem_cons_zero]
    rw [List.getElem?_append_left (by rw [hk t]; exact hj)]
  | t :: l, i + 1, j, hi, hj => by
    have := encA_at hk l i j (by simpa using hi) hj
    simp only [encA, List.flatMap_cons, List.getElem_cons_succ] at this ⊢
    rw [List.getElem?_append_right (by rw [hk t, Nat.add_one_mul]; omega), hk t, show (i + 1) * k + j - k = i * k + j by rw [Nat.add_one_mul]; omega]
    exact this
theorem encA_set (hk : ∀ x, (enc x).length = k) : ∀ (l : List α) (i : Nat) (y : α) (hi : i < l.length), encA enc (l.set i y) = (encA enc l).take (i * k) ++ enc y ++ (encA enc l).drop (i * k + k)
  | t :: l, 0, y, _ => by
    simp only [encA, List.set_cons_zero, List.flatMap_cons, Nat.zero_mul, List.take_zero, List.nil_append, Nat.zero_add]
    rw [List.drop_left' (hk t)]
  | t :: l, i + 1, y, hi => by
    have := encA_set hk l i y (by simpa using hi)
    simp only [encA, List.set_cons_succ, List.flatMap_cons] at this ⊢
    rw [this]
    have e1 : (i + 1) * k = (enc t).length + i * k := by rw [hk t, Nat.add_one_mul]; omega
    rw [e1, List.take_length_add_append, Nat.add_assoc, List.drop_length_add_append]
    simp
/-- A slice that has a block of its own, or none: these elements. -/
abbrev RowA (k : Nat) (enc : α → List Value) (TE : TypeId) (w : World) (v : Value) (l : List α) : Prop := w.ownsRow 0 TE k v l.length (encA enc l)
variable {TE : TypeId} {w w' : World} {v : Value} {l : List α}
theorem add_off (b o j : Nat) : (⟨b, o, none⟩ : Addr).add j = ⟨b, o + j, none⟩ := by unfold Addr.add; split <;> simp_all
theorem RowA.shape (h : RowA k enc TE w v l) : ∃ p c, v = .slice p l.length c := by
  rcases h.2 with ⟨rfl, h0⟩ | ⟨b, cap, _, rfl, _⟩
  · exact ⟨none, 0, by rw [h0]⟩
  · exact ⟨_, _, rfl⟩
theorem RowA.block (h : RowA k enc TE w v l) (h0 : 0 < l.length) : ∃ b cap cur, v = .slice (some ⟨b, 0, none⟩) l.length cap ∧ w.heap[b]? = some (.cells cur TE (0, 0)) ∧ l.length ≤ cap ∧ cap ≤ maxLen ∧ cur.size = cap * k ∧ cur.toList.take (l.length * k) = encA enc l := by
  rcases h.2 with ⟨_, h1⟩ | ⟨b, cap, cur, h1, _, h2, h3, h4, h5, h6⟩
  · omega
  · exact ⟨b, cap, cur, h1, h2, h3, h4, h5, h6⟩
theorem RowA.elem (hk : ∀ x, (enc x).length = k) (h : RowA k enc TE w v l) (h0 : 0 < l.length) :
    ∃ b cap, v = .slice (some ⟨b, 0, none⟩) l.length cap ∧ l.length ≤ cap ∧ cap ≤ maxLen ∧ b < w.heap.size ∧ (∀ i, w.frozen? ⟨b, i, none⟩ = false) ∧ ∀ (j : Nat) (hj : j < l.length), w.rangeAt b (j * k) (enc l[j]) := by
  obtain ⟨b, cap, cur, rfl, hb, hc, hm, hs, ht⟩ := h.block h0
  refine ⟨b, cap, rfl, hc, hm, (Array.getElem?_eq_some_iff.1 hb).1, fun i => frozen_of_row w b i cur TE hb, fun j hj i u hu => ?_⟩
  have hi : i < k := by have := (List.getElem?_eq_some_iff.1 hu).1; rw [hk] at this; exact this
  have := h.cells (g := b) rfl (j * k + i) u (by rw [encA_at hk l j i hj hi]; exact hu)
  rw [add_off, Nat.zero_add] at this
  exact this
theorem RowA.kept (h : RowA k enc TE w v l) (hs : w.heap.size ≤ w'.heap.size) (hb : ∀ b, v.ownBlock = some b → w'.heap[b]? = w.heap[b]?) : RowA k enc TE w' v l := by
  refine ⟨h.1, ?_⟩
  rcases h.2 with h1 | ⟨b, cap, cur, rfl, h2, h3, h4⟩
  · exact .inl h1
  · exact .inr ⟨b, cap, cur, rfl, h2, (hb b rfl).trans h3, h4⟩
/-- A whole element is written in its place. -/
theorem RowA.put (hk : ∀ x, (enc x).length = k) {b cap i : Nat} (h : RowA k enc TE w (.slice (some ⟨b, 0, none⟩) l.length cap) l) (hi : i < l.length) (y : α) {cur' : Array Value}
    (hb : ∀ cur, w.heap[b]? = some (.cells cur TE (0, 0)) → w'.heap[b]? = some (.cells cur' TE (0, 0)) ∧ cur'.toList = cur.toList.take (i * k) ++ enc y ++ cur.toList.drop (i * k + k)) : RowA k enc TE w' (.slice (some ⟨b, 0, none⟩) l.length cap) (l.set i y) := by
  obtain ⟨b', cap', cur, hv, h1, h2, h3, h4, h5⟩ := h.block (by omega)
  injection hv with hv _ hc; injection hv with hv; injection hv with hv
  subst hv hc
  obtain ⟨g1, g2⟩ := hb cur h1
  have hik : i * k + k ≤ l.length * k := by rw [← Nat.add_one_mul]; exact Nat.mul_le_mul_right k (by omega)
  have hlk : l.length * k ≤ cap * k := Nat.mul_le_mul_right k h2
  refine ⟨by rw [encA_length hk], .inr ⟨b, cap, cur', by rw [List.length_set], Nat.zero_le _, g1, by rw [List.length_set]; exact h2, h3, ?_, ?_⟩⟩
  · have : cur'.toList.length = cap * k := by
      rw [g2, List.length_append, List.length_append, List.length_take, List.length_drop, hk, Array.length_toList, h4]
      omega
    rw [← this, Array.length_toList]
  · rw [List.length_set, g2, encA_set hk l i y hi, ← h5, List.take_take, Nat.min_eq_left (by omega), List.drop_take]
    have e1 : (cur.toList.take (i * k) ++ enc y).length = i * k + k := by
      rw [List.length_append, List.length_take, hk, Array.length_toList, h4]
      omega
    rw [List.take_append, e1, List.take_of_length_le (by rw [e1]; omega)]

/-- 'append' of one element, onto a row of its own. -/
theorem run_append_A {P : Program} (hk : ∀ x, (enc x).length = k) (h1e : ∀ x, ∀ u ∈ enc x, u.oneCell' = true) (hk0 : 0 < k) (t : TypeId) (TE : TypeId) (i : TypeInfo) (z : Value) (bytes : Nat) (ty : TypeId) (ht : P.underlying t = some (.slice TE)) (hi : P.info? TE = some i) (hz : i.zero = some z) (hsize : i.size = k) (hby : i.bytes = bytes) (hb2 : bytes ≤ 100) (hzs : z.cells.size = k)
    (v : Value) (l : List α) (hown : RowA k enc TE w v l) (hl : l.length ≤ 100000000)
    (ad : Addr) (c : Nat) (y : α) (hc : ∀ j u, (enc y)[j]? = some u → w.cell? (ad.add j) = some u) :
    ∃ v' w', (Builtin.append_ #[t, t] ty #[v, .slice (some ad) 1 c]).run P w = .ok v' w' ∧ RowA k enc TE w' v' (l ++ [y]) ∧ w.grownBy w' v.ownBlock ∧ (v'.ownBlock = v.ownBlock ∨ v'.ownBlock = some w.heap.size) := by
  obtain ⟨v', w', hr, h2, h3, _, h5⟩ := run_append_own_at (P := P) w 0 t ty TE i z k bytes ht hi hz hsize hby hzs hk0 v l.length (encA enc l) hown ad 1 c (enc y) (by rw [hk, Nat.one_mul]) hc (h1e y) (by unfold maxLen; omega) (by have := Nat.mul_le_mul (show l.length + 1 ≤ 100000001 by omega) hb2; omega) (Nat.zero_le _)
  refine ⟨v', w', hr, ?_, h3, h5⟩
  unfold RowA
  rw [List.length_append, encA_append]
  simpa [encA] using h2
end

/-- What is turned between two worlds lies in blocks of O; the rest is as it was. -/
structure Turn (w w' : World) (O : Nat → Prop) : Prop where
  os : w'.os = w.os
  tape : w'.tape = w.tape
  output : w'.output = w.output
  size : w.heap.size ≤ w'.heap.size
  block : ∀ k, k < w.heap.size → ¬ O k → w'.heap[k]? = w.heap[k]?
theorem Turn.refl (w : World) (O : Nat → Prop) : Turn w w O := ⟨rfl, rfl, rfl, Nat.le_refl _, fun _ _ _ => rfl⟩
theorem Turn.trans {w w1 w2 : World} {O : Nat → Prop} (h : Turn w w1 O) (k : Turn w1 w2 O) : Turn w w2 O :=
  ⟨k.os.trans h.os, k.tape.trans h.tape, k.output.trans h.output, Nat.le_trans h.size k.size, fun j hj ho => (k.block j (Nat.lt_of_lt_of_le hj h.size) ho).trans (h.block j hj ho)⟩
theorem Turn.mono {w w' : World} {O O' : Nat → Prop} (h : Turn w w' O) (k : ∀ j, j < w.heap.size → O j → O' j) : Turn w w' O' := ⟨h.os, h.tape, h.output, h.size, fun j hj ho => h.block j hj (fun x => ho (k j hj x))⟩
theorem Turn.trans' {w w1 w2 : World} {O O' : Nat → Prop} (h : Turn w w1 O) (k : Turn w1 w2 O') (ho : ∀ j, j < w.heap.size → O' j → O j) : Turn w w2 O :=
  ⟨k.os.trans h.os, k.tape.trans h.tape, k.output.trans h.output, Nat.le_trans h.size k.size, fun j hj hn => (k.block j (Nat.lt_of_lt_of_le hj h.size) (fun x => hn (ho j hj x))).trans (h.block j hj hn)⟩
theorem Turn.of_grown {w w' : World} {row : Option Nat} {O : Nat → Prop} (h : w.grownBy w' row) (k : ∀ j, row = some j → O j) : Turn w w' O :=
  ⟨h.os, h.tape, h.output, h.size, fun j hj ho => h.block j hj (fun e => ho (k j e.symm))⟩
theorem Turn.of_below {w w' : World} {O : Nat → Prop} (h : Below w.heap.size w w') : Turn w w' O := ⟨h.os, h.tape, h.output, h.size, fun k hk _ => h.block k hk⟩
theorem Turn.alloc {w w' : World} {O : Nat → Prop} (h : Turn w w' O) (o : Obj) : Turn w (w'.alloc o) O := h.trans (Turn.of_grown (World.grownBy_alloc w' o none) (fun j h => by cases h))
theorem Turn.setRow {w w' : World} {O : Nat → Prop} (h : Turn w w' O) {g : Nat} (hg : O g) (cs : Array Value) : Turn w (w'.setRow g cs) O :=
  h.trans ⟨rfl, rfl, rfl, by simp [World.setRow], fun k _ ho => setRow_other _ _ _ _ (fun e => ho (by rw [e]; exact hg))⟩
theorem Turn.setCell {w w' : World} {O : Nat → Prop} (h : Turn w w' O) {g : Nat} (hg : O g) (i : Nat) (v : Value) : Turn w (w'.setCell ⟨g, i, none⟩ v) O :=
  h.trans ⟨rfl, rfl, rfl, by simp [World.setCell], fun k _ ho => heap_setCell_other w' ⟨g, i, none⟩ k v (fun e => ho (by rw [e]; exact hg))⟩
/-- A part of what stands in a row. -/
theorem rangeAt_drop {w : World} {b o n : Nat} {cs : List Value} (h : w.rangeAt b o cs) : w.rangeAt b (o + n) (cs.drop n) := fun j v hv => by
  rw [List.getElem?_drop] at hv
  have := h (n + j) v hv
  rw [Nat.add_assoc]
  exact this
theorem rangeAt_take {w : World} {b o n : Nat} {cs : List Value} (h : w.rangeAt b o cs) : w.rangeAt b o (cs.take n) := fun j v hv => by
  rw [List.getElem?_take] at hv
  split at hv
  · exact h j v hv
  · cases hv

/-- append WHERE THERE IS ROOM, the block's cells told: as one step of a region that draws. -/
theorem step_append_in {P : Program} {ops : Array Oper} {o : Oper} {a : Act} {w : World} {K : Act → World → Prop} {Q : Exit → Act → World → Prop} {E : Prop}
    (hg : o.guard = none) (s x : Operand) (t : TypeId) (hop : o.op = Op.call { callee := Callee.builtin Builtin.append, args := #[s, x], argTypes := #[t, t] })
    (e : TypeId) (i : TypeInfo) (size : Nat) (h1 : P.underlying t = some (.slice e)) (h2 : P.info? e = some i) (h4 : i.size = size)
    (b n cap : Nat) (cur : Array Value) (hb : w.heap[b]? = some (.cells cur e (0, 0))) (hs : a.eval s = .slice (some ⟨b, 0, none⟩) n cap)
    (ad : Addr) (m c : Nat) (news : List Value) (hx : a.eval x = .slice (some ad) m c) (hn : news.length = m * size) (hc : ∀ j u, news[j]? = some u → w.cell? (ad.add j) = some u) (h1c : ∀ u ∈ news, u.oneCell' = true)
    (hroom : n + m ≤ cap) (hfit : n * size + news.length ≤ cur.size)
    (hK : K (a.put o.dst (.slice (some ⟨b, 0, none⟩) (n + m) cap)) (w.setRow b (cur.toList.take (n * size) ++ news ++ cur.toList.drop (n * size + news.length)).toArray)) :
    if Region.wanted o (yielded ops a.tmps) = true then Oper.wp P o a w K Q else E := by
  have hw : Region.wanted o (yielded ops a.tmps) = true := by simp [Region.wanted, hg]
  rw [if_pos hw]
  subst h4
  have hrun := run_append_room (P := P) w t o.type e i h1 h2 b n cap cur hb ad m c news hn hc h1c hroom hfit
  unfold Oper.wp
  simp only [execOp, hop, resolve, invoke, builtin, Sem.run_bind, Sem.run_pure, Result.andThen_ok, List.map_toArray, List.map_cons, List.map_nil, hs, hx, hrun]
  exact hK

theorem run_clear_row {P : Program} (W : World) (t e : TypeId) (z : Value) (ht : P.underlying t = some (.slice e)) (hv : ∀ w, (zeroValue e).run P w = .ok z w) (b o m c : Nat) (cur : Array Value) (hb : W.heap[b]? = some (.cells cur e (0, 0))) (hm : 0 < m) (k : Nat) (hk0 : 0 < k) (hz : z.cells.size = k) (hfit : o + m * k ≤ cur.size) (h1 : z.cells.all (·.oneCell') = true) :
    ∃ W', (∀ ty, (Builtin.clear_ #[t] ty #[.slice (some ⟨b, o, none⟩) m c]).run P W = .ok (.tuple #[]) W') ∧ ∃ zs : List Value, zs.length = m * k ∧ W' = W.setRow b (cur.toList.take o ++ zs ++ cur.toList.drop (o + m * k)).toArray := by
  have hsz : (Builtin.zeroCells z.cells m).toList.length = m * k := by rw [Array.length_toList, size_zeroCells, hz]
  have hone : ∀ v ∈ (Builtin.zeroCells z.cells m).toList, v.oneCell' = true := fun v hv => by
    have hv' : v ∈ Builtin.zeroCells z.cells m := by simpa using hv
    simp only [Builtin.zeroCells] at hv'
    obtain ⟨q, _, hq⟩ := Array.mem_map.1 hv'
    have hlt : q % z.cells.size < z.cells.size := Nat.mod_lt _ (by omega)
    rw [getElem!_pos z.cells _ hlt] at hq
    exact (Array.all_eq_true_iff_forall_mem.1 h1) v (by rw [← hq]; exact Array.getElem_mem _)
  have hst := run_storeCells_at P b o e (Builtin.zeroCells z.cells m).toList 0 cur W hb (by rw [hsz]; simpa using hfit) hone
  simp only [Nat.add_zero] at hst
  rw [hsz] at hst
  refine ⟨_, fun ty => ?_, _, hsz, rfl⟩
  match m, hm with
  | m + 1, _ => simp [Builtin.clear_, run_underlying ht, Sem.run_bind, hv, hst]


end Go.Proofs.YtdchlnffbiooaaaGreatDoor

namespace Go.Proofs.YtdchlnffbiooaaaGreatDoor
open Go.RowKit Go.Sort
set_option linter.unusedVariables false

theorem blkLt {w : World} {n : Nat} {o : Obj} (h : w.heap[n]? = some o) : n < w.heap.size := (Array.getElem?_eq_some_iff.1 h).1
structure RaG {α : Type} (k : Nat) (enc : α → List Value) (TE : TypeId) (w wr : World) (F : List (Nat × Obj)) (va : Value) (la : List α) : Prop where
  acc : RowA k enc TE wr va la
  own : ∀ k, va.ownBlock = some k → w.heap.size ≤ k
  bl : Below w.heap.size w wr
  fx : ∀ p ∈ F, wr.heap[p.1]? = some p.2 ∧ ∀ k, va.ownBlock = some k → k ≠ p.1
section
variable {α : Type} {k : Nat} {enc : α → List Value} {TE : TypeId} {w wr wr' : World} {F : List (Nat × Obj)} {va va' : Value} {la la' : List α}
theorem RaG.grow (h : RaG k enc TE w wr F va la) (b : Below wr.heap.size wr wr') : RaG k enc TE w wr' F va la :=
  ⟨h.acc.kept b.size (fun k hk => b.block k (h.acc.lt k hk).2), h.own, h.bl.trans (b.mono h.bl.size), fun p hp => ⟨(b.block p.1 (blkLt (h.fx p hp).1)).trans (h.fx p hp).1, (h.fx p hp).2⟩⟩
theorem RaG.alloc (h : RaG k enc TE w wr F va la) (o : Obj) : RaG k enc TE w (wr.alloc o) F va la := h.grow ((Below.refl _ _).alloc (Nat.le_refl _) o)
theorem RaG.get (h : RaG k enc TE w wr F va la) {n : Nat} {o : Obj} (hp : (n, o) ∈ F) : wr.heap[n]? = some o := (h.fx _ hp).1
theorem RaG.app (h : RaG k enc TE w wr F va la) (hg : wr.grownBy wr' va.ownBlock) (hr : RowA k enc TE wr' va' la') (hb : va'.ownBlock = va.ownBlock ∨ va'.ownBlock = some wr.heap.size) : RaG k enc TE w wr' F va' la' := by
  have hno : ∀ k, k < w.heap.size → some k ≠ va.ownBlock := fun k hk e => by
    have := h.own k e.symm; omega
  refine ⟨hr, fun k hk => ?_, ⟨hg.os.trans h.bl.os, hg.tape.trans h.bl.tape, hg.output.trans h.bl.output, Nat.le_trans h.bl.size hg.size, fun k hk => (hg.block k (Nat.lt_of_lt_of_le hk h.bl.size) (hno k hk)).trans (h.bl.block k hk)⟩, fun p hp => ?_⟩
  · rcases hb with e | e
    · exact h.own k (by rw [← e]; exact hk)
    · rw [e] at hk; injection hk with hk; rw [← hk]; exact h.bl.size
  · obtain ⟨f1, f2⟩ := h.fx p hp
    refine ⟨(hg.block p.1 (blkLt f1) (fun e => f2 _ e.symm rfl)).trans f1, fun k hk e2 => ?_⟩
    rcases hb with e | e
    · exact f2 k (by rw [← e]; exact hk) e2
    · rw [e] at hk; injection hk with hk
      have := blkLt f1
      omega
theorem RaG.start (k : Nat) (enc : α → List Value) (TE : TypeId) (w : World) : RaG k enc TE w w [] (.slice none 0 0) [] := ⟨World.ownsRow_nil _ _ _ _, fun k hk => (by cases hk), Below.refl _ _, fun p hp => (by cases hp)⟩
theorem RaG.more (h : RaG k enc TE w wr F va la) {n : Nat} {o : Obj} (hn : wr.heap[n]? = some o) (hv : ∀ k, va.ownBlock = some k → k ≠ n) : RaG k enc TE w wr ((n, o) :: F) va la :=
  ⟨h.acc, h.own, h.bl, fun p hp => by
    rcases List.mem_cons.1 hp with rfl | hp
    · exact ⟨hn, hv⟩
    · exact h.fx p hp⟩
theorem RaG.push (h : RaG k enc TE w wr F va la) (o : Obj) : RaG k enc TE w (wr.alloc o) ((wr.heap.size, o) :: F) va la :=
  (h.alloc o).more (heap_alloc_new wr o) (fun k hk => by have := (h.acc.lt k hk).2; omega)
theorem RaG.drop {q : Nat × Obj} (h : RaG k enc TE w wr (q :: F) va la) : RaG k enc TE w wr F va la := ⟨h.acc, h.own, h.bl, fun p hp => h.fx p (.tail _ hp)⟩
/-- The row is kept beside, another one is begun. -/
theorem RaG.fresh (h : RaG k enc TE w wr F va la) {b : Nat} {o : Obj} (hb : wr.heap[b]? = some o) {β : Type} (k' : Nat) (enc' : β → List Value) (TE' : TypeId) : RaG k' enc' TE' w wr ((b, o) :: F) (.slice none 0 0) [] :=
  ⟨World.ownsRow_nil _ _ _ _, fun k hk => (by cases hk), h.bl, fun p hp => by
    rcases List.mem_cons.1 hp with rfl | hp
    · exact ⟨hb, fun k hk => (by cases hk)⟩
    · exact ⟨(h.fx p hp).1, fun k hk => (by cases hk)⟩⟩
end

/-- Several elements are appended, wherever they lie. -/
theorem wpList_append_many {P : Program} {ops : Array Oper} {rest : List Oper} {o : Oper} {a : Act} {w : World} {Q : Exit → Act → World → Prop} {α : Type} {k : Nat} {enc : α → List Value} {TE : TypeId}
    (hk : ∀ x, (enc x).length = k) (h1e : ∀ x, ∀ u ∈ enc x, u.oneCell' = true) (hk0 : 0 < k) (hg : o.guard = none) (s x : Operand) (t : TypeId) (hop : o.op = Op.call { callee := Callee.builtin Builtin.append, args := #[s, x], argTypes := #[t, t] })
    (i : TypeInfo) (z : Value) (bytes : Nat) (ht : P.underlying t = some (.slice TE)) (hi : P.info? TE = some i) (hz : i.zero = some z) (hsize : i.size = k) (hby : i.bytes = bytes) (hb2 : bytes ≤ 100) (hzs : z.cells.size = k)
    (v : Value) (l : List α) (hs : a.eval s = v) (hown : RowA k enc TE w v l) (ys : List α) (hl : l.length + ys.length ≤ 100000000) (ad : Addr) (m c : Nat) (hm : ys.length = m) (hx : a.eval x = .slice (some ad) m c) (hc : ∀ j u, (encA enc ys)[j]? = some u → w.cell? (ad.add j) = some u)
    (hK : ∀ v' w', RowA k enc TE w' v' (l ++ ys) → w.grownBy w' v.ownBlock → (v'.ownBlock = v.ownBlock ∨ v'.ownBlock = some w.heap.size) → wpList P ops Q rest (a.put o.dst v') w') : wpList P ops Q (o :: rest) a w := by
  subst hm
  refine wpList_plain hg fun K hKK => ?_
  obtain ⟨v', w', hr, h2, h3, _, h5⟩ := run_append_own_at (P := P) w 0 t o.type TE i z k bytes ht hi hz hsize hby hzs hk0 v l.length (encA enc l) hown ad ys.length c (encA enc ys) (encA_length hk ys) hc
    (fun u hu => by
      obtain ⟨tm, _, hu⟩ := List.mem_flatMap.1 hu
      exact h1e tm u hu) (by unfold maxLen; omega) (by have := Nat.mul_le_mul (show l.length + ys.length ≤ 100000000 by omega) hb2; omega) (Nat.zero_le _)
  unfold Oper.wp
  simp only [execOp, hop, resolve, invoke, builtin, Sem.run_bind, Sem.run_pure, Result.andThen_ok, List.map_toArray, List.map_cons, List.map_nil, hs, hx, hr]
  refine hKK _ _ (hK v' w' ?_ h3 h5)
  unfold RowA
  rw [List.length_append, encA_append]
  exact h2

end Go.Proofs.YtdchlnffbiooaaaGreatDoor

namespace Go.Proofs.YtdchlnffbiooaaaGreatDoor
open Go.RowKit Go.Sort
set_option linter.unusedVariables false

theorem info_dn : ∃ i z, Tryz.prog.info? 51 = some i ∧ i.zero = some z ∧ i.size = 3 ∧ i.bytes = 32 ∧ z.cells.size = 3 := by
  have h : (Tryz.prog.info? 51).map (fun i => (i.zero.map (fun z => z.cells.size), i.size, i.bytes)) = some (some 3, 3, 32) := by kernel_rfl
  cases hi : Tryz.prog.info? 51 with
  | none => rw [hi] at h; cases h
  | some i =>
    rw [hi] at h
    simp only [Option.map_some, Option.some.injEq, Prod.mk.injEq] at h
    obtain ⟨h1, h2, h3⟩ := h
    cases hz : i.zero with
    | none => rw [hz] at h1; cases h1
    | some z =>
      rw [hz] at h1
      simp only [Option.map_some, Option.some.injEq] at h1
      exact ⟨i, z, rfl, hz, h2, h3, h1⟩
theorem dn_len (x : Dn) : (dnCells x).length = 3 := rfl
theorem dn_one (x : Dn) : ∀ u ∈ dnCells x, u.oneCell' = true := fun u hu => dns_one [x] u (by simpa using hu)
set_option maxRecDepth 100000 in
set_option maxHeartbeats 1000000 in
theorem told_dead (w : World) (b g : Nat) (base sectors limit : Int) (q u : Nat) (last now : Int) (hk : KAt w b g base sectors limit q u last now true) :
    Calls Tryz.prog 34 #[.pointer (some ⟨b, 0, none⟩)] w fun e w' => e = .returned (.slice (some ⟨w.heap.size, 0, none⟩) 0 0) ∧ w' = w.alloc (.cells #[] 51) := by
  have k1 := hk.kept ((World.grownBy_alloc w (.cells #[] 51) none).block _ (lt_of_block hk) (by simp))
  go_enter Tryz.func34, Tryz.ntmps34
  go_wp2_with fail
  obtain ⟨sz, hsz⟩ : ∃ sz, sz = w.heap.size := ⟨_, rfl⟩
  have HW : Hid (w.alloc (.cells #[] 51) = w.alloc (.cells #[] 51)) := Lib.hid rfl
  go_loopw [3] (fun v wr => v = .slice (some ⟨w.heap.size, 0, none⟩) 0 0 ∧ Hid (wr = w.alloc (.cells #[] 51)) ∧ KAt wr b g base sectors limit q u last now true) (fun _ _ => 0)
  case atStart => exact ⟨rfl, Lib.hid rfl, k1⟩
  case round =>
    obtain ⟨rfl, hw, hk2⟩ := hrel
    have c8 := hk2.c8
    go_wp2_with fail
    go_ret
    exact ⟨rfl, hw.out⟩
theorem OwnDns.rowA {B : Nat} {w : World} {v : Value} {l : List Dn} (h : OwnDns B w v l) : RowA 3 dnCells 51 w v l := by
  obtain ⟨⟨h1, h2⟩, _⟩ := h
  refine ⟨h1, ?_⟩
  rcases h2 with h2 | ⟨g, cap, cur, e, hg, r⟩
  · exact .inl h2
  · exact .inr ⟨g, cap, cur, e, Nat.zero_le _, r⟩
def PollDead (w : World) (u : Nat) (os : List Snt) (e : Ending) (w' : World) : Prop :=
  ∃ (v : Value) (l : List Dn), e = .returned v ∧ OwnDns w.heap.size w' v l ∧ l.Perm (os.map fun x => ⟨x.id, false, ⟨#[]⟩⟩) ∧ l.Pairwise (fun x y => ¬ y.id < x.id) ∧ Turned (fun k => k = u) w w'
set_option maxRecDepth 100000 in
set_option maxHeartbeats 2000000 in
theorem Poll_dead (w : World) (b g : Nat) (base sectors limit : Int) (q u : Nat) (last now : Int) (os : List Snt) (hK : KAt w b g base sectors limit q u last now true) (hT : IsTab w u (os.map Snt.ent)) (hu : u ≠ b) (h8 : os.length ≤ 8) (h0 : os ≠ []) :
    Calls Tryz.prog 12 #[.pointer (some ⟨b, 0, none⟩)] w (PollDead w u os) := by
  have c9 := hK.c9
  have ka := World.grownBy_alloc w (.cells #[] 51) none
  have o1 : OwnDns w.heap.size (w.alloc (.cells #[] 51)) (.slice (some ⟨w.heap.size, 0, none⟩) 0 0) [] := OwnDns.zero w (Nat.le_refl _)
  have k1 := hK.kept (ka.block _ (lt_of_block hK) (by simp))
  have t1 := hT.kept (ka.block _ hT.lt (by simp))
  have T1 := Turned.of (S := fun k => k = u) ka (fun j e => by cases e)
  have hlu := hT.lt
  have TD := Lib.hid (told_dead w b g base sectors limit q u last now hK)
  have LC := Lib.hid (lost_any (w.alloc (.cells #[] 51)) b g base sectors limit q u last now os k1 t1 hu h8)
  have c8 := k1.c8
  have O1 := Lib.hid o1
  have HT1 := Lib.hid T1
  have HLU := Lib.hid hlu
  have HZ : Hid ((w.alloc (.cells #[] 51)).heap.size = w.heap.size + 1) := Lib.hid (by simp)
  clear ka o1 k1 t1 T1 hlu hK hT
  go_enter Tryz.func12, Tryz.ntmps12
  go_wp2_with (go_at_call 20; refine (knone_no _ _ c9).mono ?_; rintro e w' ⟨rfl, rfl⟩)
  refine TD.out.mono ?_
  rintro e w1 ⟨rfl, rfl⟩
  generalize w.alloc _ = W1 at c8 LC O1 HT1 HZ ⊢
  go_wp2_with fail
  refine LC.out.mono ?_
  rintro e w2 ⟨v2, l2, rfl, o2, hp, hpw, k2, t2, T2⟩
  have hlen : l2.length = os.length := by rw [hp.length_eq, List.length_map]
  have hpos : 0 < l2.length := by
    rw [hlen]
    exact List.length_pos_iff.2 h0
  obtain ⟨gb, cap, cur, rfl, hgB, hgb, hcells⟩ : ∃ gb cap cur, v2 = .slice (some ⟨gb, 0, none⟩) l2.length cap ∧ W1.heap.size ≤ gb ∧ w2.heap[gb]? = some (.cells cur 51 (0, 0)) ∧ ∀ j y, (encA dnCells l2)[j]? = some y → w2.cell? ((⟨gb, 0, none⟩ : Addr).add j) = some y := by
    rcases o2.1.2 with ⟨_, h9⟩ | ⟨gb, cap, cur, rfl, hg, hb, _⟩
    · omega
    · exact ⟨gb, cap, cur, rfl, hg, hb, fun j y hy => o2.1.cells (g := gb) rfl j y hy⟩
  have r1 : OwnDns w.heap.size w2 (.slice (some ⟨w.heap.size, 0, none⟩) 0 0) [] := O1.out.turned T2 (fun k hk => by rw [hk]; exact HLU.out)
  have R1 := Lib.hid r1.rowA
  obtain ⟨ii, zz, y1, y2, y3, y4, y5⟩ := info_dn
  have HP := Lib.hid (And.intro hp hpw)
  have HL8 : Hid (l2.length ≤ 8) := Lib.hid (by omega)
  have HC := Lib.hid hcells
  have HT2 := Lib.hid (HT1.out.trans T2)
  have HZ2 := Lib.hid (HZ.out ▸ T2.size)
  clear o2 hp hpw k2 t2 T2 hlen hcells r1 hgB hgb O1 LC TD c8 c9
  go_wp2_with (refine wpList_append_many dn_len dn_one (by decide) rfl _ _ 48 rfl ii zz 32 Tryz.underlying48 y1 y2 y3 y4 (by decide) y5 (.slice (some ⟨w.heap.size, 0, none⟩) 0 0) ([] : List Dn) (by first | rfl | kernel_rfl) R1.out l2 (by have := HL8.out; simp; omega) ⟨gb, 0, none⟩ l2.length cap rfl (by first | rfl | kernel_rfl) HC.out ?_; intro v3 w3 r3 g3 b3)
  go_ret
  refine ⟨v3, l2, rfl, ⟨?_, by have := HL8.out; omega⟩, HP.out.1, HP.out.2.imp (fun h => by omega), ?_⟩
  · rw [List.nil_append] at r3
    refine ⟨r3.1, ?_⟩
    rcases r3.2 with h9 | ⟨g9, cap9, cur9, e9, _, r9⟩
    · exact .inl h9
    · refine .inr ⟨g9, cap9, cur9, e9, ?_, r9⟩
      rcases b3 with e | e
      · rw [e9] at e
        injection e with e
        have e' : g9 = w.heap.size := e
        omega
      · rw [e9] at e
        injection e with e
        have e' : g9 = w2.heap.size := e
        have := HZ2.out
        omega
  · exact HT2.out.step g3 (fun j e => .inr (by
      injection e with e
      have e' : w.heap.size = j := e
      omega))
end Go.Proofs.YtdchlnffbiooaaaGreatDoor

namespace Go.Proofs.YtdchlnffbiooaaaGreatDoor
open Go.RowKit Go.Sort

section
variable {w w' : World} {b g h q u mb r p v : Nat} {lm lm' : List UInt8} {base sectors limit base' taken told : Int} {os : List Snt} {cs : List Oc} {off back : Int} {broken : Bool} {last now : Int} {dead : Bool} {ts : List (Int × Tkn)}
/-- What turns other blocks, and the memory, leaves a port. -/
theorem RS.other (s : RS w r g h p v lm base' taken told ts) {S : Nat → Prop} (t : Turned S w w') (hr : ¬ S r) (hp : ¬ S p) (hv : ¬ S v) (m : Mem w' g h lm') (hl : lm'.length = lm.length) : RS w' r g h p v lm' base' taken told ts :=
  ⟨s.ra.kept (t.block _ s.lts.1 hr), { s.ps with mem := m, len := by rw [hl]; exact s.ps.len, b1 := by rw [hl]; exact s.ps.b1, at_ := s.ps.at_.kept (t.block _ s.lts.2.2.2.1 hp) }, s.tab.kept (t.block _ s.tab.lt hv)⟩
/-- What a port turns leaves a driver. -/
theorem KS.device (s : KS w b g h q u mb lm base sectors limit os cs off back broken last now dead) (rs : RS w r g h p v lm base' taken told ts) (t : Turned (RB h p v) w w') (m : Mem w' g h lm') (hl : lm'.length = lm.length) (n1 : u ≠ v) (n2 : mb ≠ v) :
    KS w' b g h q u mb lm' base sectors limit os cs off back broken last now dead := by
  have bp : b ≠ p := by
    rintro rfl
    have h1 := s.kat
    have h2 := rs.ps.at_
    unfold PAt at h2
    unfold KAt at h1
    rw [h1] at h2
    injection h2 with h2
    injection h2 with _ h2
    exact absurd h2 (by decide)
  have qp : q ≠ p := (s.qs.nep rs.ps.at_).1
  have mp : mb ≠ p := (s.qs.nep rs.ps.at_).2
  have up : u ≠ p := tab_ne s.tab rs.ps.at_
  have bv : b ≠ v := fun e => tab_ne rs.tab s.kat e.symm
  have qv : q ≠ v := fun e => tab_ne rs.tab s.qs.at_ e.symm
  have keep : ∀ x, x < w.heap.size → x ≠ h → x ≠ p → x ≠ v → w'.heap[x]? = w.heap[x]? := fun x hx a1 a2 a3 => t.block x hx (by rintro (e | e | e); exact a1 e; exact a2 e; exact a3 e)
  refine { s with kat := s.kat.kept (keep _ (lt_of_block s.kat) s.bh bp bv), tab := s.tab.kept (keep _ s.tab.lt s.ub.2.2.1 up n1), b1 := by rw [hl]; exact s.b1, qs := { s.qs with mem := m, len := by rw [hl]; exact s.qs.len, b1 := by rw [hl]; exact s.qs.b1, at_ := s.qs.at_.kept (keep _ s.qs.lts.1 s.qs.qh qp qv), tab := s.qs.tab.kept (keep _ s.qs.lts.2.2.2 s.qs.mbne.2.2 mp n2), nums := fun x hx => ?_ } }
  obtain ⟨a1, a2, a3⟩ := s.qs.nums x hx
  refine ⟨a1, fun i hi => ?_, a3⟩
  have hc := a2 i hi
  have h0 := a2 0 (by omega)
  have e1 : x.blk ≠ h := s.qs.mem.not_u8 hc (fun x e => by cases e)
  have e2 : x.blk ≠ p := by
    intro e
    rw [e, rs.ps.at_.c0] at h0
    cases h0
  have e3 : x.blk ≠ v := by
    intro e
    rw [e] at hc
    obtain ⟨es, clock, h1, _⟩ := rs.tab
    simp [World.cell?, h1] at hc
  rw [World.cell?_of_block (w := w) (a := ⟨x.blk, i, none⟩) (keep _ (World.block_lt_of_cell? w _ hc) e1 e2 e3)]
  exact hc
end

/-- A sector of a byte. -/
def fullS (b : UInt8) : ByteArray := ⟨(List.replicate 64 b).toArray⟩
theorem fullS_size (b : UInt8) : (fullS b).size = 64 := by unfold fullS; rw [toArray_size, List.length_replicate]
theorem holds_one (w : World) (b : UInt8) : Holds eb (w.alloc (.cells #[.int .u8 (b.toNat : Int)] 5)) w.heap.size 0 [b].toArray := by
  intro j hj
  have h0 : j = 0 := by simpa using hj
  subst h0
  have hb := heap_alloc_new w (.cells #[.int .u8 (b.toNat : Int)] 5)
  exact ⟨by rw [show (⟨w.heap.size, 0 + 0, none⟩ : Addr) = ⟨w.heap.size, 0, none⟩ from rfl, cell_of_block hb]; rfl, frozen_of_block hb⟩
set_option maxRecDepth 100000 in
set_option maxHeartbeats 1000000 in
theorem full_any (w : World) (b : UInt8) (n : Int) (hn : n = (b.toNat : Int)) :
    Calls Tryz.prog 8 #[.int .u8 n] w fun e w' => e = .returned (.string (fullS b)) ∧ Below w.heap.size w w' := by
  have hcv := conv_text (w.alloc (.cells #[.int .u8 (b.toNat : Int)] 5)) w.heap.size 0 1 1 [b] rfl (holds_one w b)
  rw [← hn] at hcv
  have RC := Tryz.strings_Repeat ⟨[b].toArray⟩ 64 (w.alloc (.cells #[.int .u8 n] 5)) (by omega) (by rw [toArray_size]; show 1 * 64 ≤ 140737488355328; omega)
  have hrl : Lib.repeatL [b] 64 = List.replicate 64 b := rfl
  rw [show (⟨[b].toArray⟩ : ByteArray).data.toList = [b] from rfl, hrl] at RC
  have RC2 := Lib.hid RC
  have ka := World.grownBy_alloc w (.cells #[.int .u8 n] 5) none
  obtain ⟨S, hS⟩ : ∃ S, S = (⟨[b].toArray⟩ : ByteArray) := ⟨_, rfl⟩
  rw [← hS] at hcv RC2
  clear RC hrl hS hn
  go_enter Tryz.func8, Tryz.ntmps8
  go_wp2_with fail
  refine RC2.out.mono ?_
  rintro e w2 ⟨rfl, bel⟩
  have BEL := Lib.hid ((Below.of_none ka).trans (bel.mono ka.size))
  clear bel
  go_wp2_with fail
  go_ret
  exact ⟨rfl, BEL.out⟩

def bM0 : List UInt8 := madeL (List.replicate (4096 : Int).toNat 0) 0
def bO : Ord := ⟨1, 2, ⟨#[]⟩⟩
def bC : List Bf := [⟨848, 16, false⟩, ⟨864, 64, true⟩, ⟨928, 1, true⟩]
def bM1 : List UInt8 := addL (slotL bM0 848 shp1 bO) 0 32 0 [0, 1, 2] bC
def bT : Tkn := ⟨true, 864, 928⟩
def bM2 : List UInt8 := answerL bM1 0 0 0 bT true (fullS 7)
theorem bM0_len : bM0.length = 4096 := by unfold bM0; rw [madeL_length, List.length_replicate]; rfl
theorem bM1_len : bM1.length = 4096 := by unfold bM1; rw [addL_length, slotL_length, bM0_len]
theorem bM2_len : bM2.length = 4096 := by unfold bM2; rw [answerL_length, bM1_len]
theorem b_bar (n : Nat) (h : n = 4096) : blkBar n 0 true = 0 := by rw [h]; decide +kernel
theorem b_chain : chainL (shpAt 0) 848 = bC := by rfl
theorem b_new : newCh [] 32 bC = ⟨0, [0, 1, 2], 65⟩ := by
  unfold newCh
  have h1 : (freeL (List.map Oc.c []) 32).take bC.length = [0, 1, 2] := by decide +kernel
  rw [h1]
  rfl
theorem b_offI : offI bM1 0 32 = 1 := by decide +kernel
theorem b_offHead : offHead bM1 0 32 0 = 0 := by decide +kernel
theorem b_follow : (followF bM1 0 32 32 0 []).map (fun l => l.map fun x => (x.a, x.n, x.wr)) = some [(848, 16, false), (864, 64, true), (928, 1, true)] := by decide +kernel
theorem b_ask : (askL bM1 bC).map (fun o => (o.kind, o.sec, o.data.data.toList)) = some (1, 2, []) := by decide +kernel
theorem b_usedI : usedI bM2 0 32 = 1 := by decide +kernel
theorem b_usedNum : usedNum bM2 0 32 0 = 0 := by decide +kernel
theorem b_usedLen : usedLen bM2 0 32 0 = 65 := by decide +kernel
theorem b_status : ansS bM2 0 0 = 0 := by decide +kernel
theorem b_text : textS bM2 864 64 = List.replicate 64 7 := by decide +kernel

theorem bfs_of {l m : List Bf} (h : l.map (fun x => (x.a, x.n, x.wr)) = m.map fun x => (x.a, x.n, x.wr)) : l = m := by
  induction l generalizing m with
  | nil => cases m with
    | nil => rfl
    | cons b m => cases h
  | cons a l ih => cases m with
    | nil => cases h
    | cons b m =>
      simp only [List.map_cons, List.cons.injEq, Prod.mk.injEq] at h
      obtain ⟨⟨h1, h2, h3⟩, h4⟩ := h
      rw [ih h4]
      obtain ⟨a1, a2, a3⟩ := a
      obtain ⟨b1, b2, b3⟩ := b
      simp only at h1 h2 h3
      subst h1 h2 h3
      rfl
theorem b_follow2 : followF bM1 0 32 32 0 [] = some bC := by
  have h := b_follow
  generalize followF bM1 0 32 32 0 [] = R at h ⊢
  cases R with
  | none => cases h
  | some l =>
    injection h with h
    rw [bfs_of (m := bC) h]
theorem b_ask2 : askL bM1 bC = some bO := by
  have h := b_ask
  generalize askL bM1 bC = R at h ⊢
  cases R with
  | none => cases h
  | some o =>
    injection h with h
    simp only [Prod.mk.injEq] at h
    obtain ⟨h1, h2, h3⟩ := h
    obtain ⟨ok, os_, od⟩ := o
    obtain ⟨od⟩ := od
    simp only at h1 h2 h3
    subst h1 h2
    have : od = #[] := by simpa using h3
    subst this
    rfl
/-- What the device told there. -/
def bD : Dn := ⟨1, true, fullS 7⟩
theorem b_told {y : Snt} {x : Oc} (hy : y.hd = 0) (y1 : y.id = 1) (y2 : y.kind = 1) (y3 : y.slot = 0) (hx : x.c = ⟨0, [0, 1, 2], 65⟩) {l : List Dn} {os' : List Snt} {cs' : List Oc} {back' : Int} {d : Bool} (t : Told bM2 0 [y] [x] 0 l os' cs' back' d) :
    d = false ∧ l = [bD] ∧ os' = [] := by
  cases t with
  | stop _ _ _ h => rw [b_usedI] at h; exact absurd h (by decide)
  | brk _ _ _ h hb =>
    rw [b_usedI, b_usedNum, b_usedLen] at hb
    rcases hb with hb | hb | ⟨z, hz, h1, h2⟩
    · exact absurd hb (by simp)
    · exact absurd (show x.c.head = 0 by rw [hx]) (hb x (by simp))
    · rw [List.mem_singleton] at hz
      subst hz
      rw [hx] at h2
      exact absurd h2 (by simp)
  | step _ _ _ z hz s hs h hc hk hyk hl l2 _ _ _ _ r =>
    rw [List.mem_singleton] at hs
    subst hs
    rw [b_usedNum, b_usedLen] at *
    have e1 : ([s].filter fun z : Snt => z.hd != (0 : Int)) = [] := by simp [hy]
    have e2 : ([x].filter fun z : Oc => z.c.head != (0 : Int)) = [] := by simp [hx]
    rw [e1, e2] at r
    have ea : ansF bM2 0 s 65 = bD := by
      unfold ansF
      rw [y3, b_status, y1, y2, if_neg (by simp), if_pos rfl, show (0 : Int) + 848 + 96 * 0 + 16 = 864 from rfl, b_text]
      rfl
    rw [ea]
    cases r with
    | stop _ _ _ h => exact ⟨rfl, rfl, rfl⟩
    | brk _ _ _ h hb => rw [b_usedI] at h; exact absurd rfl h
    | step _ _ _ z hz s hs h => rw [b_usedI] at h; exact absurd rfl h

end Go.Proofs.YtdchlnffbiooaaaGreatDoor

namespace Go.Proofs.YtdchlnffbiooaaaGreatDoor
open Go.RowKit Go.Sort

/-- What stays in awake's last region. -/
def AwkS (w : World) (ob gb : Nat) (s : ByteArray) : Prop :=
  w.heap[ob]? = some (.cells #[.int .i64 1, .int .i64 2, .string ⟨#[]⟩] 39 (0, 0)) ∧ w.cell? ⟨gb, 0, none⟩ = some (.int .i64 1) ∧ w.cell? ⟨gb, 1, none⟩ = some (.bool true) ∧ w.cell? ⟨gb, 2, none⟩ = some (.string s)
theorem AwkS.below {w w' : World} {ob gb : Nat} {s : ByteArray} (h : AwkS w ob gb s) (k : Below w.heap.size w w') : AwkS w' ob gb s := by
  obtain ⟨h1, h2, h3, h4⟩ := h
  have hg := World.block_lt_of_cell? w _ h2
  exact ⟨(k.block _ (lt_of_block h1)).trans h1, (k.cell (p := ⟨gb, 0, none⟩) hg).trans h2, (k.cell (p := ⟨gb, 1, none⟩) hg).trans h3, (k.cell (p := ⟨gb, 2, none⟩) hg).trans h4⟩
theorem AwkS.o0 {w : World} {ob gb : Nat} {s : ByteArray} (h : AwkS w ob gb s) : w.cell? ⟨ob, 0, none⟩ = some (.int .i64 1) := cell_of_block h.1
theorem AwkS.o1 {w : World} {ob gb : Nat} {s : ByteArray} (h : AwkS w ob gb s) : w.cell? ⟨ob, 1, none⟩ = some (.int .i64 2) := cell_of_block h.1
/-- A row of one answer. -/
theorem own_one {B : Nat} {w : World} {v : Value} {x : Dn} (h : OwnDns B w v [x]) : ∃ gb cap, v = .slice (some ⟨gb, 0, none⟩) 1 cap ∧ B ≤ gb ∧ w.cell? ⟨gb, 0, none⟩ = some (.int .i64 x.id) ∧ w.cell? ⟨gb, 1, none⟩ = some (.bool x.ok) ∧ w.cell? ⟨gb, 2, none⟩ = some (.string x.data) := by
  rcases h.1.2 with ⟨_, h0⟩ | ⟨g, cap, cur, rfl, hg, hb, r⟩
  · simp at h0
  · have hc : ∀ j u, (dnCells x)[j]? = some u → w.cell? ⟨g, 0 + j, none⟩ = some u := fun j u hu => by
      have h2 := h.1.cells (g := g) rfl j u (by simpa using hu)
      rw [Addr.add_mid] at h2
      exact h2
    exact ⟨g, cap, rfl, hg, hc 0 _ rfl, hc 1 _ rfl, hc 2 _ rfl⟩

set_option maxRecDepth 100000 in
set_option maxHeartbeats 4000000 in
theorem bawake_any (w : World) (hS : Shapes w) :
    Calls Tryz.prog 4 #[] w fun e w' => e = .returned (.bool true) ∧ Below w.heap.size w w' := by
  have hpos := hS.pos
  have HS := Lib.hid hS
  clear hS
  go_enter Tryz.func4, Tryz.ntmps4
  go_wp2_with fail
  refine (New_ok w 4096 (by omega) (by omega)).mono ?_
  rintro e w1 ⟨rfl, m1, k1⟩
  have z0 : (List.replicate (4096 : Int).toNat (0 : UInt8)).length = 4096 := by rw [List.length_replicate]; rfl
  have bel1 := Below.of_none k1
  have z1 := k1.size
  go_wp2_with fail
  refine (bNew_ok w1 _ _ _ m1 (by rw [z0]; omega) (by rw [z0]; omega) 0 8 3 (by rw [show ((List.replicate (4096 : Int).toNat (0 : UInt8)).length : Int) = 4096 from by rw [z0]; rfl]; decide +kernel) (by omega) (by omega) (by omega) (by omega)).mono ?_
  rintro e w2 ⟨b, q, mb, u, rfl, hb, hq, hmb, hu, s2, t2⟩
  change KS w2 b _ _ q u mb bM0 0 8 3 [] [] 0 0 false 0 0 false at s2
  have bel2 := bel1.trans (t2.below z1 (by rintro k rfl; omega))
  have z2 := t2.size
  have S2 := Lib.hid s2
  clear m1 k1 s2 t2 bel1
  go_wp2_with fail
  refine (bOpen_ok w2 _ _ _ S2.out.qs.mem (by rw [bM0_len]; omega) (by rw [bM0_len]; omega) 0 (b_bar _ bM0_len)).mono ?_
  rintro e w3 ⟨r, p, v, rfl, hr, hp, hv, r3, k3⟩
  have R3 := Lib.hid r3
  have S3 := Lib.hid (S2.out.grown k3)
  obtain ⟨lb, lg, lh, lq, lu, lmb⟩ := S2.out.lts
  have bel3 := bel2.grown k3 bel2.size (fun j e => by cases e)
  have SH3 := Lib.hid (HS.out.kept (bel3.block 0 hpos))
  have z3 := k3.size
  clear r3 k3 S2 bel2
  have HO : Hid (Submit_ok w3 b (w.heap.size + 1) w.heap.size q u mb bM0 0 8 3 [] [] 0 0 false 0 0 false S3.out bO rfl SH3.out 0 (by decide) rfl (by decide) (by decide) rfl (by decide) (by decide) = Submit_ok w3 b (w.heap.size + 1) w.heap.size q u mb bM0 0 8 3 [] [] 0 0 false 0 0 false S3.out bO rfl SH3.out 0 (by decide) rfl (by decide) (by decide) rfl (by decide) (by decide)) := Lib.hid rfl
  clear HO
  have SC := Submit_ok w3 b (w.heap.size + 1) w.heap.size q u mb bM0 0 8 3 [] [] 0 0 false 0 0 false S3.out bO rfl SH3.out 0 (by decide) rfl (by decide) (by decide) rfl (by decide) (by decide)
  unfold bO Ord.val at SC
  simp only at SC
  have SC2 := Lib.hid SC
  clear SC
  go_wp2_with fail
--@1
  refine SC2.out.mono ?_
  clear SC2
  rintro e w4 ⟨y, x, rfl, y1, y2, y3, y4, y5, y6, hx, s4, t4⟩
  have hslot : y.slot = 0 := by
    obtain ⟨a1, a2, a3⟩ := y5
    by_cases h : y.slot = 0
    · exact h
    · obtain ⟨z, hz, _⟩ := y6 0 (by omega)
      cases hz
  rw [hslot] at hx s4
  rw [show (0 : Int) + 848 + 96 * 0 = 848 from rfl, b_chain] at hx s4
  rw [b_new] at hx
  rw [hx] at s4
  change KS w4 b _ _ q u mb bM1 0 8 3 [y] [x] 1 0 false 1 0 false at s4
  have hyhd : y.hd = 0 := by rw [y4, hx]
  have hKB : ∀ k, KB b q w.heap.size mb u k → k < w2.heap.size := by
    intro k hk
    rcases hk with e | e | e | e | e <;> omega
  have hKB2 : ∀ k, KB b q w.heap.size mb u k → w.heap.size ≤ k := by
    intro k hk
    rcases hk with e | e | e | e | e <;> omega
  have R4 := Lib.hid (R3.out.other t4 (fun h => by have := hKB _ h; omega) (fun h => by have := hKB _ h; omega) (fun h => by have := hKB _ h; omega) s4.qs.mem (by rw [bM1_len, bM0_len]))
  have bel4 := bel3.trans (t4.below bel3.size hKB2)
  have SH4 := Lib.hid (HS.out.kept (bel4.block 0 hpos))
  have z4 := t4.size
  have S4 := Lib.hid s4
  have HX := Lib.hid hx
  have HY : Hid (y.hd = 0 ∧ y.id = 1 ∧ y.kind = 1 ∧ y.slot = 0) := Lib.hid ⟨hyhd, y1, y2, hslot⟩
  clear y1 y2 y3 y4 y5 y6 hx s4 t4 hslot hyhd R3 S3 bel3 SH3
  have NC := Lib.hid (RNext_ok w4 r (w.heap.size + 1) w.heap.size p v bM1 0 0 0 [] SH4.out (by omega) R4.out 0 bC bO (by rw [b_offI]; decide) (by rw [b_offI]; decide) (Lib.hid b_offHead) (Lib.hid b_follow2) (Lib.hid b_ask2) (by simp))
  go_wp2_with fail
  refine NC.out.mono ?_
  clear NC
  rintro e w5 ⟨rfl, r5, t5⟩
  unfold bO Ord.val
  simp only
  have hRB2 : ∀ k, RB w.heap.size p v k → w.heap.size ≤ k := by
    intro k hk
    rcases hk with e | e | e <;> omega
  have S5 := Lib.hid (S4.out.device R4.out t5 r5.ps.mem rfl (by omega) (by omega))
  have bel5 := bel4.trans (t5.below bel4.size hRB2)
  have z5 := t5.size
  have k6 := World.grownBy_alloc w5 (.cells #[.int .i64 1, .int .i64 2, .string ⟨#[]⟩] 39) none
  have hob := heap_alloc_new w5 (.cells #[.int .i64 1, .int .i64 2, .string ⟨#[]⟩] 39)
  have R5 := Lib.hid r5
  clear r5 t5 S4 R4 bel4 SH4
  go_upto_region 6 with fail
  obtain ⟨ob, hobe⟩ : ∃ ob, ob = w5.heap.size := ⟨_, rfl⟩
  rw [← hobe] at hob ⊢
  have zob : w2.heap.size ≤ ob := by omega
  generalize w5.alloc _ = w6 at k6 hob ⊢
  have R6 := Lib.hid (R5.out.grown k6)
  have S6 := Lib.hid (S5.out.grown k6)
  have bel6 := bel5.grown k6 bel5.size (fun j e => by cases e)
  have HOB := Lib.hid hob
  clear hobe k6 hob bel5 S5 R5
  go_wp2_with fail
--@2
  refine (full_any w6 7 7 rfl).mono ?_
  rintro e w7 ⟨rfl, bel⟩
  have z6 := lt_of_block HOB.out
  have T7 : Turned (fun _ => False) w6 w7 := ⟨bel.os, bel.tape, bel.output, bel.size, fun k hk _ => bel.block k hk⟩
  have k7 : w6.grownBy w7 none := ⟨bel.os, bel.tape, bel.output, bel.size, fun k hk _ => bel.block k hk⟩
  have R7 := Lib.hid (R6.out.grown k7)
  have S7 := Lib.hid (S6.out.grown k7)
  have bel7 := bel6.grown k7 bel6.size (fun j e => by cases e)
  have HOB7 := Lib.hid ((k7.block _ z6 (by simp)).trans HOB.out)
  have z7 := k7.size
  clear bel T7 k7 R6 S6 bel6 HOB
  have htk : tknOf bO bC = bT := rfl
  have DC := RDone_ok w7 r (w.heap.size + 1) w.heap.size p v bM1 0 ((0 + 1) % 65536) 0 _ R7.out 0 (by omega) (by omega) bT (by rw [htk]; exact List.mem_singleton.2 rfl) true (fullS 7) (by unfold mayAns; rw [fullS_size]; rfl)
  change Calls _ _ _ _ (RDonePost _ _ _ _ _ _ _ _ ((0 + 1) % 65536) _ _ _ _ _ _) at DC
  have DC2 := Lib.hid DC
  clear DC htk
  obtain ⟨FS, hFS⟩ : ∃ FS, FS = fullS 7 := ⟨_, rfl⟩
  rw [← hFS] at DC2 ⊢
  have HFS := Lib.hid hFS
  clear hFS
  go_wp2_with fail
  refine DC2.out.mono ?_
  clear DC2
  rintro e w8 ⟨rfl, r8, t8⟩
  rw [HFS.out] at r8
  change RS w8 r _ _ p v bM2 0 _ _ _ at r8
  have S8 := Lib.hid (S7.out.device R7.out t8 r8.ps.mem (by rw [bM2_len, bM1_len]) (by omega) (by omega))
  have bel8 := bel7.trans (t8.below bel7.size hRB2)
  have HOB8 : Hid (w8.heap[ob]? = some (.cells #[.int .i64 1, .int .i64 2, .string ⟨#[]⟩] 39 (0, 0))) := Lib.hid ((t8.block _ (lt_of_block HOB7.out) (by
    rintro (e | e | e)
    · omega
    · have h1 := R7.out.ps.at_
      have h2 := HOB7.out
      unfold PAt at h1
      rw [e, h1] at h2
      injection h2 with h2
      injection h2 with _ h2
      exact absurd h2 (by decide)
    · exact tab_ne R7.out.tab HOB7.out e.symm)).trans HOB7.out)
  have z8 := t8.size
  clear r8 t8 S7 R7 bel7 HOB7
  have PC := Lib.hid (Poll_live w8 b (w.heap.size + 1) w.heap.size q u mb bM2 0 8 3 [y] [x] 1 0 1 0 S8.out (fun l os' cs' back' d ht => (b_told HY.out.1 HY.out.2.1 HY.out.2.2.1 HY.out.2.2.2 HX.out ht).1))
  go_wp2_with fail
--@3
  refine PC.out.mono ?_
  clear PC
  rintro e w9 ⟨lv, l, os', cs', back', rfl, ho, ht, s9, t9⟩
  obtain ⟨_, hl, _⟩ := b_told HY.out.1 HY.out.2.1 HY.out.2.2.1 HY.out.2.2.2 HX.out ht
  subst hl
  obtain ⟨gb, cap, rfl, hgb, g0, g1, g2⟩ := own_one ho
  have bel9 := Lib.hid (bel8.trans (t9.below bel8.size hKB2))
  have a9 : AwkS w9 ob gb FS := ⟨(t9.block _ (lt_of_block HOB8.out) (by
    intro hk
    have := hKB _ hk
    omega)).trans HOB8.out, g0, g1, by rw [HFS.out]; exact g2⟩
  have A9 := Lib.hid a9
  have z9 := t9.size
  clear ho ht s9 t9 g0 g1 g2 a9 bel8 HOB8 S8 HX HY hgb
  go_wp2_with fail
--@4
  refine wp_region_noPanic ?_
  refine region_held (S := fun w' => AwkS w' ob gb FS) (by kernel_rfl) (fun V d => A9.out.below (Below.of_none d.grown)) (fun V d hS => ?_)
  have BV := Lib.hid (bel9.out.trans ((Below.of_none d.grown).mono bel9.out.size))
  refine wpAnyH_take (i := 0) (oi := ⟨some 46, Op.move (Operand.tmp 2), _, _, _, none⟩) (v := (.int .i64 0)) rfl (by kernel_rfl) (by kernel_rfl) (by kernel_rfl) (fun _ _ _ h => h) (Or.inl ⟨by rfl, fun w' h' => ?_⟩) hS ?_
  · clear h'
    go_simp
  simp only [Act.put]
  refine wpAnyH_take (i := 1) (oi := ⟨some 47, Op.binOp BinOp.eql 25 (Operand.tmp 46) (Operand.const (Value.int IntKind.i64 0)) 25, _, _, _, none⟩) (v := (.bool true)) rfl (by kernel_rfl) (by kernel_rfl) (by kernel_rfl) (fun _ _ _ h => h) (Or.inl ⟨by rfl, fun w' h' => ?_⟩) hS ?_
  · clear h'
    go_simp
  simp only [Act.put]
  refine wpAnyH_take (i := 2) (oi := ⟨some 48, Op.move (Operand.tmp 47), _, _, _, none⟩) (v := (.bool true)) rfl (by kernel_rfl) (by kernel_rfl) (by kernel_rfl) (fun _ _ _ h => h) (Or.inl ⟨by rfl, fun w' h' => ?_⟩) hS ?_
  · clear h'
    go_simp
  simp only [Act.put]
  refine wpAnyH_take (i := 3) (oi := ⟨some 49, Op.move (Operand.tmp 4), _, _, _, some (2, true)⟩) (v := (.int .i64 0)) rfl (by kernel_rfl) (by kernel_rfl) (by kernel_rfl) (fun _ _ _ h => h) (Or.inl ⟨by kernel_rfl, fun w' h' => ?_⟩) hS ?_
  · clear h'
    go_simp
  simp only [Act.put]
  refine wpAnyH_take (i := 4) (oi := ⟨some 50, Op.binOp BinOp.eql 25 (Operand.tmp 49) (Operand.const (Value.int IntKind.i64 0)) 25, _, _, _, some (2, true)⟩) (v := (.bool true)) rfl (by kernel_rfl) (by kernel_rfl) (by kernel_rfl) (fun _ _ _ h => h) (Or.inl ⟨by kernel_rfl, fun w' h' => ?_⟩) hS ?_
  · clear h'
    go_simp
  simp only [Act.put]
  refine wpAnyH_take (i := 5) (oi := ⟨some 51, Op.pick (Operand.tmp 48) (Operand.tmp 50) (Operand.const (Value.bool false)), _, _, _, none⟩) (v := (.bool true)) rfl (by kernel_rfl) (by kernel_rfl) (by kernel_rfl) (fun _ _ _ h => h) (Or.inl ⟨by rfl, fun w' h' => ?_⟩) hS ?_
  · clear h'
    go_simp
  simp only [Act.put]
  refine wpAnyH_take (i := 6) (oi := ⟨some 52, Op.move (Operand.tmp 51), _, _, _, none⟩) (v := (.bool true)) rfl (by kernel_rfl) (by kernel_rfl) (by kernel_rfl) (fun _ _ _ h => h) (Or.inl ⟨by rfl, fun w' h' => ?_⟩) hS ?_
  · clear h'
    go_simp
  simp only [Act.put]
  refine wpAnyH_take (i := 7) (oi := ⟨some 53, Op.move (Operand.tmp 6), _, _, _, some (6, true)⟩) (v := (.int .i64 0)) rfl (by kernel_rfl) (by kernel_rfl) (by kernel_rfl) (fun _ _ _ h => h) (Or.inl ⟨by kernel_rfl, fun w' h' => ?_⟩) hS ?_
  · clear h'
    go_simp
  simp only [Act.put]
  refine wpAnyH_take (i := 8) (oi := ⟨some 54, Op.binOp BinOp.eql 25 (Operand.tmp 53) (Operand.const (Value.int IntKind.i64 0)) 25, _, _, _, some (6, true)⟩) (v := (.bool true)) rfl (by kernel_rfl) (by kernel_rfl) (by kernel_rfl) (fun _ _ _ h => h) (Or.inl ⟨by kernel_rfl, fun w' h' => ?_⟩) hS ?_
  · clear h'
    go_simp
  simp only [Act.put]
  refine wpAnyH_take (i := 9) (oi := ⟨some 55, Op.pick (Operand.tmp 52) (Operand.tmp 54) (Operand.const (Value.bool false)), _, _, _, none⟩) (v := (.bool true)) rfl (by kernel_rfl) (by kernel_rfl) (by kernel_rfl) (fun _ _ _ h => h) (Or.inl ⟨by rfl, fun w' h' => ?_⟩) hS ?_
  · clear h'
    go_simp
  simp only [Act.put]
  refine wpAnyH_take (i := 10) (oi := ⟨some 56, Op.move (Operand.tmp 55), _, _, _, none⟩) (v := (.bool true)) rfl (by kernel_rfl) (by kernel_rfl) (by kernel_rfl) (fun _ _ _ h => h) (Or.inl ⟨by rfl, fun w' h' => ?_⟩) hS ?_
  · clear h'
    go_simp
  simp only [Act.put]
  refine wpAnyH_take (i := 11) (oi := ⟨some 57, Op.move (Operand.tmp 7), _, _, _, some (10, true)⟩) (v := (.int .i64 1)) rfl (by kernel_rfl) (by kernel_rfl) (by kernel_rfl) (fun _ _ _ h => h) (Or.inl ⟨by kernel_rfl, fun w' h' => ?_⟩) hS ?_
  · clear h'
    go_simp
  simp only [Act.put]
  refine wpAnyH_take (i := 12) (oi := ⟨some 58, Op.binOp BinOp.eql 3 (Operand.tmp 57) (Operand.const (Value.int IntKind.i64 1)) 3, _, _, _, some (10, true)⟩) (v := (.bool true)) rfl (by kernel_rfl) (by kernel_rfl) (by kernel_rfl) (fun _ _ _ h => h) (Or.inl ⟨by kernel_rfl, fun w' h' => ?_⟩) hS ?_
  · clear h'
    go_simp
  simp only [Act.put]
  refine wpAnyH_take (i := 13) (oi := ⟨some 59, Op.pick (Operand.tmp 56) (Operand.tmp 58) (Operand.const (Value.bool false)), _, _, _, none⟩) (v := (.bool true)) rfl (by kernel_rfl) (by kernel_rfl) (by kernel_rfl) (fun _ _ _ h => h) (Or.inl ⟨by rfl, fun w' h' => ?_⟩) hS ?_
  · clear h'
    go_simp
  simp only [Act.put]
  refine wpAnyH_take (i := 14) (oi := ⟨some 60, Op.move (Operand.tmp 59), _, _, _, none⟩) (v := (.bool true)) rfl (by kernel_rfl) (by kernel_rfl) (by kernel_rfl) (fun _ _ _ h => h) (Or.inl ⟨by rfl, fun w' h' => ?_⟩) hS ?_
  · clear h'
    go_simp
  simp only [Act.put]
  refine wpAnyH_take (i := 15) (oi := ⟨some 61, Op.move (Operand.tmp 8), _, _, _, some (14, true)⟩) (v := (.int .i64 0)) rfl (by kernel_rfl) (by kernel_rfl) (by kernel_rfl) (fun _ _ _ h => h) (Or.inl ⟨by kernel_rfl, fun w' h' => ?_⟩) hS ?_
  · clear h'
    go_simp
  simp only [Act.put]
  refine wpAnyH_take (i := 16) (oi := ⟨some 62, Op.binOp BinOp.eql 25 (Operand.tmp 61) (Operand.const (Value.int IntKind.i64 0)) 25, _, _, _, some (14, true)⟩) (v := (.bool true)) rfl (by kernel_rfl) (by kernel_rfl) (by kernel_rfl) (fun _ _ _ h => h) (Or.inl ⟨by kernel_rfl, fun w' h' => ?_⟩) hS ?_
  · clear h'
    go_simp
  simp only [Act.put]
  refine wpAnyH_take (i := 17) (oi := ⟨some 63, Op.pick (Operand.tmp 60) (Operand.tmp 62) (Operand.const (Value.bool false)), _, _, _, none⟩) (v := (.bool true)) rfl (by kernel_rfl) (by kernel_rfl) (by kernel_rfl) (fun _ _ _ h => h) (Or.inl ⟨by rfl, fun w' h' => ?_⟩) hS ?_
  · clear h'
    go_simp
  simp only [Act.put]
  refine wpAnyH_take (i := 18) (oi := ⟨some 64, Op.move (Operand.tmp 63), _, _, _, none⟩) (v := (.bool true)) rfl (by kernel_rfl) (by kernel_rfl) (by kernel_rfl) (fun _ _ _ h => h) (Or.inl ⟨by rfl, fun w' h' => ?_⟩) hS ?_
  · clear h'
    go_simp
  simp only [Act.put]
  refine wpAnyH_take (i := 19) (oi := ⟨some 65, Op.fieldAddr 39 (Operand.tmp 10) 0, _, _, _, some (18, true)⟩) (v := (.pointer (some ⟨ob, 0, none⟩))) rfl (by kernel_rfl) (by kernel_rfl) (by kernel_rfl) (fun _ _ _ h => h) (Or.inl ⟨by kernel_rfl, fun w' h' => ?_⟩) hS ?_
  · clear h'
    go_simp
  simp only [Act.put]
  refine wpAnyH_take (i := 20) (oi := ⟨some 66, Op.load 3 (Operand.tmp 65), _, _, _, some (18, true)⟩) (v := (.int .i64 1)) rfl (by kernel_rfl) (by kernel_rfl) (by kernel_rfl) (fun _ _ _ h => h) (Or.inl ⟨by kernel_rfl, fun w' h' => ?_⟩) hS ?_
  · have c0 := h'.o0
    clear h'
    go_simp
  simp only [Act.put]
  refine wpAnyH_take (i := 21) (oi := ⟨some 67, Op.binOp BinOp.eql 3 (Operand.tmp 66) (Operand.const (Value.int IntKind.i64 1)) 3, _, _, _, some (18, true)⟩) (v := (.bool true)) rfl (by kernel_rfl) (by kernel_rfl) (by kernel_rfl) (fun _ _ _ h => h) (Or.inl ⟨by kernel_rfl, fun w' h' => ?_⟩) hS ?_
  · clear h'
    go_simp
  simp only [Act.put]
  refine wpAnyH_take (i := 22) (oi := ⟨some 68, Op.pick (Operand.tmp 64) (Operand.tmp 67) (Operand.const (Value.bool false)), _, _, _, none⟩) (v := (.bool true)) rfl (by kernel_rfl) (by kernel_rfl) (by kernel_rfl) (fun _ _ _ h => h) (Or.inl ⟨by rfl, fun w' h' => ?_⟩) hS ?_
  · clear h'
    go_simp
  simp only [Act.put]
  refine wpAnyH_take (i := 23) (oi := ⟨some 69, Op.move (Operand.tmp 68), _, _, _, none⟩) (v := (.bool true)) rfl (by kernel_rfl) (by kernel_rfl) (by kernel_rfl) (fun _ _ _ h => h) (Or.inl ⟨by rfl, fun w' h' => ?_⟩) hS ?_
  · clear h'
    go_simp
  simp only [Act.put]
  refine wpAnyH_take (i := 24) (oi := ⟨some 70, Op.fieldAddr 39 (Operand.tmp 10) 1, _, _, _, some (23, true)⟩) (v := (.pointer (some ⟨ob, 1, none⟩))) rfl (by kernel_rfl) (by kernel_rfl) (by kernel_rfl) (fun _ _ _ h => h) (Or.inl ⟨by kernel_rfl, fun w' h' => ?_⟩) hS ?_
  · clear h'
    go_simp
  simp only [Act.put]
  refine wpAnyH_take (i := 25) (oi := ⟨some 71, Op.load 3 (Operand.tmp 70), _, _, _, some (23, true)⟩) (v := (.int .i64 2)) rfl (by kernel_rfl) (by kernel_rfl) (by kernel_rfl) (fun _ _ _ h => h) (Or.inl ⟨by kernel_rfl, fun w' h' => ?_⟩) hS ?_
  · have c0 := h'.o1
    clear h'
    go_simp
  simp only [Act.put]
  refine wpAnyH_take (i := 26) (oi := ⟨some 72, Op.binOp BinOp.eql 3 (Operand.tmp 71) (Operand.const (Value.int IntKind.i64 2)) 3, _, _, _, some (23, true)⟩) (v := (.bool true)) rfl (by kernel_rfl) (by kernel_rfl) (by kernel_rfl) (fun _ _ _ h => h) (Or.inl ⟨by kernel_rfl, fun w' h' => ?_⟩) hS ?_
  · clear h'
    go_simp
  simp only [Act.put]
  refine wpAnyH_take (i := 27) (oi := ⟨some 73, Op.pick (Operand.tmp 69) (Operand.tmp 72) (Operand.const (Value.bool false)), _, _, _, none⟩) (v := (.bool true)) rfl (by kernel_rfl) (by kernel_rfl) (by kernel_rfl) (fun _ _ _ h => h) (Or.inl ⟨by rfl, fun w' h' => ?_⟩) hS ?_
  · clear h'
    go_simp
  simp only [Act.put]
  refine wpAnyH_take (i := 28) (oi := ⟨some 74, Op.move (Operand.tmp 73), _, _, _, none⟩) (v := (.bool true)) rfl (by kernel_rfl) (by kernel_rfl) (by kernel_rfl) (fun _ _ _ h => h) (Or.inl ⟨by rfl, fun w' h' => ?_⟩) hS ?_
  · clear h'
    go_simp
  simp only [Act.put]
  refine wpAnyH_take (i := 29) (oi := ⟨some 75, Op.move (Operand.tmp 11), _, _, _, some (28, true)⟩) (v := (.int .i64 0)) rfl (by kernel_rfl) (by kernel_rfl) (by kernel_rfl) (fun _ _ _ h => h) (Or.inl ⟨by kernel_rfl, fun w' h' => ?_⟩) hS ?_
  · clear h'
    go_simp
  simp only [Act.put]
  refine wpAnyH_take (i := 30) (oi := ⟨some 76, Op.binOp BinOp.eql 25 (Operand.tmp 75) (Operand.const (Value.int IntKind.i64 0)) 25, _, _, _, some (28, true)⟩) (v := (.bool true)) rfl (by kernel_rfl) (by kernel_rfl) (by kernel_rfl) (fun _ _ _ h => h) (Or.inl ⟨by kernel_rfl, fun w' h' => ?_⟩) hS ?_
  · clear h'
    go_simp
  simp only [Act.put]
  refine wpAnyH_take (i := 31) (oi := ⟨some 77, Op.pick (Operand.tmp 74) (Operand.tmp 76) (Operand.const (Value.bool false)), _, _, _, none⟩) (v := (.bool true)) rfl (by kernel_rfl) (by kernel_rfl) (by kernel_rfl) (fun _ _ _ h => h) (Or.inl ⟨by rfl, fun w' h' => ?_⟩) hS ?_
  · clear h'
    go_simp
  simp only [Act.put]
  refine wpAnyH_take (i := 32) (oi := ⟨some 78, Op.move (Operand.tmp 77), _, _, _, none⟩) (v := (.bool true)) rfl (by kernel_rfl) (by kernel_rfl) (by kernel_rfl) (fun _ _ _ h => h) (Or.inl ⟨by rfl, fun w' h' => ?_⟩) hS ?_
  · clear h'
    go_simp
  simp only [Act.put]
  refine wpAnyH_take (i := 33) (oi := ⟨some 79, Op.move (Operand.tmp 12), _, _, _, some (32, true)⟩) (v := (.int .i64 0)) rfl (by kernel_rfl) (by kernel_rfl) (by kernel_rfl) (fun _ _ _ h => h) (Or.inl ⟨by kernel_rfl, fun w' h' => ?_⟩) hS ?_
  · clear h'
    go_simp
  simp only [Act.put]
  refine wpAnyH_take (i := 34) (oi := ⟨some 80, Op.binOp BinOp.eql 25 (Operand.tmp 79) (Operand.const (Value.int IntKind.i64 0)) 25, _, _, _, some (32, true)⟩) (v := (.bool true)) rfl (by kernel_rfl) (by kernel_rfl) (by kernel_rfl) (fun _ _ _ h => h) (Or.inl ⟨by kernel_rfl, fun w' h' => ?_⟩) hS ?_
  · clear h'
    go_simp
  simp only [Act.put]
  refine wpAnyH_take (i := 35) (oi := ⟨some 81, Op.pick (Operand.tmp 78) (Operand.tmp 80) (Operand.const (Value.bool false)), _, _, _, none⟩) (v := (.bool true)) rfl (by kernel_rfl) (by kernel_rfl) (by kernel_rfl) (fun _ _ _ h => h) (Or.inl ⟨by rfl, fun w' h' => ?_⟩) hS ?_
  · clear h'
    go_simp
  simp only [Act.put]
  refine wpAnyH_take (i := 36) (oi := ⟨some 82, Op.move (Operand.tmp 81), _, _, _, none⟩) (v := (.bool true)) rfl (by kernel_rfl) (by kernel_rfl) (by kernel_rfl) (fun _ _ _ h => h) (Or.inl ⟨by rfl, fun w' h' => ?_⟩) hS ?_
  · clear h'
    go_simp
  simp only [Act.put]
  refine wpAnyH_take (i := 37) (oi := ⟨some 83, Op.move (Operand.tmp 13), _, _, _, some (36, true)⟩) (v := (.slice (some ⟨gb, 0, none⟩) 1 cap)) rfl (by kernel_rfl) (by kernel_rfl) (by kernel_rfl) (fun _ _ _ h => h) (Or.inl ⟨by kernel_rfl, fun w' h' => ?_⟩) hS ?_
  · clear h'
    go_simp
  simp only [Act.put]
  refine wpAnyH_ready (rs := [38]) (by kernel_rfl) (by simp) ?_
  refine AllReadyH.cons rfl (fun K hK => ?_) AllReadyH.nil
  go_simp
  refine hK.out _ _ hS (fun _ => ?_)
  clear hK K
  refine wpAnyH_take (i := 39) (oi := ⟨some 85, Op.binOp BinOp.eql 3 (Operand.tmp 84) (Operand.const (Value.int IntKind.i64 1)) 3, _, _, _, some (36, true)⟩) (v := (.bool true)) rfl (by kernel_rfl) (by kernel_rfl) (by kernel_rfl) (fun _ _ _ h => h) (Or.inl ⟨by kernel_rfl, fun w' h' => ?_⟩) hS ?_
  · clear h'
    go_simp
  simp only [Act.put]
  refine wpAnyH_take (i := 40) (oi := ⟨some 86, Op.pick (Operand.tmp 82) (Operand.tmp 85) (Operand.const (Value.bool false)), _, _, _, none⟩) (v := (.bool true)) rfl (by kernel_rfl) (by kernel_rfl) (by kernel_rfl) (fun _ _ _ h => h) (Or.inl ⟨by rfl, fun w' h' => ?_⟩) hS ?_
  · clear h'
    go_simp
  simp only [Act.put]
  refine wpAnyH_take (i := 41) (oi := ⟨some 87, Op.move (Operand.tmp 86), _, _, _, none⟩) (v := (.bool true)) rfl (by kernel_rfl) (by kernel_rfl) (by kernel_rfl) (fun _ _ _ h => h) (Or.inl ⟨by rfl, fun w' h' => ?_⟩) hS ?_
  · clear h'
    go_simp
  simp only [Act.put]
  refine wpAnyH_take (i := 42) (oi := ⟨some 88, Op.move (Operand.tmp 13), _, _, _, some (41, true)⟩) (v := (.slice (some ⟨gb, 0, none⟩) 1 cap)) rfl (by kernel_rfl) (by kernel_rfl) (by kernel_rfl) (fun _ _ _ h => h) (Or.inl ⟨by kernel_rfl, fun w' h' => ?_⟩) hS ?_
  · clear h'
    go_simp
  simp only [Act.put]
  refine wpAnyH_take (i := 43) (oi := ⟨some 89, Op.indexAddr 48 (Operand.tmp 88) (Operand.const (Value.int IntKind.i64 0)), _, _, _, some (41, true)⟩) (v := (.pointer (some ⟨gb, 0, none⟩))) rfl (by kernel_rfl) (by kernel_rfl) (by kernel_rfl) (fun _ _ _ h => h) (Or.inl ⟨by kernel_rfl, fun w' h' => ?_⟩) hS ?_
  · clear h'
    go_simp
  simp only [Act.put]
  refine wpAnyH_take (i := 44) (oi := ⟨some 90, Op.load 51 (Operand.tmp 89), _, _, _, some (41, true)⟩) (v := (.agg #[.int .i64 1, .bool true, .string FS])) rfl (by kernel_rfl) (by kernel_rfl) (by kernel_rfl) (fun _ _ _ h => h) (Or.inl ⟨by kernel_rfl, fun w' h' => ?_⟩) hS ?_
  · have c0 := h'.2.1
    have c1 := h'.2.2.1
    have c2 := h'.2.2.2
    clear h'
    go_simp
  simp only [Act.put]
  refine wpAnyH_ready (rs := [45]) (by kernel_rfl) (by simp) ?_
  refine AllReadyH.cons rfl (fun K hK => ?_) AllReadyH.nil
  go_simp
  refine (full_any V 7 7 rfl).mono ?_
  rintro e wa ⟨rfl, bela⟩
  rw [← HFS.out]
  have aa := hS.below bela
  have BELA := Lib.hid (BV.out.trans (bela.mono BV.out.size))
  go_simp
  refine hK.out _ _ aa (fun _ => ?_)
  clear hK K
  refine wpAnyH_take (i := 46) (oi := ⟨some 92, Op.build 51 #[(0, Operand.const (Value.int IntKind.i64 1)), (1, Operand.const (Value.bool true)), (2, (Operand.tmp 91))], _, _, _, some (41, true)⟩) (v := (.agg #[.int .i64 1, .bool true, .string FS])) rfl (by kernel_rfl) (by kernel_rfl) (by kernel_rfl) (fun _ _ _ h => h) (Or.inl ⟨by kernel_rfl, fun w' h' => ?_⟩) aa ?_
  · clear h'
    go_simp
  simp only [Act.put]
  refine wpAnyH_take (i := 47) (oi := ⟨some 93, Op.binOp BinOp.eql 51 (Operand.tmp 90) (Operand.tmp 92) 51, _, _, _, some (41, true)⟩) (v := (.bool true)) rfl (by kernel_rfl) (by kernel_rfl) (by kernel_rfl) (fun _ _ _ h => h) (Or.inl ⟨by kernel_rfl, fun w' h' => ?_⟩) aa ?_
  · clear h'
    go_simp
  simp only [Act.put]
  refine wpAnyH_take (i := 48) (oi := ⟨some 94, Op.pick (Operand.tmp 87) (Operand.tmp 93) (Operand.const (Value.bool false)), _, _, _, none⟩) (v := (.bool true)) rfl (by kernel_rfl) (by kernel_rfl) (by kernel_rfl) (fun _ _ _ h => h) (Or.inl ⟨by rfl, fun w' h' => ?_⟩) aa ?_
  · clear h'
    go_simp
  simp only [Act.put]
  refine wpAnyH_take (i := 49) (oi := ⟨some 0, Op.assign (Operand.tmp 94), _, _, _, none⟩) (v := (.bool true)) rfl (by kernel_rfl) (by kernel_rfl) (by kernel_rfl) (fun _ _ _ h => h) (Or.inl ⟨by rfl, fun w' h' => ?_⟩) aa ?_
  · clear h'
    go_simp
  simp only [Act.put]
  refine wpAnyH_done (by kernel_rfl) (NoPanic.normal ?_) _
  clear hS d aa bela
  go_wp2_with fail
  go_ret
  exact ⟨rfl, BELA.out⟩

end Go.Proofs.YtdchlnffbiooaaaGreatDoor

namespace Go.Proofs.YtdchlnffbiooaaaGreatDoor
open Go.ChangeShapes Go.WideShapes Go.ChangeAt Go.RowKit

def shapesLaid : List (String × DataW Unit) := [("blockyard/vblk.shapes", Rows.laid_blockyard_vblk_shapes)]
theorem own_b : ownKnob Tryz.prog.godebug = none := by kernel_rfl
theorem gShapes : Tryz.prog.globalNamed "blockyard/vblk.shapes" = some 0 := by kernel_rfl
theorem tShapes : (Tryz.prog.globals[0]?).map (·.type) = some 121 := by kernel_rfl
theorem laidOut_b : laidOutB Tryz.prog = true := by kernel_rfl
theorem cInt : Tryz.prog.cellsOf 3 = 1 := by kernel_rfl
theorem cU64 : Tryz.prog.cellsOf 72 = 1 := by kernel_rfl
theorem cBool : Tryz.prog.cellsOf 4 = 1 := by kernel_rfl
theorem cShape : Tryz.prog.cellsOf 74 = 5 := by kernel_rfl

set_option maxRecDepth 100000 in
theorem shape_of {H : Type} {enc : TypeId × Value → H} {w : World} {base : Nat} {sp : Nat → Bool} {hd : Bool} {fuel : Nat} {cs : List Value} {x : DataW H × List MemPlace} (s : Shp) (ht : DataW.trod enc Tryz.prog w base sp hd fuel 74 cs = some x)
    (hx : x.1 = .agg [.lit (.int .i64 s.kind), .lit (.int .u64 s.num), .lit (.int .i64 s.len), .lit (.bool s.back), .lit (.int .i64 s.sec)]) : cs = s.cells := by
  obtain ⟨xs, n, _, rfl, hl, hxl, hf⟩ := DataW.trod_struct Tryz.underlying74 ht
  rw [cShape] at hl
  have hx5 : xs.length = 5 := hxl
  match cs, hl, xs, hx5 with
  | [c0, c1, c2, c3, c4], _, [x0, x1, x2, x3, x4], _ =>
    have g0 : DataW.trod enc Tryz.prog w base sp hd n 3 (List.take (Tryz.prog.cellsOf 3) (List.drop 0 [c0, c1, c2, c3, c4])) = some x0 := hf 0 _ rfl
    rw [cInt] at g0
    obtain ⟨k0, e0, q0, _⟩ := DataW.trod_int Tryz.underlying3 g0
    have g1 : DataW.trod enc Tryz.prog w base sp hd n 72 (List.take (Tryz.prog.cellsOf 72) (List.drop 1 [c0, c1, c2, c3, c4])) = some x1 := hf 1 _ rfl
    rw [cU64] at g1
    obtain ⟨k1, e1, q1, _⟩ := DataW.trod_int Tryz.underlying72 g1
    have g2 : DataW.trod enc Tryz.prog w base sp hd n 3 (List.take (Tryz.prog.cellsOf 3) (List.drop 2 [c0, c1, c2, c3, c4])) = some x2 := hf 2 _ rfl
    rw [cInt] at g2
    obtain ⟨k2, e2, q2, _⟩ := DataW.trod_int Tryz.underlying3 g2
    have g3 : DataW.trod enc Tryz.prog w base sp hd n 4 (List.take (Tryz.prog.cellsOf 4) (List.drop 3 [c0, c1, c2, c3, c4])) = some x3 := hf 3 _ rfl
    rw [cBool] at g3
    obtain ⟨k3, e3, q3⟩ := DataW.trod_bool Tryz.underlying4 g3
    have g4 : DataW.trod enc Tryz.prog w base sp hd n 3 (List.take (Tryz.prog.cellsOf 3) (List.drop 4 [c0, c1, c2, c3, c4])) = some x4 := hf 4 _ rfl
    rw [cInt] at g4
    obtain ⟨k4, e4, q4, _⟩ := DataW.trod_int Tryz.underlying3 g4
    simp at e0 e1 e2 e3 e4
    subst e0 e1 e2 e3 e4 q0 q1 q2 q3 q4
    simp at hx
    obtain ⟨h0, h1, h2, h3, h4⟩ := hx
    subst h0 h1 h2 h3 h4
    rfl

/-- WHAT THE CONDITION GIVES THE WALKS. -/
theorem shapes_of {W : World} (h : laidMetH Tryz.prog shapesLaid W) : Shapes W := by
  rw [MakeChecks.laidMetH_plain _ _ _ (by kernel_rfl)] at h
  obtain ⟨ps, ⟨g0, t0, cs0, f0, p0, q0, hg0, ht0, hv0, hd0, _, _⟩, _, _⟩ := h
  obtain rfl := Option.some.inj (gShapes.symm.trans hg0)
  obtain rfl := Option.some.inj (tShapes.symm.trans ht0)
  obtain ⟨xs, m, _, hx, hlen, hn, hel⟩ := DataW.trod_array Tryz.underlying121 hd0
  rw [cShape] at hel
  have hlen2 : cs0.toList.length = 25 := by rw [hlen]; kernel_rfl
  injection hx with hx _
  unfold Rows.laid_blockyard_vblk_shapes at hx
  injection hx with hx
  match xs, hn, hx with
  | [x0, x1, x2, x3, x4], _, hx =>
    simp only [List.map_cons, List.map_nil, List.cons.injEq, and_true] at hx
    obtain ⟨a0, a1, a2, a3, a4⟩ := hx
    have e0 := shape_of shp1 (hel 0 (by decide)) a0.symm
    have e1 := shape_of shp2 (hel 1 (by decide)) a1.symm
    have e2 := shape_of shp3 (hel 2 (by decide)) a2.symm
    have e3 := shape_of shp4 (hel 3 (by decide)) a3.symm
    have e4 := shape_of shp5 (hel 4 (by decide)) a4.symm
    have hl : cs0.toList = [shp1, shp2, shp3, shp4, shp5].flatMap Shp.cells := by
      have s0 := List.take_append_drop 5 cs0.toList
      have s1 := List.take_append_drop 5 (cs0.toList.drop 5)
      have s2 := List.take_append_drop 5 (cs0.toList.drop 10)
      have s3 := List.take_append_drop 5 (cs0.toList.drop 15)
      have s4 := List.take_append_drop 5 (cs0.toList.drop 20)
      have s5 : cs0.toList.drop 25 = [] := List.drop_eq_nil_of_le (by omega)
      rw [List.drop_drop] at s1 s2 s3 s4
      simp only [Nat.zero_mul, Nat.one_mul, Nat.reduceMul, List.drop_zero, Nat.reduceAdd] at e0 e1 e2 e3 e4 s1 s2 s3 s4
      rw [← s0, e0, ← s1, e1, ← s2, e2, ← s3, e3, ← s4, e4, s5]
      rfl
    intro j v hv
    rw [← hl] at hv
    have := World.var?_cell hg0 hv0 j
    rw [this]
    simpa using hv

/-- The door's own heap meets the condition. -/
theorem door_met (os : Os) (args : Array Value) : laidMetH Tryz.prog shapesLaid ((World.doorLaid Tryz.prog 400 os).forCall (fun _ _ => 0) ⟨#[], args, []⟩).memory :=
  laidMetH_of_parts3 (fuel := 8) (laidMet_of_run' 8 (by kernel_rfl) (by kernel_rfl)) (by kernel_rfl) (by kernel_rfl)

end Go.Proofs.YtdchlnffbiooaaaGreatDoor
