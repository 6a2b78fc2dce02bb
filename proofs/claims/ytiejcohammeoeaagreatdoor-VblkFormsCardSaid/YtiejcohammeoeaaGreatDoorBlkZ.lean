/-
  Layer 3: what the rows' condition says of the package's table; a world that meets it. No conditions.
-/
import Derived.Test.YtiejcohammeoeaaGreatDoorBlkJ
import Derived.Test.YtiejcohammeoeaaGreatDoorBlkN
import Derived.Test.YtiejcohammeoeaaGreatDoorShelf
import Derived.Test.YtiejcohammeoeaaGreatDoorCards
import Derived.Test.YtiejcohammeoeaaGreatDoorTie
import Derived.ProofKit
import Derived.OpenShut
import Derived.LaidMore
import Derived.Stop.Joined
namespace Go.Proofs.YtiejcohammeoeaaGreatDoor
open Go.RowKit Go.Sort

/-- An answer. -/
structure Dn where
  id : Int
  ok : Bool
  data : ByteArray
def Dn.val (x : Dn) : Value := .agg #[.int .i64 x.id, .bool x.ok, .string x.data]
def ansS (lm : List UInt8) (base slot : Int) : Int := getX lm (base + 848 + 96 * slot + 80) 1
/-- What the device told of an order that has come back with this length. -/
def ansF (lm : List UInt8) (base : Int) (x : Snt) (len : Int) : Dn :=
  if ansS lm base x.slot ≠ 0 ∨ (x.kind = 1 ∧ len ≠ 65) then ⟨x.id, false, ⟨#[]⟩⟩ else ⟨x.id, true, if x.kind = 1 then ⟨(textS lm (base + 848 + 96 * x.slot + 16) 64).toArray⟩ else ⟨#[]⟩⟩

/-- What stays through answer. -/
structure AnsI (w0 w : World) (b g h : Nat) (base sectors limit : Int) (q u : Nat) (last now : Int) (dead : Bool) (lm : List UInt8) (xb : Nat) (x : Snt) (es : List (Int × Value)) : Prop where
  ka : KAt w b g base sectors limit q u last now dead
  mem : Mem w g h lm
  xbk : w.heap[xb]? = some (.cells #[.int .i64 x.id, .int .i64 x.kind, .int .i64 x.slot, .int .i64 x.since] 77 (0, 0))
  rbk : w.heap[w0.heap.size]? = some (.cells #[.int .i64 0, .bool false, .string ⟨#[]⟩] 45 (0, 0))
  tab : IsTab w u es
  tu : Turned (fun k => k = u) w0 w
  old : w0.heap.size < xb
  b0 : b < w0.heap.size
section
variable {w0 w w' : World} {b g h : Nat} {base sectors limit : Int} {q u : Nat} {last now : Int} {dead : Bool} {lm : List UInt8} {xb : Nat} {x : Snt} {es : List (Int × Value)}
theorem AnsI.grown (i : AnsI w0 w b g h base sectors limit q u last now dead lm xb x es) (k : w.grownBy w' none) : AnsI w0 w' b g h base sectors limit q u last now dead lm xb x es :=
  ⟨i.ka.kept (k.block _ (lt_of_block i.ka) (by simp)), i.mem.same k, (k.block _ (lt_of_block i.xbk) (by simp)).trans i.xbk, (k.block _ (lt_of_block i.rbk) (by simp)).trans i.rbk, i.tab.kept (k.block _ i.tab.lt (by simp)), i.tu.step k (fun j e => by cases e), i.old, i.b0⟩
theorem AnsI.x0 (i : AnsI w0 w b g h base sectors limit q u last now dead lm xb x es) : w.cell? ⟨xb, 0, none⟩ = some (.int .i64 x.id) := cell_of_block i.xbk
theorem AnsI.x1 (i : AnsI w0 w b g h base sectors limit q u last now dead lm xb x es) : w.cell? ⟨xb, 1, none⟩ = some (.int .i64 x.kind) := cell_of_block i.xbk
/-- What it comes to. -/
def AnsPost (w : World) (u : Nat) (es : List (Int × Value)) (d : Dn) (e : Ending) (w' : World) : Prop := e = .returned d.val ∧ IsTab w' u es ∧ Turned (fun k => k = u) w w'
/-- The result's cells, written anew. -/
theorem AnsI.out (i : AnsI w0 w b g h base sectors limit q u last now dead lm xb x es) (hu : u < w0.heap.size) (y0 y1 y2 : Value) :
    IsTab (((w.setCell ⟨w0.heap.size, 0, none⟩ y0).setCell ⟨w0.heap.size, 1, none⟩ y1).setCell ⟨w0.heap.size, 2, none⟩ y2) u es ∧ Turned (fun k => k = u) w0 (((w.setCell ⟨w0.heap.size, 0, none⟩ y0).setCell ⟨w0.heap.size, 1, none⟩ y1).setCell ⟨w0.heap.size, 2, none⟩ y2) := by
  refine ⟨i.tab.kept ?_, i.tu.setThree y0 y1 y2⟩
  rw [Below.heap_setCell _ _ _ _ (Nat.ne_of_lt hu), Below.heap_setCell _ _ _ _ (Nat.ne_of_lt hu), Below.heap_setCell _ _ _ _ (Nat.ne_of_lt hu)]
end
def AnsS (w : World) (b g : Nat) (base sectors limit : Int) (q u : Nat) (last now : Int) (dead : Bool) (xb : Nat) (x : Snt) : Prop :=
  KAt w b g base sectors limit q u last now dead ∧ w.heap[xb]? = some (.cells #[.int .i64 x.id, .int .i64 x.kind, .int .i64 x.slot, .int .i64 x.since] 77 (0, 0))
theorem AnsS.x2 {w : World} {b g : Nat} {base sectors limit : Int} {q u : Nat} {last now : Int} {dead : Bool} {xb : Nat} {x : Snt} (h : AnsS w b g base sectors limit q u last now dead xb x) : w.cell? ⟨xb, 2, none⟩ = some (.int .i64 x.slot) := cell_of_block h.2
theorem AnsS.kept {w w' : World} {b g : Nat} {base sectors limit : Int} {q u : Nat} {last now : Int} {dead : Bool} {xb : Nat} {x : Snt} (h : AnsS w b g base sectors limit q u last now dead xb x) (k1 : w'.heap[b]? = w.heap[b]?) (k2 : w'.heap[xb]? = w.heap[xb]?) : AnsS w' b g base sectors limit q u last now dead xb x := ⟨h.1.kept k1, k2.trans h.2⟩
theorem snt_filter (os : List Snt) (k : Int) : (os.map Snt.ent).filter (fun c => c.1 != k) = (os.filter fun y => y.hd != k).map Snt.ent := by
  rw [List.filter_map]
  rfl

theorem ans_start {w W2 w3 : World} {b g h : Nat} {base sectors limit : Int} {q u : Nat} {last now : Int} {dead : Bool} {lm : List UInt8} {xb : Nat} {x : Snt} {os : List Snt} (k : KAt W2 b g base sectors limit q u last now dead) (m : Mem W2 g h lm)
    (hx : W2.heap[xb]? = some (.cells #[.int .i64 x.id, .int .i64 x.kind, .int .i64 x.slot, .int .i64 x.since] 77 (0, 0))) (hr : W2.heap[w.heap.size]? = some (.cells #[.int .i64 0, .bool false, .string ⟨#[]⟩] 45 (0, 0)))
    (tu : Turned (fun k => k = u) w W2) (t3 : IsTab w3 u ((os.map Snt.ent).filter fun c => c.1 != x.hd)) (k3 : W2.grownBy w3 (some u)) (n1 : u ≠ b) (n2 : u ≠ g) (n3 : u ≠ h) (z1 : w.heap.size < xb) (lb : b < w.heap.size) (lu : u < w.heap.size) :
    AnsI w w3 b g h base sectors limit q u last now dead lm xb x ((os.filter fun y => y.hd != x.hd).map Snt.ent) := by
  have keep : ∀ y, y < W2.heap.size → u ≠ y → w3.heap[y]? = W2.heap[y]? := fun y hy hn => k3.block y hy (fun e => hn (by injection e with e; exact e.symm))
  exact ⟨k.kept (keep _ (lt_of_block k) n1), ⟨(keep _ m.lt1 n2).trans m.1, (keep _ m.lt2 n3).trans m.2⟩, (keep _ (lt_of_block hx) (by omega)).trans hx, (keep _ (lt_of_block hr) (by omega)).trans hr, by rw [← snt_filter]; exact t3, tu.step k3 (fun j e => .inl (by injection e with e; exact e.symm)), z1, lb⟩

theorem AnsI.aside {w0 w w' : World} {b g h : Nat} {base sectors limit : Int} {q u : Nat} {last now : Int} {dead : Bool} {lm : List UInt8} {xb : Nat} {x : Snt} {es : List (Int × Value)} (i : AnsI w0 w b g h base sectors limit q u last now dead lm xb x es) {db : Nat} (k : w.grownBy w' (some db))
    (n1 : b ≠ db) (n2 : g ≠ db) (n3 : h ≠ db) (n4 : xb ≠ db) (n5 : w0.heap.size < db) (n6 : u ≠ db) : AnsI w0 w' b g h base sectors limit q u last now dead lm xb x es := by
  have keep : ∀ y, y < w.heap.size → y ≠ db → w'.heap[y]? = w.heap[y]? := fun y hy hn => k.block y hy (fun e => hn (by injection e with e))
  exact ⟨i.ka.kept (keep _ (lt_of_block i.ka) n1), ⟨(keep _ i.mem.lt1 n2).trans i.mem.1, (keep _ i.mem.lt2 n3).trans i.mem.2⟩, (keep _ (lt_of_block i.xbk) n4).trans i.xbk, (keep _ (lt_of_block i.rbk) (by omega)).trans i.rbk, i.tab.kept (keep _ i.tab.lt n6), i.tu.step k (fun j e => .inr (by injection e with e; omega)), i.old, i.b0⟩

set_option maxRecDepth 100000 in
set_option maxHeartbeats 4000000 in
theorem answer_any (w : World) (b g h : Nat) (base sectors limit : Int) (q u : Nat) (last now : Int) (dead : Bool) (lm : List UInt8) (hk : KAt w b g base sectors limit q u last now dead) (m : Mem w g h lm) (b0 : 0 ≤ base) (b1 : base + 1616 ≤ lm.length) (l2 : lm.length ≤ 65536)
    (os : List Snt) (ht : IsTab w u (os.map Snt.ent)) (x : Snt) (hx : x ∈ os) (s0 : 0 ≤ x.slot) (s1 : x.slot < 8) (len : Int) :
    Calls Tryz.prog 69 #[.pointer (some ⟨b, 0, none⟩), .int .i64 x.hd, .int .i64 len] w (AnsPost w u ((os.filter fun y => y.hd != x.hd).map Snt.ent) (ansF lm base x len)) := by
  obtain ⟨R, hR⟩ : ∃ R, R = ansF lm base x len := ⟨_, rfl⟩
  rw [← hR]
  have HR := Lib.hid hR
  have hwf : (Lit.int .i64 x.hd).wf = true := by
    obtain ⟨es, clock, _, F⟩ := ht
    exact F.wf x.ent (List.mem_map.2 ⟨x, hx, rfl⟩)
  have hmem : (x.hd, x.val) ∈ os.map Snt.ent := List.mem_map.2 ⟨x, hx, rfl⟩
  have lb := lt_of_block hk
  have lu := ht.lt
  have lg := m.lt1
  have lh := m.lt2
  obtain ⟨n1, n2, n3⟩ : u ≠ b ∧ u ≠ g ∧ u ≠ h := ⟨tab_ne ht hk, tab_ne ht m.1, tab_ne ht m.2⟩
  obtain ⟨xh, xi, xk, xs, xt⟩ := x
  unfold Snt.val at hmem
  simp only at hmem s0 s1 hwf
  have ka := World.grownBy_alloc w (.cells #[.int .i64 0, .bool false, .string ⟨#[]⟩] 45) none
  have hrb := heap_alloc_new w (.cells #[.int .i64 0, .bool false, .string ⟨#[]⟩] 45)
  have k1 := hk.kept (ka.block _ lb (by simp))
  have m1 := m.same ka
  have t1 := ht.kept (ka.block _ lu (by simp))
  have HU := Lib.hid lu
  have HWF := Lib.hid hwf
  have HMEM := Lib.hid hmem
  clear hR hk m ht hx hwf hmem
  go_enter Tryz.func69, Tryz.ntmps69
  go_upto_region 1 with fail
  generalize w.alloc _ = W1 at ka hrb k1 m1 t1 ⊢
  have c5 := k1.c5
  have lk := t1.get_yes (P := Tryz.prog) Tryz.underlying55 Tryz.underlying3 HMEM.out
  have kb := World.grownBy_alloc W1 (.cells #[.int .i64 xi, .int .i64 xk, .int .i64 xs, .int .i64 xt] 77) none
  have hxb := heap_alloc_new W1 (.cells #[.int .i64 xi, .int .i64 xk, .int .i64 xs, .int .i64 xt] 77)
  have z1 := lt_of_block hrb
  go_upto_region 2 with fail
  generalize W1.alloc _ = W2 at kb hxb ⊢
--@1
  have k2 := k1.kept (kb.block _ (lt_of_block k1) (by simp))
  have T2 := Lib.hid (t1.kept (kb.block _ t1.lt (by simp)))
  have M2 := Lib.hid (m1.same kb)
  have RB2 : Hid (W2.heap[w.heap.size]? = some (.cells #[.int .i64 0, .bool false, .string ⟨#[]⟩] 45 (0, 0))) := Lib.hid ((kb.block _ z1 (by simp)).trans hrb)
  have TU2 : Hid (Turned (fun k => k = u) w W2) := Lib.hid ((Turned.of ka (fun j e => by cases e)).step kb (fun j e => by cases e))
  have d5 := k2.c5
  have K2 := Lib.hid k2
  have XB2 := Lib.hid hxb
  clear lk c5 k1 m1 t1 ka kb hrb hxb k2
  go_wp2_with (at_delete; refine wpList_delete_tab _ rfl _ _ 55 3 rfl 77 Tryz.underlying55 Tryz.underlying3 u xh (os.map Snt.ent) T2.out HWF.out rfl rfl ?_; intro w3 t3 k3; have i3 : AnsI w w3 b g h base sectors limit q u last now dead lm W1.heap.size ⟨xh, xi, xk, xs, xt⟩ ((os.filter fun y => y.hd != xh).map Snt.ent) := ans_start K2.out M2.out XB2.out RB2.out TU2.out t3 k3 n1 n2 n3 z1 lb HU.out; have e1 := i3.x1; clear d5)
  rw [snt_filter] at t3
  have I3 := Lib.hid i3
  clear i3 t3 k3 K2 T2 M2 RB2 TU2 XB2 e1
--@2
  obtain ⟨ST, hST⟩ : ∃ ST : Int, ST = ansS lm base xs := ⟨_, rfl⟩
  have HST := Lib.hid hST
  obtain ⟨TX, hTX⟩ : ∃ TX, TX = textS lm (base + 848 + 96 * xs + 16) 64 := ⟨_, rfl⟩
  have HTX := Lib.hid hTX
  have HR2 : Hid (R = if ST ≠ 0 ∨ (xk = 1 ∧ len ≠ 65) then ⟨xi, false, ⟨#[]⟩⟩ else ⟨xi, true, if xk = 1 then ⟨TX.toArray⟩ else ⟨#[]⟩⟩) := Lib.hid (by rw [HR.out]; unfold ansF; rw [hST, hTX])
  have hw80 : IntKind.i64.wrap (base + 848 + 96 * xs + 80) = base + 848 + 96 * xs + 80 := IntWalk.i64_in _ (by omega)
  have hw16 : IntKind.i64.wrap (base + 848 + 96 * xs + 16) = base + 848 + 96 * xs + 16 := IntWalk.i64_in _ (by omega)
  clear hST hTX
--@3
  refine wp_region_noPanic ?_
  refine region_held (S := fun w' => AnsS w' b g base sectors limit q u last now dead W1.heap.size ⟨xh, xi, xk, xs, xt⟩) (by kernel_rfl) (fun V d => ⟨I3.out.ka.kept (d.block _), (d.block _).trans I3.out.xbk⟩) (fun V d hS => ?_)
  have iV := Lib.hid (I3.out.grown d.grown)
  refine wpAnyH_take (i := 0) (v := (.pointer (some ⟨b, 0, none⟩))) rfl (by kernel_rfl) (by kernel_rfl) (by kernel_rfl) (fun _ _ _ h => h) (Or.inl ⟨by rfl, fun w' h' => ?_⟩) hS ?_
  · clear h'
    go_simp
  simp only [Act.put]
  refine wpAnyH_take (i := 1) (v := (.pointer (some ⟨b, 0, none⟩))) rfl (by kernel_rfl) (by kernel_rfl) (by kernel_rfl) (fun _ _ _ h => h) (Or.inl ⟨by rfl, fun w' h' => ?_⟩) hS ?_
  · clear h'
    go_simp
  simp only [Act.put]
  refine wpAnyH_take (i := 2) (v := (.pointer (some ⟨b, 0, none⟩))) rfl (by kernel_rfl) (by kernel_rfl) (by kernel_rfl) (fun _ _ _ h => h) (Or.inl ⟨by rfl, fun w' h' => ?_⟩) hS ?_
  · clear h'
    go_simp
  simp only [Act.put]
  refine wpAnyH_take (i := 3) (v := (.pointer (some ⟨g, 0, none⟩))) rfl (by kernel_rfl) (by kernel_rfl) (by kernel_rfl) (fun _ _ _ h => h) (Or.inl ⟨by rfl, fun w' h' => ?_⟩) hS ?_
  · have c0 := h'.1.c0
    clear h'
    go_simp
  simp only [Act.put]
  refine wpAnyH_take (i := 4) (v := (.pointer (some ⟨b, 0, none⟩))) rfl (by kernel_rfl) (by kernel_rfl) (by kernel_rfl) (fun _ _ _ h => h) (Or.inl ⟨by rfl, fun w' h' => ?_⟩) hS ?_
  · clear h'
    go_simp
  simp only [Act.put]
  refine wpAnyH_take (i := 5) (v := (.pointer (some ⟨W1.heap.size, 2, none⟩))) rfl (by kernel_rfl) (by kernel_rfl) (by kernel_rfl) (fun _ _ _ h => h) (Or.inl ⟨by rfl, fun w' h' => ?_⟩) hS ?_
  · clear h'
    go_simp
  simp only [Act.put]
  refine wpAnyH_take (i := 6) (v := (.int .i64 xs)) rfl (by kernel_rfl) (by kernel_rfl) (by kernel_rfl) (fun _ _ _ h => h) (Or.inl ⟨by rfl, fun w' h' => ?_⟩) hS ?_
  · have c0 := h'.x2
    clear h'
    go_simp
  simp only [Act.put]
  refine wpAnyH_ready (rs := [7]) (by kernel_rfl) (by simp) ?_
  refine AllReadyH.cons rfl (fun K hK => ?_) AllReadyH.nil
  go_simp
  refine (kat_any V b g base sectors limit q u last now dead hS.1 b0 (by omega) xs s0 (by omega)).mono ?_
  rintro e w4 ⟨rfl, rfl⟩
  go_simp
  refine hK.out _ _ hS (fun _ => ?_)
  clear hK K
  refine wpAnyH_take (i := 8) (v := (.int .i64 (base + 848 + 96 * xs + 80))) rfl (by kernel_rfl) (by kernel_rfl) (by kernel_rfl) (fun _ _ _ h => h) (Or.inl ⟨by rfl, fun w' h' => ?_⟩) hS ?_
  · clear h'
    go_simp
  simp only [Act.put]
  refine wpAnyH_ready (rs := [9]) (by kernel_rfl) (by simp) ?_
  refine AllReadyH.cons rfl (fun K hK => ?_) AllReadyH.nil
  go_simp
  refine (Get_all V g h lm iV.out.mem (by omega) (base + 848 + 96 * xs + 80) 1).mono ?_
  rintro e w4 ⟨rfl, rfl⟩
  rw [show (getX lm (base + 848 + 96 * xs + 80) 1 : Int) = ST from HST.out.symm]
  go_simp
  refine hK.out _ _ hS (fun _ => ?_)
  clear hK K
  refine wpAnyH_take (i := 10) (oi := ⟨some 26, Op.move (Operand.tmp 36), _, _, _, none⟩) (v := (.tuple #[.int .u64 ST, .int .i64 (putE lm (base + 848 + 96 * xs + 80) 1)])) rfl (by kernel_rfl) (by kernel_rfl) (by kernel_rfl) (fun _ _ _ h => h) (Or.inl ⟨by rfl, fun w' h' => ?_⟩) hS ?_
  · clear h'
    go_simp
  simp only [Act.put]
  refine wpAnyH_take (i := 11) (oi := ⟨some 37, Op.extract (Operand.tmp 26) 0, _, _, _, none⟩) (v := (.int .u64 ST)) rfl (by kernel_rfl) (by kernel_rfl) (by kernel_rfl) (fun _ _ _ h => h) (Or.inl ⟨by rfl, fun w' h' => ?_⟩) hS ?_
  · clear h'
    go_simp
  simp only [Act.put]
  refine wpAnyH_take (i := 12) (oi := ⟨some 38, Op.extract (Operand.tmp 26) 1, _, _, _, none⟩) (v := (.int .i64 (putE lm (base + 848 + 96 * xs + 80) 1))) rfl (by kernel_rfl) (by kernel_rfl) (by kernel_rfl) (fun _ _ _ h => h) (Or.inl ⟨by rfl, fun w' h' => ?_⟩) hS ?_
  · clear h'
    go_simp
  simp only [Act.put]
  refine wpAnyH_take (i := 13) (oi := ⟨some 9, Op.assign (Operand.tmp 37), _, _, _, none⟩) (v := (.int .u64 ST)) rfl (by kernel_rfl) (by kernel_rfl) (by kernel_rfl) (fun _ _ _ h => h) (Or.inl ⟨by rfl, fun w' h' => ?_⟩) hS ?_
  · clear h'
    go_simp
  simp only [Act.put]
  refine wpAnyH_take (i := 14) (oi := ⟨some 10, Op.assign (Operand.tmp 38), _, _, _, none⟩) (v := (.int .i64 (putE lm (base + 848 + 96 * xs + 80) 1))) rfl (by kernel_rfl) (by kernel_rfl) (by kernel_rfl) (fun _ _ _ h => h) (Or.inl ⟨by rfl, fun w' h' => ?_⟩) hS ?_
  · clear h'
    go_simp
  simp only [Act.put]
  refine wpAnyH_done (by kernel_rfl) (NoPanic.normal ?_) _
--@4
  have I4 := Lib.hid iV.out
  clear iV hS d I3
  by_cases hs : ST = 0
  · by_cases hk1 : xk = 1
    · by_cases hl : len = 65
      · have HRN : Hid (R = ⟨xi, true, ⟨TX.toArray⟩⟩) := Lib.hid (by rw [HR2.out, if_neg (by rw [hs, hl]; simp), if_pos hk1])
        have ek : (xk == 1) = true := beq_iff_eq.2 hk1
        subst hs hl
        clear hk1
        have e0 := I4.out.x0
        have kd := World.grownBy_alloc V (.cells #[.int .i64 xi, .bool true, .string ⟨#[]⟩] 45) none
        have hdb := heap_alloc_new V (.cells #[.int .i64 xi, .bool true, .string ⟨#[]⟩] 45)
        have i8 := I4.out.grown kd
        have zr := lt_of_block I4.out.rbk
        have zx := lt_of_block I4.out.xbk
        have zb := lt_of_block I4.out.ka
        go_upto_region 9 with fail
        generalize V.alloc _ = W8 at hdb i8 ⊢
        clear kd e0
        have I8 := Lib.hid i8
        have DB := Lib.hid hdb
        clear i8 hdb
        refine wp_region_noPanic ?_
        refine region_held (S := fun w' => AnsS w' b g base sectors limit q u last now dead W1.heap.size ⟨xh, xi, xk, xs, xt⟩) (by kernel_rfl) (fun U dd => ⟨I8.out.ka.kept (dd.block _), (dd.block _).trans I8.out.xbk⟩) (fun U dd hS => ?_)
        have iU := Lib.hid (I8.out.grown dd.grown)
        have dbV := (dd.block V.heap.size).trans DB.out
        refine wpAnyH_take (i := 0) (v := (.pointer (some ⟨b, 0, none⟩))) rfl (by kernel_rfl) (by kernel_rfl) (by kernel_rfl) (fun _ _ _ h => h) (Or.inl ⟨by rfl, fun w' h' => ?_⟩) hS ?_
        · clear h'
          go_simp
        simp only [Act.put]
        refine wpAnyH_take (i := 1) (v := (.pointer (some ⟨b, 0, none⟩))) rfl (by kernel_rfl) (by kernel_rfl) (by kernel_rfl) (fun _ _ _ h => h) (Or.inl ⟨by rfl, fun w' h' => ?_⟩) hS ?_
        · clear h'
          go_simp
        simp only [Act.put]
        refine wpAnyH_take (i := 2) (v := (.pointer (some ⟨b, 0, none⟩))) rfl (by kernel_rfl) (by kernel_rfl) (by kernel_rfl) (fun _ _ _ h => h) (Or.inl ⟨by rfl, fun w' h' => ?_⟩) hS ?_
        · clear h'
          go_simp
        simp only [Act.put]
        refine wpAnyH_take (i := 3) (v := (.pointer (some ⟨g, 0, none⟩))) rfl (by kernel_rfl) (by kernel_rfl) (by kernel_rfl) (fun _ _ _ h => h) (Or.inl ⟨by rfl, fun w' h' => ?_⟩) hS ?_
        · have c0 := h'.1.c0
          clear h'
          go_simp
        simp only [Act.put]
        refine wpAnyH_take (i := 4) (v := (.pointer (some ⟨b, 0, none⟩))) rfl (by kernel_rfl) (by kernel_rfl) (by kernel_rfl) (fun _ _ _ h => h) (Or.inl ⟨by rfl, fun w' h' => ?_⟩) hS ?_
        · clear h'
          go_simp
        simp only [Act.put]
        refine wpAnyH_take (i := 5) (v := (.pointer (some ⟨W1.heap.size, 2, none⟩))) rfl (by kernel_rfl) (by kernel_rfl) (by kernel_rfl) (fun _ _ _ h => h) (Or.inl ⟨by rfl, fun w' h' => ?_⟩) hS ?_
        · clear h'
          go_simp
        simp only [Act.put]
        refine wpAnyH_take (i := 6) (v := (.int .i64 xs)) rfl (by kernel_rfl) (by kernel_rfl) (by kernel_rfl) (fun _ _ _ h => h) (Or.inl ⟨by rfl, fun w' h' => ?_⟩) hS ?_
        · have c0 := h'.x2
          clear h'
          go_simp
        simp only [Act.put]
        refine wpAnyH_ready (rs := [7]) (by kernel_rfl) (by simp) ?_
        refine AllReadyH.cons rfl (fun K hK => ?_) AllReadyH.nil
        go_simp
        refine (kat_any U b g base sectors limit q u last now dead hS.1 b0 (by omega) xs s0 (by omega)).mono ?_
        rintro e w4 ⟨rfl, rfl⟩
        go_simp
        refine hK.out _ _ hS (fun _ => ?_)
        clear hK K
        refine wpAnyH_take (i := 8) (v := (.int .i64 (base + 848 + 96 * xs + 16))) rfl (by kernel_rfl) (by kernel_rfl) (by kernel_rfl) (fun _ _ _ h => h) (Or.inl ⟨by rfl, fun w' h' => ?_⟩) hS ?_
        · clear h'
          go_simp
        simp only [Act.put]
        refine wpAnyH_ready (rs := [9]) (by kernel_rfl) (by simp) ?_
        refine AllReadyH.cons rfl (fun K hK => ?_) AllReadyH.nil
        go_simp
        refine (Text_all U g h lm iU.out.mem (by omega) (base + 848 + 96 * xs + 16) 64 (by omega)).mono ?_
        rintro e w4 ⟨rfl, rfl⟩
        rw [← HTX.out]
        go_simp
        refine hK.out _ _ hS (fun _ => ?_)
        clear hK K
        refine wpAnyH_take (i := 10) (oi := ⟨some 55, Op.move (Operand.tmp 65), _, _, _, none⟩) (v := (.tuple #[.string ⟨TX.toArray⟩, .int .i64 (textE lm (base + 848 + 96 * xs + 16) 64)])) rfl (by kernel_rfl) (by kernel_rfl) (by kernel_rfl) (fun _ _ _ h => h) (Or.inl ⟨by rfl, fun w' h' => ?_⟩) hS ?_
        · clear h'
          go_simp
        simp only [Act.put]
        refine wpAnyH_take (i := 11) (oi := ⟨some 66, Op.extract (Operand.tmp 55) 0, _, _, _, none⟩) (v := (.string ⟨TX.toArray⟩)) rfl (by kernel_rfl) (by kernel_rfl) (by kernel_rfl) (fun _ _ _ h => h) (Or.inl ⟨by rfl, fun w' h' => ?_⟩) hS ?_
        · clear h'
          go_simp
        simp only [Act.put]
        refine wpAnyH_take (i := 12) (oi := ⟨some 67, Op.extract (Operand.tmp 55) 1, _, _, _, none⟩) (v := (.int .i64 (textE lm (base + 848 + 96 * xs + 16) 64))) rfl (by kernel_rfl) (by kernel_rfl) (by kernel_rfl) (fun _ _ _ h => h) (Or.inl ⟨by rfl, fun w' h' => ?_⟩) hS ?_
        · clear h'
          go_simp
        simp only [Act.put]
        refine wpAnyH_take (i := 13) (oi := ⟨some 68, Op.fieldAddr 45 (Operand.tmp 11) 2, _, _, _, none⟩) (v := (.pointer (some ⟨V.heap.size, 2, none⟩))) rfl (by kernel_rfl) (by kernel_rfl) (by kernel_rfl) (fun _ _ _ h => h) (Or.inl ⟨by rfl, fun w' h' => ?_⟩) hS ?_
        · clear h'
          go_simp
        simp only [Act.put]
        have dbU := dbV
        have f2 := frozen_of_block (i := 2) dbU
        have d2 : U.cell? ⟨V.heap.size, 2, none⟩ = some (.string ⟨#[]⟩) := cell_of_block dbU
        have ks := grown_setCell U V.heap.size 2 (.string ⟨TX.toArray⟩)
        have jE : AnsS (U.setCell ⟨V.heap.size, 2, none⟩ (.string ⟨TX.toArray⟩)) b g base sectors limit q u last now dead W1.heap.size ⟨xh, xi, xk, xs, xt⟩ := hS.kept (ks.block _ (lt_of_block hS.1) (fun e => by injection e with e; omega)) (ks.block _ (lt_of_block hS.2) (fun e => by injection e with e; omega))
        clear ks
        refine wpAnyH_ready (rs := [14]) (by kernel_rfl) (by simp) ?_
        refine AllReadyH.cons rfl (fun K hK => ?_) AllReadyH.nil
        go_simp
        refine hK.out _ _ jE (fun _ => ?_)
        clear hK K
        refine wpAnyH_done (by kernel_rfl) (NoPanic.normal ?_) _
        have b8 := set_block dbV 2 (.string ⟨TX.toArray⟩)
        have i9 : AnsI w (U.setCell ⟨V.heap.size, 2, none⟩ (.string ⟨TX.toArray⟩)) b g h base sectors limit q u last now dead lm W1.heap.size ⟨xh, xi, xk, xs, xt⟩ ((os.filter fun y => y.hd != xh).map Snt.ent) := iU.out.aside (grown_setCell U V.heap.size 2 (.string ⟨TX.toArray⟩)) (by have := iU.out.b0; omega) (by omega) (by omega) (by omega) (by omega) (by have := HU.out; omega)
        clear d2 f2 jE hS dd I8 DB dbV iU
        generalize U.setCell _ _ = W9 at b8 i9 ⊢
        have I9 := Lib.hid i9
        clear i9
        have j0 : W9.cell? ⟨V.heap.size, 0, none⟩ = some (.int .i64 xi) := cell_of_block b8
        have j1 : W9.cell? ⟨V.heap.size, 1, none⟩ = some (.bool true) := cell_of_block b8
        have j2 : W9.cell? ⟨V.heap.size, 2, none⟩ = some (.string ⟨TX.toArray⟩) := cell_of_block b8
        clear b8
        have rb := I9.out.rbk
        have f0 := frozen_of_block (i := 0) rb
        have f1 := frozen_of_block (i := 1) rb
        have f2 := frozen_of_block (i := 2) rb
        have d0 : W9.cell? ⟨w.heap.size, 0, none⟩ = some (.int .i64 0) := cell_of_block rb
        have d1 : W9.cell? ⟨w.heap.size, 1, none⟩ = some (.bool false) := cell_of_block rb
        have d2 : W9.cell? ⟨w.heap.size, 2, none⟩ = some (.string ⟨#[]⟩) := cell_of_block rb
        have b9 := three_block rb (.int .i64 xi) (.bool true) (.string ⟨TX.toArray⟩)
        have q0 : (((W9.setCell ⟨w.heap.size, 0, none⟩ (.int .i64 xi)).setCell ⟨w.heap.size, 1, none⟩ (.bool true)).setCell ⟨w.heap.size, 2, none⟩ (.string ⟨TX.toArray⟩)).cell? ⟨w.heap.size, 0, none⟩ = some (.int .i64 xi) := cell_of_block b9
        have q1 : (((W9.setCell ⟨w.heap.size, 0, none⟩ (.int .i64 xi)).setCell ⟨w.heap.size, 1, none⟩ (.bool true)).setCell ⟨w.heap.size, 2, none⟩ (.string ⟨TX.toArray⟩)).cell? ⟨w.heap.size, 1, none⟩ = some (.bool true) := cell_of_block b9
        have q2 : (((W9.setCell ⟨w.heap.size, 0, none⟩ (.int .i64 xi)).setCell ⟨w.heap.size, 1, none⟩ (.bool true)).setCell ⟨w.heap.size, 2, none⟩ (.string ⟨TX.toArray⟩)).cell? ⟨w.heap.size, 2, none⟩ = some (.string ⟨TX.toArray⟩) := cell_of_block b9
        have Q0 := Lib.hid q0
        have Q1 := Lib.hid q1
        have Q2 := Lib.hid q2
        clear rb b9 q0 q1 q2
        go_wp2_with fail
        have q0 := Q0.out
        have q1 := Q1.out
        have q2 := Q2.out
        exact bodyPost_ret (v := .agg #[.int .i64 xi, .bool true, .string ⟨TX.toArray⟩]) (by simp [results, Tryz.results69, go_sem, q0, q1, q2]) rfl ⟨by rw [show R = ⟨xi, true, ⟨TX.toArray⟩⟩ from HRN.out]; rfl, I9.out.out HU.out _ _ _⟩
      · have HRN : Hid (R = ⟨xi, false, ⟨#[]⟩⟩) := Lib.hid (by rw [HR2.out, if_pos (.inr ⟨hk1, hl⟩)])
        have el : (len != 65) = true := by simpa using hl
        have ek : (xk == 1) = true := beq_iff_eq.2 hk1
        subst hs
        clear hl hk1
        have e0 := I4.out.x0
        have rb := I4.out.rbk
        have f0 := frozen_of_block (i := 0) rb
        have f1 := frozen_of_block (i := 1) rb
        have f2 := frozen_of_block (i := 2) rb
        have d0 : V.cell? ⟨w.heap.size, 0, none⟩ = some (.int .i64 0) := cell_of_block rb
        have d1 : V.cell? ⟨w.heap.size, 1, none⟩ = some (.bool false) := cell_of_block rb
        have d2 : V.cell? ⟨w.heap.size, 2, none⟩ = some (.string ⟨#[]⟩) := cell_of_block rb
        have b9 := three_block rb (.int .i64 xi) (.bool false) (.string ⟨#[]⟩)
        have q0 : (((V.setCell ⟨w.heap.size, 0, none⟩ (.int .i64 xi)).setCell ⟨w.heap.size, 1, none⟩ (.bool false)).setCell ⟨w.heap.size, 2, none⟩ (.string ⟨#[]⟩)).cell? ⟨w.heap.size, 0, none⟩ = some (.int .i64 xi) := cell_of_block b9
        have q1 : (((V.setCell ⟨w.heap.size, 0, none⟩ (.int .i64 xi)).setCell ⟨w.heap.size, 1, none⟩ (.bool false)).setCell ⟨w.heap.size, 2, none⟩ (.string ⟨#[]⟩)).cell? ⟨w.heap.size, 1, none⟩ = some (.bool false) := cell_of_block b9
        have q2 : (((V.setCell ⟨w.heap.size, 0, none⟩ (.int .i64 xi)).setCell ⟨w.heap.size, 1, none⟩ (.bool false)).setCell ⟨w.heap.size, 2, none⟩ (.string ⟨#[]⟩)).cell? ⟨w.heap.size, 2, none⟩ = some (.string ⟨#[]⟩) := cell_of_block b9
        have Q0 := Lib.hid q0
        have Q1 := Lib.hid q1
        have Q2 := Lib.hid q2
        clear rb b9 q0 q1 q2
        go_wp2_with fail
        have q0 := Q0.out
        have q1 := Q1.out
        have q2 := Q2.out
        exact bodyPost_ret (v := .agg #[.int .i64 xi, .bool false, .string ⟨#[]⟩]) (by simp [results, Tryz.results69, go_sem, q0, q1, q2]) rfl ⟨by rw [show R = ⟨xi, false, ⟨#[]⟩⟩ from HRN.out]; rfl, I4.out.out HU.out _ _ _⟩
    · have HRN : Hid (R = ⟨xi, true, ⟨#[]⟩⟩) := Lib.hid (by rw [HR2.out, if_neg (by rw [hs]; simp [hk1]), if_neg hk1])
      have ek : (xk == 1) = false := beq_eq_false_iff_ne.2 hk1
      subst hs
      clear hk1
      have e0 := I4.out.x0
      have kd := World.grownBy_alloc V (.cells #[.int .i64 xi, .bool true, .string ⟨#[]⟩] 45) none
      have hdb := heap_alloc_new V (.cells #[.int .i64 xi, .bool true, .string ⟨#[]⟩] 45)
      have i8 := I4.out.grown kd
      have zr := lt_of_block I4.out.rbk
      have zx := lt_of_block I4.out.xbk
      have zb := lt_of_block I4.out.ka
      go_upto_region 10 with fail
      generalize V.alloc _ = W8 at hdb i8 ⊢
      clear kd e0
      have I8 := Lib.hid i8
      clear i8
      have j0 : W8.cell? ⟨V.heap.size, 0, none⟩ = some (.int .i64 xi) := cell_of_block hdb
      have j1 : W8.cell? ⟨V.heap.size, 1, none⟩ = some (.bool true) := cell_of_block hdb
      have j2 : W8.cell? ⟨V.heap.size, 2, none⟩ = some (.string ⟨#[]⟩) := cell_of_block hdb
      clear hdb
      have rb := I8.out.rbk
      have f0 := frozen_of_block (i := 0) rb
      have f1 := frozen_of_block (i := 1) rb
      have f2 := frozen_of_block (i := 2) rb
      have d0 : W8.cell? ⟨w.heap.size, 0, none⟩ = some (.int .i64 0) := cell_of_block rb
      have d1 : W8.cell? ⟨w.heap.size, 1, none⟩ = some (.bool false) := cell_of_block rb
      have d2 : W8.cell? ⟨w.heap.size, 2, none⟩ = some (.string ⟨#[]⟩) := cell_of_block rb
      have b9 := three_block rb (.int .i64 xi) (.bool true) (.string ⟨#[]⟩)
      have q0 : (((W8.setCell ⟨w.heap.size, 0, none⟩ (.int .i64 xi)).setCell ⟨w.heap.size, 1, none⟩ (.bool true)).setCell ⟨w.heap.size, 2, none⟩ (.string ⟨#[]⟩)).cell? ⟨w.heap.size, 0, none⟩ = some (.int .i64 xi) := cell_of_block b9
      have q1 : (((W8.setCell ⟨w.heap.size, 0, none⟩ (.int .i64 xi)).setCell ⟨w.heap.size, 1, none⟩ (.bool true)).setCell ⟨w.heap.size, 2, none⟩ (.string ⟨#[]⟩)).cell? ⟨w.heap.size, 1, none⟩ = some (.bool true) := cell_of_block b9
      have q2 : (((W8.setCell ⟨w.heap.size, 0, none⟩ (.int .i64 xi)).setCell ⟨w.heap.size, 1, none⟩ (.bool true)).setCell ⟨w.heap.size, 2, none⟩ (.string ⟨#[]⟩)).cell? ⟨w.heap.size, 2, none⟩ = some (.string ⟨#[]⟩) := cell_of_block b9
      have Q0 := Lib.hid q0
      have Q1 := Lib.hid q1
      have Q2 := Lib.hid q2
      clear rb b9 q0 q1 q2
      go_wp2_with fail
      have q0 := Q0.out
      have q1 := Q1.out
      have q2 := Q2.out
      exact bodyPost_ret (v := .agg #[.int .i64 xi, .bool true, .string ⟨#[]⟩]) (by simp [results, Tryz.results69, go_sem, q0, q1, q2]) rfl ⟨by rw [show R = ⟨xi, true, ⟨#[]⟩⟩ from HRN.out]; rfl, I8.out.out HU.out _ _ _⟩
  · have HRN : Hid (R = ⟨xi, false, ⟨#[]⟩⟩) := Lib.hid (by rw [HR2.out, if_pos (.inl hs)])
    have es : (ST != 0) = true := by simpa using hs
    clear hs
    have e0 := I4.out.x0
    have rb := I4.out.rbk
    have f0 := frozen_of_block (i := 0) rb
    have f1 := frozen_of_block (i := 1) rb
    have f2 := frozen_of_block (i := 2) rb
    have d0 : V.cell? ⟨w.heap.size, 0, none⟩ = some (.int .i64 0) := cell_of_block rb
    have d1 : V.cell? ⟨w.heap.size, 1, none⟩ = some (.bool false) := cell_of_block rb
    have d2 : V.cell? ⟨w.heap.size, 2, none⟩ = some (.string ⟨#[]⟩) := cell_of_block rb
    have b9 := three_block rb (.int .i64 xi) (.bool false) (.string ⟨#[]⟩)
    have q0 : (((V.setCell ⟨w.heap.size, 0, none⟩ (.int .i64 xi)).setCell ⟨w.heap.size, 1, none⟩ (.bool false)).setCell ⟨w.heap.size, 2, none⟩ (.string ⟨#[]⟩)).cell? ⟨w.heap.size, 0, none⟩ = some (.int .i64 xi) := cell_of_block b9
    have q1 : (((V.setCell ⟨w.heap.size, 0, none⟩ (.int .i64 xi)).setCell ⟨w.heap.size, 1, none⟩ (.bool false)).setCell ⟨w.heap.size, 2, none⟩ (.string ⟨#[]⟩)).cell? ⟨w.heap.size, 1, none⟩ = some (.bool false) := cell_of_block b9
    have q2 : (((V.setCell ⟨w.heap.size, 0, none⟩ (.int .i64 xi)).setCell ⟨w.heap.size, 1, none⟩ (.bool false)).setCell ⟨w.heap.size, 2, none⟩ (.string ⟨#[]⟩)).cell? ⟨w.heap.size, 2, none⟩ = some (.string ⟨#[]⟩) := cell_of_block b9
    have Q0 := Lib.hid q0
    have Q1 := Lib.hid q1
    have Q2 := Lib.hid q2
    clear rb b9 q0 q1 q2
    go_wp2_with fail
    have q0 := Q0.out
    have q1 := Q1.out
    have q2 := Q2.out
    exact bodyPost_ret (v := .agg #[.int .i64 xi, .bool false, .string ⟨#[]⟩]) (by simp [results, Tryz.results69, go_sem, q0, q1, q2]) rfl ⟨by rw [show R = ⟨xi, false, ⟨#[]⟩⟩ from HRN.out]; rfl, I4.out.out HU.out _ _ _⟩

end Go.Proofs.YtiejcohammeoeaaGreatDoor

namespace Go.Proofs.YtiejcohammeoeaaGreatDoor
open Go.RowKit Go.Sort

/-- A row of answers of one's own, in a block from B on. -/
def dnCells (x : Dn) : List Value := [.int .i64 x.id, .bool x.ok, .string x.data]
def OwnDns (B : Nat) (w : World) (v : Value) (l : List Dn) : Prop := w.ownsRow B 45 3 v l.length (l.flatMap dnCells) ∧ l.length ≤ 100
theorem dns_one (l : List Dn) : ∀ u ∈ l.flatMap dnCells, u.oneCell' = true := by
  intro u hu
  obtain ⟨x, _, hx⟩ := List.mem_flatMap.1 hu
  simp [dnCells] at hx
  rcases hx with rfl | rfl | rfl <;> rfl
theorem OwnDns.zero {B : Nat} (w : World) (hB : B ≤ w.heap.size) : OwnDns B (w.alloc (.cells #[] 45)) (.slice (some ⟨w.heap.size, 0, none⟩) 0 0) [] :=
  ⟨⟨rfl, .inr ⟨w.heap.size, 0, #[], rfl, hB, heap_alloc_new w _, Nat.le_refl _, Nat.zero_le _, rfl, rfl⟩⟩, by simp⟩
theorem OwnDns.grown {B : Nat} {w w' : World} {v : Value} {l : List Dn} (h : OwnDns B w v l) (k : w.grownBy w' none) : OwnDns B w' v l := ⟨h.1.kept k (by
  by_cases hn : v.ownBlock = none
  · exact .inl hn
  · exact .inr hn), h.2⟩
/-- 'append(v, x)'. -/
theorem OwnDns.push {B : Nat} {w : World} {v : Value} {l : List Dn} (h : OwnDns B w v l) (hB : B ≤ w.heap.size) (x : Dn) (hl : l.length + 1 ≤ 100) :
    ∃ v' w', (Builtin.append_ #[42, 42] 42 #[v, .slice (some ⟨w.heap.size, 0, none⟩) 1 1]).run Tryz.prog (w.alloc (.cells #[.int .i64 x.id, .bool x.ok, .string x.data] 45)) = .ok v' w' ∧ OwnDns B w' v' (l ++ [x]) ∧ w.grownBy w' v.ownBlock := by
  have ka := World.grownBy_alloc w (.cells #[.int .i64 x.id, .bool x.ok, .string x.data] 45) none
  obtain ⟨i0, hi⟩ : ∃ j, Tryz.prog.info? 45 = some j := Option.isSome_iff_exists.1 (by kernel_rfl)
  have hz : (Tryz.prog.info? 45).bind (·.zero) = some (.agg #[.int .i64 0, .bool false, .string ⟨#[]⟩]) := by kernel_rfl
  have hs : (Tryz.prog.info? 45).map (·.size) = some 3 := by kernel_rfl
  have hb : (Tryz.prog.info? 45).map (·.bytes) = some 32 := by kernel_rfl
  rw [hi] at hz hs hb
  simp only [Option.bind_some, Option.map_some, Option.some.injEq] at hz hs hb
  obtain ⟨v', w', h1, h2, h3, _⟩ := run_append_own (P := Tryz.prog) (w.alloc (.cells #[.int .i64 x.id, .bool x.ok, .string x.data] 45)) B 42 42 45 i0 (.agg #[.int .i64 0, .bool false, .string ⟨#[]⟩]) 3 32 Tryz.underlying42 hi hz hs hb rfl (by decide) v l.length (l.flatMap dnCells) (h.grown ka).1
    ⟨w.heap.size, 0, none⟩ 1 1 (dnCells x) rfl (fun j u hu => by
      rw [Addr.add_mid, Nat.zero_add, cell_of_block (heap_alloc_new w _)]
      simpa [dnCells] using hu) (by simpa using dns_one [x]) (by unfold maxLen; omega) (by omega) (by have := ka.size; omega)
  refine ⟨v', w', h1, ⟨by rw [List.length_append, List.flatMap_append]; simpa using h2, by simpa using hl⟩, ⟨h3.os.trans ka.os, h3.tape.trans ka.tape, h3.output.trans ka.output, Nat.le_trans ka.size h3.size, fun j hj hn => (h3.block j (Nat.lt_of_lt_of_le hj ka.size) hn).trans (ka.block j hj (by simp))⟩⟩

/-- What comes of all that has come back: the answers; what is out behind it; where the driver stands; has the queue broken? -/
inductive Told (lm : List UInt8) (base : Int) : List Snt → List Oc → Int → List Dn → List Snt → List Oc → Int → Bool → Prop
  | stop (os : List Snt) (cs : List Oc) (back : Int) (h : usedI lm base 32 = back) : Told lm base os cs back [] os cs back false
  | brk (os : List Snt) (cs : List Oc) (back : Int) (h : usedI lm base 32 ≠ back) (hb : (cs.length : Int) < (usedI lm base 32 - back) % 65536 ∨ (∀ x ∈ cs, x.c.head ≠ usedNum lm base 32 back) ∨ (∃ x ∈ cs, x.c.head = usedNum lm base 32 back ∧ x.c.most < usedLen lm base 32 back)) : Told lm base os cs back [] os cs back true
  | step (os : List Snt) (cs : List Oc) (back : Int) (x : Oc) (hx : x ∈ cs) (y : Snt) (hy : y ∈ os) (h : usedI lm base 32 ≠ back) (hc : (usedI lm base 32 - back) % 65536 ≤ cs.length) (hk : x.c.head = usedNum lm base 32 back) (hyk : y.hd = usedNum lm base 32 back) (hl : usedLen lm base 32 back ≤ x.c.most)
      (l : List Dn) (os' : List Snt) (cs' : List Oc) (back' : Int) (d : Bool) (r : Told lm base (os.filter fun z => z.hd != usedNum lm base 32 back) (cs.filter fun z => z.c.head != usedNum lm base 32 back) ((back + 1) % 65536) l os' cs' back' d) :
      Told lm base os cs back (ansF lm base y (usedLen lm base 32 back) :: l) os' cs' back' d

section
variable {w w1 w2 : World} {b g h q u mb : Nat} {lm : List UInt8} {base sectors limit : Int} {os : List Snt} {cs : List Oc} {off back : Int} {broken : Bool} {last now : Int} {dead : Bool}
/-- Pop, and the answer. -/
theorem KS.gone (s : KS w b g h q u mb lm base sectors limit os cs off back broken last now dead) (k back' : Int) (qs : QS w1 q g h lm base 32 mb (cs.filter fun z => z.c.head != k) off back' broken) (t : Turned (QB q h mb) w w1)
    (tab : IsTab w2 u ((os.filter fun z => z.hd != k).map Snt.ent)) (t2 : Turned (fun j => j = u) w1 w2) :
    KS w2 b g h q u mb lm base sectors limit (os.filter fun z => z.hd != k) (cs.filter fun z => z.c.head != k) off back' broken last now dead := by
  have k1 := s.kat.turned s.qs t
  have u1 := tab_turned s.tab s.qs s.une t
  obtain ⟨e1, e2, e3, e4⟩ : u ≠ b ∧ u ≠ g ∧ u ≠ h ∧ u ≠ q := s.ub
  have keep : ∀ x, x < w1.heap.size → x ≠ u → w2.heap[x]? = w1.heap[x]? := fun x hx hn => t2.block x hx hn
  have m : Mem w2 g h lm := ⟨(keep _ qs.mem.lt1 (fun e => e2 e.symm)).trans qs.mem.1, (keep _ qs.mem.lt2 (fun e => e3 e.symm)).trans qs.mem.2⟩
  have q2 : QS w2 q g h lm base 32 mb (cs.filter fun z => z.c.head != k) off back' broken := by
    refine { qs with mem := m, at_ := qs.at_.kept (keep _ qs.lts.1 (fun e => e4 e.symm)), tab := qs.tab.kept (keep _ qs.lts.2.2.2 (fun e => s.une e.symm)), nums := fun x hx => ?_ }
    obtain ⟨a1, a2, a3⟩ := qs.nums x hx
    refine ⟨a1, fun i hi => ?_, a3⟩
    have hc := a2 i hi
    by_cases hb : x.blk = u
    · exfalso
      rw [hb] at hc
      obtain ⟨es, clock, h0, _⟩ := u1
      simp [World.cell?, h0] at hc
    · rw [World.cell?_of_block (w := w1) (a := ⟨x.blk, i, none⟩) (keep _ (World.block_lt_of_cell? w1 _ hc) hb)]
      exact hc
  refine ⟨k1.kept (keep _ (lt_of_block k1) (fun e => e1 e.symm)), q2, tab, s.une, ?_, ?_, fun x hx => s.bds x (List.mem_filter.1 hx).1, ?_, Nat.le_trans (List.length_filter_le _ _) s.few, fun x hx => s.three x (List.mem_filter.1 hx).1, s.brk, s.b1, s.last0, s.now0⟩
  · have h1 : ((os.map Snt.hd).filter fun z => z != k) = (os.filter fun z => z.hd != k).map Snt.hd := by rw [List.filter_map]; rfl
    have h2 : ((cs.map fun x => x.c.head).filter fun z => z != k) = (cs.filter fun z => z.c.head != k).map fun x => x.c.head := by rw [List.filter_map]; rfl
    rw [← h1, ← h2, s.hds]
  · exact List.Sublist.nodup (List.Sublist.map _ List.filter_sublist) s.slots
  · exact List.Pairwise.sublist (List.Sublist.map _ List.filter_sublist) s.ids
/-- The queue has broken, and the driver is dead. -/
theorem KS.dies (s : KS w b g h q u mb lm base sectors limit os cs off back false last now false) (qs : QS w1 q g h lm base 32 mb cs off back true) (t : Turned (QB q h mb) w w1) :
    KS (w1.setCell ⟨b, 8, none⟩ (.bool true)) b g h q u mb lm base sectors limit os cs off back true last now true := by
  have k1 := s.kat.turned s.qs t
  have u1 := tab_turned s.tab s.qs s.une t
  have ks := grown_setCell w1 b 8 (.bool true)
  exact ⟨set_block k1 8 (.bool true), qs.keepC ks k1.c0 s.bg s.bh s.bq s.bmb, u1.kept (ks.block _ u1.lt (fun e => s.ub.1 (by injection e))), s.une, s.hds, s.slots, s.bds, s.ids, s.few, s.three, fun _ => rfl, s.b1, s.last0, s.now0⟩
end

theorem OwnDns.turned {B : Nat} {w w' : World} {v : Value} {l : List Dn} (h : OwnDns B w v l) {S : Nat → Prop} (t : Turned S w w') (hS : ∀ k, S k → k < B) : OwnDns B w' v l := by
  refine ⟨⟨h.1.1, ?_⟩, h.2⟩
  rcases h.1.2 with ⟨rfl, h0⟩ | ⟨g, cap, cur, rfl, hg, hb, r⟩
  · exact .inl ⟨rfl, h0⟩
  · exact .inr ⟨g, cap, cur, rfl, hg, (t.block g (lt_of_block hb) (fun hs => by have := hS g hs; omega)).trans hb, r⟩
/-- A block from B on is written: the driver stays, all of whose blocks lie ahead of B. -/
theorem KS.far {w w' : World} {b g h q u mb : Nat} {lm : List UInt8} {base sectors limit : Int} {os : List Snt} {cs : List Oc} {off back : Int} {broken : Bool} {last now : Int} {dead : Bool} (s : KS w b g h q u mb lm base sectors limit os cs off back broken last now dead) {r : Option Nat} (k : w.grownBy w' r) {B : Nat} (hr : ∀ j, r = some j → B ≤ j)
    (hb : b < B ∧ g < B ∧ h < B ∧ q < B ∧ u < B ∧ mb < B) (hx : ∀ x ∈ cs, x.blk < B) : KS w' b g h q u mb lm base sectors limit os cs off back broken last now dead := by
  have keep : ∀ x, x < w.heap.size → x < B → w'.heap[x]? = w.heap[x]? := fun x hx hn => k.block x hx (fun e => by have := hr x e.symm; omega)
  obtain ⟨h1, h2, h3, h4, h5, h6⟩ := hb
  have m : Mem w' g h lm := ⟨(keep _ s.qs.mem.lt1 h2).trans s.qs.mem.1, (keep _ s.qs.mem.lt2 h3).trans s.qs.mem.2⟩
  refine { s with kat := s.kat.kept (keep _ (lt_of_block s.kat) h1), tab := s.tab.kept (keep _ s.tab.lt h5), qs := { s.qs with mem := m, at_ := s.qs.at_.kept (keep _ s.qs.lts.1 h4), tab := s.qs.tab.kept (keep _ s.qs.lts.2.2.2 h6), nums := fun x hx' => ?_ } }
  obtain ⟨a1, a2, a3⟩ := s.qs.nums x hx'
  refine ⟨a1, fun i hi => ?_, a3⟩
  have hc := a2 i hi
  rw [World.cell?_of_block (w := w) (a := ⟨x.blk, i, none⟩) (keep _ (World.block_lt_of_cell? w _ hc) (hx x hx'))]
  exact hc
theorem KS.blk {w : World} {b g h q u mb : Nat} {lm : List UInt8} {base sectors limit : Int} {os : List Snt} {cs : List Oc} {off back : Int} {broken : Bool} {last now : Int} {dead : Bool} (s : KS w b g h q u mb lm base sectors limit os cs off back broken last now dead) : ∀ x ∈ cs, x.blk < w.heap.size := fun x hx => by
  obtain ⟨_, a2, _⟩ := s.qs.nums x hx
  have hm := s.qs.heads x hx
  have hp : 0 < x.c.of.length := List.length_pos_of_mem hm
  exact World.block_lt_of_cell? w _ (a2 0 hp)
theorem KS.lts {w : World} {b g h q u mb : Nat} {lm : List UInt8} {base sectors limit : Int} {os : List Snt} {cs : List Oc} {off back : Int} {broken : Bool} {last now : Int} {dead : Bool} (s : KS w b g h q u mb lm base sectors limit os cs off back broken last now dead) : b < w.heap.size ∧ g < w.heap.size ∧ h < w.heap.size ∧ q < w.heap.size ∧ u < w.heap.size ∧ mb < w.heap.size := ⟨lt_of_block s.kat, s.qs.mem.lt1, s.qs.mem.lt2, s.qs.lts.1, s.tab.lt, s.qs.lts.2.2.2⟩

/-- How many entries a map has; whether a flag is down. -/
def tabSize (w : World) (u : Nat) : Nat := match w.heap[u]? with
  | some (.map es _) => es.size
  | _ => 0
def flagDown (w : World) (b : Nat) : Nat := match w.cell? ⟨b, 8, none⟩ with
  | some (.bool false) => 1
  | _ => 0
theorem tabSize_is {w : World} {u : Nat} {cs : List (Int × Value)} (h : IsTab w u cs) : tabSize w u = cs.length := by
  obtain ⟨es, clock, h1, F⟩ := h
  unfold tabSize
  rw [h1]
  exact F.length

theorem strike_one {w : World} {b g h q u mb : Nat} {lm : List UInt8} {base sectors limit : Int} {os : List Snt} {cs : List Oc} {off back : Int} {broken : Bool} {last now : Int} {dead : Bool} (s : KS w b g h q u mb lm base sectors limit os cs off back broken last now dead) (K : Int) (h1 : ∃ y ∈ os, y.hd = K) :
    os.length = (os.filter fun z => z.hd != K).length + 1 := by
  have hn : (os.map Snt.hd).Nodup := by rw [s.hds]; exact heads_nodup s.qs
  clear s
  obtain ⟨y, hy, hyk⟩ := h1
  induction os with
  | nil => cases hy
  | cons a os ih =>
    rw [List.map_cons, List.nodup_cons] at hn
    by_cases ha : a.hd = K
    · have h2 : (os.filter fun z => z.hd != K) = os := List.filter_eq_self.2 (fun z hz => by
        have : z.hd ≠ K := fun e => hn.1 (List.mem_map.2 ⟨z, hz, by rw [e, ha]⟩)
        simpa using this)
      rw [List.filter_cons_of_neg (by simp [ha]), h2, List.length_cons]
    · rw [List.filter_cons_of_pos (by simpa using ha), List.length_cons, List.length_cons]
      rcases List.mem_cons.1 hy with rfl | hy
      · exact absurd hyk ha
      · rw [ih hn.2 hy]

/-- What told comes to. -/
def ToldPost (w : World) (b g h q u mb : Nat) (lm : List UInt8) (base sectors limit : Int) (os : List Snt) (cs : List Oc) (off back last now : Int) (e : Ending) (w' : World) : Prop :=
  ∃ (v : Value) (l : List Dn) (os' : List Snt) (cs' : List Oc) (back' : Int) (d : Bool), e = .returned v ∧ OwnDns w.heap.size w' v l ∧ Told lm base os cs back l os' cs' back' d ∧ KS w' b g h q u mb lm base sectors limit os' cs' off back' d last now d ∧ Turned (KB b q h mb u) w w'
/-- .. so far. -/
structure ToldI (w0 w : World) (b g h q u mb : Nat) (lm : List UInt8) (base sectors limit : Int) (os : List Snt) (cs : List Oc) (off back last now : Int) (v : Value) (acc : List Dn) (os' : List Snt) (cs' : List Oc) (back' : Int) (d : Bool) : Prop where
  ks : KS w b g h q u mb lm base sectors limit os' cs' off back' d last now d
  own : OwnDns w0.heap.size w v acc
  told : ∀ l os'' cs'' back'' d', (if d = true then l = [] ∧ os'' = os' ∧ cs'' = cs' ∧ back'' = back' ∧ d' = true else Told lm base os' cs' back' l os'' cs'' back'' d') → Told lm base os cs back (acc ++ l) os'' cs'' back'' d'
  few : acc.length + os'.length ≤ 8
  tu : Turned (KB b q h mb u) w0 w
  size : w0.heap.size ≤ w.heap.size
  blks : ∀ x ∈ cs', x.blk < w0.heap.size

set_option maxRecDepth 100000 in
set_option maxHeartbeats 4000000 in
theorem told_any (w : World) (b g h q u mb : Nat) (lm : List UInt8) (base sectors limit : Int) (os : List Snt) (cs : List Oc) (off back last now : Int) (s : KS w b g h q u mb lm base sectors limit os cs off back false last now false) :
    Calls Tryz.prog 32 #[.pointer (some ⟨b, 0, none⟩)] w (ToldPost w b g h q u mb lm base sectors limit os cs off back last now) := by
  have ka := World.grownBy_alloc w (.cells #[] 45) none
  have HLT := Lib.hid s.lts
  have i1 : ToldI w (w.alloc (.cells #[] 45)) b g h q u mb lm base sectors limit os cs off back last now (.slice (some ⟨w.heap.size, 0, none⟩) 0 0) [] os cs back false :=
    ⟨s.grown ka, OwnDns.zero w (Nat.le_refl _), fun l _ _ _ _ hl => by simpa using hl, by simpa using s.few, Turned.of ka (fun j e => by cases e), ka.size, s.blk⟩
  have HKB : Hid (∀ k, KB b q h mb u k → k < w.heap.size) := Lib.hid (fun k hk => by
    obtain ⟨h1, h2, h3, h4, h5, h6⟩ := HLT.out
    rcases hk with e | e | e | e | e <;> omega)
  clear s ka
  go_enter Tryz.func32, Tryz.ntmps32
  go_wp2_with fail
  generalize w.alloc _ = W1 at i1 ⊢
  go_loopw [3] (fun v wr => ∃ (acc : List Dn) (os' : List Snt) (cs' : List Oc) (back' : Int) (d : Bool), ToldI w wr b g h q u mb lm base sectors limit os cs off back last now v acc os' cs' back' d) (fun _ wr => tabSize wr u + flagDown wr b)
  case atStart => exact ⟨[], os, cs, back, false, i1⟩
  case round =>
    clear i1
    obtain ⟨acc, os', cs', back', d, i⟩ := hrel
    obtain ⟨wo, rfl⟩ : ∃ wo : World, wo = wr := ⟨_, rfl⟩
    have c8 := i.ks.kat.c8
    have HME : Hid (tabSize wo u + flagDown wo b = os'.length + if d = true then 0 else 1) := Lib.hid (by
      rw [tabSize_is i.ks.tab, List.length_map]
      unfold flagDown
      rw [c8]
      cases d <;> rfl)
    cases d with
    | true =>
      have I := Lib.hid i
      clear i
      go_wp2_with fail
      go_ret
      exact ⟨_, acc, os', cs', back', true, rfl, I.out.own, by have := I.out.told [] os' cs' back' true (by simp); rwa [List.append_nil] at this, I.out.ks, I.out.tu⟩
    | false =>
      have c4 := i.ks.kat.c4
      have I := Lib.hid i
      clear i
      go_wp2_with fail
      refine (Pop_any wo q g h lm base 32 mb cs' off back' I.out.ks.qs).mono ?_
      rintro e w2 hpost
      rcases hpost with ⟨hu, rfl, k2⟩ | ⟨hu, hbad, rfl, qs2, t2⟩ | ⟨x, hx, hu, hc, hk, hl, rfl, qs2, t2⟩
      · have HU := Lib.hid hu
        have K2 := Lib.hid k2
        clear hu k2 c8 c4
        go_wp2_with fail
        go_ret
        refine ⟨_, acc, os', cs', back', false, rfl, I.out.own.grown K2.out, ?_, I.out.ks.grown K2.out, I.out.tu.step K2.out (fun j e => by cases e)⟩
        have := I.out.told [] os' cs' back' false (by rw [if_neg (by decide)]; exact .stop os' cs' back' HU.out)
        rwa [List.append_nil] at this
      · have s3 := I.out.ks.dies qs2 t2
        have k1 := I.out.ks.kat.turned I.out.ks.qs t2
        have d8 := k1.c8
        have f8 := k1.fz 8
        have T3 : Hid (Turned (KB b q h mb u) w (w2.setCell ⟨b, 8, none⟩ (.bool true))) := Lib.hid ((I.out.tu.trans (t2.mono (fun y _ hy => by rcases hy with e | e | e; exact .inl e; exact .inr (.inl e); exact .inr (.inr (.inl e))))).step (grown_setCell w2 b 8 (.bool true)) (fun j e => .inl (.inr (.inr (.inr (.inl (by injection e with e; exact e.symm)))))))
        have o3 : OwnDns w.heap.size (w2.setCell ⟨b, 8, none⟩ (.bool true)) _ acc := (I.out.own.turned t2 (fun k hk => HKB.out k (by rcases hk with e | e | e; exact .inl e; exact .inr (.inl e); exact .inr (.inr (.inl e))))).turned (S := fun k => k = b) (Turned.of (grown_setCell w2 b 8 (.bool true)) (fun j e => by injection e with e; exact e.symm)) (fun k hk => by rw [hk]; exact HLT.out.1)
        have n3 : ToldI w (w2.setCell ⟨b, 8, none⟩ (.bool true)) b g h q u mb lm base sectors limit os cs off back last now _ acc os' cs' back' true :=
          ⟨s3, o3, fun l os'' cs'' back'' d' hh => by
            rw [if_pos rfl] at hh
            obtain ⟨rfl, rfl, rfl, rfl, rfl⟩ := hh
            exact I.out.told [] os'' cs'' back'' true (by rw [if_neg (by decide)]; exact .brk os'' cs'' back'' hu hbad), I.out.few, T3.out, Nat.le_trans I.out.size (by rw [show (w2.setCell ⟨b, 8, none⟩ (.bool true)).heap.size = w2.heap.size from by simp [World.setCell]]; exact t2.size), I.out.blks⟩
        have N3 := Lib.hid n3
        have HM3 : Hid (tabSize (w2.setCell ⟨b, 8, none⟩ (.bool true)) u + flagDown (w2.setCell ⟨b, 8, none⟩ (.bool true)) b < tabSize wo u + flagDown wo b) := Lib.hid (by
          rw [HME.out, tabSize_is s3.tab, List.length_map]
          unfold flagDown
          rw [s3.kat.c8]
          simp)
        clear s3 k1 n3 o3 qs2 t2 hu hbad c8 c4
        go_wp2_with fail
        go_roundw
        case rel => exact ⟨acc, os', cs', back', true, N3.out⟩
        case measure => exact HM3.out
      · have hyx : ∃ y ∈ os', y.hd = usedNum lm base 32 back' := by
          have h1 : x.c.head ∈ os'.map Snt.hd := by rw [I.out.ks.hds]; exact List.mem_map.2 ⟨x, hx, rfl⟩
          obtain ⟨y, hy, h2⟩ := List.mem_map.1 h1
          exact ⟨y, hy, h2.trans hk⟩
        obtain ⟨y, hy, hyk⟩ := hyx
        have HTS := Lib.hid (Told.step (lm := lm) (base := base) os' cs' back' x hx y hy hu hc hk hyk hl)
        have hyb := I.out.ks.bds y hy
        obtain ⟨b0, b1, l2⟩ := I.out.ks.bl
        obtain ⟨K, hK⟩ : ∃ K, K = usedNum lm base 32 back' := ⟨_, rfl⟩
        obtain ⟨LN, hLN⟩ : ∃ L, L = usedLen lm base 32 back' := ⟨_, rfl⟩
        rw [← hK] at qs2 hyk HTS ⊢
        rw [← hLN] at HTS ⊢
        have HHY := Lib.hid hy
        have HHK := Lib.hid hyk
        have QS2 := Lib.hid qs2
        have TT2 := Lib.hid t2
        have k2 := I.out.ks.kat.turned I.out.ks.qs t2
        have u2 := tab_turned I.out.ks.tab I.out.ks.qs I.out.ks.une t2
        have AC := answer_any w2 b g h base sectors limit q u last now false lm k2 qs2.mem b0 I.out.ks.b1 l2 os' u2 y hy hyb.1 hyb.2.1 LN
        rw [hyk] at AC
        have AC2 := Lib.hid AC
        have hln : os'.length = (os'.filter fun z => z.hd != K).length + 1 := strike_one I.out.ks K ⟨y, hy, hyk⟩
        have HLN2 := Lib.hid hln
        clear c8 c4 hu hc hk hl hx qs2 t2 k2 u2 AC hy hyk hyb hK hLN hln
        go_wp2_with fail
        refine AC2.out.mono ?_
        rintro e w3 ⟨rfl, t3, tt3⟩
        have s3 := I.out.ks.gone K _ QS2.out TT2.out t3 tt3
        have T3 := (I.out.tu.trans (TT2.out.mono (fun z _ hz => by rcases hz with e | e | e; exact .inl e; exact .inr (.inl e); exact .inr (.inr (.inl e))))).trans (tt3.mono (fun z _ hz => .inr (.inr (.inr (.inr hz)))))
        have o3 := (I.out.own.turned TT2.out (fun k hk => HKB.out k (by rcases hk with e | e | e; exact .inl e; exact .inr (.inl e); exact .inr (.inr (.inl e))))).turned tt3 (fun k hk => HKB.out k (.inr (.inr (.inr (.inr hk)))))
        have z3 : w.heap.size ≤ w3.heap.size := T3.size
        have hfew := I.out.few
        have h8 := I.out.ks.few
        obtain ⟨v4, w4, r4, o4, k4⟩ := o3.push z3 (ansF lm base y LN) (by omega)
        have oge := own_ge o3.1
        have n4 : ToldI w w4 b g h q u mb lm base sectors limit os cs off back last now v4 (acc ++ [ansF lm base y LN]) (os'.filter fun z => z.hd != K) (cs'.filter fun z => z.c.head != K) ((back' + 1) % 65536) false :=
          ⟨s3.far k4 oge HLT.out (fun z hz => I.out.blks z (List.mem_filter.1 hz).1), o4, fun l os'' cs'' back'' d' hh => by
            rw [if_neg (by decide)] at hh
            rw [List.append_assoc]
            exact I.out.told _ os'' cs'' back'' d' (by rw [if_neg (by decide)]; exact HTS.out l os'' cs'' back'' d' hh), by have := HLN2.out; rw [List.length_append, List.length_singleton]; omega, T3.step k4 (fun j e => .inr (oge j e)), Nat.le_trans z3 k4.size, fun z hz => I.out.blks z (List.mem_filter.1 hz).1⟩
        have N4 := Lib.hid n4
        have HM4 : Hid (tabSize w4 u + flagDown w4 b < tabSize wo u + flagDown wo b) := Lib.hid (by
          have := HLN2.out
          rw [HME.out, tabSize_is n4.ks.tab, List.length_map]
          unfold flagDown
          rw [n4.ks.kat.c8]
          simp only [Bool.false_eq_true, if_false]
          omega)
        clear s3 T3 o3 t3 tt3 o4 k4 n4 oge hfew h8
        obtain ⟨DN, hDN⟩ : ∃ DN, DN = ansF lm base y LN := ⟨_, rfl⟩
        rw [← hDN] at r4 N4 ⊢
        clear hDN
        obtain ⟨di, dk, dd⟩ := DN
        unfold Dn.val
        simp only at r4 ⊢
        go_wp2_with (at_builtin; refine wpList_append_run _ rfl _ _ 42 rfl _ _ v4 w4 rfl rfl r4 ?_; clear r4)
        go_roundw
        case rel => exact ⟨_, _, _, _, false, N4.out⟩
        case measure => exact HM4.out

end Go.Proofs.YtiejcohammeoeaaGreatDoor

namespace Go.Proofs.YtiejcohammeoeaaGreatDoor
open Go.RowKit Go.Sort

theorem blkBar_zero {size base : Int} (h : blkBar size base true = 0) : 0 ≤ base ∧ base % 16 = 0 ∧ base + 1616 ≤ size := by
  unfold blkBar at h
  split at h
  · cases h
  · rename_i h1
    split at h
    · cases h
    · simp at h1
      omega
theorem bar32 {size base : Int} (h : blkBar size base true = 0) : barOf size base 32 = 0 := by
  obtain ⟨h1, h2, h3⟩ := blkBar_zero h
  unfold barOf
  have e : bytesOf 32 = 840 := by decide +kernel
  have e2 : isSize 32 := by decide +kernel
  rw [if_neg (by intro c; rcases c with c | c | c; exact c e2; omega; omega), e, if_neg (by omega)]

/-- The memory behind New. -/
def madeL (l : List UInt8) (base : Int) : List UInt8 := wipeL (writeL l base (List.replicate 1616 0)) base 32
theorem madeL_length (l : List UInt8) (base : Int) : (madeL l base).length = l.length := by unfold madeL; rw [wipeL_length, writeL_length]
/-- What New comes to, where a driver may be. -/
def BNewPost (w : World) (g h : Nat) (l : List UInt8) (base sectors limit : Int) (e : Ending) (w' : World) : Prop :=
  ∃ b q mb u, e = .returned (.tuple #[.pointer (some ⟨b, 0, none⟩), .int .i64 0]) ∧ w.heap.size ≤ b ∧ w.heap.size ≤ q ∧ w.heap.size ≤ mb ∧ w.heap.size ≤ u ∧ KS w' b g h q u mb (madeL l base) base sectors limit [] [] 0 0 false 0 0 false ∧ Turned (fun k => k = h) w w'

theorem qs_made {w : World} {q g h : Nat} {l : List UInt8} {base : Int} {n mb : Nat} (m : Mem w g h (wipeL l base n)) (hl : l.length ≤ 65536) (hq : QAt w q g base n (some mb) 0 0 false) (hb : IsTab w mb []) (b0 : 0 ≤ base) (b1 : base + bytesOf n ≤ l.length) (hs : isSize n) :
    QS w q g h (wipeL l base n) base n mb [] 0 0 false :=
  ⟨m, by rw [wipeL_length]; exact hl, hq, hb, by simp, by simp, by simp, b0, by rw [wipeL_length]; exact b1, hs, by omega, by omega, by omega, by omega⟩

set_option maxRecDepth 100000 in
set_option maxHeartbeats 2000000 in
theorem bNew_ok (w : World) (g h : Nat) (l : List UInt8) (m : Mem w g h l) (l1 : 1 ≤ l.length) (l2 : l.length ≤ 65536) (base sectors limit : Int) (hbar : blkBar l.length base true = 0) (hs1 : 1 ≤ sectors) (hs2 : sectors ≤ 512) (hl1 : 1 ≤ limit) (hl2 : limit ≤ 1048576) :
    Calls Tryz.prog 6 #[.pointer (some ⟨g, 0, none⟩), .int .i64 base, .int .i64 sectors, .int .i64 limit] w (BNewPost w g h l base sectors limit) := by
  have BC := brefuse_any w g h l m l1 l2 base true
  rw [hbar] at BC
  have BC' := Lib.hid BC
  obtain ⟨Z, hZ⟩ : ∃ Z, Z = Obj.cells (zeros 1616) 5 := ⟨_, rfl⟩
  obtain ⟨s, hs⟩ : ∃ s : ByteArray, s = ⟨(List.replicate 1616 (0 : UInt8)).toArray⟩ := ⟨_, rfl⟩
  have hmk : (Instr.makeSlice 47 (.int .i64 1616) (.int .i64 1616)).run Tryz.prog w = .ok (.slice (some ⟨w.heap.size, 0, none⟩) 1616 1616) (w.alloc Z) := by rw [hZ]; exact make_bytes 1616 (by omega) w
  have hcz : (convert 47 9 (.slice (some ⟨w.heap.size, 0, none⟩) 1616 1616)).run Tryz.prog (w.alloc Z) = .ok (.string s) (w.alloc Z) := by rw [hZ, hs]; exact vconv_zeros w 1616
  have ka := World.grownBy_alloc w Z none
  have hsz : s.size ≤ 9223372036854775807 := by rw [hs, toArray_size, List.length_replicate]; omega
  have hsl : s.data.toList = List.replicate 1616 (0 : UInt8) := by rw [hs]
  have WC := Lib.hid (Write_all (w.alloc Z) g h l (m.same ka) (by omega) base s hsz)
  have HS := Lib.hid hsl
  have KA := Lib.hid ka
  have HB := Lib.hid hbar
  have L1 := Lib.hid l1
  have L2 := Lib.hid l2
  have lh := m.lt2
  clear BC hbar hs hsz hsl hZ ka m l1 l2
  go_enter Tryz.func6, Tryz.ntmps6
  go_wp2_with fail
  refine BC'.out.mono ?_
  rintro e w1 ⟨rfl, rfl⟩
  go_wp2_with fail
  refine WC.out.mono ?_
  rintro e w2 ⟨rfl, m2, k2⟩
  rw [HS.out] at m2
  have T2 : Hid (Turned (fun k => k = h) w w2) := Lib.hid ((Turned.of KA.out (fun j e => by cases e)).step k2 (fun j e => .inl (by injection e with e; exact e.symm)))
  obtain ⟨W, hW⟩ : ∃ W, W = writeL l base (List.replicate 1616 (0 : UInt8)) := ⟨_, rfl⟩
  rw [← hW] at m2
  have hWl : W.length = l.length := by rw [hW, writeL_length]
  have HW := Lib.hid hW
  have HWL := Lib.hid hWl
  clear hW hWl k2 hmk hcz
  go_wp2_with fail
  refine (vNew_ok w2 g h W m2 base 32 (by rw [HWL.out]; exact L1.out) (by rw [HWL.out]; exact L2.out) (by omega) (by have := blkBar_zero HB.out; have := L2.out; omega) (by rw [HWL.out]; exact bar32 HB.out)).mono ?_
  rintro e w3 ⟨q, mb, rfl, hq, hmb, q3, t3, m3, tt3⟩
  have z2 := T2.out.size
  have z3 := tt3.size
  have Q3 := Lib.hid (qs_made m3 (by rw [HWL.out]; exact L2.out) q3 t3 (blkBar_zero HB.out).1 (by rw [HWL.out, show bytesOf ((32 : Nat) : Int) = 840 from by decide +kernel]; have := blkBar_zero HB.out; omega) (by decide +kernel))
  have T3 : Hid (Turned (fun k => k = h) w w3) := Lib.hid (T2.out.trans tt3)
  clear m2 q3 t3 m3 tt3
  have hmm := @run_makeMap Tryz.prog
  go_wp2_with fail
  go_ret2
  have lt := Q3.out.lts
  have ku := (World.grownBy_alloc w3 (.map #[] 0) none).trans (World.grownBy_alloc _ (.cells #[.pointer (some ⟨g, 0, none⟩), .int .i64 base, .int .i64 sectors, .int .i64 limit, .pointer (some ⟨q, 0, none⟩), .map (some w3.heap.size), .int .i64 0, .int .i64 0, .bool false, .pointer (some ⟨w3.heap.size + 1, 0, none⟩)] 57) none)
  have hz := blkBar_zero HB.out
  refine ⟨w3.heap.size + 1, q, mb, w3.heap.size, rfl, by omega, by omega, by omega, by omega, ?_, T3.out.step ku (fun j e => by cases e)⟩
  refine ⟨alloc_two _ _ _, by unfold madeL; rw [← HW.out]; exact Q3.out.grown ku, (tab_made w3).kept (Below.heap_alloc _ _ _ (tab_made w3).lt), by omega, rfl, by simp, by simp, by simp, by simp, by simp, by simp, by rw [madeL_length]; omega, by omega, by omega⟩

/-- What Open comes to. -/
def BOpenPost (w : World) (g h : Nat) (l : List UInt8) (base : Int) (e : Ending) (w' : World) : Prop :=
  ∃ r p u, e = .returned (.tuple #[.pointer (some ⟨r, 0, none⟩), .int .i64 0]) ∧ w.heap.size ≤ r ∧ w.heap.size ≤ p ∧ w.heap.size ≤ u ∧ RS w' r g h p u l base 0 0 [] ∧ w.grownBy w' none
set_option maxRecDepth 100000 in
set_option maxHeartbeats 2000000 in
theorem bOpen_ok (w : World) (g h : Nat) (l : List UInt8) (m : Mem w g h l) (l1 : 1 ≤ l.length) (l2 : l.length ≤ 65536) (base : Int) (hbar : blkBar l.length base true = 0) :
    Calls Tryz.prog 7 #[.pointer (some ⟨g, 0, none⟩), .int .i64 base] w (BOpenPost w g h l base) := by
  have BC := brefuse_any w g h l m l1 l2 base true
  rw [hbar] at BC
  have BC' := Lib.hid BC
  have OC := Lib.hid (Open_ok w g h l m base 32 l1 l2 (by omega) (by have := blkBar_zero hbar; omega) (bar32 hbar))
  have HB := Lib.hid hbar
  have M := Lib.hid m
  clear BC hbar m
  go_enter Tryz.func7, Tryz.ntmps7
  go_wp2_with fail
  refine BC'.out.mono ?_
  rintro e w1 ⟨rfl, rfl⟩
  go_wp2_with fail
  refine OC.out.mono ?_
  rintro e w2 ⟨p, rfl, hp, p2, k2⟩
  have P2 := Lib.hid p2
  have K2 := Lib.hid k2
  have z2 := k2.size
  clear p2 k2
  have hmm := @run_makeMap Tryz.prog
  go_wp2_with fail
  go_ret2
  have ku := (World.grownBy_alloc w2 (.map #[] 0) none).trans (World.grownBy_alloc _ (.cells #[.pointer (some ⟨g, 0, none⟩), .pointer (some ⟨p, 0, none⟩), .map (some w2.heap.size), .pointer (some ⟨w2.heap.size + 1, 0, none⟩)] 63) none)
  have hz := blkBar_zero HB.out
  have m3 := M.out.same (K2.out.trans ku)
  refine ⟨w2.heap.size + 1, p, w2.heap.size, rfl, by omega, hp, by omega, ⟨alloc_two _ _ _, ?_, (tab_made w2).kept (Below.heap_alloc _ _ _ (tab_made w2).lt)⟩, K2.out.trans ku⟩
  exact ⟨m3, l2, P2.out.kept (ku.block _ (lt_of_block P2.out) (by simp)), hz.1, by rw [show bytesOf ((32 : Nat) : Int) = 840 from by decide +kernel]; omega, by decide +kernel, by omega, by omega, by omega, by omega⟩

/-- What Poll comes to while the device lives. -/
def PollPost (w : World) (b g h q u mb : Nat) (lm : List UInt8) (base sectors limit : Int) (os : List Snt) (cs : List Oc) (off back last now : Int) (e : Ending) (w' : World) : Prop :=
  ∃ (v : Value) (l : List Dn) (os' : List Snt) (cs' : List Oc) (back' : Int), e = .returned v ∧ OwnDns w.heap.size w' v l ∧ Told lm base os cs back l os' cs' back' false ∧ KS w' b g h q u mb lm base sectors limit os' cs' off back' false last now false ∧ Turned (KB b q h mb u) w w'
set_option maxRecDepth 100000 in
set_option maxHeartbeats 2000000 in
theorem Poll_live (w : World) (b g h q u mb : Nat) (lm : List UInt8) (base sectors limit : Int) (os : List Snt) (cs : List Oc) (off back last now : Int) (s : KS w b g h q u mb lm base sectors limit os cs off back false last now false)
    (hd : ∀ l os' cs' back' d, Told lm base os cs back l os' cs' back' d → d = false) :
    Calls Tryz.prog 12 #[.pointer (some ⟨b, 0, none⟩)] w (PollPost w b g h q u mb lm base sectors limit os cs off back last now) := by
  have TC := Lib.hid (told_any w b g h q u mb lm base sectors limit os cs off back last now s)
  have HD := Lib.hid hd
  have c9 := s.kat.c9
  clear s hd
  go_enter Tryz.func12, Tryz.ntmps12
  go_wp2_with (go_at_call 17; refine (knone_no _ _ c9).mono ?_; rintro e w' ⟨rfl, rfl⟩)
  refine TC.out.mono ?_
  rintro e w1 ⟨v, l, os', cs', back', d, rfl, ho, ht, hk, hT⟩
  have h0 := HD.out _ _ _ _ _ ht
  subst h0
  have c8 := hk.kat.c8
  have F : Hid (PollPost w b g h q u mb lm base sectors limit os cs off back last now (.returned v) w1) := Lib.hid ⟨v, l, os', cs', back', rfl, ho, ht, hk, hT⟩
  clear ho ht hk hT
  go_wp2_with fail
  go_ret
  exact F.out

end Go.Proofs.YtiejcohammeoeaaGreatDoor

namespace Go.Proofs.YtiejcohammeoeaaGreatDoor
open Go.RowKit Go.Sort

section
variable {w w' : World} {b g h q u mb r p v : Nat} {lm lm' : List UInt8} {base sectors limit base' taken told : Int} {os : List Snt} {cs : List Oc} {off back : Int} {broken : Bool} {last now : Int} {dead : Bool} {ts : List (Int × Tkn)}
/-- What turns other blocks, and the memory, leaves a port. -/
theorem RS.other (s : RS w r g h p v lm base' taken told ts) {S : Nat → Prop} (t : Turned S w w') (hr : ¬ S r) (hp : ¬ S p) (hv : ¬ S v) (m : Mem w' g h lm') (hl : lm'.length = lm.length) : RS w' r g h p v lm' base' taken told ts :=
  ⟨s.ra.kept (t.block _ s.lts.1 hr), { s.ps with mem := m, len := by rw [hl]; exact s.ps.len, b1 := by rw [hl]; exact s.ps.b1, at_ := s.ps.at_.kept (t.block _ s.lts.2.2.2.1 hp) }, s.tab.kept (t.block _ s.tab.lt hv)⟩
/-- What a port turns leaves a driver. -/
theorem KS.device (s : KS w b g h q u mb lm base sectors limit os cs off back broken last now dead) (rs : RS w r g h p v lm base' taken told ts) (t : Turned (RB h p v) w w') (m : Mem w' g h lm') (hl : lm'.length = lm.length) (n1 : u ≠ v) (n2 : mb ≠ v) :
    KS w' b g h q u mb lm' base sectors limit os cs off back broken last now dead := by
  have bp : b ≠ p := by
    rintro rfl
    have h1 := s.kat
    have h2 := rs.ps.at_
    unfold PAt at h2
    unfold KAt at h1
    rw [h1] at h2
    injection h2 with h2
    injection h2 with _ h2
    exact absurd h2 (by decide)
  have qp : q ≠ p := (s.qs.nep rs.ps.at_).1
  have mp : mb ≠ p := (s.qs.nep rs.ps.at_).2
  have up : u ≠ p := tab_ne s.tab rs.ps.at_
  have bv : b ≠ v := fun e => tab_ne rs.tab s.kat e.symm
  have qv : q ≠ v := fun e => tab_ne rs.tab s.qs.at_ e.symm
  have keep : ∀ x, x < w.heap.size → x ≠ h → x ≠ p → x ≠ v → w'.heap[x]? = w.heap[x]? := fun x hx a1 a2 a3 => t.block x hx (by rintro (e | e | e); exact a1 e; exact a2 e; exact a3 e)
  refine { s with kat := s.kat.kept (keep _ (lt_of_block s.kat) s.bh bp bv), tab := s.tab.kept (keep _ s.tab.lt s.ub.2.2.1 up n1), b1 := by rw [hl]; exact s.b1, qs := { s.qs with mem := m, len := by rw [hl]; exact s.qs.len, b1 := by rw [hl]; exact s.qs.b1, at_ := s.qs.at_.kept (keep _ s.qs.lts.1 s.qs.qh qp qv), tab := s.qs.tab.kept (keep _ s.qs.lts.2.2.2 s.qs.mbne.2.2 mp n2), nums := fun x hx => ?_ } }
  obtain ⟨a1, a2, a3⟩ := s.qs.nums x hx
  refine ⟨a1, fun i hi => ?_, a3⟩
  have hc := a2 i hi
  have h0 := a2 0 (by omega)
  have e1 : x.blk ≠ h := s.qs.mem.not_u8 hc (fun x e => by cases e)
  have e2 : x.blk ≠ p := by
    intro e
    rw [e, rs.ps.at_.c0] at h0
    cases h0
  have e3 : x.blk ≠ v := by
    intro e
    rw [e] at hc
    obtain ⟨es, clock, h1, _⟩ := rs.tab
    simp [World.cell?, h1] at hc
  rw [World.cell?_of_block (w := w) (a := ⟨x.blk, i, none⟩) (keep _ (World.block_lt_of_cell? w _ hc) e1 e2 e3)]
  exact hc
end

/-- A sector of a byte. -/
def fullS (b : UInt8) : ByteArray := ⟨(List.replicate 64 b).toArray⟩
theorem fullS_size (b : UInt8) : (fullS b).size = 64 := by unfold fullS; rw [toArray_size, List.length_replicate]
theorem holds_one (w : World) (b : UInt8) : Holds eb (w.alloc (.cells #[.int .u8 (b.toNat : Int)] 5)) w.heap.size 0 [b].toArray := by
  intro j hj
  have h0 : j = 0 := by simpa using hj
  subst h0
  have hb := heap_alloc_new w (.cells #[.int .u8 (b.toNat : Int)] 5)
  exact ⟨by rw [show (⟨w.heap.size, 0 + 0, none⟩ : Addr) = ⟨w.heap.size, 0, none⟩ from rfl, cell_of_block hb]; rfl, frozen_of_block hb⟩
set_option maxRecDepth 100000 in
set_option maxHeartbeats 1000000 in
theorem full_any (w : World) (b : UInt8) (n : Int) (hn : n = (b.toNat : Int)) :
    Calls Tryz.prog 10 #[.int .u8 n] w fun e w' => e = .returned (.string (fullS b)) ∧ Below w.heap.size w w' := by
  have hcv := conv_text (w.alloc (.cells #[.int .u8 (b.toNat : Int)] 5)) w.heap.size 0 1 1 [b] rfl (holds_one w b)
  rw [← hn] at hcv
  have RC := Tryz.strings_Repeat ⟨[b].toArray⟩ 64 (w.alloc (.cells #[.int .u8 n] 5)) (by omega) (by rw [toArray_size]; show 1 * 64 ≤ 140737488355328; omega)
  have hrl : Lib.repeatL [b] 64 = List.replicate 64 b := rfl
  rw [show (⟨[b].toArray⟩ : ByteArray).data.toList = [b] from rfl, hrl] at RC
  have RC2 := Lib.hid RC
  have ka := World.grownBy_alloc w (.cells #[.int .u8 n] 5) none
  obtain ⟨S, hS⟩ : ∃ S, S = (⟨[b].toArray⟩ : ByteArray) := ⟨_, rfl⟩
  rw [← hS] at hcv RC2
  clear RC hrl hS hn
  go_enter Tryz.func10, Tryz.ntmps10
  go_wp2_with fail
  refine RC2.out.mono ?_
  rintro e w2 ⟨rfl, bel⟩
  have BEL := Lib.hid ((Below.of_none ka).trans (bel.mono ka.size))
  clear bel
  go_wp2_with fail
  go_ret
  exact ⟨rfl, BEL.out⟩

def bM0 : List UInt8 := madeL (List.replicate (4096 : Int).toNat 0) 0
def bO : Ord := ⟨1, 2, ⟨#[]⟩⟩
def bC : List Bf := [⟨848, 16, false⟩, ⟨864, 64, true⟩, ⟨928, 1, true⟩]
def bM1 : List UInt8 := addL (slotL bM0 848 shp1 bO) 0 32 0 [0, 1, 2] bC
def bT : Tkn := ⟨true, 864, 928⟩
def bM2 : List UInt8 := answerL bM1 0 0 0 bT true (fullS 7)
theorem bM0_len : bM0.length = 4096 := by unfold bM0; rw [madeL_length, List.length_replicate]; rfl
theorem bM1_len : bM1.length = 4096 := by unfold bM1; rw [addL_length, slotL_length, bM0_len]
theorem bM2_len : bM2.length = 4096 := by unfold bM2; rw [answerL_length, bM1_len]
theorem b_bar (n : Nat) (h : n = 4096) : blkBar n 0 true = 0 := by rw [h]; decide +kernel
theorem b_chain : chainL (shpAt 0) 848 = bC := by rfl
theorem b_new : newCh [] 32 bC = ⟨0, [0, 1, 2], 65⟩ := by
  unfold newCh
  have h1 : (freeL (List.map Oc.c []) 32).take bC.length = [0, 1, 2] := by decide +kernel
  rw [h1]
  rfl
theorem b_offI : offI bM1 0 32 = 1 := by decide +kernel
theorem b_offHead : offHead bM1 0 32 0 = 0 := by decide +kernel
theorem b_follow : (followF bM1 0 32 32 0 []).map (fun l => l.map fun x => (x.a, x.n, x.wr)) = some [(848, 16, false), (864, 64, true), (928, 1, true)] := by decide +kernel
theorem b_ask : (askL bM1 bC).map (fun o => (o.kind, o.sec, o.data.data.toList)) = some (1, 2, []) := by decide +kernel
theorem b_usedI : usedI bM2 0 32 = 1 := by decide +kernel
theorem b_usedNum : usedNum bM2 0 32 0 = 0 := by decide +kernel
theorem b_usedLen : usedLen bM2 0 32 0 = 65 := by decide +kernel
theorem b_status : ansS bM2 0 0 = 0 := by decide +kernel
theorem b_text : textS bM2 864 64 = List.replicate 64 7 := by decide +kernel

theorem bfs_of {l m : List Bf} (h : l.map (fun x => (x.a, x.n, x.wr)) = m.map fun x => (x.a, x.n, x.wr)) : l = m := by
  induction l generalizing m with
  | nil => cases m with
    | nil => rfl
    | cons b m => cases h
  | cons a l ih => cases m with
    | nil => cases h
    | cons b m =>
      simp only [List.map_cons, List.cons.injEq, Prod.mk.injEq] at h
      obtain ⟨⟨h1, h2, h3⟩, h4⟩ := h
      rw [ih h4]
      obtain ⟨a1, a2, a3⟩ := a
      obtain ⟨b1, b2, b3⟩ := b
      simp only at h1 h2 h3
      subst h1 h2 h3
      rfl
theorem b_follow2 : followF bM1 0 32 32 0 [] = some bC := by
  have h := b_follow
  generalize followF bM1 0 32 32 0 [] = R at h ⊢
  cases R with
  | none => cases h
  | some l =>
    injection h with h
    rw [bfs_of (m := bC) h]
theorem b_ask2 : askL bM1 bC = some bO := by
  have h := b_ask
  generalize askL bM1 bC = R at h ⊢
  cases R with
  | none => cases h
  | some o =>
    injection h with h
    simp only [Prod.mk.injEq] at h
    obtain ⟨h1, h2, h3⟩ := h
    obtain ⟨ok, os_, od⟩ := o
    obtain ⟨od⟩ := od
    simp only at h1 h2 h3
    subst h1 h2
    have : od = #[] := by simpa using h3
    subst this
    rfl
/-- What the device told there. -/
def bD : Dn := ⟨1, true, fullS 7⟩
theorem b_told {y : Snt} {x : Oc} (hy : y.hd = 0) (y1 : y.id = 1) (y2 : y.kind = 1) (y3 : y.slot = 0) (hx : x.c = ⟨0, [0, 1, 2], 65⟩) {l : List Dn} {os' : List Snt} {cs' : List Oc} {back' : Int} {d : Bool} (t : Told bM2 0 [y] [x] 0 l os' cs' back' d) :
    d = false ∧ l = [bD] ∧ os' = [] := by
  cases t with
  | stop _ _ _ h => rw [b_usedI] at h; exact absurd h (by decide)
  | brk _ _ _ h hb =>
    rw [b_usedI, b_usedNum, b_usedLen] at hb
    rcases hb with hb | hb | ⟨z, hz, h1, h2⟩
    · exact absurd hb (by simp)
    · exact absurd (show x.c.head = 0 by rw [hx]) (hb x (by simp))
    · rw [List.mem_singleton] at hz
      subst hz
      rw [hx] at h2
      exact absurd h2 (by simp)
  | step _ _ _ z hz s hs h hc hk hyk hl l2 _ _ _ _ r =>
    rw [List.mem_singleton] at hs
    subst hs
    rw [b_usedNum, b_usedLen] at *
    have e1 : ([s].filter fun z : Snt => z.hd != (0 : Int)) = [] := by simp [hy]
    have e2 : ([x].filter fun z : Oc => z.c.head != (0 : Int)) = [] := by simp [hx]
    rw [e1, e2] at r
    have ea : ansF bM2 0 s 65 = bD := by
      unfold ansF
      rw [y3, b_status, y1, y2, if_neg (by simp), if_pos rfl, show (0 : Int) + 848 + 96 * 0 + 16 = 864 from rfl, b_text]
      rfl
    rw [ea]
    cases r with
    | stop _ _ _ h => exact ⟨rfl, rfl, rfl⟩
    | brk _ _ _ h hb => rw [b_usedI] at h; exact absurd rfl h
    | step _ _ _ z hz s hs h => rw [b_usedI] at h; exact absurd rfl h

end Go.Proofs.YtiejcohammeoeaaGreatDoor

namespace Go.Proofs.YtiejcohammeoeaaGreatDoor
open Go.RowKit Go.Sort

/-- What stays in awake's last region. -/
def AwkS (w : World) (ob gb : Nat) (s : ByteArray) : Prop :=
  w.heap[ob]? = some (.cells #[.int .i64 1, .int .i64 2, .string ⟨#[]⟩] 35 (0, 0)) ∧ w.cell? ⟨gb, 0, none⟩ = some (.int .i64 1) ∧ w.cell? ⟨gb, 1, none⟩ = some (.bool true) ∧ w.cell? ⟨gb, 2, none⟩ = some (.string s)
theorem AwkS.below {w w' : World} {ob gb : Nat} {s : ByteArray} (h : AwkS w ob gb s) (k : Below w.heap.size w w') : AwkS w' ob gb s := by
  obtain ⟨h1, h2, h3, h4⟩ := h
  have hg := World.block_lt_of_cell? w _ h2
  exact ⟨(k.block _ (lt_of_block h1)).trans h1, (k.cell (p := ⟨gb, 0, none⟩) hg).trans h2, (k.cell (p := ⟨gb, 1, none⟩) hg).trans h3, (k.cell (p := ⟨gb, 2, none⟩) hg).trans h4⟩
theorem AwkS.o0 {w : World} {ob gb : Nat} {s : ByteArray} (h : AwkS w ob gb s) : w.cell? ⟨ob, 0, none⟩ = some (.int .i64 1) := cell_of_block h.1
theorem AwkS.o1 {w : World} {ob gb : Nat} {s : ByteArray} (h : AwkS w ob gb s) : w.cell? ⟨ob, 1, none⟩ = some (.int .i64 2) := cell_of_block h.1
/-- A row of one answer. -/
theorem own_one {B : Nat} {w : World} {v : Value} {x : Dn} (h : OwnDns B w v [x]) : ∃ gb cap, v = .slice (some ⟨gb, 0, none⟩) 1 cap ∧ B ≤ gb ∧ w.cell? ⟨gb, 0, none⟩ = some (.int .i64 x.id) ∧ w.cell? ⟨gb, 1, none⟩ = some (.bool x.ok) ∧ w.cell? ⟨gb, 2, none⟩ = some (.string x.data) := by
  rcases h.1.2 with ⟨_, h0⟩ | ⟨g, cap, cur, rfl, hg, hb, r⟩
  · simp at h0
  · have hc : ∀ j u, (dnCells x)[j]? = some u → w.cell? ⟨g, 0 + j, none⟩ = some u := fun j u hu => by
      have h2 := h.1.cells (g := g) rfl j u (by simpa using hu)
      rw [Addr.add_mid] at h2
      exact h2
    exact ⟨g, cap, rfl, hg, hc 0 _ rfl, hc 1 _ rfl, hc 2 _ rfl⟩

set_option maxRecDepth 100000 in
set_option maxHeartbeats 4000000 in
theorem bawake_any (w : World) (hS : Shapes w) :
    Calls Tryz.prog 4 #[] w fun e w' => e = .returned (.bool true) ∧ Below w.heap.size w w' := by
  have hpos := hS.pos
  have HS := Lib.hid hS
  clear hS
  go_enter Tryz.func4, Tryz.ntmps4
  go_wp2_with fail
  refine (New_ok w 4096 (by omega) (by omega)).mono ?_
  rintro e w1 ⟨rfl, m1, k1⟩
  have z0 : (List.replicate (4096 : Int).toNat (0 : UInt8)).length = 4096 := by rw [List.length_replicate]; rfl
  have bel1 := Below.of_none k1
  have z1 := k1.size
  go_wp2_with fail
  refine (bNew_ok w1 _ _ _ m1 (by rw [z0]; omega) (by rw [z0]; omega) 0 8 3 (by rw [show ((List.replicate (4096 : Int).toNat (0 : UInt8)).length : Int) = 4096 from by rw [z0]; rfl]; decide +kernel) (by omega) (by omega) (by omega) (by omega)).mono ?_
  rintro e w2 ⟨b, q, mb, u, rfl, hb, hq, hmb, hu, s2, t2⟩
  change KS w2 b _ _ q u mb bM0 0 8 3 [] [] 0 0 false 0 0 false at s2
  have bel2 := bel1.trans (t2.below z1 (by rintro k rfl; omega))
  have z2 := t2.size
  have S2 := Lib.hid s2
  clear m1 k1 s2 t2 bel1
  go_wp2_with fail
  refine (bOpen_ok w2 _ _ _ S2.out.qs.mem (by rw [bM0_len]; omega) (by rw [bM0_len]; omega) 0 (b_bar _ bM0_len)).mono ?_
  rintro e w3 ⟨r, p, v, rfl, hr, hp, hv, r3, k3⟩
  have R3 := Lib.hid r3
  have S3 := Lib.hid (S2.out.grown k3)
  obtain ⟨lb, lg, lh, lq, lu, lmb⟩ := S2.out.lts
  have bel3 := bel2.grown k3 bel2.size (fun j e => by cases e)
  have SH3 := Lib.hid (HS.out.kept (bel3.block 0 hpos))
  have z3 := k3.size
  clear r3 k3 S2 bel2
  have HO : Hid (Submit_ok w3 b (w.heap.size + 1) w.heap.size q u mb bM0 0 8 3 [] [] 0 0 false 0 0 false S3.out bO rfl SH3.out 0 (by decide) rfl (by decide) (by decide) rfl (by decide) (by decide) = Submit_ok w3 b (w.heap.size + 1) w.heap.size q u mb bM0 0 8 3 [] [] 0 0 false 0 0 false S3.out bO rfl SH3.out 0 (by decide) rfl (by decide) (by decide) rfl (by decide) (by decide)) := Lib.hid rfl
  clear HO
  have SC := Submit_ok w3 b (w.heap.size + 1) w.heap.size q u mb bM0 0 8 3 [] [] 0 0 false 0 0 false S3.out bO rfl SH3.out 0 (by decide) rfl (by decide) (by decide) rfl (by decide) (by decide)
  unfold bO Ord.val at SC
  simp only at SC
  have SC2 := Lib.hid SC
  clear SC
  go_wp2_with fail
--@1
  refine SC2.out.mono ?_
  clear SC2
  rintro e w4 ⟨y, x, rfl, y1, y2, y3, y4, y5, y6, hx, s4, t4⟩
  have hslot : y.slot = 0 := by
    obtain ⟨a1, a2, a3⟩ := y5
    by_cases h : y.slot = 0
    · exact h
    · obtain ⟨z, hz, _⟩ := y6 0 (by omega)
      cases hz
  rw [hslot] at hx s4
  rw [show (0 : Int) + 848 + 96 * 0 = 848 from rfl, b_chain] at hx s4
  rw [b_new] at hx
  rw [hx] at s4
  change KS w4 b _ _ q u mb bM1 0 8 3 [y] [x] 1 0 false 1 0 false at s4
  have hyhd : y.hd = 0 := by rw [y4, hx]
  have hKB : ∀ k, KB b q w.heap.size mb u k → k < w2.heap.size := by
    intro k hk
    rcases hk with e | e | e | e | e <;> omega
  have hKB2 : ∀ k, KB b q w.heap.size mb u k → w.heap.size ≤ k := by
    intro k hk
    rcases hk with e | e | e | e | e <;> omega
  have R4 := Lib.hid (R3.out.other t4 (fun h => by have := hKB _ h; omega) (fun h => by have := hKB _ h; omega) (fun h => by have := hKB _ h; omega) s4.qs.mem (by rw [bM1_len, bM0_len]))
  have bel4 := bel3.trans (t4.below bel3.size hKB2)
  have SH4 := Lib.hid (HS.out.kept (bel4.block 0 hpos))
  have z4 := t4.size
  have S4 := Lib.hid s4
  have HX := Lib.hid hx
  have HY : Hid (y.hd = 0 ∧ y.id = 1 ∧ y.kind = 1 ∧ y.slot = 0) := Lib.hid ⟨hyhd, y1, y2, hslot⟩
  clear y1 y2 y3 y4 y5 y6 hx s4 t4 hslot hyhd R3 S3 bel3 SH3
  have NC := Lib.hid (RNext_ok w4 r (w.heap.size + 1) w.heap.size p v bM1 0 0 0 [] SH4.out (by omega) R4.out 0 bC bO (by rw [b_offI]; decide) (by rw [b_offI]; decide) (Lib.hid b_offHead) (Lib.hid b_follow2) (Lib.hid b_ask2) (by simp))
  go_wp2_with fail
  refine NC.out.mono ?_
  clear NC
  rintro e w5 ⟨rfl, r5, t5⟩
  unfold bO Ord.val
  simp only
  have hRB2 : ∀ k, RB w.heap.size p v k → w.heap.size ≤ k := by
    intro k hk
    rcases hk with e | e | e <;> omega
  have S5 := Lib.hid (S4.out.device R4.out t5 r5.ps.mem rfl (by omega) (by omega))
  have bel5 := bel4.trans (t5.below bel4.size hRB2)
  have z5 := t5.size
  have k6 := World.grownBy_alloc w5 (.cells #[.int .i64 1, .int .i64 2, .string ⟨#[]⟩] 35) none
  have hob := heap_alloc_new w5 (.cells #[.int .i64 1, .int .i64 2, .string ⟨#[]⟩] 35)
  have R5 := Lib.hid r5
  clear r5 t5 S4 R4 bel4 SH4
  go_upto_region 6 with fail
  obtain ⟨ob, hobe⟩ : ∃ ob, ob = w5.heap.size := ⟨_, rfl⟩
  rw [← hobe] at hob ⊢
  have zob : w2.heap.size ≤ ob := by omega
  generalize w5.alloc _ = w6 at k6 hob ⊢
  have R6 := Lib.hid (R5.out.grown k6)
  have S6 := Lib.hid (S5.out.grown k6)
  have bel6 := bel5.grown k6 bel5.size (fun j e => by cases e)
  have HOB := Lib.hid hob
  clear hobe k6 hob bel5 S5 R5
  go_wp2_with fail
--@2
  refine (full_any w6 7 7 rfl).mono ?_
  rintro e w7 ⟨rfl, bel⟩
  have z6 := lt_of_block HOB.out
  have T7 : Turned (fun _ => False) w6 w7 := ⟨bel.os, bel.tape, bel.output, bel.size, fun k hk _ => bel.block k hk⟩
  have k7 : w6.grownBy w7 none := ⟨bel.os, bel.tape, bel.output, bel.size, fun k hk _ => bel.block k hk⟩
  have R7 := Lib.hid (R6.out.grown k7)
  have S7 := Lib.hid (S6.out.grown k7)
  have bel7 := bel6.grown k7 bel6.size (fun j e => by cases e)
  have HOB7 := Lib.hid ((k7.block _ z6 (by simp)).trans HOB.out)
  have z7 := k7.size
  clear bel T7 k7 R6 S6 bel6 HOB
  have htk : tknOf bO bC = bT := rfl
  have DC := RDone_ok w7 r (w.heap.size + 1) w.heap.size p v bM1 0 ((0 + 1) % 65536) 0 _ R7.out 0 (by omega) (by omega) bT (by rw [htk]; exact List.mem_singleton.2 rfl) true (fullS 7) (by unfold mayAns; rw [fullS_size]; rfl)
  change Calls _ _ _ _ (RDonePost _ _ _ _ _ _ _ _ ((0 + 1) % 65536) _ _ _ _ _ _) at DC
  have DC2 := Lib.hid DC
  clear DC htk
  obtain ⟨FS, hFS⟩ : ∃ FS, FS = fullS 7 := ⟨_, rfl⟩
  rw [← hFS] at DC2 ⊢
  have HFS := Lib.hid hFS
  clear hFS
  go_wp2_with fail
  refine DC2.out.mono ?_
  clear DC2
  rintro e w8 ⟨rfl, r8, t8⟩
  rw [HFS.out] at r8
  change RS w8 r _ _ p v bM2 0 _ _ _ at r8
  have S8 := Lib.hid (S7.out.device R7.out t8 r8.ps.mem (by rw [bM2_len, bM1_len]) (by omega) (by omega))
  have bel8 := bel7.trans (t8.below bel7.size hRB2)
  have HOB8 : Hid (w8.heap[ob]? = some (.cells #[.int .i64 1, .int .i64 2, .string ⟨#[]⟩] 35 (0, 0))) := Lib.hid ((t8.block _ (lt_of_block HOB7.out) (by
    rintro (e | e | e)
    · omega
    · have h1 := R7.out.ps.at_
      have h2 := HOB7.out
      unfold PAt at h1
      rw [e, h1] at h2
      injection h2 with h2
      injection h2 with _ h2
      exact absurd h2 (by decide)
    · exact tab_ne R7.out.tab HOB7.out e.symm)).trans HOB7.out)
  have z8 := t8.size
  clear r8 t8 S7 R7 bel7 HOB7
  have PC := Lib.hid (Poll_live w8 b (w.heap.size + 1) w.heap.size q u mb bM2 0 8 3 [y] [x] 1 0 1 0 S8.out (fun l os' cs' back' d ht => (b_told HY.out.1 HY.out.2.1 HY.out.2.2.1 HY.out.2.2.2 HX.out ht).1))
  go_wp2_with fail
--@3
  refine PC.out.mono ?_
  clear PC
  rintro e w9 ⟨lv, l, os', cs', back', rfl, ho, ht, s9, t9⟩
  obtain ⟨_, hl, _⟩ := b_told HY.out.1 HY.out.2.1 HY.out.2.2.1 HY.out.2.2.2 HX.out ht
  subst hl
  obtain ⟨gb, cap, rfl, hgb, g0, g1, g2⟩ := own_one ho
  have bel9 := Lib.hid (bel8.trans (t9.below bel8.size hKB2))
  have a9 : AwkS w9 ob gb FS := ⟨(t9.block _ (lt_of_block HOB8.out) (by
    intro hk
    have := hKB _ hk
    omega)).trans HOB8.out, g0, g1, by rw [HFS.out]; exact g2⟩
  have A9 := Lib.hid a9
  have z9 := t9.size
  clear ho ht s9 t9 g0 g1 g2 a9 bel8 HOB8 S8 HX HY hgb
  go_wp2_with fail
--@4
  refine wp_region_noPanic ?_
  refine region_held (S := fun w' => AwkS w' ob gb FS) (by kernel_rfl) (fun V d => A9.out.below (Below.of_none d.grown)) (fun V d hS => ?_)
  have BV := Lib.hid (bel9.out.trans ((Below.of_none d.grown).mono bel9.out.size))
  refine wpAnyH_take (i := 0) (oi := ⟨some 46, Op.move (Operand.tmp 2), _, _, _, none⟩) (v := (.int .i64 0)) rfl (by kernel_rfl) (by kernel_rfl) (by kernel_rfl) (fun _ _ _ h => h) (Or.inl ⟨by rfl, fun w' h' => ?_⟩) hS ?_
  · clear h'
    go_simp
  simp only [Act.put]
  refine wpAnyH_take (i := 1) (oi := ⟨some 47, Op.binOp BinOp.eql 25 (Operand.tmp 46) (Operand.const (Value.int IntKind.i64 0)) 25, _, _, _, none⟩) (v := (.bool true)) rfl (by kernel_rfl) (by kernel_rfl) (by kernel_rfl) (fun _ _ _ h => h) (Or.inl ⟨by rfl, fun w' h' => ?_⟩) hS ?_
  · clear h'
    go_simp
  simp only [Act.put]
  refine wpAnyH_take (i := 2) (oi := ⟨some 48, Op.move (Operand.tmp 47), _, _, _, none⟩) (v := (.bool true)) rfl (by kernel_rfl) (by kernel_rfl) (by kernel_rfl) (fun _ _ _ h => h) (Or.inl ⟨by rfl, fun w' h' => ?_⟩) hS ?_
  · clear h'
    go_simp
  simp only [Act.put]
  refine wpAnyH_take (i := 3) (oi := ⟨some 49, Op.move (Operand.tmp 4), _, _, _, some (2, true)⟩) (v := (.int .i64 0)) rfl (by kernel_rfl) (by kernel_rfl) (by kernel_rfl) (fun _ _ _ h => h) (Or.inl ⟨by kernel_rfl, fun w' h' => ?_⟩) hS ?_
  · clear h'
    go_simp
  simp only [Act.put]
  refine wpAnyH_take (i := 4) (oi := ⟨some 50, Op.binOp BinOp.eql 25 (Operand.tmp 49) (Operand.const (Value.int IntKind.i64 0)) 25, _, _, _, some (2, true)⟩) (v := (.bool true)) rfl (by kernel_rfl) (by kernel_rfl) (by kernel_rfl) (fun _ _ _ h => h) (Or.inl ⟨by kernel_rfl, fun w' h' => ?_⟩) hS ?_
  · clear h'
    go_simp
  simp only [Act.put]
  refine wpAnyH_take (i := 5) (oi := ⟨some 51, Op.pick (Operand.tmp 48) (Operand.tmp 50) (Operand.const (Value.bool false)), _, _, _, none⟩) (v := (.bool true)) rfl (by kernel_rfl) (by kernel_rfl) (by kernel_rfl) (fun _ _ _ h => h) (Or.inl ⟨by rfl, fun w' h' => ?_⟩) hS ?_
  · clear h'
    go_simp
  simp only [Act.put]
  refine wpAnyH_take (i := 6) (oi := ⟨some 52, Op.move (Operand.tmp 51), _, _, _, none⟩) (v := (.bool true)) rfl (by kernel_rfl) (by kernel_rfl) (by kernel_rfl) (fun _ _ _ h => h) (Or.inl ⟨by rfl, fun w' h' => ?_⟩) hS ?_
  · clear h'
    go_simp
  simp only [Act.put]
  refine wpAnyH_take (i := 7) (oi := ⟨some 53, Op.move (Operand.tmp 6), _, _, _, some (6, true)⟩) (v := (.int .i64 0)) rfl (by kernel_rfl) (by kernel_rfl) (by kernel_rfl) (fun _ _ _ h => h) (Or.inl ⟨by kernel_rfl, fun w' h' => ?_⟩) hS ?_
  · clear h'
    go_simp
  simp only [Act.put]
  refine wpAnyH_take (i := 8) (oi := ⟨some 54, Op.binOp BinOp.eql 25 (Operand.tmp 53) (Operand.const (Value.int IntKind.i64 0)) 25, _, _, _, some (6, true)⟩) (v := (.bool true)) rfl (by kernel_rfl) (by kernel_rfl) (by kernel_rfl) (fun _ _ _ h => h) (Or.inl ⟨by kernel_rfl, fun w' h' => ?_⟩) hS ?_
  · clear h'
    go_simp
  simp only [Act.put]
  refine wpAnyH_take (i := 9) (oi := ⟨some 55, Op.pick (Operand.tmp 52) (Operand.tmp 54) (Operand.const (Value.bool false)), _, _, _, none⟩) (v := (.bool true)) rfl (by kernel_rfl) (by kernel_rfl) (by kernel_rfl) (fun _ _ _ h => h) (Or.inl ⟨by rfl, fun w' h' => ?_⟩) hS ?_
  · clear h'
    go_simp
  simp only [Act.put]
  refine wpAnyH_take (i := 10) (oi := ⟨some 56, Op.move (Operand.tmp 55), _, _, _, none⟩) (v := (.bool true)) rfl (by kernel_rfl) (by kernel_rfl) (by kernel_rfl) (fun _ _ _ h => h) (Or.inl ⟨by rfl, fun w' h' => ?_⟩) hS ?_
  · clear h'
    go_simp
  simp only [Act.put]
  refine wpAnyH_take (i := 11) (oi := ⟨some 57, Op.move (Operand.tmp 7), _, _, _, some (10, true)⟩) (v := (.int .i64 1)) rfl (by kernel_rfl) (by kernel_rfl) (by kernel_rfl) (fun _ _ _ h => h) (Or.inl ⟨by kernel_rfl, fun w' h' => ?_⟩) hS ?_
  · clear h'
    go_simp
  simp only [Act.put]
  refine wpAnyH_take (i := 12) (oi := ⟨some 58, Op.binOp BinOp.eql 3 (Operand.tmp 57) (Operand.const (Value.int IntKind.i64 1)) 3, _, _, _, some (10, true)⟩) (v := (.bool true)) rfl (by kernel_rfl) (by kernel_rfl) (by kernel_rfl) (fun _ _ _ h => h) (Or.inl ⟨by kernel_rfl, fun w' h' => ?_⟩) hS ?_
  · clear h'
    go_simp
  simp only [Act.put]
  refine wpAnyH_take (i := 13) (oi := ⟨some 59, Op.pick (Operand.tmp 56) (Operand.tmp 58) (Operand.const (Value.bool false)), _, _, _, none⟩) (v := (.bool true)) rfl (by kernel_rfl) (by kernel_rfl) (by kernel_rfl) (fun _ _ _ h => h) (Or.inl ⟨by rfl, fun w' h' => ?_⟩) hS ?_
  · clear h'
    go_simp
  simp only [Act.put]
  refine wpAnyH_take (i := 14) (oi := ⟨some 60, Op.move (Operand.tmp 59), _, _, _, none⟩) (v := (.bool true)) rfl (by kernel_rfl) (by kernel_rfl) (by kernel_rfl) (fun _ _ _ h => h) (Or.inl ⟨by rfl, fun w' h' => ?_⟩) hS ?_
  · clear h'
    go_simp
  simp only [Act.put]
  refine wpAnyH_take (i := 15) (oi := ⟨some 61, Op.move (Operand.tmp 8), _, _, _, some (14, true)⟩) (v := (.int .i64 0)) rfl (by kernel_rfl) (by kernel_rfl) (by kernel_rfl) (fun _ _ _ h => h) (Or.inl ⟨by kernel_rfl, fun w' h' => ?_⟩) hS ?_
  · clear h'
    go_simp
  simp only [Act.put]
  refine wpAnyH_take (i := 16) (oi := ⟨some 62, Op.binOp BinOp.eql 25 (Operand.tmp 61) (Operand.const (Value.int IntKind.i64 0)) 25, _, _, _, some (14, true)⟩) (v := (.bool true)) rfl (by kernel_rfl) (by kernel_rfl) (by kernel_rfl) (fun _ _ _ h => h) (Or.inl ⟨by kernel_rfl, fun w' h' => ?_⟩) hS ?_
  · clear h'
    go_simp
  simp only [Act.put]
  refine wpAnyH_take (i := 17) (oi := ⟨some 63, Op.pick (Operand.tmp 60) (Operand.tmp 62) (Operand.const (Value.bool false)), _, _, _, none⟩) (v := (.bool true)) rfl (by kernel_rfl) (by kernel_rfl) (by kernel_rfl) (fun _ _ _ h => h) (Or.inl ⟨by rfl, fun w' h' => ?_⟩) hS ?_
  · clear h'
    go_simp
  simp only [Act.put]
  refine wpAnyH_take (i := 18) (oi := ⟨some 64, Op.move (Operand.tmp 63), _, _, _, none⟩) (v := (.bool true)) rfl (by kernel_rfl) (by kernel_rfl) (by kernel_rfl) (fun _ _ _ h => h) (Or.inl ⟨by rfl, fun w' h' => ?_⟩) hS ?_
  · clear h'
    go_simp
  simp only [Act.put]
  refine wpAnyH_take (i := 19) (oi := ⟨some 65, Op.fieldAddr 35 (Operand.tmp 10) 0, _, _, _, some (18, true)⟩) (v := (.pointer (some ⟨ob, 0, none⟩))) rfl (by kernel_rfl) (by kernel_rfl) (by kernel_rfl) (fun _ _ _ h => h) (Or.inl ⟨by kernel_rfl, fun w' h' => ?_⟩) hS ?_
  · clear h'
    go_simp
  simp only [Act.put]
  refine wpAnyH_take (i := 20) (oi := ⟨some 66, Op.load 3 (Operand.tmp 65), _, _, _, some (18, true)⟩) (v := (.int .i64 1)) rfl (by kernel_rfl) (by kernel_rfl) (by kernel_rfl) (fun _ _ _ h => h) (Or.inl ⟨by kernel_rfl, fun w' h' => ?_⟩) hS ?_
  · have c0 := h'.o0
    clear h'
    go_simp
  simp only [Act.put]
  refine wpAnyH_take (i := 21) (oi := ⟨some 67, Op.binOp BinOp.eql 3 (Operand.tmp 66) (Operand.const (Value.int IntKind.i64 1)) 3, _, _, _, some (18, true)⟩) (v := (.bool true)) rfl (by kernel_rfl) (by kernel_rfl) (by kernel_rfl) (fun _ _ _ h => h) (Or.inl ⟨by kernel_rfl, fun w' h' => ?_⟩) hS ?_
  · clear h'
    go_simp
  simp only [Act.put]
  refine wpAnyH_take (i := 22) (oi := ⟨some 68, Op.pick (Operand.tmp 64) (Operand.tmp 67) (Operand.const (Value.bool false)), _, _, _, none⟩) (v := (.bool true)) rfl (by kernel_rfl) (by kernel_rfl) (by kernel_rfl) (fun _ _ _ h => h) (Or.inl ⟨by rfl, fun w' h' => ?_⟩) hS ?_
  · clear h'
    go_simp
  simp only [Act.put]
  refine wpAnyH_take (i := 23) (oi := ⟨some 69, Op.move (Operand.tmp 68), _, _, _, none⟩) (v := (.bool true)) rfl (by kernel_rfl) (by kernel_rfl) (by kernel_rfl) (fun _ _ _ h => h) (Or.inl ⟨by rfl, fun w' h' => ?_⟩) hS ?_
  · clear h'
    go_simp
  simp only [Act.put]
  refine wpAnyH_take (i := 24) (oi := ⟨some 70, Op.fieldAddr 35 (Operand.tmp 10) 1, _, _, _, some (23, true)⟩) (v := (.pointer (some ⟨ob, 1, none⟩))) rfl (by kernel_rfl) (by kernel_rfl) (by kernel_rfl) (fun _ _ _ h => h) (Or.inl ⟨by kernel_rfl, fun w' h' => ?_⟩) hS ?_
  · clear h'
    go_simp
  simp only [Act.put]
  refine wpAnyH_take (i := 25) (oi := ⟨some 71, Op.load 3 (Operand.tmp 70), _, _, _, some (23, true)⟩) (v := (.int .i64 2)) rfl (by kernel_rfl) (by kernel_rfl) (by kernel_rfl) (fun _ _ _ h => h) (Or.inl ⟨by kernel_rfl, fun w' h' => ?_⟩) hS ?_
  · have c0 := h'.o1
    clear h'
    go_simp
  simp only [Act.put]
  refine wpAnyH_take (i := 26) (oi := ⟨some 72, Op.binOp BinOp.eql 3 (Operand.tmp 71) (Operand.const (Value.int IntKind.i64 2)) 3, _, _, _, some (23, true)⟩) (v := (.bool true)) rfl (by kernel_rfl) (by kernel_rfl) (by kernel_rfl) (fun _ _ _ h => h) (Or.inl ⟨by kernel_rfl, fun w' h' => ?_⟩) hS ?_
  · clear h'
    go_simp
  simp only [Act.put]
  refine wpAnyH_take (i := 27) (oi := ⟨some 73, Op.pick (Operand.tmp 69) (Operand.tmp 72) (Operand.const (Value.bool false)), _, _, _, none⟩) (v := (.bool true)) rfl (by kernel_rfl) (by kernel_rfl) (by kernel_rfl) (fun _ _ _ h => h) (Or.inl ⟨by rfl, fun w' h' => ?_⟩) hS ?_
  · clear h'
    go_simp
  simp only [Act.put]
  refine wpAnyH_take (i := 28) (oi := ⟨some 74, Op.move (Operand.tmp 73), _, _, _, none⟩) (v := (.bool true)) rfl (by kernel_rfl) (by kernel_rfl) (by kernel_rfl) (fun _ _ _ h => h) (Or.inl ⟨by rfl, fun w' h' => ?_⟩) hS ?_
  · clear h'
    go_simp
  simp only [Act.put]
  refine wpAnyH_take (i := 29) (oi := ⟨some 75, Op.move (Operand.tmp 11), _, _, _, some (28, true)⟩) (v := (.int .i64 0)) rfl (by kernel_rfl) (by kernel_rfl) (by kernel_rfl) (fun _ _ _ h => h) (Or.inl ⟨by kernel_rfl, fun w' h' => ?_⟩) hS ?_
  · clear h'
    go_simp
  simp only [Act.put]
  refine wpAnyH_take (i := 30) (oi := ⟨some 76, Op.binOp BinOp.eql 25 (Operand.tmp 75) (Operand.const (Value.int IntKind.i64 0)) 25, _, _, _, some (28, true)⟩) (v := (.bool true)) rfl (by kernel_rfl) (by kernel_rfl) (by kernel_rfl) (fun _ _ _ h => h) (Or.inl ⟨by kernel_rfl, fun w' h' => ?_⟩) hS ?_
  · clear h'
    go_simp
  simp only [Act.put]
  refine wpAnyH_take (i := 31) (oi := ⟨some 77, Op.pick (Operand.tmp 74) (Operand.tmp 76) (Operand.const (Value.bool false)), _, _, _, none⟩) (v := (.bool true)) rfl (by kernel_rfl) (by kernel_rfl) (by kernel_rfl) (fun _ _ _ h => h) (Or.inl ⟨by rfl, fun w' h' => ?_⟩) hS ?_
  · clear h'
    go_simp
  simp only [Act.put]
  refine wpAnyH_take (i := 32) (oi := ⟨some 78, Op.move (Operand.tmp 77), _, _, _, none⟩) (v := (.bool true)) rfl (by kernel_rfl) (by kernel_rfl) (by kernel_rfl) (fun _ _ _ h => h) (Or.inl ⟨by rfl, fun w' h' => ?_⟩) hS ?_
  · clear h'
    go_simp
  simp only [Act.put]
  refine wpAnyH_take (i := 33) (oi := ⟨some 79, Op.move (Operand.tmp 12), _, _, _, some (32, true)⟩) (v := (.int .i64 0)) rfl (by kernel_rfl) (by kernel_rfl) (by kernel_rfl) (fun _ _ _ h => h) (Or.inl ⟨by kernel_rfl, fun w' h' => ?_⟩) hS ?_
  · clear h'
    go_simp
  simp only [Act.put]
  refine wpAnyH_take (i := 34) (oi := ⟨some 80, Op.binOp BinOp.eql 25 (Operand.tmp 79) (Operand.const (Value.int IntKind.i64 0)) 25, _, _, _, some (32, true)⟩) (v := (.bool true)) rfl (by kernel_rfl) (by kernel_rfl) (by kernel_rfl) (fun _ _ _ h => h) (Or.inl ⟨by kernel_rfl, fun w' h' => ?_⟩) hS ?_
  · clear h'
    go_simp
  simp only [Act.put]
  refine wpAnyH_take (i := 35) (oi := ⟨some 81, Op.pick (Operand.tmp 78) (Operand.tmp 80) (Operand.const (Value.bool false)), _, _, _, none⟩) (v := (.bool true)) rfl (by kernel_rfl) (by kernel_rfl) (by kernel_rfl) (fun _ _ _ h => h) (Or.inl ⟨by rfl, fun w' h' => ?_⟩) hS ?_
  · clear h'
    go_simp
  simp only [Act.put]
  refine wpAnyH_take (i := 36) (oi := ⟨some 82, Op.move (Operand.tmp 81), _, _, _, none⟩) (v := (.bool true)) rfl (by kernel_rfl) (by kernel_rfl) (by kernel_rfl) (fun _ _ _ h => h) (Or.inl ⟨by rfl, fun w' h' => ?_⟩) hS ?_
  · clear h'
    go_simp
  simp only [Act.put]
  refine wpAnyH_take (i := 37) (oi := ⟨some 83, Op.move (Operand.tmp 13), _, _, _, some (36, true)⟩) (v := (.slice (some ⟨gb, 0, none⟩) 1 cap)) rfl (by kernel_rfl) (by kernel_rfl) (by kernel_rfl) (fun _ _ _ h => h) (Or.inl ⟨by kernel_rfl, fun w' h' => ?_⟩) hS ?_
  · clear h'
    go_simp
  simp only [Act.put]
  refine wpAnyH_ready (rs := [38]) (by kernel_rfl) (by simp) ?_
  refine AllReadyH.cons rfl (fun K hK => ?_) AllReadyH.nil
  go_simp
  refine hK.out _ _ hS (fun _ => ?_)
  clear hK K
  refine wpAnyH_take (i := 39) (oi := ⟨some 85, Op.binOp BinOp.eql 3 (Operand.tmp 84) (Operand.const (Value.int IntKind.i64 1)) 3, _, _, _, some (36, true)⟩) (v := (.bool true)) rfl (by kernel_rfl) (by kernel_rfl) (by kernel_rfl) (fun _ _ _ h => h) (Or.inl ⟨by kernel_rfl, fun w' h' => ?_⟩) hS ?_
  · clear h'
    go_simp
  simp only [Act.put]
  refine wpAnyH_take (i := 40) (oi := ⟨some 86, Op.pick (Operand.tmp 82) (Operand.tmp 85) (Operand.const (Value.bool false)), _, _, _, none⟩) (v := (.bool true)) rfl (by kernel_rfl) (by kernel_rfl) (by kernel_rfl) (fun _ _ _ h => h) (Or.inl ⟨by rfl, fun w' h' => ?_⟩) hS ?_
  · clear h'
    go_simp
  simp only [Act.put]
  refine wpAnyH_take (i := 41) (oi := ⟨some 87, Op.move (Operand.tmp 86), _, _, _, none⟩) (v := (.bool true)) rfl (by kernel_rfl) (by kernel_rfl) (by kernel_rfl) (fun _ _ _ h => h) (Or.inl ⟨by rfl, fun w' h' => ?_⟩) hS ?_
  · clear h'
    go_simp
  simp only [Act.put]
  refine wpAnyH_take (i := 42) (oi := ⟨some 88, Op.move (Operand.tmp 13), _, _, _, some (41, true)⟩) (v := (.slice (some ⟨gb, 0, none⟩) 1 cap)) rfl (by kernel_rfl) (by kernel_rfl) (by kernel_rfl) (fun _ _ _ h => h) (Or.inl ⟨by kernel_rfl, fun w' h' => ?_⟩) hS ?_
  · clear h'
    go_simp
  simp only [Act.put]
  refine wpAnyH_take (i := 43) (oi := ⟨some 89, Op.indexAddr 42 (Operand.tmp 88) (Operand.const (Value.int IntKind.i64 0)), _, _, _, some (41, true)⟩) (v := (.pointer (some ⟨gb, 0, none⟩))) rfl (by kernel_rfl) (by kernel_rfl) (by kernel_rfl) (fun _ _ _ h => h) (Or.inl ⟨by kernel_rfl, fun w' h' => ?_⟩) hS ?_
  · clear h'
    go_simp
  simp only [Act.put]
  refine wpAnyH_take (i := 44) (oi := ⟨some 90, Op.load 45 (Operand.tmp 89), _, _, _, some (41, true)⟩) (v := (.agg #[.int .i64 1, .bool true, .string FS])) rfl (by kernel_rfl) (by kernel_rfl) (by kernel_rfl) (fun _ _ _ h => h) (Or.inl ⟨by kernel_rfl, fun w' h' => ?_⟩) hS ?_
  · have c0 := h'.2.1
    have c1 := h'.2.2.1
    have c2 := h'.2.2.2
    clear h'
    go_simp
  simp only [Act.put]
  refine wpAnyH_ready (rs := [45]) (by kernel_rfl) (by simp) ?_
  refine AllReadyH.cons rfl (fun K hK => ?_) AllReadyH.nil
  go_simp
  refine (full_any V 7 7 rfl).mono ?_
  rintro e wa ⟨rfl, bela⟩
  rw [← HFS.out]
  have aa := hS.below bela
  have BELA := Lib.hid (BV.out.trans (bela.mono BV.out.size))
  go_simp
  refine hK.out _ _ aa (fun _ => ?_)
  clear hK K
  refine wpAnyH_take (i := 46) (oi := ⟨some 92, Op.build 45 #[(0, Operand.const (Value.int IntKind.i64 1)), (1, Operand.const (Value.bool true)), (2, (Operand.tmp 91))], _, _, _, some (41, true)⟩) (v := (.agg #[.int .i64 1, .bool true, .string FS])) rfl (by kernel_rfl) (by kernel_rfl) (by kernel_rfl) (fun _ _ _ h => h) (Or.inl ⟨by kernel_rfl, fun w' h' => ?_⟩) aa ?_
  · clear h'
    go_simp
  simp only [Act.put]
  refine wpAnyH_take (i := 47) (oi := ⟨some 93, Op.binOp BinOp.eql 45 (Operand.tmp 90) (Operand.tmp 92) 45, _, _, _, some (41, true)⟩) (v := (.bool true)) rfl (by kernel_rfl) (by kernel_rfl) (by kernel_rfl) (fun _ _ _ h => h) (Or.inl ⟨by kernel_rfl, fun w' h' => ?_⟩) aa ?_
  · clear h'
    go_simp
  simp only [Act.put]
  refine wpAnyH_take (i := 48) (oi := ⟨some 94, Op.pick (Operand.tmp 87) (Operand.tmp 93) (Operand.const (Value.bool false)), _, _, _, none⟩) (v := (.bool true)) rfl (by kernel_rfl) (by kernel_rfl) (by kernel_rfl) (fun _ _ _ h => h) (Or.inl ⟨by rfl, fun w' h' => ?_⟩) aa ?_
  · clear h'
    go_simp
  simp only [Act.put]
  refine wpAnyH_take (i := 49) (oi := ⟨some 0, Op.assign (Operand.tmp 94), _, _, _, none⟩) (v := (.bool true)) rfl (by kernel_rfl) (by kernel_rfl) (by kernel_rfl) (fun _ _ _ h => h) (Or.inl ⟨by rfl, fun w' h' => ?_⟩) aa ?_
  · clear h'
    go_simp
  simp only [Act.put]
  refine wpAnyH_done (by kernel_rfl) (NoPanic.normal ?_) _
  clear hS d aa bela
  go_wp2_with fail
  go_ret
  exact ⟨rfl, BELA.out⟩

end Go.Proofs.YtiejcohammeoeaaGreatDoor

namespace Go.Proofs.YtiejcohammeoeaaGreatDoor
open Go.ChangeShapes Go.WideShapes Go.ChangeAt Go.RowKit

def shapesLaid : List (String × DataW Unit) := [("blockyard/vblk.shapes", Rows.laid_blockyard_vblk_shapes)]
theorem own_b : ownKnob Tryz.prog.godebug = none := by kernel_rfl
theorem gShapes : Tryz.prog.globalNamed "blockyard/vblk.shapes" = some 0 := by kernel_rfl
theorem tShapes : (Tryz.prog.globals[0]?).map (·.type) = some 103 := by kernel_rfl
theorem laidOut_b : laidOutB Tryz.prog = true := by kernel_rfl
theorem cInt : Tryz.prog.cellsOf 3 = 1 := by kernel_rfl
theorem cU64 : Tryz.prog.cellsOf 64 = 1 := by kernel_rfl
theorem cBool : Tryz.prog.cellsOf 4 = 1 := by kernel_rfl
theorem cShape : Tryz.prog.cellsOf 66 = 5 := by kernel_rfl

set_option maxRecDepth 100000 in
theorem shape_of {H : Type} {enc : TypeId × Value → H} {w : World} {base : Nat} {sp : Nat → Bool} {hd : Bool} {fuel : Nat} {cs : List Value} {x : DataW H × List MemPlace} (s : Shp) (ht : DataW.trod enc Tryz.prog w base sp hd fuel 66 cs = some x)
    (hx : x.1 = .agg [.lit (.int .i64 s.kind), .lit (.int .u64 s.num), .lit (.int .i64 s.len), .lit (.bool s.back), .lit (.int .i64 s.sec)]) : cs = s.cells := by
  obtain ⟨xs, n, _, rfl, hl, hxl, hf⟩ := DataW.trod_struct Tryz.underlying66 ht
  rw [cShape] at hl
  have hx5 : xs.length = 5 := hxl
  match cs, hl, xs, hx5 with
  | [c0, c1, c2, c3, c4], _, [x0, x1, x2, x3, x4], _ =>
    have g0 : DataW.trod enc Tryz.prog w base sp hd n 3 (List.take (Tryz.prog.cellsOf 3) (List.drop 0 [c0, c1, c2, c3, c4])) = some x0 := hf 0 _ rfl
    rw [cInt] at g0
    obtain ⟨k0, e0, q0, _⟩ := DataW.trod_int Tryz.underlying3 g0
    have g1 : DataW.trod enc Tryz.prog w base sp hd n 64 (List.take (Tryz.prog.cellsOf 64) (List.drop 1 [c0, c1, c2, c3, c4])) = some x1 := hf 1 _ rfl
    rw [cU64] at g1
    obtain ⟨k1, e1, q1, _⟩ := DataW.trod_int Tryz.underlying64 g1
    have g2 : DataW.trod enc Tryz.prog w base sp hd n 3 (List.take (Tryz.prog.cellsOf 3) (List.drop 2 [c0, c1, c2, c3, c4])) = some x2 := hf 2 _ rfl
    rw [cInt] at g2
    obtain ⟨k2, e2, q2, _⟩ := DataW.trod_int Tryz.underlying3 g2
    have g3 : DataW.trod enc Tryz.prog w base sp hd n 4 (List.take (Tryz.prog.cellsOf 4) (List.drop 3 [c0, c1, c2, c3, c4])) = some x3 := hf 3 _ rfl
    rw [cBool] at g3
    obtain ⟨k3, e3, q3⟩ := DataW.trod_bool Tryz.underlying4 g3
    have g4 : DataW.trod enc Tryz.prog w base sp hd n 3 (List.take (Tryz.prog.cellsOf 3) (List.drop 4 [c0, c1, c2, c3, c4])) = some x4 := hf 4 _ rfl
    rw [cInt] at g4
    obtain ⟨k4, e4, q4, _⟩ := DataW.trod_int Tryz.underlying3 g4
    simp at e0 e1 e2 e3 e4
    subst e0 e1 e2 e3 e4 q0 q1 q2 q3 q4
    simp at hx
    obtain ⟨h0, h1, h2, h3, h4⟩ := hx
    subst h0 h1 h2 h3 h4
    rfl

/-- WHAT THE CONDITION GIVES THE WALKS. -/
theorem shapes_of {W : World} (h : laidMetH Tryz.prog shapesLaid W) : Shapes W := by
  rw [MakeChecks.laidMetH_plain _ _ _ (by kernel_rfl)] at h
  obtain ⟨ps, ⟨g0, t0, cs0, f0, p0, q0, hg0, ht0, hv0, hd0, _, _⟩, _, _⟩ := h
  obtain rfl := Option.some.inj (gShapes.symm.trans hg0)
  obtain rfl := Option.some.inj (tShapes.symm.trans ht0)
  obtain ⟨xs, m, _, hx, hlen, hn, hel⟩ := DataW.trod_array Tryz.underlying103 hd0
  rw [cShape] at hel
  have hlen2 : cs0.toList.length = 25 := by rw [hlen]; kernel_rfl
  injection hx with hx _
  unfold Rows.laid_blockyard_vblk_shapes at hx
  injection hx with hx
  match xs, hn, hx with
  | [x0, x1, x2, x3, x4], _, hx =>
    simp only [List.map_cons, List.map_nil, List.cons.injEq, and_true] at hx
    obtain ⟨a0, a1, a2, a3, a4⟩ := hx
    have e0 := shape_of shp1 (hel 0 (by decide)) a0.symm
    have e1 := shape_of shp2 (hel 1 (by decide)) a1.symm
    have e2 := shape_of shp3 (hel 2 (by decide)) a2.symm
    have e3 := shape_of shp4 (hel 3 (by decide)) a3.symm
    have e4 := shape_of shp5 (hel 4 (by decide)) a4.symm
    have hl : cs0.toList = [shp1, shp2, shp3, shp4, shp5].flatMap Shp.cells := by
      have s0 := List.take_append_drop 5 cs0.toList
      have s1 := List.take_append_drop 5 (cs0.toList.drop 5)
      have s2 := List.take_append_drop 5 (cs0.toList.drop 10)
      have s3 := List.take_append_drop 5 (cs0.toList.drop 15)
      have s4 := List.take_append_drop 5 (cs0.toList.drop 20)
      have s5 : cs0.toList.drop 25 = [] := List.drop_eq_nil_of_le (by omega)
      rw [List.drop_drop] at s1 s2 s3 s4
      simp only [Nat.zero_mul, Nat.one_mul, Nat.reduceMul, List.drop_zero, Nat.reduceAdd] at e0 e1 e2 e3 e4 s1 s2 s3 s4
      rw [← s0, e0, ← s1, e1, ← s2, e2, ← s3, e3, ← s4, e4, s5]
      rfl
    intro j v hv
    rw [← hl] at hv
    have := World.var?_cell hg0 hv0 j
    rw [this]
    simpa using hv

/-- The door's own heap meets the condition. -/
theorem door_met (os : Os) (args : Array Value) : laidMetH Tryz.prog shapesLaid ((World.doorLaid Tryz.prog 400 os).forCall (fun _ _ => 0) ⟨#[], args, []⟩).memory :=
  laidMetH_of_parts3 (fuel := 8) (laidMet_of_run' 8 (by kernel_rfl) (by kernel_rfl)) (by kernel_rfl) (by kernel_rfl)

end Go.Proofs.YtiejcohammeoeaaGreatDoor
