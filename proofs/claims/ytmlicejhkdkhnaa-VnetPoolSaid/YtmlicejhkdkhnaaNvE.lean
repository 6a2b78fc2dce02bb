/-
  Layer 4: Sent. No conditions but that a device's side lies there.
-/
import Derived.Test.YtmlicejhkdkhnaaNvD
namespace Go.Proofs.Ytmlicejhkdkhnaa
open Go.RowKit Go.Conc Go.Sort
set_option linter.unusedVariables false

/-- A device's side's blocks, and its counts. -/
structure Dk where
  p : Nat
  g : Nat
  h : Nat
  pc : Nat
  pg : Nat
structure Dv where
  tc : Int
  oc : Int
  tg : Int
  og : Int
/-- A device's side that Open made, over a memory. -/
structure DS (w : World) (d : Dk) (lm : List UInt8) (base : Int) (x : Dv) : Prop where
  c : PS w d.pc d.g d.h lm base 8 x.tc x.oc
  g : PS w d.pg d.g d.h lm (base + 224) 8 x.tg x.og
  pt : PtAt w d.p d.g d.pc d.pg
  q : d.pc ≠ d.pg
def Dk.own (d : Dk) (j : Nat) : Prop := j = d.p ∨ j = d.pc ∨ j = d.pg
def Dk.all (d : Dk) (j : Nat) : Prop := j = d.h ∨ d.own j
section
variable {w w' : World} {d : Dk} {lm : List UInt8} {base : Int} {x : Dv}
theorem PS.kp {p g h : Nat} {n : Nat} {taken told : Int} (s : PS w p g h lm base n taken told) : Kd w p 114 := ⟨_, s.at_, rfl⟩
theorem PtAt.kd {p g pc pg : Nat} (h : PtAt w p g pc pg) : Kd w p 56 := ⟨_, h, rfl⟩
theorem DS.mem (s : DS w d lm base x) : Mem w d.g d.h lm := s.c.mem
theorem DS.grown (s : DS w d lm base x) (k : w.grownBy w' none) : DS w' d lm base x :=
  have t : Turned (fun _ => False) w w' := Turned.of k (fun j e => by cases e)
  ⟨s.c.carry t (fun h => h) (s.mem.same k) rfl, s.g.carry t (fun h => h) (s.mem.same k) rfl, s.pt.kept (k.block _ (lt_of_block s.pt) (by simp)), s.q⟩
theorem DS.other (s : DS w d lm base x) {S : Nat → Prop} (t : Turned S w w') (hS : ∀ j, S j → ¬ d.own j) {lm' : List UInt8} (m' : Mem w' d.g d.h lm') (hl : lm'.length = lm.length) : DS w' d lm' base x :=
  ⟨s.c.carry t (fun e => hS _ e (.inr (.inl rfl))) m' hl, s.g.carry t (fun e => hS _ e (.inr (.inr rfl))) m' hl, s.pt.kept (t.block _ (lt_of_block s.pt) (fun e => hS _ e (.inl rfl))), s.q⟩
theorem DS.ap (s : DS w d lm base x) : d.p ≠ d.h ∧ d.p ≠ d.pc ∧ d.p ≠ d.pg ∧ d.pc ≠ d.h ∧ d.pg ≠ d.h :=
  ⟨s.pt.kd.ne s.mem.kh (by decide), s.pt.kd.ne s.c.kp (by decide), s.pt.kd.ne s.g.kp (by decide), s.c.kp.ne s.mem.kh (by decide), s.g.kp.ne s.mem.kh (by decide)⟩
theorem DS.stepC (s : DS w d lm base x) {lm' : List UInt8} {tc oc : Int} (t : Turned (fun j => j = d.h ∨ j = d.pc) w w') (c' : PS w' d.pc d.g d.h lm' base 8 tc oc) (hl : lm'.length = lm.length) : DS w' d lm' base { x with tc := tc, oc := oc } := by
  obtain ⟨a1, a2, a3, a4, a5⟩ := s.ap
  exact ⟨c', s.g.carry t (fun h => h.elim a5 (fun h => s.q h.symm)) c'.mem hl, s.pt.kept (t.block _ (lt_of_block s.pt) (fun h => h.elim a1 a2)), s.q⟩
theorem DS.stepG (s : DS w d lm base x) {lm' : List UInt8} {tg og : Int} (t : Turned (fun j => j = d.h ∨ j = d.pg) w w') (g' : PS w' d.pg d.g d.h lm' (base + 224) 8 tg og) (hl : lm'.length = lm.length) : DS w' d lm' base { x with tg := tg, og := og } := by
  obtain ⟨a1, a2, a3, a4, a5⟩ := s.ap
  exact ⟨s.c.carry t (fun h => h.elim a4 (fun h => s.q h)) g'.mem hl, g', s.pt.kept (t.block _ (lt_of_block s.pt) (fun h => h.elim a1 a3)), s.q⟩
theorem DS.notI (s : DS w d lm base x) : NotI w d.all := by
  rintro j (e | e | e | e) y hy
  · exact s.c.notI j (.inl e) y hy
  · rw [e, s.pt.c0] at hy; cases hy
  · exact s.c.notI j (.inr e) y hy
  · exact s.g.notI j (.inr e) y hy
theorem DS.noStr (s : DS w d lm base x) : ∀ j, d.all j → ¬ Kd w j 9 := by
  rintro j (e | e | e | e) hk
  · exact hk.ne s.mem.kh (by decide) e
  · exact hk.ne s.pt.kd (by decide) e
  · exact hk.ne s.c.kp (by decide) e
  · exact hk.ne s.g.kp (by decide) e
/-- A driver's blocks are no device's. -/
theorem DS.apart (s : DS w d lm base x) {k : Bk} {v : Nv} {bc bg : Bool} (n : NS w k v bc bg) : ∀ j, k.own j → ¬ d.own j := by
  rintro j h1 h2
  have hd : Kd w j 56 ∨ Kd w j 114 := by
    rcases h2 with e | e | e <;> rw [e]
    · exact .inl s.pt.kd
    · exact .inr s.c.kp
    · exact .inr s.g.kp
  rcases h1 with e | e | e | e | e | e | e <;> rw [e] at hd <;> rcases hd with hd | hd
  · exact hd.ne n.nic.kd (by decide) rfl
  · exact hd.ne n.nic.kd (by decide) rfl
  · exact hd.ne n.c.kq (by decide) rfl
  · exact hd.ne n.c.kq (by decide) rfl
  · exact hd.ne n.c.km (by decide) rfl
  · exact hd.ne n.c.km (by decide) rfl
  · exact hd.ne n.g.kq (by decide) rfl
  · exact hd.ne n.g.kq (by decide) rfl
  · exact hd.ne n.g.km (by decide) rfl
  · exact hd.ne n.g.km (by decide) rfl
  · exact hd.ne n.pool.kp (by decide) rfl
  · exact hd.ne n.pool.kp (by decide) rfl
  · exact hd.ne n.pool.kc (by decide) rfl
  · exact hd.ne n.pool.kc (by decide) rfl
end

theorem ps_made {w : World} {p g h : Nat} {l : List UInt8} {base : Int} (m : Mem w g h l) (hl : l.length ≤ 65536) (hp : PAt w p g base 8 0 0) (b0 : 0 ≤ base) (b1 : base + 216 ≤ l.length) : PS w p g h l base 8 0 0 :=
  ⟨m, hl, hp, b0, by rw [show bytesOf (8 : Nat) = 216 by decide]; exact b1, by decide, by omega, by omega, by omega, by omega⟩

set_option maxRecDepth 100000 in
set_option maxHeartbeats 1000000 in
theorem open4_none (w : World) (p : Option Addr) (hp : IsNone w p) (base : Int) :
    Calls Try.prog 10 #[.pointer p, .int .i64 base] w fun e w' => e = .returned (.tuple #[.pointer none, .int .i64 2]) ∧ w.grownBy w' none := by
  have RC := Lib.hid (refuse4_none w p hp base)
  clear hp
  go_enter Try.func10, Try.ntmps10
  go_wp2_with fail
  refine RC.out.mono ?_
  rintro e w1 ⟨rfl, k1⟩
  go_wp2_with fail
  go_ret2
  exact ⟨rfl, k1⟩
set_option maxRecDepth 100000 in
set_option maxHeartbeats 1000000 in
theorem open4_err (w : World) (g h : Nat) (l : List UInt8) (m : Mem w g h l) (base : Int) (l0 : 1 ≤ l.length) (l1 : l.length ≤ 65536) (hbs : base ≤ 9223372036854775807) (E : Int) (hE : E = vbar l.length base) (hz : (E == 0) = false) :
    Calls Try.prog 10 #[.pointer (some ⟨g, 0, none⟩), .int .i64 base] w fun e w' => e = .returned (.tuple #[.pointer none, .int .i64 E]) ∧ w.grownBy w' none := by
  have RC := Lib.hid (refuse4_any w g h l m base l0 l1 hbs E hE)
  clear hE m
  go_enter Try.func10, Try.ntmps10
  go_wp2_with fail
  refine RC.out.mono ?_
  rintro e w1 ⟨rfl, k1⟩
  go_wp2_with fail
  go_ret2
  exact ⟨rfl, k1⟩
set_option maxRecDepth 100000 in
set_option maxHeartbeats 4000000 in
theorem open4_ok (w : World) (g h : Nat) (l : List UInt8) (m : Mem w g h l) (base : Int) (l0 : 1 ≤ l.length) (l1 : l.length ≤ 65536) (hbs : base ≤ 9223372036854775807) (hE : vbar l.length base = 0) :
    Calls Try.prog 10 #[.pointer (some ⟨g, 0, none⟩), .int .i64 base] w fun e w' => ∃ d : Dk, d.g = g ∧ d.h = h ∧ e = .returned (.tuple #[.pointer (some ⟨d.p, 0, none⟩), .int .i64 0]) ∧ DS w' d l base ⟨0, 0, 0, 0⟩ ∧ (∀ j, d.own j → w.heap.size ≤ j) ∧ w.grownBy w' none := by
  obtain ⟨e1, e2, b0, b16, b1⟩ := vbar_ok hE
  have RC := Lib.hid (refuse4_any w g h l m base l0 l1 hbs 0 hE.symm)
  have M := Lib.hid m
  have hw : IntKind.i64.wrap (base + 224) = base + 224 := wrap_small _ (by omega) (by omega)
  clear hE m
  go_enter Try.func10, Try.ntmps10
  go_wp2_with fail
  refine RC.out.mono ?_
  rintro e w1 ⟨rfl, k1⟩
  have K1 := Lib.hid k1
  have OC1 := Lib.hid (Open_ok w1 g h l (M.out.same k1) base 8 l0 l1 (by omega) hbs e1)
  clear k1 RC
  go_wp2_with fail
  refine OC1.out.mono ?_
  rintro e w2 ⟨pc, rfl, pc0, pca, k2⟩
  have K2 := Lib.hid (K1.out.trans k2)
  have OC2 := Lib.hid (Open_ok w2 g h l (M.out.same K2.out) (base + 224) 8 l0 l1 (by omega) (by omega) e2)
  have PC2 := Lib.hid pca
  clear k2 pca OC1
  go_wp2_with fail
  refine OC2.out.mono ?_
  rintro e w3 ⟨pg, rfl, pg0, pga, k3⟩
  have K3 := Lib.hid (K2.out.trans k3)
  have PC3 := Lib.hid (show PAt w3 pc g base 8 0 0 from PC2.out.kept (k3.block _ (lt_of_block PC2.out) (by simp)))
  have PG3 := Lib.hid pga
  have hlt := lt_of_block PC2.out
  have z1 := K1.out.size
  have z2 := K2.out.size
  have z3 := K3.out.size
  clear k3 pga OC2
  go_wp2_with fail
  generalize hw4 : w3.alloc _ = w4
  have k4 : w3.grownBy w4 none := by rw [← hw4]; exact World.grownBy_alloc _ _ _
  have hp4 : PtAt w4 w3.heap.size g pc pg := by rw [← hw4]; exact heap_alloc_new w3 _
  have m4 := M.out.same (K3.out.trans k4)
  have D4 := Lib.hid (show DS w4 ⟨w3.heap.size, g, h, pc, pg⟩ l base ⟨0, 0, 0, 0⟩ from
    ⟨ps_made m4 l1 (PC3.out.kept (k4.block _ (lt_of_block PC3.out) (by simp))) b0 (by omega), ps_made m4 l1 (PG3.out.kept (k4.block _ (lt_of_block PG3.out) (by simp))) (by omega) (by omega), hp4, by show pc ≠ pg; omega⟩)
  have K4 := Lib.hid (K3.out.trans k4)
  clear k4 hp4 m4 hw4
  try go_wp2_with fail
  go_ret2
  refine ⟨⟨w3.heap.size, g, h, pc, pg⟩, rfl, rfl, rfl, D4.out, ?_, K4.out⟩
  rintro j (e | e | e) <;> rw [e] <;> simp only <;> omega

end Go.Proofs.Ytmlicejhkdkhnaa

namespace Go.Proofs.Ytmlicejhkdkhnaa
open Go.RowKit Go.Conc Go.Sort
set_option linter.unusedVariables false

/-- What a chain of these buffers brings. -/
def pframeF (lm : List UInt8) : List Bf → Option (List UInt8)
  | [b] => if b.wr = false ∧ 12 ≤ b.n ∧ textE lm (b.a + 12) (b.n - 12) = 0 then some (textS lm (b.a + 12) (b.n - 12)) else none
  | _ => none

set_option maxRecDepth 100000 in
set_option maxHeartbeats 4000000 in
theorem pframe_any {w : World} {d : Dk} {lm : List UInt8} {base : Int} {x : Dv} (s : DS w d lm base x) (v : Value) (l : List Bf) (hv : IsBufs w v l) (hb : ∀ b ∈ l, 0 ≤ b.a ∧ b.a ≤ 65536 ∧ 0 ≤ b.n ∧ b.n ≤ 65536) :
    Calls Try.prog 44 #[.pointer (some ⟨d.p, 0, none⟩), v] w fun e w' => e = .returned (frameV (pframeF lm l)) ∧ w.grownBy w' none := by
  obtain ⟨p, cap, rfl, hl, hc⟩ := hv
  have hlen := s.c.len
  have S0 := Lib.hid s
  by_cases h1 : l.length = 1
  · match l, h1 with
    | [⟨ba, bn, bw⟩], _ =>
      obtain ⟨bb, oo, rfl, hcc⟩ := hc (by simp)
      obtain ⟨c0, c1, c2⟩ := hcc 0 (by simp)
      simp only [Nat.zero_mul, Nat.add_zero, List.getElem_cons_zero] at c0 c1 c2
      obtain ⟨a0, a1, n0, n1⟩ := hb _ List.mem_cons_self
      simp only at a0 a1 n0 n1
      clear hc hcc hb hl
      cases bw with
      | true =>
        have hp : pframeF lm [⟨ba, bn, true⟩] = none := by simp [pframeF]
        rw [hp]
        unfold frameV
        clear s hp
        go_enter Try.func44, Try.ntmps44
        go_wp2_with fail
        go_ret2
        exact ⟨rfl, World.grownBy.refl _ _⟩
      | false =>
        by_cases hn : bn < 12
        · have hp : pframeF lm [⟨ba, bn, false⟩] = none := by
            show (if false = false ∧ 12 ≤ bn ∧ textE lm (ba + 12) (bn - 12) = 0 then some (textS lm (ba + 12) (bn - 12)) else none) = none
            rw [if_neg (fun h => by omega)]
          rw [hp]
          unfold frameV
          clear s hp
          go_enter Try.func44, Try.ntmps44
          go_wp2_with fail
          go_ret2
          exact ⟨rfl, World.grownBy.refl _ _⟩
        · have TC := Lib.hid (fun V (k : w.grownBy V none) => Text_all (w := V) (g := d.g) (h := d.h) (l := lm) (s.mem.same k) (by omega) (ba + 12) (bn - 12) (by omega))
          have w1 : IntKind.i64.wrap (ba + 12) = ba + 12 := wrap_small _ (by omega) (by omega)
          have w2 : IntKind.i64.wrap (bn - 12) = bn - 12 := wrap_small _ (by omega) (by omega)
          obtain ⟨E, hE⟩ : ∃ E, E = textE lm (ba + 12) (bn - 12) := ⟨_, rfl⟩
          obtain ⟨L, hL⟩ : ∃ L, L = textS lm (ba + 12) (bn - 12) := ⟨_, rfl⟩
          rw [← hE, ← hL] at TC
          have hp : pframeF lm [⟨ba, bn, false⟩] = if E = 0 then some L else none := by
            show (if false = false ∧ 12 ≤ bn ∧ textE lm (ba + 12) (bn - 12) = 0 then some (textS lm (ba + 12) (bn - 12)) else none) = _
            rw [← hE, ← hL]
            by_cases h : E = 0
            · rw [if_pos h, if_pos ⟨rfl, by omega, h⟩]
            · rw [if_neg h, if_neg (fun h' => h h'.2.2)]
          have hL0 : E ≠ 0 → L = [] := fun h => by rw [hL]; unfold textS; rw [if_neg (by rw [← hE]; exact h)]
          have hfv : frameV (pframeF lm [⟨ba, bn, false⟩]) = .tuple #[.string ⟨L.toArray⟩, .bool (E == 0)] := by
            rw [hp]
            by_cases h : E = 0
            · rw [if_pos h, h]; rfl
            · rw [if_neg h, hL0 h]
              have : (E == 0) = false := by simpa using h
              rw [this]; rfl
          rw [hfv]
          have cc : ∀ i u, w.cell? ⟨bb, i, none⟩ = some u → ∀ V, w.grownBy V none → V.cell? ⟨bb, i, none⟩ = some u := fun i u hu V k => (World.cell?_of_block (w := w) (a := ⟨bb, i, none⟩) (k.block _ (World.block_lt_of_cell? w _ hu) (by simp))).trans hu
          have C0 := Lib.hid (cc _ _ c0)
          have C1 := Lib.hid (cc _ _ c1)
          clear s hp hfv hE hL hL0 cc
          go_enter Try.func44, Try.ntmps44
          go_wp2_with fail
          clear c0 c1 c2
          refine wp_region_noPanic ?_
          refine region_held (S := fun V => w.grownBy V none) (by kernel_rfl) (fun V dd => dd.grown) (fun V dd hS => ?_)
          refine wpAnyH_take (i := 0) (oi := ⟨some 25, Op.move (Operand.tmp 0), _, _, _, none⟩) (v := (.pointer (some ⟨d.p, 0, none⟩))) rfl (by kernel_rfl) (by kernel_rfl) (by kernel_rfl) (fun _ _ _ h => h) (Or.inl ⟨by rfl, fun w' h' => ?_⟩) hS ?_
          · clear h'
            go_simp
          simp only [Act.put]
          refine wpAnyH_take (i := 1) (oi := ⟨some 26, Op.nilCheck (Operand.tmp 25), _, _, _, none⟩) (v := (.pointer (some ⟨d.p, 0, none⟩))) rfl (by kernel_rfl) (by kernel_rfl) (by kernel_rfl) (fun _ _ _ h => h) (Or.inl ⟨by rfl, fun w' h' => ?_⟩) hS ?_
          · clear h'
            go_simp
          simp only [Act.put]
          refine wpAnyH_take (i := 2) (oi := ⟨some 27, Op.fieldAddr 56 (Operand.tmp 26) 0, _, _, _, none⟩) (v := (.pointer (some ⟨d.p, 0, none⟩))) rfl (by kernel_rfl) (by kernel_rfl) (by kernel_rfl) (fun _ _ _ h => h) (Or.inl ⟨by rfl, fun w' h' => ?_⟩) hS ?_
          · clear h'
            go_simp
          simp only [Act.put]
          refine wpAnyH_take (i := 3) (oi := ⟨some 28, Op.load 22 (Operand.tmp 27), _, _, _, none⟩) (v := (.pointer (some ⟨d.g, 0, none⟩))) rfl (by kernel_rfl) (by kernel_rfl) (by kernel_rfl) (fun _ _ _ h => h) (Or.inl ⟨by rfl, fun w' h' => ?_⟩) hS ?_
          · have c0 := (S0.out.grown h').pt.c0
            clear h'
            go_simp
          simp only [Act.put]
          refine wpAnyH_take (i := 4) (oi := ⟨some 29, Op.move (Operand.tmp 1), _, _, _, none⟩) (v := (.slice (some ⟨bb, oo, none⟩) 1 cap)) rfl (by kernel_rfl) (by kernel_rfl) (by kernel_rfl) (fun _ _ _ h => h) (Or.inl ⟨by rfl, fun w' h' => ?_⟩) hS ?_
          · clear h'
            go_simp
          simp only [Act.put]
          refine wpAnyH_take (i := 5) (oi := ⟨some 30, Op.indexAddr 84 (Operand.tmp 29) (Operand.const (Value.int IntKind.i64 0)), _, _, _, none⟩) (v := (.pointer (some ⟨bb, oo, none⟩))) rfl (by kernel_rfl) (by kernel_rfl) (by kernel_rfl) (fun _ _ _ h => h) (Or.inl ⟨by rfl, fun w' h' => ?_⟩) hS ?_
          · clear h'
            go_simp
          simp only [Act.put]
          refine wpAnyH_take (i := 6) (oi := ⟨some 31, Op.fieldAddr 83 (Operand.tmp 30) 0, _, _, _, none⟩) (v := (.pointer (some ⟨bb, oo, none⟩))) rfl (by kernel_rfl) (by kernel_rfl) (by kernel_rfl) (fun _ _ _ h => h) (Or.inl ⟨by rfl, fun w' h' => ?_⟩) hS ?_
          · clear h'
            go_simp
          simp only [Act.put]
          refine wpAnyH_take (i := 7) (oi := ⟨some 32, Op.load 3 (Operand.tmp 31), _, _, _, none⟩) (v := (.int .i64 ba)) rfl (by kernel_rfl) (by kernel_rfl) (by kernel_rfl) (fun _ _ _ h => h) (Or.inl ⟨by rfl, fun w' h' => ?_⟩) hS ?_
          · have c0 := C0.out _ h'
            clear h'
            go_simp
          simp only [Act.put]
          refine wpAnyH_take (i := 8) (oi := ⟨some 33, Op.binOp BinOp.add 3 (Operand.tmp 32) (Operand.const (Value.int IntKind.i64 12)) 3, _, _, _, none⟩) (v := (.int .i64 (ba + 12))) rfl (by kernel_rfl) (by kernel_rfl) (by kernel_rfl) (fun _ _ _ h => h) (Or.inl ⟨by rfl, fun w' h' => ?_⟩) hS ?_
          · clear h'
            go_simp
          simp only [Act.put]
          refine wpAnyH_take (i := 9) (oi := ⟨some 34, Op.move (Operand.tmp 1), _, _, _, none⟩) (v := (.slice (some ⟨bb, oo, none⟩) 1 cap)) rfl (by kernel_rfl) (by kernel_rfl) (by kernel_rfl) (fun _ _ _ h => h) (Or.inl ⟨by rfl, fun w' h' => ?_⟩) hS ?_
          · clear h'
            go_simp
          simp only [Act.put]
          refine wpAnyH_take (i := 10) (oi := ⟨some 35, Op.indexAddr 84 (Operand.tmp 34) (Operand.const (Value.int IntKind.i64 0)), _, _, _, none⟩) (v := (.pointer (some ⟨bb, oo, none⟩))) rfl (by kernel_rfl) (by kernel_rfl) (by kernel_rfl) (fun _ _ _ h => h) (Or.inl ⟨by rfl, fun w' h' => ?_⟩) hS ?_
          · clear h'
            go_simp
          simp only [Act.put]
          refine wpAnyH_take (i := 11) (oi := ⟨some 36, Op.fieldAddr 83 (Operand.tmp 35) 1, _, _, _, none⟩) (v := (.pointer (some ⟨bb, oo + 1, none⟩))) rfl (by kernel_rfl) (by kernel_rfl) (by kernel_rfl) (fun _ _ _ h => h) (Or.inl ⟨by rfl, fun w' h' => ?_⟩) hS ?_
          · clear h'
            go_simp
          simp only [Act.put]
          refine wpAnyH_take (i := 12) (oi := ⟨some 37, Op.load 3 (Operand.tmp 36), _, _, _, none⟩) (v := (.int .i64 bn)) rfl (by kernel_rfl) (by kernel_rfl) (by kernel_rfl) (fun _ _ _ h => h) (Or.inl ⟨by rfl, fun w' h' => ?_⟩) hS ?_
          · have c0 := C1.out _ h'
            clear h'
            go_simp
          simp only [Act.put]
          refine wpAnyH_take (i := 13) (oi := ⟨some 38, Op.binOp BinOp.sub 3 (Operand.tmp 37) (Operand.const (Value.int IntKind.i64 12)) 3, _, _, _, none⟩) (v := (.int .i64 (bn - 12))) rfl (by kernel_rfl) (by kernel_rfl) (by kernel_rfl) (fun _ _ _ h => h) (Or.inl ⟨by rfl, fun w' h' => ?_⟩) hS ?_
          · clear h'
            go_simp
          simp only [Act.put]
          refine wpAnyH_ready (rs := [14]) (by kernel_rfl) (by simp) ?_
          refine AllReadyH.cons rfl (fun K hK => ?_) AllReadyH.nil
          go_simp
          refine (TC.out V hS).mono ?_
          rintro e w2 ⟨rfl, rfl⟩
          go_simp
          refine hK.out _ _ hS (fun _ => ?_)
          clear hK K
          refine wpAnyH_take (i := 15) (oi := ⟨some 24, Op.move (Operand.tmp 39), _, _, _, none⟩) (v := (.tuple #[.string ⟨L.toArray⟩, .int .i64 E])) rfl (by kernel_rfl) (by kernel_rfl) (by kernel_rfl) (fun _ _ _ h => h) (Or.inl ⟨by rfl, fun w' h' => ?_⟩) hS ?_
          · clear h'
            go_simp
          simp only [Act.put]
          refine wpAnyH_take (i := 16) (oi := ⟨some 40, Op.extract (Operand.tmp 24) 0, _, _, _, none⟩) (v := (.string ⟨L.toArray⟩)) rfl (by kernel_rfl) (by kernel_rfl) (by kernel_rfl) (fun _ _ _ h => h) (Or.inl ⟨by rfl, fun w' h' => ?_⟩) hS ?_
          · clear h'
            go_simp
          simp only [Act.put]
          refine wpAnyH_take (i := 17) (oi := ⟨some 41, Op.extract (Operand.tmp 24) 1, _, _, _, none⟩) (v := (.int .i64 E)) rfl (by kernel_rfl) (by kernel_rfl) (by kernel_rfl) (fun _ _ _ h => h) (Or.inl ⟨by rfl, fun w' h' => ?_⟩) hS ?_
          · clear h'
            go_simp
          simp only [Act.put]
          refine wpAnyH_take (i := 18) (oi := ⟨some 6, Op.assign (Operand.tmp 40), _, _, _, none⟩) (v := (.string ⟨L.toArray⟩)) rfl (by kernel_rfl) (by kernel_rfl) (by kernel_rfl) (fun _ _ _ h => h) (Or.inl ⟨by rfl, fun w' h' => ?_⟩) hS ?_
          · clear h'
            go_simp
          simp only [Act.put]
          refine wpAnyH_take (i := 19) (oi := ⟨some 7, Op.assign (Operand.tmp 41), _, _, _, none⟩) (v := (.int .i64 E)) rfl (by kernel_rfl) (by kernel_rfl) (by kernel_rfl) (fun _ _ _ h => h) (Or.inl ⟨by rfl, fun w' h' => ?_⟩) hS ?_
          · clear h'
            go_simp
          simp only [Act.put]
          refine wpAnyH_done (by kernel_rfl) (NoPanic.normal ?_) _
          have HK := Lib.hid hS
          clear hS dd
          go_wp2_with fail
          go_ret2
          exact ⟨rfl, HK.out⟩
  · have hp : pframeF lm l = none := by
      match l, h1 with
      | [], _ => rfl
      | a :: b :: l, _ => rfl
    rw [hp]
    have hd : decide ((l.length : Int) = 1) = false := decide_eq_false (by omega)
    have hz : ((l.length : Int) == 1) = false := beq_eq_false_iff_ne.2 (by omega)
    have hz2 : ((l.length : Int) != 1) = true := by simp; omega
    generalize l.length = m at hd hz hz2 ⊢
    clear hc hb s hp h1 hl
    unfold frameV
    go_enter Try.func44, Try.ntmps44
    go_wp2_with fail
    go_ret2
    exact ⟨rfl, World.grownBy.refl _ _⟩

end Go.Proofs.Ytmlicejhkdkhnaa

namespace Go.Proofs.Ytmlicejhkdkhnaa
open Go.RowKit Go.Conc Go.Sort
set_option linter.unusedVariables false

theorem follow_each (lm : List UInt8) (base : Int) (n : Nat) (P : Bf → Prop) (hP : ∀ i, (dX lm base i).2 = true → P (bfOf (dX lm base i).1)) : ∀ (f : Nat) (i : Int) (acc l : List Bf), followF lm base n f i acc = some l → (∀ x ∈ acc, P x) → ∀ x ∈ l, P x
  | 0, _, _, _, h, _ => by cases h
  | f + 1, i, acc, l, h, ha => by
    rw [followF_succ] at h
    split at h
    · split at h
      · rename_i hd
        have hacc : ∀ x ∈ acc ++ [bfOf (dX lm base i).1], P x := by
          intro x hx
          rcases List.mem_append.1 hx with hx | hx
          · exact ha x hx
          · rw [List.mem_singleton] at hx; subst hx; exact hP i hd
        split at h
        · split at h
          · injection h with h; subst h; exact hacc
          · cases h
        · exact follow_each lm base n P hP f _ _ l h hacc
      · cases h
    · cases h
theorem follow_in {lm : List UInt8} {base : Int} {n : Nat} {i : Int} {l : List Bf} (h : followF lm base n n i [] = some l) (l2 : lm.length ≤ 65536) : ∀ x ∈ l, 0 ≤ x.a ∧ x.a ≤ 65536 ∧ 0 ≤ x.n ∧ x.n ≤ 65536 := by
  refine follow_each lm base n (fun x => 0 ≤ x.a ∧ x.a ≤ 65536 ∧ 0 ≤ x.n ∧ x.n ≤ 65536) (fun i hi => ?_) n i [] l h (by simp)
  unfold dX dbuf at hi ⊢
  split at hi
  · cases hi
  · rename_i hc
    rw [if_neg hc]
    show 0 ≤ (getX lm (base + 16 * i) 8 : Int) ∧ (getX lm (base + 16 * i) 8 : Int) ≤ 65536 ∧ 0 ≤ (getX lm (base + 16 * i + 8) 4 : Int) ∧ (getX lm (base + 16 * i + 8) 4 : Int) ≤ 65536
    omega
theorem wrap_u32N (x : Int) (h0 : 0 ≤ x) (h1 : x ≤ 65535) : IntKind.u32.wrap x = x := by
  simp [IntKind.wrap, IntKind.bits, IntKind.signed]
  omega

/-- The next chain's buffers, if there is one with a form. -/
def takeF (lm : List UInt8) (base tg : Int) : Option (List Bf) :=
  if offI lm base 8 = tg ∨ 8 < (offI lm base 8 - tg) % 65536 then none else followF lm base 8 8 (offHead lm base 8 tg) []
/-- What Sent makes of the memory and of the device's counts, and what it tells, in at most so many steps. -/
def sentF (base : Int) : Nat → List UInt8 → Dv → List (List UInt8) → (List UInt8 × Dv) × List (List UInt8)
  | 0, lm, x, l => ((lm, x), l)
  | f + 1, lm, x, l =>
    match takeF lm (base + 224) x.tg with
    | none => ((lm, x), l)
    | some bs => sentF base f (vdoneL lm (base + 224) 8 x.og (offHead lm (base + 224) 8 x.tg) 0) { x with tg := (x.tg + 1) % 65536, og := (x.og + 1) % 65536 } (l ++ (pframeF lm bs).toList)
theorem sentF_no {base : Int} {f : Nat} {lm : List UInt8} {x : Dv} {l : List (List UInt8)} (h : takeF lm (base + 224) x.tg = none) : sentF base (f + 1) lm x l = ((lm, x), l) := by rw [sentF, h]
theorem sentF_yes {base : Int} {f : Nat} {lm : List UInt8} {x : Dv} {l : List (List UInt8)} {bs : List Bf} (h : takeF lm (base + 224) x.tg = some bs) :
    sentF base (f + 1) lm x l = sentF base f (vdoneL lm (base + 224) 8 x.og (offHead lm (base + 224) 8 x.tg) 0) { x with tg := (x.tg + 1) % 65536, og := (x.og + 1) % 65536 } (l ++ (pframeF lm bs).toList) := by rw [sentF, h]

/-- How far the offered ring is ahead of the device's count, as it stands in the port's block. -/
def aheadD (U : Int) (p : Nat) (w : World) : Nat := ((U - intOf ((w.cell? ⟨p, 3, none⟩).getD undef)) % 65536).toNat
theorem PS.aheadD {w : World} {p g h : Nat} {lm : List UInt8} {base : Int} {n : Nat} {taken told : Int} (s : PS w p g h lm base n taken told) (U : Int) : Go.Proofs.Ytmlicejhkdkhnaa.aheadD U p w = ((U - taken) % 65536).toNat := by
  unfold Go.Proofs.Ytmlicejhkdkhnaa.aheadD
  rw [s.at_.c3]
  rfl
theorem vdone_offI {lm : List UInt8} {base : Int} (told h k : Int) : offI (vdoneL lm base 8 told h k) base 8 = offI lm base 8 := by
  unfold offI
  rw [vdone_before lm base 8 (by omega) (by omega) told h k _ _ (by have := used_ge 8; omega)]
/-- A row of texts has turned: the device's side stays. -/
theorem DS.row {w w' : World} {d : Dk} {lm : List UInt8} {base : Int} {x : Dv} (s : DS w d lm base x) {v : Value} {l : List (List UInt8)} (h : SRow w v l) (g : w.grownBy w' v.ownBlock) : DS w' d lm base x := by
  have t : Turned (fun j => v.ownBlock = some j) w w' := Turned.of g (fun j e => e)
  have hk : ∀ j, v.ownBlock = some j → Kd w j 9 := fun j e => StrRow.kd h.row e
  have m' := t.mem s.mem (fun e => (hk _ e).ne s.mem.kg (by decide) rfl) (fun e => (hk _ e).ne s.mem.kh (by decide) rfl)
  exact s.other t (fun j e ho => s.noStr j (.inr ho) (hk j e)) m' rfl

set_option maxRecDepth 100000 in
set_option maxHeartbeats 4000000 in
theorem sent_any {w : World} {d : Dk} {lm : List UInt8} {base : Int} {x : Dv} (s : DS w d lm base x) (R : (List UInt8 × Dv) × List (List UInt8)) (hR : R = sentF base (((offI lm (base + 224) 8 - x.tg) % 65536).toNat + 1) lm x []) :
    Calls Try.prog 13 #[.pointer (some ⟨d.p, 0, none⟩)] w fun e w' => ∃ y, e = .returned y ∧ SRow w' y R.2 ∧ (∀ b, y.ownBlock = some b → w.heap.size ≤ b) ∧ DS w' d R.1.1 base R.1.2 ∧ R.1.1.length = lm.length ∧ Turned d.all w w' := by
  have NN := Lib.hid (ptnone_no w d.p s.pt.c3)
  have hU := offI_bd lm (base + 224) 8
  obtain ⟨U, eU⟩ : ∃ U, U = offI lm (base + 224) 8 := ⟨_, rfl⟩
  rw [← eU] at hU hR
  obtain ⟨F, eF⟩ : ∃ F, F = ((U - x.tg) % 65536).toNat + 1 := ⟨_, rfl⟩
  have hF : F ≤ 65536 := by omega
  rw [← eF] at hR
  have hlen := s.c.len
  have S0 := Lib.hid (s.grown (World.grownBy_alloc w (.cells #[] 9) none))
  have K0 := Lib.hid (World.grownBy_alloc w (.cells #[] 9) none)
  have R0 := Lib.hid (SRow.new w)
  have HR := Lib.hid hR
  have EF := Lib.hid eF
  have EU := Lib.hid eU
  obtain ⟨i0, hi, hz0, hz1, hz2⟩ := info_parts info_strK
  have I1 := Lib.hid hi
  have I2 := Lib.hid hz0
  have I3 := Lib.hid hz1
  have I4 := Lib.hid hz2
  clear s hR eF eU hi hz0 hz1 hz2
  go_enter Try.func13, Try.ntmps13
  go_wp2_with (go_at_call 42; refine NN.out.mono ?_; rintro e w' ⟨rfl, rfl⟩)
  generalize w.alloc (.cells #[] 9) = W0 at S0 K0 R0 ⊢
  clear NN
  go_loopw [3] (fun lv wr => ∃ (mm : List UInt8) (u : Dv) (l : List (List UInt8)) (f : Nat), DS wr d mm base u ∧ mm.length = lm.length ∧ Hid (l.length + f ≤ F) ∧ Hid (f = ((U - u.tg) % 65536).toNat + 1) ∧ Hid (R = sentF base f mm u l) ∧ Hid (offI mm (base + 224) 8 = U) ∧ SRow wr lv l ∧ (∀ b, lv.ownBlock = some b → w.heap.size ≤ b) ∧ Turned d.all w wr) (fun _ wr => aheadD U d.pg wr)
  case atStart => exact ⟨lm, x, [], F, S0.out, rfl, Lib.hid (by simp), EF, HR, Lib.hid EU.out.symm, R0.out, fun b hb => Nat.le_of_eq (by simpa [Value.ownBlock] using hb), Turned.of K0.out (fun j e => by cases e)⟩
  case round =>
    obtain ⟨mm, u, l, f, s, hml, HL, HFE, HRR, HU, row, hge, t⟩ := hrel
    have c2 := s.pt.c2
    have PC := Lib.hid (vNext_any wr d.pg d.g d.h mm (base + 224) 8 u.tg u.og s.g)
    have S := Lib.hid s
    have T := Lib.hid t
    have ROW := Lib.hid row
    have GE := Lib.hid hge
    have tg0 := s.g.taken0
    have tg1 := s.g.taken1
    have ME := Lib.hid (s.g.aheadD U)
    obtain ⟨f', hf'⟩ : ∃ f', f = f' + 1 := ⟨f - 1, by have := HFE.out; omega⟩
    have HFF := Lib.hid hf'
    obtain ⟨pv, cv, hpv⟩ := RowA.shape row.row
    subst hpv
    clear s t row hge hf'
    go_wp2_with fail
    refine PC.out.mono ?_
    rintro e w1 (⟨h1, rfl, k1⟩ | ⟨h1, h2, rfl, k1⟩ | ⟨bs, v, h1, h2, h3, rfl, hv, p1, k1⟩)
    · have hfin : R = ((mm, u), l) := by rw [HRR.out, HFF.out]; exact sentF_no (by unfold takeF; rw [if_pos (.inl h1)])
      have HF := Lib.hid hfin
      have HN := Lib.hid (S.out.grown k1)
      have HW := Lib.hid (ROW.out.grown k1)
      have HT := Lib.hid (T.out.trans (Turned.of k1 (fun j e => by cases e)))
      clear hfin h1 k1 c2 PC
      go_wp2_with fail
      go_ret
      rw [HF.out]
      exact ⟨_, rfl, HW.out, GE.out, HN.out, hml, HT.out⟩
    · have hfin : R = ((mm, u), l) := by
        rw [HRR.out, HFF.out]
        refine sentF_no ?_
        unfold takeF
        rcases h2 with h2 | h2
        · rw [if_pos (.inr h2)]
        · rw [h2]; split <;> rfl
      have HF := Lib.hid hfin
      have HN := Lib.hid (S.out.grown k1)
      have HW := Lib.hid (ROW.out.grown k1)
      have HT := Lib.hid (T.out.trans (Turned.of k1 (fun j e => by cases e)))
      clear hfin h1 h2 k1 c2 PC
      go_wp2_with fail
      go_ret
      rw [HF.out]
      exact ⟨_, rfl, HW.out, GE.out, HN.out, hml, HT.out⟩
    · obtain ⟨H, hH⟩ : ∃ H, H = offHead mm (base + 224) 8 u.tg := ⟨_, rfl⟩
      have hHb := offHead_bd mm (base + 224) 8 u.tg
      have hstep : R = sentF base f' (vdoneL mm (base + 224) 8 u.og H 0) { u with tg := (u.tg + 1) % 65536, og := (u.og + 1) % 65536 } (l ++ (pframeF mm bs).toList) := by
        rw [HRR.out, HFF.out, hH]
        exact sentF_yes (by unfold takeF; rw [if_neg (by rintro (h | h); exact h1 h; omega)]; exact h3)
      have HST := Lib.hid hstep
      have h1u : Hid (u.tg ≠ U) := Lib.hid (fun e => h1 (by rw [HU.out]; exact e.symm))
      have t1 : Turned (fun j => j = d.h ∨ j = d.pg) wr w1 := Turned.of k1 (fun j e => .inr (by injection e with e; exact e.symm))
      have s1 := S.out.stepG t1 p1 rfl
      have FC := Lib.hid (pframe_any s1 v bs hv (follow_in h3 (by omega)))
      have W1 := Lib.hid (ROW.out.carry t1 (fun j hj => S.out.noStr j (hj.elim .inl (fun h => .inr (.inr (.inr h))))))
      have T1 := Lib.hid (T.out.trans (t1.mono fun j _ hj => hj.elim .inl (fun h => .inr (.inr (.inr h)))))
      have S1 := Lib.hid s1
      have hw1 := wrap_u32N H (by omega) (by omega)
      have HV := Lib.hid hv
      obtain ⟨vp, vc, hvf, _⟩ := hv.form
      subst hvf
      rw [← hH]
      rw [← hH] at hHb
      clear hstep s1 t1 p1 k1 h1 h2 h3 hH c2 PC hv
      obtain ⟨X, hX⟩ : ∃ X, X = pframeF mm bs := ⟨_, rfl⟩
      rw [← hX] at FC HST
      clear hX
      go_wp2_with fail
      refine FC.out.mono ?_
      rintro e w2 ⟨rfl, k2⟩
      have S2 := Lib.hid (S1.out.grown k2)
      have W2 := Lib.hid (W1.out.grown k2)
      have T2 := Lib.hid (T1.out.trans (Turned.of k2 (fun j e => by cases e)))
      clear k2 FC HV
      cases X with
      | some sx =>
        have KA := Lib.hid (World.grownBy_alloc w2 (.cells #[.string ⟨sx.toArray⟩] 9) none)
        have WA := Lib.hid (W2.out.grown KA.out)
        have SA := Lib.hid (S2.out.grown KA.out)
        simp only [frameV]
        go_wp2_with (at_builtin; refine wpList_append_many (k := 1) (enc := fun (s : List UInt8) => [Value.string ⟨s.toArray⟩]) (fun _ => rfl) (fun x u hu => by rw [List.mem_singleton.1 hu]; rfl) (by decide) rfl _ _ 34 rfl i0 (.string ⟨#[]⟩) 16 Try.underlying34 I1.out I2.out I3.out I4.out (by decide) rfl (.slice pv l.length cv) l rfl WA.out.row [sx] (by have := HL.out; simp only [List.length_cons, List.length_nil]; omega) ⟨w2.heap.size, 0, none⟩ 1 1 rfl rfl (fun j x hx => cell_one_new w2 _ _ j x hx) ?_; intro v3 w3 r3 g3 b3; have s3 := SA.out.row WA.out g3; have c2 := s3.pt.c2)
        have row3 := SRow.push r3
        have T3 : Turned d.all w w3 := (T2.out.trans (Turned.of KA.out (fun j e => by cases e))).then (Turned.of (S := fun j => (Value.slice pv l.length cv).ownBlock = some j) g3 (fun j e => e)) (fun j e => .inr (GE.out j e))
        have ge3 : ∀ b, v3.ownBlock = some b → w.heap.size ≤ b := fun b hb => by
          rcases b3 with e | e
          · exact GE.out b (by rw [← e]; exact hb)
          · rw [e] at hb
            injection hb with hb
            have h1 := T2.out.size
            have h2 := KA.out.size
            omega
        have DC := Lib.hid (vDone_any w3 d.pg d.g d.h mm (base + 224) 8 ((u.tg + 1) % 65536) u.og s3.g H 0 (by omega) (by omega) (by omega) (by omega))
        have T3' := Lib.hid T3
        have R3 := Lib.hid row3
        have G3 := Lib.hid ge3
        have S3 := Lib.hid s3
        have NO := Lib.hid s3.noStr
        obtain ⟨p3, c3, hp3⟩ := RowA.shape row3.row
        rw [show (l ++ [sx]).length = l.length + 1 from List.length_append] at hp3
        subst hp3
        clear s3 T3 row3 ge3 r3 g3 b3
        go_wp2_with fail
        refine DC.out.mono ?_
        rintro e w4 ⟨rfl, p4, t4⟩
        have s4 := S3.out.stepG t4 p4 (vdoneL_length _ _ _ _ _ _)
        have W4 := Lib.hid (R3.out.carry t4 (fun j hj => NO.out j (hj.elim .inl (fun h => .inr (.inr (.inr h))))))
        have T4 := Lib.hid (T3'.out.trans (t4.mono fun j _ hj => hj.elim .inl (fun h => .inr (.inr (.inr h)))))
        have S4 := Lib.hid s4
        clear s4 p4 t4 DC
        go_wp2_with fail
        go_roundw
        case rel => exact ⟨_, _, l ++ [sx], f', S4.out, (vdoneL_length _ _ _ _ _ _).trans hml, Lib.hid (by have h1 := HL.out; have h2 := HFF.out; simp only [List.length_append, List.length_cons, List.length_nil]; omega), Lib.hid (by have h1 := HFE.out; have h2 := HFF.out; have h3 := h1u.out; show f' = ((U - (u.tg + 1) % 65536) % 65536).toNat + 1; omega), HST, Lib.hid (by rw [vdone_offI]; exact HU.out), W4.out, G3.out, T4.out⟩
        case measure =>
          have h1 := ME.out
          have h3 := h1u.out
          rw [h1, S4.out.g.aheadD U]
          show ((U - (u.tg + 1) % 65536) % 65536).toNat < _
          omega
      | none =>
        have DC := Lib.hid (vDone_any w2 d.pg d.g d.h mm (base + 224) 8 ((u.tg + 1) % 65536) u.og S2.out.g H 0 (by omega) (by omega) (by omega) (by omega))
        have c2 := S2.out.pt.c2
        have S3 := S2
        have NO := Lib.hid S2.out.noStr
        simp only [frameV]
        go_wp2_with fail
        refine DC.out.mono ?_
        rintro e w4 ⟨rfl, p4, t4⟩
        have s4 := S3.out.stepG t4 p4 (vdoneL_length _ _ _ _ _ _)
        have W4 := Lib.hid (W2.out.carry t4 (fun j hj => NO.out j (hj.elim .inl (fun h => .inr (.inr (.inr h))))))
        have T4 := Lib.hid (T2.out.trans (t4.mono fun j _ hj => hj.elim .inl (fun h => .inr (.inr (.inr h)))))
        have S4 := Lib.hid s4
        clear s4 p4 t4 DC
        go_wp2_with fail
        go_roundw
        case rel => exact ⟨_, _, l, f', S4.out, (vdoneL_length _ _ _ _ _ _).trans hml, Lib.hid (by have h1 := HL.out; have h2 := HFF.out; omega), Lib.hid (by have h1 := HFE.out; have h2 := HFF.out; have h3 := h1u.out; show f' = ((U - (u.tg + 1) % 65536) % 65536).toNat + 1; omega), Lib.hid (by have h := HST.out; simpa using h), Lib.hid (by rw [vdone_offI]; exact HU.out), W4.out, GE.out, T4.out⟩
        case measure =>
          have h1 := ME.out
          have h3 := h1u.out
          rw [h1, S4.out.g.aheadD U]
          show ((U - (u.tg + 1) % 65536) % 65536).toNat < _
          omega

end Go.Proofs.Ytmlicejhkdkhnaa
