/-
  VnetSafe: whatever a device writes, anywhere: no frame is longer or shorter than it may be, at most eight come at a time, and behind a reset all works again. Conditions: none beyond the kinds of the arguments.
-/
import Derived.Test.YtmlicejhkdkhnaaNvH
import Derived.ProofKit
import Derived.OpenShut
import Derived.ShutString
import Derived.ChangeOld
import Derived.Below
namespace Go.Proofs.Ytmlicejhkdkhnaa
open Go.RowKit Go.ChangeShapes Go.WideShapes Go.Deep Go.Conc Go.Sort
set_option linter.unusedVariables false

theorem SRow.beside {w w' : World} {v : Value} {l : List (List UInt8)} (h : SRow w v l) {o : Option Nat} (gr : w.grownBy w' o) (hne : ∀ b, v.ownBlock = some b → o ≠ some b) : SRow w' v l := by
  have hb : ∀ b, v.ownBlock = some b → w'.heap[b]? = w.heap[b]? := fun b e => by
    obtain ⟨x, hx, _⟩ := StrRow.kd h.row e
    exact gr.block b (lt_of_block hx) (fun e2 => hne b e e2.symm)
  exact ⟨RowA.kept h.row gr.size hb, fun b e x hx => by
    rw [World.cell?_of_block (w := w) (a := ⟨b, 0, none⟩) (hb b e)] at hx
    exact h.ni b e x hx⟩
theorem SRow.nil (w : World) : SRow w (.slice none 0 0) [] := ⟨World.ownsRow_nil _ _ _ _, fun b hb => by cases hb⟩
/-- The driver, the device, and the two rows: what is to go, what is to come. -/
structure VB (w0 w : World) (n p g : Nat) (vg vc : Value) (RG RC Gs Cs : List (List UInt8)) (dr : Int) : Prop where
  bi : BI w0 w n p g 12000 32 Gs Cs dr
  rg : SRow w vg RG
  rc : SRow w vc RC
  ap : ∀ b, vg.ownBlock = some b → vc.ownBlock ≠ some b
  og : ∀ b, vg.ownBlock = some b → w0.heap.size ≤ b
  oc : ∀ b, vc.ownBlock = some b → w0.heap.size ≤ b
section
variable {w0 w w' : World} {n p g : Nat} {vg vc vg' vc' : Value} {RG RC Gs Cs : List (List UInt8)} {dr : Int}
theorem VB.grown (h : VB w0 w n p g vg vc RG RC Gs Cs dr) (k : w.grownBy w' none) : VB w0 w' n p g vg vc RG RC Gs Cs dr := ⟨h.bi.grown k, h.rg.grown k, h.rc.grown k, h.ap, h.og, h.oc⟩
theorem VB.far (h : VB w0 w n p g vg vc RG RC Gs Cs dr) (t : Turned (OwnK w) w w') {Gs' Cs' : List (List UInt8)} {dr' : Int} (b : BI w0 w' n p g 12000 32 Gs' Cs' dr') : VB w0 w' n p g vg vc RG RC Gs' Cs' dr' := ⟨b, h.rg.far t, h.rc.far t, h.ap, h.og, h.oc⟩
theorem VB.nilG (h : VB w0 w n p g vg vc RG RC Gs Cs dr) : VB w0 w n p g (.slice none 0 0) vc [] RC Gs Cs dr := ⟨h.bi, SRow.nil w, h.rc, fun b hb => (by cases hb), fun b hb => (by cases hb), h.oc⟩
theorem VB.nilC (h : VB w0 w n p g vg vc RG RC Gs Cs dr) : VB w0 w n p g vg (.slice none 0 0) RG [] Gs Cs dr := ⟨h.bi, h.rg, SRow.nil w, fun b _ e => (by cases e), h.og, fun b hb => (by cases hb)⟩
theorem VB.appG (h : VB w0 w n p g vg vc RG RC Gs Cs dr) {s : List UInt8} (r : StrRow w' vg' (RG ++ [s])) (gr : w.grownBy w' vg.ownBlock) (e : vg'.ownBlock = vg.ownBlock ∨ vg'.ownBlock = some w.heap.size) : VB w0 w' n p g vg' vc (RG ++ [s]) RC Gs Cs dr := by
  have hc : ∀ b, vc.ownBlock = some b → b < w.heap.size := fun b hb => by
    obtain ⟨x, hx, _⟩ := StrRow.kd h.rc.row hb
    exact lt_of_block hx
  refine ⟨h.bi.row h.rg gr h.og, SRow.push r, h.rc.beside gr (fun b hb e2 => h.ap b e2 hb), fun b hb e2 => ?_, fun b hb => ?_, h.oc⟩
  · rcases e with e | e
    · exact h.ap b (by rw [← e]; exact hb) e2
    · rw [e] at hb; injection hb with hb
      have := hc b e2
      omega
  · rcases e with e | e
    · exact h.og b (by rw [← e]; exact hb)
    · rw [e] at hb; injection hb with hb
      rw [← hb]; exact h.bi.bl.size
theorem VB.appC (h : VB w0 w n p g vg vc RG RC Gs Cs dr) {s : List UInt8} (r : StrRow w' vc' (RC ++ [s])) (gr : w.grownBy w' vc.ownBlock) (e : vc'.ownBlock = vc.ownBlock ∨ vc'.ownBlock = some w.heap.size) : VB w0 w' n p g vg vc' RG (RC ++ [s]) Gs Cs dr := by
  have hg : ∀ b, vg.ownBlock = some b → b < w.heap.size := fun b hb => by
    obtain ⟨x, hx, _⟩ := StrRow.kd h.rg.row hb
    exact lt_of_block hx
  refine ⟨h.bi.row h.rc gr h.oc, h.rg.beside gr (fun b hb e2 => h.ap b hb e2), SRow.push r, fun b hb e2 => ?_, h.og, fun b hb => ?_⟩
  · rcases e with e | e
    · exact h.ap b hb (by rw [← e]; exact e2)
    · rw [e] at e2; injection e2 with e2
      have := hg b hb
      omega
  · rcases e with e | e
    · exact h.oc b (by rw [← e]; exact hb)
    · rw [e] at hb; injection hb with hb
      rw [← hb]; exact h.bi.bl.size
theorem vSend (h : VB w0 w n p g vg vc RG RC Gs Cs dr) (S : ByteArray) (E : Int) (hE : sendE Gs.length S.size = E) (Gs' : List (List UInt8)) (hG : Gs' = if E = 0 then Gs ++ [S.data.toList] else Gs) :
    Calls Try.prog 12 #[.pointer (some ⟨n, 0, none⟩), .string S] w fun e w' => e = .returned (.int .i64 E) ∧ VB w0 w' n p g vg vc RG RC Gs' Cs dr := by
  subst hG
  exact (iSend h.bi S E hE).mono fun e w' ⟨e1, e2, e3⟩ => ⟨e1, h.far e3 e2⟩
theorem vDeliv (h : VB w0 w n p g vg vc RG RC Gs Cs dr) (S : ByteArray) (hS : S.size ≤ 1000000) (E : Int) (hE : delivE Cs.length S.size = E) (Cs' : List (List UInt8)) (hC : Cs' = if E = 0 then Cs ++ [S.data.toList] else Cs) :
    Calls Try.prog 14 #[.pointer (some ⟨p, 0, none⟩), .string S] w fun e w' => e = .returned (.int .i64 E) ∧ VB w0 w' n p g vg vc RG RC Gs Cs' dr := by
  subst hC
  exact (iDeliv h.bi S hS E hE).mono fun e w' ⟨e1, e2, e3⟩ => ⟨e1, h.far e3 e2⟩
theorem vSent (h : VB w0 w n p g vg vc RG RC Gs Cs dr) :
    Calls Try.prog 13 #[.pointer (some ⟨p, 0, none⟩)] w fun e w' => ∃ y, e = .returned y ∧ SRow w' y Gs ∧ VB w0 w' n p g vg vc RG RC [] Cs dr :=
  (iSent h.bi).mono fun e w' ⟨y, e1, e2, _, e3, e4⟩ => ⟨y, e1, e2, h.far e4 e3⟩
theorem vRecv (h : VB w0 w n p g vg vc RG RC Gs Cs dr) (hd : 0 ≤ dr ∧ dr < 2305843009213693952) (dr' : Int) (hdr : dr' = dr + (Cs.filter fun s => !mayGo s).length) :
    Calls Try.prog 15 #[.pointer (some ⟨n, 0, none⟩)] w fun e w' => ∃ y, e = .returned y ∧ SRow w' y (Cs.filter mayGo) ∧ VB w0 w' n p g vg vc RG RC Gs [] dr' :=
  (iRecv h.bi hd dr' hdr).mono fun e w' ⟨y, e1, e2, _, e3, e4⟩ => ⟨y, e1, e2, h.far e4 e3⟩
end
/-- A box with an act. -/
def actO (c : Act4) : Obj := .cells #[.int .i64 c.d, .string c.s, .int .u16 c.n, .int .i64 c.a, .int .i64 c.m, .int .u64 c.x] 63 (0, 0)
theorem act_cells {w : World} {x : Nat} {c : Act4} (h : w.heap[x]? = some (actO c)) :
    w.cell? ⟨x, 0, none⟩ = some (.int .i64 c.d) ∧ w.cell? ⟨x, 1, none⟩ = some (.string c.s) ∧ w.cell? ⟨x, 2, none⟩ = some (.int .u16 c.n) ∧ w.cell? ⟨x, 3, none⟩ = some (.int .i64 c.a) ∧ w.cell? ⟨x, 4, none⟩ = some (.int .i64 c.m) ∧ w.cell? ⟨x, 5, none⟩ = some (.int .u64 c.x) ∧ ∀ i, w.frozen? ⟨x, i, none⟩ = false := by
  unfold actO at h
  exact ⟨by rw [cell_of_block h]; rfl, by rw [cell_of_block h]; rfl, by rw [cell_of_block h]; rfl, by rw [cell_of_block h]; rfl, by rw [cell_of_block h]; rfl, by rw [cell_of_block h]; rfl, fun i => by simp [World.frozen?, h]⟩
theorem act_range {w : World} {x : Nat} {c : Act4} (h : w.heap[x]? = some (actO c)) : w.rangeAt x 0 [.int .i64 c.d, .string c.s, .int .u16 c.n, .int .i64 c.a, .int .i64 c.m, .int .u64 c.x] := fun j u hu => by
  unfold actO at h
  rw [Nat.zero_add, cell_of_block h]
  exact (List.getElem?_toArray (xs := ([.int .i64 c.d, .string c.s, .int .u16 c.n, .int .i64 c.a, .int .i64 c.m, .int .u64 c.x] : List Value))).trans hu
theorem act_rangeL {w : World} {b o : Nat} {c : Act4} (h : Act4At w b o c) : w.rangeAt b o [.int .i64 c.d, .string c.s, .int .u16 c.n, .int .i64 c.a, .int .i64 c.m, .int .u64 c.x] := fun j u hu => by
  obtain ⟨h0, h1, h2, h3, h4, h5⟩ := h
  match j, hu with
  | 0, hu => injection hu with hu; rw [← hu]; exact h0
  | 1, hu => injection hu with hu; rw [← hu]; exact h1
  | 2, hu => injection hu with hu; rw [← hu]; exact h2
  | 3, hu => injection hu with hu; rw [← hu]; exact h3
  | 4, hu => injection hu with hu; rw [← hu]; exact h4
  | 5, hu => injection hu with hu; rw [← hu]; exact h5
theorem st_act {w : World} {x : Nat} {c c' : Act4} (h : w.heap[x]? = some (actO c)) :
    (storeVar 63 ⟨x, 0, none⟩ (.agg #[.int .i64 c'.d, .string c'.s, .int .u16 c'.n, .int .i64 c'.a, .int .i64 c'.m, .int .u64 c'.x])).run Try.prog w = .ok () (w.setRow x #[.int .i64 c'.d, .string c'.s, .int .u16 c'.n, .int .i64 c'.a, .int .i64 c'.m, .int .u64 c'.x]) :=
  run_storeVar_row (P := Try.prog) w x 63 63 _ #[.int .i64 c'.d, .string c'.s, .int .u16 c'.n, .int .i64 c'.a, .int .i64 c'.m, .int .u64 c'.x] h (by kernel_rfl) rfl (by simp [Value.oneCell'])
theorem act_kd (c : Act4) : kd (actO c) ∉ ownKs := by show 63 ∉ ownKs; decide
theorem act_ne {w : World} {x : Nat} {c : Act4} (h : w.heap[x]? = some (actO c)) : ¬ OwnK w x := OwnK.no h (act_kd c)
theorem upon_storeN {P : Program} {o : Oper} {a : Act} {w w' : World} {K : Act → World → Prop} {Q : Exit → Act → World → Prop} (t : TypeId) (p x : Operand) (ho : o.op = .store t p x) (v : Value) (g : Nat) (hp : a.eval p = .pointer (some ⟨g, 0, none⟩)) (hx : a.eval x = v)
    (hr : (storeVar t ⟨g, 0, none⟩ v).run P w = .ok () w') (h : K (a.put o.dst undef) w') : o.wp P a w K Q := by
  unfold Oper.wp execOp
  simp only [ho, hp, hx, Instr.storeAt, Instr.sureAddr, Sem.run_bind, Sem.run_pure, Result.andThen_ok, hr]
  exact h
theorem wpList_storeN {P : Program} {ops : Array Oper} {rest : List Oper} {o : Oper} {a : Act} {w w' : World} {Q : Exit → Act → World → Prop} (t : TypeId) (p x : Operand) (hgd : o.guard = none) (ho : o.op = .store t p x) (v : Value) (g : Nat) (hp : a.eval p = .pointer (some ⟨g, 0, none⟩)) (hx : a.eval x = v)
    (hr : (storeVar t ⟨g, 0, none⟩ v).run P w = .ok () w') (h : wpList P ops Q rest (a.put o.dst undef) w') : wpList P ops Q (o :: rest) a w :=
  wpList_plain hgd fun _ hK => upon_storeN t p x ho v g hp hx hr (hK _ _ h)
end Go.Proofs.Ytmlicejhkdkhnaa

namespace Go.Proofs.Ytmlicejhkdkhnaa
open Go.RowKit Go.ChangeShapes Go.WideShapes Go.Deep Go.Conc Go.Sort
set_option linter.unusedVariables false

/-- A driver and a device's side, behind the world w0: these frames go, these come; so many were dropped. -/
structure BJ (rs : Int) (w0 w : World) (n p g : Nat) (L : Nat) (base : Int) (Gs Cs : List (List UInt8)) (dr : Int) : Prop where
  ex : ∃ (k : Bk) (d : Dk) (v : Nv) (x : Dv) (D : List Int) (W : List (Int × List UInt8)) (A : List Int) (C : List (Int × List UInt8)),
    k.n = n ∧ d.p = p ∧ k.g = g ∧ BD w k d v x ∧ GoI v x D W ∧ CoI v x A C ∧ NvOk v ∧ HcOk v ∧ Fit v.lm v.base ∧ v.base = base ∧ v.lm.length = L ∧ W.map Prod.snd = Gs ∧ C.map Prod.snd = Cs ∧ v.drops = dr ∧ (0 ≤ v.resets ∧ v.resets < 4611686018427387000 ∧ rs < v.resets) ∧ (∀ j, k.all j ∨ d.all j → w0.heap.size ≤ j)
  bl : Below w0.heap.size w0 w
section
variable {rs : Int} {w0 w w' : World} {n p g L : Nat} {base : Int} {Gs Cs : List (List UInt8)} {dr : Int}
theorem BJ.lens (b : BJ rs w0 w n p g L base Gs Cs dr) : Gs.length ≤ 8 ∧ Cs.length ≤ 8 := by
  obtain ⟨k, d, v, x, D, W, A, C, h1, h2, hgg, h3, h4, h5, h6, h7, h8, h9, h10, h11, h12, h13, h14, h15⟩ := b.ex
  have a := h4.len h6
  have c := h5.ln
  rw [← h11, ← h12, List.length_map, List.length_map]
  omega
theorem BJ.grown (b : BJ rs w0 w n p g L base Gs Cs dr) (gr : w.grownBy w' none) : BJ rs w0 w' n p g L base Gs Cs dr := by
  obtain ⟨k, d, v, x, D, W, A, C, h1, h2, hgg, h3, h⟩ := b.ex
  exact ⟨⟨k, d, v, x, D, W, A, C, h1, h2, hgg, h3.grown gr, h⟩, b.bl.trans (Turned.below (Turned.of (S := fun _ => False) gr (fun j e => by cases e)) b.bl.size (fun k h => h.elim))⟩
/-- The statement's own have turned: the driver and the device stay. -/
theorem BJ.away (b : BJ rs w0 w n p g L base Gs Cs dr) {S : Nat → Prop} (t : Turned S w w') (hS : ∀ j, S j → ¬ OwnK w j) (hI : NotI w S) (h0 : ∀ j, S j → w0.heap.size ≤ j) : BJ rs w0 w' n p g L base Gs Cs dr := by
  obtain ⟨k, d, v, x, D, W, A, C, h1, h2, hgg, h3, h⟩ := b.ex
  refine ⟨⟨k, d, v, x, D, W, A, C, h1, h2, hgg, ⟨h3.ni.away t hS hI, ?_, h3.eg, h3.eh⟩, h⟩, b.bl.trans (t.below b.bl.size h0)⟩
  exact h3.de.other t (fun j hj ho => hS j hj (h3.de.ownK j (.inr ho))) (t.mem h3.de.mem (fun e => hS _ e ⟨_, by decide, h3.de.mem.kg⟩) (fun e => hS _ e ⟨_, by decide, h3.de.mem.kh⟩)) rfl
theorem BJ.row (b : BJ rs w0 w n p g L base Gs Cs dr) {y : Value} {l : List (List UInt8)} (h : SRow w y l) (gr : w.grownBy w' y.ownBlock) (h0 : ∀ j, y.ownBlock = some j → w0.heap.size ≤ j) : BJ rs w0 w' n p g L base Gs Cs dr :=
  b.away (S := fun j => y.ownBlock = some j) (Turned.of gr (fun j e => e)) (fun j e ho => by
    obtain ⟨o, ho2, ek⟩ := StrRow.kd h.row e
    exact OwnK.no ho2 (by rw [ek]; decide) ho) (fun j e x => h.ni j e x) h0
theorem jSend (b : BJ rs w0 w n p g L base Gs Cs dr) (S : ByteArray) (E : Int) (hE : sendE Gs.length S.size = E) :
    Calls Try.prog 12 #[.pointer (some ⟨n, 0, none⟩), .string S] w fun e w' => e = .returned (.int .i64 E) ∧ BJ rs w0 w' n p g L base (if E = 0 then Gs ++ [S.data.toList] else Gs) Cs dr ∧ Turned (OwnK w) w w' := by
  obtain ⟨k, d, v, x, D, W, A, C, rfl, h2, hgg, h3, h4, h5, h6, h7, h8, h9, h10, h11, h12, h13, h14, h15⟩ := b.ex
  have hsz : S.data.toList.length = S.size := by rw [Array.length_toList]; rfl
  refine (send_any h3.ni h6 (by omega) S).mono fun e w' ⟨e1, e2⟩ => ?_
  have hGl : Gs.length = W.length := by rw [← h11, List.length_map]
  have key : (sendF v S.data.toList).2 = E ∧ ∃ (D' : List Int) (W' : List (Int × List UInt8)), GoI (sendF v S.data.toList).1 x D' W' ∧ CoI (sendF v S.data.toList).1 x A C ∧ NvOk (sendF v S.data.toList).1 ∧ HcOk (sendF v S.data.toList).1 ∧ (sendF v S.data.toList).1.base = v.base ∧ (sendF v S.data.toList).1.lm.length = v.lm.length ∧ (sendF v S.data.toList).1.drops = v.drops ∧ (sendF v S.data.toList).1.resets = v.resets ∧ W'.map Prod.snd = (if E = 0 then Gs ++ [S.data.toList] else Gs) := by
    unfold sendF
    rw [hsz]
    unfold sendE at hE
    by_cases hf : fitsE S.size = 0
    · rw [if_pos hf]
      rw [if_neg (by rw [hf]; simp)] at hE
      have hb1 : 14 ≤ (S.size : Int) ∧ (S.size : Int) ≤ 600 := by
        unfold fitsE at hf
        split at hf
        · cases hf
        · split at hf
          · cases hf
          · omega
      have hgl : v.hg.length = D.length + W.length := by rw [h4.hg, List.length_append, List.length_map]
      obtain ⟨r1, r2, r3⟩ := GoI.reg D (v.hg.length + 1) v h4 h6 (by omega)
      generalize regF (v.hg.length + 1) v = u at r1 r2 r3 ⊢
      have hc : CoI u x A C := h5.keep r3.base r3.co r3.cb rfl rfl (by rw [r3.lm]; exact Same.refl _ _ _) (by rw [r3.lm]; exact Same.refl _ _ _)
      have hh : HcOk u := ⟨by rw [r3.hc]; exact h7.nd, by rw [r3.hc]; exact h7.len, by rw [r3.hc]; exact h7.rg⟩
      have hl := r1.len r2
      rw [List.length_nil] at hl
      unfold sendR
      cases hfr : u.free with
      | nil =>
        rw [hfr] at hl
        rw [List.length_nil] at hl
        rw [if_pos (by omega)] at hE
        subst hE
        exact ⟨rfl, [], W, r1, hc, r2, hh, r3.base, by rw [r3.lm], r3.drops, r3.resets, by rw [if_neg (by decide)]; exact h11⟩
      | cons i fs =>
        rw [hfr, List.length_cons] at hl
        rw [if_neg (by omega)] at hE
        subst hE
        have hhl : u.hg.length < 8 := by rw [r1.hg]; simp; omega
        obtain ⟨j, js, hj⟩ := free_some (hs := u.hg) hhl
        have hj0 : (freeH u.hg).headD 0 = j := by rw [hj]; rfl
        have F : Fit u.lm u.base := by rw [r3.lm, r3.base]; exact h8
        obtain ⟨q1, q2⟩ := r1.sendB r2 F hfr hj S.data.toList (by omega) (by omega)
        dsimp only
        rw [hj0]
        have hlen : (Go.Proofs.Ytmlicejhkdkhnaa.sendB u i fs j S.data.toList).lm.length = u.lm.length := by
          show (addL _ _ _ _ _ _).length = _
          rw [addL_length, writeL_length]
        refine ⟨rfl, [], W ++ [(j, S.data.toList)], q1, hc.keep rfl rfl rfl rfl rfl (q2 _ _ (.inl (by omega))) (q2 _ _ (.inr ⟨by omega, by omega⟩)), r2.send hfr hj _, ⟨hh.nd, hh.len, hh.rg⟩, r3.base, by rw [hlen, r3.lm], r3.drops, r3.resets, ?_⟩
        rw [if_pos rfl, List.map_append, h11]
        rfl
    · rw [if_neg hf]
      rw [if_pos hf] at hE
      subst hE
      exact ⟨rfl, D, W, h4, h5, h6, h7, rfl, rfl, rfl, rfl, by rw [if_neg hf]; exact h11⟩
  obtain ⟨kE, D', W', k1, k2, k3, k4, k5, k6, k7, k8, k9⟩ := key
  rw [kE] at e1
  obtain ⟨k', bd, kt, tu⟩ := h3.nic e2 k5 k6
  have T : Turned (OwnK w) w w' := tu.mono (fun j _ hj => h3.ni.ownK j hj)
  refine ⟨e1, ⟨⟨k', d, _, x, D', W', A, C, kt.n, h2, kt.g.trans hgg, bd, k1, k2, k3, k4, ⟨by rw [k5]; exact h8.b0, by rw [k5, k6]; exact h8.b1, by rw [k6]; exact h8.b2⟩, k5.trans h9, k6.trans h10, k9, h12, k7.trans h13, by rw [k8]; exact h14, fun j hj => ?_⟩, b.bl.trans (tu.below b.bl.size (fun j hj => h15 j (.inl hj)))⟩, T⟩
  rcases hj with hj | hj
  · rcases kt.all j hj with h | h
    · exact h15 j (.inl h)
    · exact Nat.le_trans b.bl.size h
  · exact h15 j (.inr hj)
theorem jDeliv (b : BJ rs w0 w n p g L base Gs Cs dr) (S : ByteArray) (hS : S.size ≤ 1000000) (E : Int) (hE : delivE Cs.length S.size = E) :
    Calls Try.prog 14 #[.pointer (some ⟨p, 0, none⟩), .string S] w fun e w' => e = .returned (.int .i64 E) ∧ BJ rs w0 w' n p g L base Gs (if E = 0 then Cs ++ [S.data.toList] else Cs) dr ∧ Turned (OwnK w) w w' := by
  obtain ⟨k, d, v, x, D, W, A, C, h1, rfl, hgg, h3, h4, h5, h6, h7, h8, h9, h10, h11, h12, h13, h14, h15⟩ := b.ex
  have hsz : S.data.toList.length = S.size := by rw [Array.length_toList]; rfl
  refine (deliv_any h3.de S hS _ rfl).mono fun e w' ⟨e1, e2⟩ => ?_
  have hCl : Cs.length = C.length := by rw [← h12, List.length_map]
  have hln := h5.ln
  have key : (delivF v.lm v.base x S.data.toList).2 = E ∧ ∃ (A' : List Int) (C' : List (Int × List UInt8)), GoI { v with lm := (delivF v.lm v.base x S.data.toList).1.1 } (delivF v.lm v.base x S.data.toList).1.2 D W ∧ CoI { v with lm := (delivF v.lm v.base x S.data.toList).1.1 } (delivF v.lm v.base x S.data.toList).1.2 A' C' ∧ C'.map Prod.snd = (if E = 0 then Cs ++ [S.data.toList] else Cs) := by
    unfold delivE at hE
    by_cases hb6 : 600 < (S.size : Int)
    · rw [if_pos hb6] at hE
      subst hE
      have hF : delivF v.lm v.base x S.data.toList = ((v.lm, x), 3) := by unfold delivF; rw [hsz, if_pos (by omega)]
      rw [hF, if_neg (by decide)]
      exact ⟨rfl, A, C, h4, h5, h12⟩
    · rw [if_neg hb6] at hE
      cases A with
      | nil =>
        rw [List.length_nil] at hln
        rw [if_pos (by omega)] at hE
        subst hE
        rw [h5.full S.data.toList (by omega), if_neg (by decide)]
        exact ⟨rfl, [], C, h4, h5, h12⟩
      | cons kk A =>
        rw [List.length_cons] at hln
        rw [if_neg (by omega)] at hE
        subst hE
        obtain ⟨q1, q2, q3⟩ := h5.deliv h8 S.data.toList (by omega)
        rw [q1, if_pos rfl]
        refine ⟨rfl, A, C ++ [(kk, S.data.toList)], h4.keep h6 rfl rfl rfl rfl rfl rfl rfl rfl (q3 _ _ (.inl ⟨by omega, by omega⟩)) (q3 _ _ (.inr (by omega))), q2, ?_⟩
        rw [List.map_append, h12]
        rfl
  obtain ⟨kE, A', C', k1, k2, k3⟩ := key
  rw [kE] at e1
  obtain ⟨e2, e3, e4⟩ := e2
  have T : Turned (OwnK w) w w' := e4.mono (fun j _ hj => h3.de.ownK j hj)
  refine ⟨e1, ⟨⟨k, d, _, _, D, W, A', C', h1, rfl, hgg, h3.dev e2 e3 e4, k1, k2, ⟨h6.fl, h6.hg, h6.nd, h6.fr, h6.ou, h6.ol, h6.r0, h6.d0⟩, ⟨h7.nd, h7.len, h7.rg⟩, ⟨h8.b0, by show v.base + 10304 ≤ _; rw [e3]; exact h8.b1, by show (delivF v.lm v.base x S.data.toList).1.1.length ≤ _; rw [e3]; exact h8.b2⟩, h9, e3.trans h10, h11, k3, h13, h14, h15⟩, b.bl.trans (e4.below b.bl.size (fun j hj => h15 j (.inr hj)))⟩, T⟩
theorem jSent (b : BJ rs w0 w n p g L base Gs Cs dr) :
    Calls Try.prog 13 #[.pointer (some ⟨p, 0, none⟩)] w fun e w' => ∃ y, e = .returned y ∧ SRow w' y Gs ∧ (∀ b, y.ownBlock = some b → w.heap.size ≤ b) ∧ BJ rs w0 w' n p g L base [] Cs dr ∧ Turned (OwnK w) w w' := by
  obtain ⟨k, d, v, x, D, W, A, C, h1, rfl, hgg, h3, h4, h5, h6, h7, h8, h9, h10, h11, h12, h13, h14, h15⟩ := b.ex
  refine (sent_any h3.de _ rfl).mono fun e w' ⟨y, e1, e2, e3, e4, e5, e6⟩ => ?_
  have t0 := h4.t0
  have hlen := h4.len h6
  have hU : ((offI v.lm (v.base + 224) 8 - x.tg) % 65536).toNat = W.length := by rw [h4.oi, h4.go]; omega
  rw [hU] at e2 e4 e5
  obtain ⟨lm', x', r1, r2, r3, r4, r5, r6⟩ := GoI.sent W (W.length + 1) v x D [] h4 h6 h8 (by omega)
  rw [r1] at e2 e4 e5
  dsimp only at e2 e4 e5
  rw [List.nil_append, h11] at e2
  have T : Turned (OwnK w) w w' := e6.mono (fun j _ hj => h3.de.ownK j hj)
  have k2 : CoI { v with lm := lm' } x' A C := h5.keep rfl rfl rfl r4 r5 (r6 _ _ (.inl (by omega))) (r6 _ _ (.inr (by omega)))
  refine ⟨y, e1, e2, e3, ⟨⟨k, d, _, _, _, [], A, C, h1, rfl, hgg, h3.dev e4 r3 e6, r2, k2, ⟨h6.fl, h6.hg, h6.nd, h6.fr, h6.ou, h6.ol, h6.r0, h6.d0⟩, ⟨h7.nd, h7.len, h7.rg⟩, ⟨h8.b0, by show v.base + 10304 ≤ _; rw [r3]; exact h8.b1, by show lm'.length ≤ _; rw [r3]; exact h8.b2⟩, h9, r3.trans h10, rfl, h12, h13, h14, h15⟩, b.bl.trans (e6.below b.bl.size (fun j hj => h15 j (.inr hj)))⟩, T⟩
theorem jRecv (b : BJ rs w0 w n p g L base Gs Cs dr) (hd : 0 ≤ dr ∧ dr < 2305843009213693952) (dr' : Int) (hdr : dr' = dr + (Cs.filter fun s => !mayGo s).length) :
    Calls Try.prog 15 #[.pointer (some ⟨n, 0, none⟩)] w fun e w' => ∃ y, e = .returned y ∧ SRow w' y (Cs.filter mayGo) ∧ (∀ b, y.ownBlock = some b → w.heap.size ≤ b) ∧ BJ rs w0 w' n p g L base Gs [] dr' ∧ Turned (OwnK w) w w' := by
  obtain ⟨k, d, v, x, D, W, A, C, rfl, h2, hgg, h3, h4, h5, h6, h7, h8, h9, h10, h11, h12, h13, h14, h15⟩ := b.ex
  refine (recv_any h3.ni h7 h14.1 (by omega) (by rw [h13]; exact hd.1) (by rw [h13]; exact hd.2) _ rfl).mono fun e w' ⟨y, e1, e2, e3, e4⟩ => ?_
  have c0 := h5.c0
  have hln := h5.ln
  have hU : ((usedI v.lm v.base 8 - v.cb) % 65536).toNat = C.length := by rw [h5.ui, h5.oc]; omega
  rw [hU] at e2 e4
  obtain ⟨v', r1, r2, r3, r4, r5, r6, r7, r8, r9, r10, r11, r12, r13⟩ := CoI.recv C (C.length + 1) v A [] h5 h7 h8 (by omega)
  rw [r1] at e2 e4
  dsimp only at e2 e4
  rw [List.nil_append, h12] at e2
  rw [h12] at r12
  obtain ⟨k', bd, kt, tu⟩ := h3.nic e4 r5 r4
  have T : Turned (OwnK w) w w' := tu.mono (fun j _ hj => h3.ni.ownK j hj)
  have k1 : GoI v' x D W := h4.keep h6 r5 r6 r7 r8 r9 r10 rfl rfl (r13 _ _ (by omega)) (r13 _ _ (by omega))
  have o' : NvOk v' := ⟨by rw [r9, r6]; exact h6.fl, by rw [r6]; exact h6.hg, by rw [r6]; exact h6.nd, by rw [r9]; exact h6.fr, by rw [r10]; exact h6.ou, by rw [r10]; exact h6.ol, by rw [r11]; exact h6.r0, by rw [r12]; have := h6.d0; omega⟩
  refine ⟨y, e1, e2, e3, ⟨⟨k', d, v', x, D, W, _, [], kt.n, h2, kt.g.trans hgg, bd, k1, r2, o', r3, ⟨by rw [r5]; exact h8.b0, by rw [r5, r4]; exact h8.b1, by rw [r4]; exact h8.b2⟩, r5.trans h9, r4.trans h10, h11, rfl, by rw [r12, h13, hdr], by rw [r11]; exact h14, fun j hj => ?_⟩, b.bl.trans (tu.below b.bl.size (fun j hj => h15 j (.inl hj)))⟩, T⟩
  rcases hj with hj | hj
  · rcases kt.all j hj with h | h
    · exact h15 j (.inl h)
    · exact Nat.le_trans b.bl.size h
  · exact h15 j (.inr hj)
theorem BJ.mem (b : BJ rs w0 w n p g L base Gs Cs dr) : ∃ h lm, Mem w g h lm ∧ lm.length = L ∧ w0.heap.size ≤ h := by
  obtain ⟨k, d, v, x, D, W, A, C, h1, h2, rfl, h3, h4, h5, h6, h7, h8, h9, h10, h11, h12, h13, h14, h15⟩ := b.ex
  exact ⟨k.h, v.lm, h3.ni.mem, h10, h15 _ (.inl (.inl rfl))⟩
theorem jDrops (b : BJ rs w0 w n p g L base Gs Cs dr) : Calls Try.prog 17 #[.pointer (some ⟨n, 0, none⟩)] w fun e w' => e = .returned (.int .i64 dr) ∧ w = w' := by
  obtain ⟨k, d, v, x, D, W, A, C, rfl, h2, hgg, h3, h4, h5, h6, h7, h8, h9, h10, h11, h12, h13, h14, h15⟩ := b.ex
  rw [← h13]
  exact drops_any4 h3.ni
theorem jResets (b : BJ rs w0 w n p g L base Gs Cs dr) : Calls Try.prog 25 #[.pointer (some ⟨n, 0, none⟩)] w fun e w' => ∃ r, e = .returned (.int .i64 r) ∧ rs < r ∧ w = w' := by
  obtain ⟨k, d, v, x, D, W, A, C, rfl, h2, hgg, h3, h4, h5, h6, h7, h8, h9, h10, h11, h12, h13, h14, h15⟩ := b.ex
  exact (resets_any4 h3.ni).mono fun e w' ⟨e1, e2⟩ => ⟨_, e1, h14.2.2, e2⟩
end

/-- What came may go. -/
def okF (s : List UInt8) : Prop := 14 ≤ s.length ∧ s.length ≤ 600
theorem frameF_ok {lm : List UInt8} {base i n : Int} {s : List UInt8} (h : frameF lm base i n = some s) (F : Fit lm base) (i0 : 0 ≤ i) (i1 : i < 8) : okF s := by
  unfold frameF at h
  split at h
  · rename_i hc
    injection h with h
    have hn : 14 ≤ n - 12 ∧ n - 12 ≤ 600 := by
      have h2 := hc.2
      unfold fitsE at h2
      split at h2
      · cases h2
      · split at h2
        · cases h2
        · omega
    have hb := F.b0
    have hb1 := F.b1
    have hA : bufA base i = base + 448 + 616 * i := rfl
    have hz : textE lm (bufA base i + 12) (n - 12) = 0 := by unfold textE; rw [if_neg (by omega)]
    rw [← h]
    unfold textS okF
    rw [if_pos hz, List.length_take, List.length_drop]
    omega
  · cases h
def RecvBd (v : Nv) (R : Nv × List (List UInt8)) (l : List (List UInt8)) (f : Nat) (dd : Nat) : Prop :=
  HcOk R.1 ∧ NvOk R.1 ∧ R.1.base = v.base ∧ R.1.lm.length = v.lm.length ∧ R.1.gb = v.gb ∧ 0 ≤ R.1.cb ∧ R.1.cb ≤ v.cb + f ∧ v.resets ≤ R.1.resets ∧ R.1.resets ≤ v.resets + 1 ∧ v.drops ≤ R.1.drops ∧ R.1.drops ≤ v.drops + f ∧
      (∀ s ∈ R.2, s ∈ l ∨ okF s) ∧ R.2.length ≤ l.length + dd
/-- What Receive comes to, whatever stands in the memory, where few are back. -/
theorem recv_few : ∀ (f : Nat) (v : Nv) (l : List (List UInt8)), HcOk v → NvOk v → Fit v.lm v.base → 0 ≤ v.cb → v.cb + f ≤ 60000 → ((usedI v.lm v.base 8 - v.cb) % 65536).toNat < f → (usedI v.lm v.base 8 - v.cb) % 65536 ≤ 8 →
    RecvBd v (recvF f v l) l f ((usedI v.lm v.base 8 - v.cb) % 65536).toNat
  | 0, v, l, hc, o, F, c0, c1, hf, h8 => absurd hf (Nat.not_lt_zero _)
  | f + 1, v, l, hc, o, F, c0, c1, hf, h8 => by
    by_cases h1 : usedI v.lm v.base 8 = v.cb
    · have e : recvF (f + 1) v l = (v, l) := by rw [recvF, if_pos h1]
      rw [e]
      unfold RecvBd
      dsimp only
      exact ⟨hc, o, rfl, rfl, rfl, c0, by omega, by omega, by omega, by omega, by omega, fun s hs => .inl hs, by omega⟩
    · by_cases h2 : popBad v.lm v.base 612 v.hc v.cb
      · have e : recvF (f + 1) v l = (resetC v, l) := by rw [recvF, if_neg h1, if_pos h2]
        rw [e]
        unfold RecvBd
        dsimp only
        have hl : (resetC v).lm.length = v.lm.length := by show (offN v.base 8 (wipeL v.lm v.base 8)).length = _; rw [offN_length, wipeL_length]
        exact ⟨HcOk.reset v, ⟨o.fl, o.hg, o.nd, o.fr, o.ou, o.ol, by show 0 ≤ v.resets + 1; have := o.r0; omega, by show 0 ≤ v.drops + 1; have := o.d0; omega⟩, rfl, hl, rfl, by show (0 : Int) ≤ 0; omega, by show (0 : Int) ≤ _; omega, by show v.resets ≤ v.resets + 1; omega, by show v.resets + 1 ≤ v.resets + 1; omega, by show v.drops ≤ v.drops + 1; omega, by show v.drops + 1 ≤ v.drops + ((f + 1 : Nat) : Int); omega, fun s hs => .inl hs, by omega⟩
      · have hmem : usedNum v.lm v.base 8 v.cb ∈ v.hc := Decidable.byContradiction fun e => h2 (.inr (.inl e))
        obtain ⟨n0, n1⟩ := hc.rg _ hmem
        have hub := usedI_bd v.lm v.base 8
        have hd1 : 1 ≤ (usedI v.lm v.base 8 - v.cb) % 65536 := by omega
        have hlA : (againC v).lm.length = v.lm.length := by show (offL _ _ _ _ _).length = _; unfold offL; exact addL_length _ _ _ _ _ _
        have hUA : usedI (againC v).lm v.base 8 = usedI v.lm v.base 8 := by
          show usedI (offL v.lm v.base v.co _ _) v.base 8 = _
          exact offL_usedI F.b0 (by have := F.b1; omega) _ _ _ n0 n1
        have hcb : (againC v).cb = v.cb + 1 := by show (v.cb + 1) % 65536 = _; omega
        have key : ∀ (u : Nv) (l' : List (List UInt8)), u.lm = (againC v).lm → u.hc = (againC v).hc → u.cb = (againC v).cb → u.base = v.base → u.gb = v.gb → u.resets = v.resets → v.drops ≤ u.drops → u.drops ≤ v.drops + 1 → u.hg = v.hg → u.free = v.free → u.outs = v.outs → recvF (f + 1) v l = recvF f u l' → (∀ s ∈ l', s ∈ l ∨ okF s) → l'.length ≤ l.length + 1 → RecvBd v (recvF (f + 1) v l) l (f + 1) ((usedI v.lm v.base 8 - v.cb) % 65536).toNat := fun u l' e1 e2 e3 e4 e5 e6 e7 e8 e9 e10 e11 e12 e13 e14 => by
          have hcu : HcOk u := ⟨by rw [e2]; exact (hc.again hmem).nd, by rw [e2]; exact (hc.again hmem).len, by rw [e2]; exact (hc.again hmem).rg⟩
          have ou : NvOk u := ⟨by rw [e10, e9]; exact o.fl, by rw [e9]; exact o.hg, by rw [e9]; exact o.nd, by rw [e10]; exact o.fr, by rw [e11]; exact o.ou, by rw [e11]; exact o.ol, by rw [e6]; exact o.r0, by have := o.d0; omega⟩
          have Fu : Fit u.lm u.base := ⟨by rw [e4]; exact F.b0, by rw [e4, e1, hlA]; exact F.b1, by rw [e1, hlA]; exact F.b2⟩
          have hU : usedI u.lm u.base 8 = usedI v.lm v.base 8 := by rw [e1, e4]; exact hUA
          have hcu2 : u.cb = v.cb + 1 := e3.trans hcb
          have hdd : (usedI u.lm u.base 8 - u.cb) % 65536 = (usedI v.lm v.base 8 - v.cb) % 65536 - 1 := by rw [hU, hcu2]; omega
          obtain ⟨q1, q2, q3, q4, q5, q6, q7, q8, q9, q10, q11, q12, q13⟩ := recv_few f u l' hcu ou Fu (by omega) (by omega) (by rw [hdd]; omega) (by rw [hdd]; omega)
          rw [e12]
          rw [hdd] at q13
          unfold RecvBd
          refine ⟨q1, q2, q3.trans e4, q4.trans (by rw [e1, hlA]), q5.trans e5, q6, by omega, by omega, by omega, by omega, by omega, fun s hs => ?_, by omega⟩
          rcases q12 s hs with h | h
          · exact e13 s h
          · exact .inr h
        cases hX : frameF v.lm v.base (usedNum v.lm v.base 8 v.cb) (usedLen v.lm v.base 8 v.cb) with
        | some s =>
          have e : recvF (f + 1) v l = recvF f (againC v) (l ++ [s]) := by
            rw [recvF, if_neg h1, if_neg h2, hX]
          exact key (againC v) (l ++ [s]) rfl rfl rfl rfl rfl rfl (Int.le_refl _) (by show v.drops ≤ v.drops + 1; omega) rfl rfl rfl e (fun y hy => by
            rcases List.mem_append.1 hy with h | h
            · exact .inl h
            · rw [List.mem_singleton.1 h]; exact .inr (frameF_ok hX F n0 n1)) (by rw [List.length_append, List.length_singleton]; exact Nat.le_refl _)
        | none =>
          have e : recvF (f + 1) v l = recvF f (againC { v with drops := v.drops + 1 }) l := by
            rw [recvF, if_neg h1, if_neg h2, hX]
          exact key (againC { v with drops := v.drops + 1 }) l rfl rfl rfl rfl rfl rfl (by show v.drops ≤ v.drops + 1; omega) (by show v.drops + 1 ≤ v.drops + 1; omega) rfl rfl rfl e (fun y hy => .inl hy) (by omega)
/-- .. where there are too many. -/
theorem recv_many (f : Nat) (v : Nv) (l : List (List UInt8)) (hc : HcOk v) (h8 : 8 < (usedI v.lm v.base 8 - v.cb) % 65536) : recvF (f + 1) v l = (resetC v, l) := by
  rw [recvF, if_neg (by intro e; rw [e] at h8; simp at h8), if_pos (.inl (by rw [hc.len]; omega))]
/-- What regain comes to, whatever stands in the memory. -/
theorem reg_few : ∀ (f : Nat) (v : Nv), 0 ≤ v.gb → v.gb + f ≤ 60000 → (regF f v).base = v.base ∧ (regF f v).lm.length = v.lm.length ∧ (regF f v).cb = v.cb ∧ 0 ≤ (regF f v).gb ∧ (regF f v).gb ≤ v.gb + f ∧ v.resets ≤ (regF f v).resets ∧ (regF f v).resets ≤ v.resets + 1 ∧ (regF f v).drops = v.drops ∧ (regF f v).hc = v.hc
  | 0, v, g0, g1 => ⟨rfl, rfl, rfl, g0, by show v.gb ≤ v.gb + ((0 : Nat) : Int); omega, by show v.resets ≤ v.resets; omega, by show v.resets ≤ v.resets + 1; omega, rfl, rfl⟩
  | f + 1, v, g0, g1 => by
    by_cases h1 : usedI v.lm (v.base + 224) 8 = v.gb
    · rw [regF, if_pos h1]
      exact ⟨rfl, rfl, rfl, g0, by omega, by omega, by omega, rfl, rfl⟩
    · by_cases h2 : popBad v.lm (v.base + 224) 0 v.hg v.gb
      · rw [regF, if_neg h1, if_pos h2]
        exact ⟨rfl, by show (wipeL _ _ _).length = _; rw [wipeL_length], rfl, by show (0 : Int) ≤ 0; omega, by show (0 : Int) ≤ _; omega, by show v.resets ≤ v.resets + 1; omega, by show v.resets + 1 ≤ v.resets + 1; omega, rfl, rfl⟩
      · rw [regF, if_neg h1, if_neg h2]
        have hb : (backG v).gb = v.gb + 1 := by show (v.gb + 1) % 65536 = _; omega
        obtain ⟨q1, q2, q3, q4, q5, q6, q7, q8, q9⟩ := reg_few f (backG v) (by omega) (by omega)
        exact ⟨q1, q2, q3, q4, by omega, q6, q7, q8, q9⟩

/-- A driver over any memory, behind the world w0, and a device's side: so many acts ago they were made. -/
structure SF (w0 w : World) (n p g : Nat) (i : Nat) : Prop where
  ex : ∃ (k : Bk) (d : Dk) (v : Nv) (x : Dv), k.n = n ∧ d.p = p ∧ k.g = g ∧ BD w k d v x ∧ NvOk v ∧ HcOk v ∧ v.base = 0 ∧ v.lm.length = 11000 ∧ (0 ≤ v.cb ∧ v.cb ≤ 9 * i) ∧ (0 ≤ v.gb ∧ v.gb ≤ 9 * i) ∧ v.drops ≤ 9 * i ∧ v.resets ≤ 2 * i ∧ (∀ j, k.all j ∨ d.all j → w0.heap.size ≤ j)
  bl : Below w0.heap.size w0 w
section
variable {w0 w w' : World} {n p g i : Nat}
theorem SF.grown (b : SF w0 w n p g i) (gr : w.grownBy w' none) : SF w0 w' n p g i := by
  obtain ⟨k, d, v, x, h1, h2, hgg, h3, h⟩ := b.ex
  exact ⟨⟨k, d, v, x, h1, h2, hgg, h3.grown gr, h⟩, b.bl.trans (Turned.below (Turned.of (S := fun _ => False) gr (fun j e => by cases e)) b.bl.size (fun k h => h.elim))⟩
theorem SF.more (b : SF w0 w n p g i) : SF w0 w n p g (i + 1) := by
  obtain ⟨k, d, v, x, h1, h2, hgg, h3, h4, h5, h6, h7, h8, h9, h10, h11, h12⟩ := b.ex
  exact ⟨⟨k, d, v, x, h1, h2, hgg, h3, h4, h5, h6, h7, ⟨h8.1, by omega⟩, ⟨h9.1, by omega⟩, by omega, by omega, h12⟩, b.bl⟩
theorem fit0 {v : Nv} (h6 : v.base = 0) (h7 : v.lm.length = 11000) : Fit v.lm v.base := ⟨by rw [h6]; decide, by rw [h6, h7]; decide, by rw [h7]; decide⟩
theorem send_bd (v : Nv) (s : List UInt8) (o : NvOk v) (hc : HcOk v) (F : Fit v.lm v.base) (g0 : 0 ≤ v.gb) (g1 : v.gb ≤ 50000) :
    NvOk (sendF v s).1 ∧ HcOk (sendF v s).1 ∧ (sendF v s).1.base = v.base ∧ (sendF v s).1.lm.length = v.lm.length ∧ (sendF v s).1.cb = v.cb ∧ 0 ≤ (sendF v s).1.gb ∧ (sendF v s).1.gb ≤ v.gb + 9 ∧ (sendF v s).1.drops = v.drops ∧ (sendF v s).1.resets ≤ v.resets + 1 := by
  unfold sendF
  by_cases hf : fitsE s.length = 0
  · rw [if_pos hf]
    have hl : v.hg.length ≤ 8 := by have := o.fl; omega
    obtain ⟨q1, q2, q3, q4, q5, q6, q7, q8, q9⟩ := reg_few (v.hg.length + 1) v g0 (by omega)
    have o2 := NvOk.reg (v.hg.length + 1) o
    generalize regF (v.hg.length + 1) v = u at q1 q2 q3 q4 q5 q6 q7 q8 q9 o2 ⊢
    have hc2 : HcOk u := ⟨by rw [q9]; exact hc.nd, by rw [q9]; exact hc.len, by rw [q9]; exact hc.rg⟩
    unfold sendR
    cases hfr : u.free with
    | nil => exact ⟨o2, hc2, q1, q2, q3, q4, by show u.gb ≤ v.gb + 9; omega, q8, q7⟩
    | cons i fs =>
      have hl2 := o2.fl
      rw [hfr, List.length_cons] at hl2
      obtain ⟨j, js, hj⟩ := free_some (hs := u.hg) (by omega)
      have hj0 : (freeH u.hg).headD 0 = j := by rw [hj]; rfl
      dsimp only
      rw [hj0]
      have hlen : (Go.Proofs.Ytmlicejhkdkhnaa.sendB u i fs j s).lm.length = u.lm.length := by
        show (addL _ _ _ _ _ _).length = _
        rw [addL_length, writeL_length]
      exact ⟨o2.send hfr hj s, ⟨hc2.nd, hc2.len, hc2.rg⟩, q1, hlen.trans q2, q3, q4, by show u.gb ≤ v.gb + 9; omega, q8, q7⟩
  · rw [if_neg hf]
    exact ⟨o, hc, rfl, rfl, rfl, g0, by show v.gb ≤ v.gb + 9; omega, rfl, by show v.resets ≤ v.resets + 1; omega⟩
theorem sSend (b : SF w0 w n p g i) (hi : i ≤ 1000) (S : ByteArray) :
    Calls Try.prog 12 #[.pointer (some ⟨n, 0, none⟩), .string S] w fun e w' => ∃ E : Int, e = .returned (.int .i64 E) ∧ SF w0 w' n p g (i + 1) ∧ Turned (OwnK w) w w' := by
  obtain ⟨k, d, v, x, rfl, h2, hgg, h3, h4, h5, h6, h7, h8, h9, h10, h11, h12⟩ := b.ex
  refine (send_any h3.ni h4 (by omega) S).mono fun e w' ⟨e1, e2⟩ => ?_
  obtain ⟨q1, q2, q3, q4, q5, q6, q7, q8, q9⟩ := send_bd v S.data.toList h4 h5 (fit0 h6 h7) h9.1 (by omega)
  obtain ⟨k', bd, kt, tu⟩ := h3.nic e2 q3 q4
  refine ⟨_, e1, ⟨⟨k', d, _, x, kt.n, h2, kt.g.trans hgg, bd, q1, q2, q3.trans h6, q4.trans h7, by rw [q5]; exact ⟨h8.1, by omega⟩, ⟨q6, by omega⟩, by rw [q8]; omega, by omega, fun j hj => ?_⟩, b.bl.trans (tu.below b.bl.size (fun j hj => h12 j (.inl hj)))⟩, tu.mono (fun j _ hj => h3.ni.ownK j hj)⟩
  rcases hj with hj | hj
  · rcases kt.all j hj with h | h
    · exact h12 j (.inl h)
    · exact Nat.le_trans b.bl.size h
  · exact h12 j (.inr hj)
theorem sRecv (b : SF w0 w n p g i) (hi : i ≤ 1000) :
    Calls Try.prog 15 #[.pointer (some ⟨n, 0, none⟩)] w fun e w' => ∃ y l, e = .returned y ∧ SRow w' y l ∧ l.length ≤ 8 ∧ (∀ s ∈ l, okF s) ∧ SF w0 w' n p g (i + 1) ∧ Turned (OwnK w) w w' := by
  obtain ⟨k, d, v, x, rfl, h2, hgg, h3, h4, h5, h6, h7, h8, h9, h10, h11, h12⟩ := b.ex
  have hd0 := h4.d0
  refine (recv_any h3.ni h5 h4.r0 (by omega) h4.d0 (by omega) _ rfl).mono fun e w' ⟨y, e1, e2, e3, e4⟩ => ?_
  have hub := usedI_bd v.lm v.base 8
  have key : ∀ R : Nv × List (List UInt8), R = recvF (((usedI v.lm v.base 8 - v.cb) % 65536).toNat + 1) v [] → HcOk R.1 ∧ NvOk R.1 ∧ R.1.base = v.base ∧ R.1.lm.length = v.lm.length ∧ R.1.gb = v.gb ∧ 0 ≤ R.1.cb ∧ R.1.cb ≤ v.cb + 9 ∧ R.1.resets ≤ v.resets + 1 ∧ R.1.drops ≤ v.drops + 9 ∧ (∀ s ∈ R.2, okF s) ∧ R.2.length ≤ 8 := fun R hR => by
    by_cases h8' : (usedI v.lm v.base 8 - v.cb) % 65536 ≤ 8
    · obtain ⟨q1, q2, q3, q4, q5, q6, q7, q8, q9, q10, q11, q12, q13⟩ := recv_few (((usedI v.lm v.base 8 - v.cb) % 65536).toNat + 1) v [] h5 h4 (fit0 h6 h7) h8.1 (by omega) (by omega) h8'
      rw [← hR] at q1 q2 q3 q4 q5 q6 q7 q8 q9 q10 q11 q12 q13
      exact ⟨q1, q2, q3, q4, q5, q6, by omega, q9, by omega, fun s hs => (q12 s hs).elim (fun h => by cases h) id, by rw [List.length_nil] at q13; omega⟩
    · rw [recv_many _ v [] h5 (by omega)] at hR
      have hl : (resetC v).lm.length = v.lm.length := by show (offN v.base 8 (wipeL v.lm v.base 8)).length = _; rw [offN_length, wipeL_length]
      subst hR
      exact ⟨HcOk.reset v, ⟨h4.fl, h4.hg, h4.nd, h4.fr, h4.ou, h4.ol, by show 0 ≤ v.resets + 1; have := h4.r0; omega, by show 0 ≤ v.drops + 1; omega⟩, rfl, hl, rfl, by show (0 : Int) ≤ 0; omega, by show (0 : Int) ≤ v.cb + 9; omega, by show v.resets + 1 ≤ v.resets + 1; omega, by show v.drops + 1 ≤ v.drops + 9; omega, fun s hs => (by cases hs), by show 0 ≤ 8; decide⟩
  obtain ⟨q1, q2, q3, q4, q5, q6, q7, q8, q9, q10, q11⟩ := key _ rfl
  generalize recvF (((usedI v.lm v.base 8 - v.cb) % 65536).toNat + 1) v [] = R at e2 e4 q1 q2 q3 q4 q5 q6 q7 q8 q9 q10 q11
  obtain ⟨k', bd, kt, tu⟩ := h3.nic e4 q3 q4
  refine ⟨y, R.2, e1, e2, q11, q10, ⟨⟨k', d, _, x, kt.n, h2, kt.g.trans hgg, bd, q2, q1, q3.trans h6, q4.trans h7, ⟨q6, by omega⟩, by rw [q5]; exact ⟨h9.1, by omega⟩, by omega, by omega, fun j hj => ?_⟩, b.bl.trans (tu.below b.bl.size (fun j hj => h12 j (.inl hj)))⟩, tu.mono (fun j _ hj => h3.ni.ownK j hj)⟩
  rcases hj with hj | hj
  · rcases kt.all j hj with h | h
    · exact h12 j (.inl h)
    · exact Nat.le_trans b.bl.size h
  · exact h12 j (.inr hj)
theorem sDeliv (b : SF w0 w n p g i) (S : ByteArray) (hS : S.size ≤ 1000000) :
    Calls Try.prog 14 #[.pointer (some ⟨p, 0, none⟩), .string S] w fun e w' => ∃ E : Int, e = .returned (.int .i64 E) ∧ SF w0 w' n p g i ∧ Turned (OwnK w) w w' := by
  obtain ⟨k, d, v, x, h1, rfl, hgg, h3, h4, h5, h6, h7, h8, h9, h10, h11, h12⟩ := b.ex
  refine (deliv_any h3.de S hS _ rfl).mono fun e w' ⟨e1, e2, e3, e4⟩ => ?_
  exact ⟨_, e1, ⟨⟨k, d, _, _, h1, rfl, hgg, h3.dev e2 e3 e4, ⟨h4.fl, h4.hg, h4.nd, h4.fr, h4.ou, h4.ol, h4.r0, h4.d0⟩, ⟨h5.nd, h5.len, h5.rg⟩, h6, e3.trans h7, h8, h9, h10, h11, h12⟩, b.bl.trans (e4.below b.bl.size (fun j hj => h12 j (.inr hj)))⟩, e4.mono (fun j _ hj => h3.de.ownK j hj)⟩
theorem sSent (b : SF w0 w n p g i) :
    Calls Try.prog 13 #[.pointer (some ⟨p, 0, none⟩)] w fun e w' => ∃ y l, e = .returned y ∧ SRow w' y l ∧ SF w0 w' n p g i ∧ Turned (OwnK w) w w' := by
  obtain ⟨k, d, v, x, h1, rfl, hgg, h3, h4, h5, h6, h7, h8, h9, h10, h11, h12⟩ := b.ex
  refine (sent_any h3.de _ rfl).mono fun e w' ⟨y, e1, e2, e3, e4, e5, e6⟩ => ?_
  exact ⟨y, _, e1, e2, ⟨⟨k, d, _, _, h1, rfl, hgg, h3.dev e4 e5 e6, ⟨h4.fl, h4.hg, h4.nd, h4.fr, h4.ou, h4.ol, h4.r0, h4.d0⟩, ⟨h5.nd, h5.len, h5.rg⟩, h6, e5.trans h7, h8, h9, h10, h11, h12⟩, b.bl.trans (e6.below b.bl.size (fun j hj => h12 j (.inr hj)))⟩, e6.mono (fun j _ hj => h3.de.ownK j hj)⟩
theorem BD.put {k : Bk} {d : Dk} {v : Nv} {x : Dv} (b : BD w k d v x) {lm' : List UInt8} (m : Mem w' k.g k.h lm') (gr : w.grownBy w' (some k.h)) (hl : lm'.length = v.lm.length) : BD w' k d { v with lm := lm' } x := by
  have t : Turned (fun j => j = k.h) w w' := Turned.of gr (fun j e => by injection e with e; exact e.symm)
  refine ⟨b.ni.other t (fun j e ho => ?_) (notI_h b.ni.mem) m hl, b.de.other t (fun j e => by rw [e]; exact b.ap _ (.inl rfl)) (by rw [b.eg, b.eh]; exact m) hl, b.eg, b.eh⟩
  exact b.ap2 k.h (.inl b.eh.symm) (by rw [← e]; exact ho)
theorem sPut (b : SF w0 w n p g i) (a m X : Int) (hX : 0 ≤ X) :
    Calls Try.prog 28 #[.pointer (some ⟨g, 0, none⟩), .int .i64 a, .int .i64 m, .int .u64 X] w fun e w' => ∃ E : Int, e = .returned (.int .i64 E) ∧ SF w0 w' n p g i ∧ Turned (OwnK w) w w' := by
  obtain ⟨k, d, v, x, h1, h2, rfl, h3, h4, h5, h6, h7, h8, h9, h10, h11, h12⟩ := b.ex
  refine (Put_all w k.g k.h v.lm h3.ni.mem (by rw [h7]; decide) a m X hX).mono fun e w' ⟨e1, e2, e3⟩ => ?_
  have t : Turned (fun j => j = k.h) w w' := Turned.of e3 (fun j e => by injection e with e; exact e.symm)
  exact ⟨_, e1, ⟨⟨k, d, _, x, h1, h2, rfl, h3.put e2 e3 (putL_length _ _ _ _), ⟨h4.fl, h4.hg, h4.nd, h4.fr, h4.ou, h4.ol, h4.r0, h4.d0⟩, ⟨h5.nd, h5.len, h5.rg⟩, h6, (putL_length _ _ _ _).trans h7, h8, h9, h10, h11, h12⟩, b.bl.trans (t.below b.bl.size (fun j hj => h12 j (.inl (.inl hj))))⟩, t.mono (fun j _ hj => h3.ni.ownK j (.inl hj))⟩
end
end Go.Proofs.Ytmlicejhkdkhnaa

namespace Go.Proofs.Ytmlicejhkdkhnaa
open Go.RowKit Go.ChangeShapes Go.WideShapes Go.Deep Go.Conc Go.Sort
set_option linter.unusedVariables false

theorem coi_reset (v : Nv) (F : Fit v.lm v.base) (x : Dv) (h1 : x.tc = 0) (h2 : x.oc = 0) : CoI (resetC v) x allB [] := by
  obtain ⟨b0, b1, b2⟩ := F
  have eu := ua8
  have eb2 : bytesOf 8 = 216 := by decide
  have hL : (wipeL v.lm v.base 8).length = v.lm.length := wipeL_length _ _ _
  obtain ⟨o1, o2, o3⟩ := offN_lies v.base (wipeL v.lm v.base 8) b0 (by omega) (by omega) 8 (by omega)
  refine ⟨by rw [h1]; decide, ⟨by show (0 : Int) ≤ 0; decide, by show (0 : Int) < 65536; decide⟩, ?_, o2 (by omega), fun p y hy => ?_, fun j j0 j1 => ?_, ?_, ?_, fun p y hy => (by cases hy), by decide, by decide, by decide⟩
  · rw [h1]; rfl
  · have hp : p < 8 := (List.getElem?_eq_some_iff.1 hy).1
    have hy2 : y = (p : Int) := by
      rcases (show p = 0 ∨ p = 1 ∨ p = 2 ∨ p = 3 ∨ p = 4 ∨ p = 5 ∨ p = 6 ∨ p = 7 by omega) with rfl | rfl | rfl | rfl | rfl | rfl | rfl | rfl <;> (injection hy with hy; exact hy.symm)
    rw [hy2, h1, show ((0 : Int) + p) % 65536 = p by omega]
    exact (o1 p hp).2
  · obtain ⟨m, rfl⟩ := Int.eq_ofNat_of_zero_le j0
    exact (o1 m (by omega)).1
  · rw [h2]; rfl
  · rw [h2]
    show usedI (offN v.base 8 (wipeL v.lm v.base 8)) v.base 8 = 0
    rw [(o3 (v.base + 150) (v.base + 152) (by omega)).usedI]
    unfold usedI
    rw [eu, get_wiped _ v.base 8 _ _ b0 (by omega) (by omega) (by omega)]
    rfl
theorem goi_reset (v : Nv) (F : Fit v.lm v.base) (x : Dv) (h1 : x.tg = 0) (h2 : x.og = 0) : GoI (resetG v) x [] [] := by
  obtain ⟨b0, b1, b2⟩ := F
  have e8 : ((8 : Nat) : Int) = 8 := rfl
  have eu := ua8
  have eb2 : bytesOf 8 = 216 := by decide
  refine ⟨rfl, by rw [h1]; decide, ⟨by show (0 : Int) ≤ 0; decide, by show (0 : Int) < 65536; decide⟩, by rw [h1]; rfl, ?_, fun p y hy => (by cases hy), fun y hy => (by cases hy), fun y hy => (by cases hy), by rw [h2]; rfl, ?_, fun p y hy => (by cases hy), by show (allB ++ ([] : List Int)).Nodup; decide⟩
  · show offI (wipeL v.lm (v.base + 224) 8) (v.base + 224) 8 = 0
    unfold offI
    rw [get_wiped _ (v.base + 224) 8 _ _ (by omega) (by omega) (by omega) (by omega)]
    rfl
  · rw [h2]
    show usedI (wipeL v.lm (v.base + 224) 8) (v.base + 224) 8 = 0
    unfold usedI
    rw [eu, get_wiped _ (v.base + 224) 8 _ _ (by omega) (by omega) (by omega) (by omega)]
    rfl
/-- As SF, and the memory is as Q says. -/
structure SQ (w0 w : World) (n p g : Nat) (i : Nat) (rs : Int) (Q : List UInt8 → Prop) : Prop where
  ex : ∃ (k : Bk) (d : Dk) (v : Nv) (x : Dv), k.n = n ∧ d.p = p ∧ k.g = g ∧ BD w k d v x ∧ NvOk v ∧ HcOk v ∧ v.base = 0 ∧ v.lm.length = 11000 ∧ (0 ≤ v.cb ∧ v.cb ≤ 9 * i) ∧ (0 ≤ v.gb ∧ v.gb ≤ 9 * i) ∧ v.drops ≤ 9 * i ∧ v.resets = rs ∧ rs ≤ 2 * i ∧ (∀ j, k.all j ∨ d.all j → w0.heap.size ≤ j) ∧ Q v.lm
  bl : Below w0.heap.size w0 w
section
variable {w0 w w' : World} {n p g i : Nat} {rs : Int} {Q : List UInt8 → Prop}
theorem SF.q (b : SF w0 w n p g i) : ∃ rs, SQ w0 w n p g i rs (fun _ => True) := by
  obtain ⟨k, d, v, x, h1, h2, hgg, h3, h4, h5, h6, h7, h8, h9, h10, h11, h12⟩ := b.ex
  exact ⟨v.resets, ⟨k, d, v, x, h1, h2, hgg, h3, h4, h5, h6, h7, h8, h9, h10, rfl, h11, h12, trivial⟩, b.bl⟩
theorem qPut (b : SQ w0 w n p g i rs Q) (a m X : Int) (hX : 0 ≤ X) (E : Int) (hE : E = putE (List.replicate 11000 0) a m) (Q' : List UInt8 → Prop) (hQ : ∀ M, Q M → M.length = 11000 → Q' (putL M a m X)) :
    Calls Try.prog 28 #[.pointer (some ⟨g, 0, none⟩), .int .i64 a, .int .i64 m, .int .u64 X] w fun e w' => e = .returned (.int .i64 E) ∧ SQ w0 w' n p g i rs Q' ∧ Turned (OwnK w) w w' := by
  obtain ⟨k, d, v, x, h1, h2, rfl, h3, h4, h5, h6, h7, h8, h9, h10, h11, h11b, h12, hq⟩ := b.ex
  refine (Put_all w k.g k.h v.lm h3.ni.mem (by rw [h7]; decide) a m X hX).mono fun e w' ⟨e1, e2, e3⟩ => ?_
  have t : Turned (fun j => j = k.h) w w' := Turned.of e3 (fun j e => by injection e with e; exact e.symm)
  have hE2 : putE v.lm a m = E := by rw [hE]; unfold putE; rw [h7, List.length_replicate]
  rw [hE2] at e1
  exact ⟨e1, ⟨⟨k, d, _, x, h1, h2, rfl, h3.put e2 e3 (putL_length _ _ _ _), ⟨h4.fl, h4.hg, h4.nd, h4.fr, h4.ou, h4.ol, h4.r0, h4.d0⟩, ⟨h5.nd, h5.len, h5.rg⟩, h6, (putL_length _ _ _ _).trans h7, h8, h9, h10, h11, h11b, h12, hQ _ hq h7⟩, b.bl.trans (t.below b.bl.size (fun j hj => h12 j (.inl (.inl hj))))⟩, t.mono (fun j _ hj => h3.ni.ownK j (.inl hj))⟩
theorem qResets (b : SQ w0 w n p g i rs Q) : Calls Try.prog 25 #[.pointer (some ⟨n, 0, none⟩)] w fun e w' => e = .returned (.int .i64 rs) ∧ w = w' := by
  obtain ⟨k, d, v, x, rfl, h2, hgg, h3, h4, h5, h6, h7, h8, h9, h10, h11, h12⟩ := b.ex
  rw [← h11]
  exact resets_any4 h3.ni
/-- What comes has begun anew; what goes is broken. -/
structure SR (w0 w : World) (n g : Nat) (rs : Int) : Prop where
  ex : ∃ (k : Bk) (v : Nv), k.n = n ∧ k.g = g ∧ NS w k v false false ∧ NvOk v ∧ HcOk v ∧ v.base = 0 ∧ v.lm.length = 11000 ∧ (0 ≤ v.gb ∧ v.gb ≤ 10000) ∧ v.drops ≤ 100000 ∧ v.resets = rs + 1 ∧ rs ≤ 100000 ∧ usedI v.lm 224 8 = 40000 ∧ CoI v ⟨0, 0, 0, 0⟩ allB [] ∧ (∀ j, k.all j → w0.heap.size ≤ j)
  bl : Below w0.heap.size w0 w
theorem SR.grown (b : SR w0 w n g rs) (gr : w.grownBy w' none) : SR w0 w' n g rs := by
  obtain ⟨k, v, h1, h2, h3, h⟩ := b.ex
  exact ⟨⟨k, v, h1, h2, h3.grown gr, h⟩, b.bl.trans (Turned.below (Turned.of (S := fun _ => False) gr (fun j e => by cases e)) b.bl.size (fun k h => h.elim))⟩
theorem qRecv (b : SQ w0 w n p g i rs Q) (hi : i ≤ 1000) (hQ : ∀ M, Q M → usedI M 0 8 = 40000 ∧ usedI M 224 8 = 40000) :
    Calls Try.prog 15 #[.pointer (some ⟨n, 0, none⟩)] w fun e w' => ∃ y, e = .returned y ∧ SRow w' y [] ∧ SR w0 w' n g rs := by
  obtain ⟨k, d, v, x, rfl, h2, hgg, h3, h4, h5, h6, h7, h8, h9, h10, h11, h11b, h12, hq⟩ := b.ex
  have hd0 := h4.d0
  have hr0 := h4.r0
  obtain ⟨u1, u2⟩ := hQ _ hq
  refine (recv_any h3.ni h5 h4.r0 (by omega) h4.d0 (by omega) _ rfl).mono fun e w' ⟨y, e1, e2, e3, e4⟩ => ?_
  have F := fit0 h6 h7
  have h40 : 8 < (usedI v.lm v.base 8 - v.cb) % 65536 := by rw [h6, u1]; omega
  rw [recv_many _ v [] h5 h40] at e2 e4
  dsimp only at e2 e4
  have hl : (resetC v).lm.length = v.lm.length := by show (offN v.base 8 (wipeL v.lm v.base 8)).length = _; rw [offN_length, wipeL_length]
  obtain ⟨k', bd, kt, tu⟩ := h3.nic e4 rfl hl
  obtain ⟨o1, o2, o3⟩ := offN_lies v.base (wipeL v.lm v.base 8) F.b0 (by rw [wipeL_length]; exact F.b1) (by rw [wipeL_length]; exact F.b2) 8 (by omega)
  have hu : usedI (resetC v).lm 224 8 = 40000 := by
    show usedI (offN v.base 8 (wipeL v.lm v.base 8)) 224 8 = 40000
    rw [(o3 (224 + 150) (224 + 152) (by rw [h6]; omega)).usedI, (same_wipe v.lm v.base (224 + 150) (224 + 152) (by rw [h6]; omega)).usedI]
    exact u2
  refine ⟨y, e1, e2, ⟨⟨k', resetC v, kt.n, kt.g.trans hgg, bd.ni, ⟨h4.fl, h4.hg, h4.nd, h4.fr, h4.ou, h4.ol, by show 0 ≤ v.resets + 1; omega, by show 0 ≤ v.drops + 1; omega⟩, HcOk.reset v, h6, hl.trans h7, ⟨h9.1, by show v.gb ≤ 10000; omega⟩, by show v.drops + 1 ≤ 100000; omega, by show v.resets + 1 = rs + 1; omega, by omega, hu, coi_reset v F _ rfl rfl, fun j hj => ?_⟩, b.bl.trans (tu.below b.bl.size (fun j hj => h12 j (.inl hj)))⟩⟩
  rcases kt.all j hj with h | h
  · exact h12 j (.inl h)
  · exact Nat.le_trans b.bl.size h
/-- Both have begun anew; this goes. -/
structure SU (w0 w : World) (n g : Nat) (rs : Int) (s : List UInt8) : Prop where
  ex : ∃ (k : Bk) (v : Nv) (j : Int), k.n = n ∧ k.g = g ∧ NS w k v false false ∧ NvOk v ∧ HcOk v ∧ v.base = 0 ∧ v.lm.length = 11000 ∧ v.drops ≤ 100000 ∧ rs < v.resets ∧ v.resets ≤ 100002 ∧ GoI v ⟨0, 0, 0, 0⟩ [] [(j, s)] ∧ CoI v ⟨0, 0, 0, 0⟩ allB [] ∧ (∀ j, k.all j → w0.heap.size ≤ j)
  bl : Below w0.heap.size w0 w
theorem rSend (b : SR w0 w n g rs) (S : ByteArray) (h14 : 14 ≤ S.size) (h600 : S.size ≤ 600) :
    Calls Try.prog 12 #[.pointer (some ⟨n, 0, none⟩), .string S] w fun e w' => e = .returned (.int .i64 0) ∧ SU w0 w' n g rs S.data.toList := by
  obtain ⟨k, v, rfl, hgg, h3, h4, h5, h6, h7, h8, h9, h10, h10b, h11, h12, h13⟩ := b.ex
  have hsz : S.data.toList.length = S.size := by rw [Array.length_toList]; rfl
  have F := fit0 h6 h7
  refine (send_any h3 h4 (by omega) S).mono fun e w' ⟨e1, e2⟩ => ?_
  have hgl : v.hg.length ≤ 8 := by have := h4.fl; omega
  have hreg : regF (v.hg.length + 1) v = resetG v := by
    have hu : usedI v.lm (v.base + 224) 8 = 40000 := by rw [h6]; exact h11
    rw [regF, if_neg (by rw [hu]; omega), if_pos (.inl (by rw [hu]; omega))]
  have F2 : Fit (resetG v).lm (resetG v).base := ⟨F.b0, by show v.base + 10304 ≤ (wipeL v.lm (v.base + 224) 8).length; rw [wipeL_length]; exact F.b1, by show (wipeL v.lm (v.base + 224) 8).length ≤ 65536; rw [wipeL_length]; exact F.b2⟩
  have G := goi_reset v F ⟨0, 0, 0, 0⟩ rfl rfl
  have C : CoI (resetG v) ⟨0, 0, 0, 0⟩ allB [] := h12.keep rfl rfl rfl rfl rfl (same_wipe _ _ _ _ (.inl (by omega))) (same_wipe _ _ _ _ (.inr (by omega)))
  have hj : freeH (resetG v).hg = 0 :: [1, 2, 3, 4, 5, 6, 7] := by show freeH [] = _; decide
  obtain ⟨q1, q2⟩ := G.sendB h4.reset F2 (i := 0) (fs := [1, 2, 3, 4, 5, 6, 7]) rfl hj S.data.toList (by omega) (by omega)
  have hs : sendF v S.data.toList = (sendB (resetG v) 0 [1, 2, 3, 4, 5, 6, 7] 0 S.data.toList, 0) := by
    unfold sendF
    rw [hsz, if_pos (fitsE_ok _ (by omega) (by omega)), hreg]
    unfold sendR
    show (sendB (resetG v) 0 [1, 2, 3, 4, 5, 6, 7] ((freeH (resetG v).hg).headD 0) S.data.toList, 0) = _
    rw [hj]
    rfl
  rw [hs] at e1 e2
  dsimp only at e1 e2
  have hlen : (sendB (resetG v) 0 [1, 2, 3, 4, 5, 6, 7] 0 S.data.toList).lm.length = v.lm.length := by
    show (addL _ _ _ _ _ _).length = _
    rw [addL_length, writeL_length]
    show (wipeL _ _ _).length = _
    rw [wipeL_length]
  obtain ⟨k', ns, kt, tu⟩ := e2
  refine ⟨e1, ⟨⟨k', _, 0, kt.n, kt.g.trans hgg, ns, h4.reset.send (i := 0) (fs := [1, 2, 3, 4, 5, 6, 7]) rfl hj _, ⟨h5.nd, h5.len, h5.rg⟩, h6, hlen.trans h7, by show v.drops ≤ 100000; omega, by show rs < v.resets + 1; omega, by show v.resets + 1 ≤ 100002; omega, q1, C.keep rfl rfl rfl rfl rfl (q2 _ _ (.inl (by omega))) (q2 _ _ (.inr ⟨by omega, by omega⟩)), fun j hj => ?_⟩, b.bl.trans (tu.below b.bl.size (fun j hj => h13 j hj))⟩⟩
  rcases kt.all j hj with h | h
  · exact h13 j h
  · exact Nat.le_trans b.bl.size h
theorem uOpen {s : List UInt8} (b : SU w0 w n g rs s) :
    Calls Try.prog 10 #[.pointer (some ⟨g, 0, none⟩), .int .i64 0] w fun e w' => ∃ (q : Nat) (dr : Int), e = .returned (.tuple #[.pointer (some ⟨q, 0, none⟩), .int .i64 0]) ∧ BJ rs w0 w' n q g 11000 0 [s] [] dr ∧ 0 ≤ dr ∧ dr ≤ 100000 := by
  obtain ⟨k, v, j, rfl, rfl, h3, h4, h5, h6, h7, h8, h9, h9b, h10, h11, h12⟩ := b.ex
  refine (open4_ok w k.g k.h v.lm h3.mem 0 (by rw [h7]; decide) (by rw [h7]; decide) (by decide) (by rw [h7]; decide)).mono fun e w' ⟨d, dg, dh, e1, ds, do_, kr⟩ => ?_
  have hr0 := h4.r0
  refine ⟨d.p, v.drops, e1, ⟨⟨k, d, v, ⟨0, 0, 0, 0⟩, [], [(j, s)], allB, [], rfl, rfl, rfl, ⟨h3.grown kr, by rw [h6]; exact ds, dg, dh⟩, h10, h11, h4, h5, fit0 h6 h7, h6, h7, rfl, rfl, rfl, ⟨by omega, by omega, h9⟩, fun i hi => ?_⟩, b.bl.trans ((Below.of_none kr).mono b.bl.size)⟩, h4.d0, h8⟩
  rcases hi with hi | (e | e)
  · exact h12 i hi
  · rw [e, dh]; exact h12 _ (.inl rfl)
  · exact Nat.le_trans b.bl.size (do_ i e)
end
/-- What is put there. -/
theorem puts_used (M : List UInt8) (h : M.length = 11000) : usedI (putL (putL M 150 2 40000) 374 2 40000) 0 8 = 40000 ∧ usedI (putL (putL M 150 2 40000) 374 2 40000) 224 8 = 40000 := by
  have eu := ua8
  constructor
  · unfold usedI
    rw [eu, put_apart _ _ _ _ _ _ (by omega)]
    exact put2 M 150 40000 (by omega) (by omega) (by omega) (by omega)
  · unfold usedI
    rw [eu]
    exact put2 _ 374 40000 (by omega) (by rw [putL_length]; omega) (by omega) (by omega)
end Go.Proofs.Ytmlicejhkdkhnaa

namespace Go.Proofs.Ytmlicejhkdkhnaa.nxw
open Go.ChangeShapes Go.WideShapes Go.ChangeAt Go.RowKit
open Go.ChangeMaps (open_string shut_string)
set_option linter.unusedVariables false

theorem own : ownKnob Try.prog.godebug = none := by kernel_rfl
theorem laidOut : laidOutB Try.prog = true := by kernel_rfl
/-- What New and Open have made. -/
theorem sf_made {w0 w1 w2 w3 : World} {g h : Nat} {k : Bk} {d : Dk} (k1 : w0.grownBy w1 none) (hg : w0.heap.size ≤ g) (hh : w0.heap.size ≤ h)
    (kg : k.g = g) (kh : k.h = h) (ns : NS w2 k (newV (List.replicate 11000 0) 0) false false) (ko : ∀ j, k.own j → w1.heap.size ≤ j) (tu : Turned (fun j => j = h) w1 w2)
    (dg : d.g = g) (dh : d.h = h) (ds : DS w3 d (newV (List.replicate 11000 0) 0).lm 0 ⟨0, 0, 0, 0⟩) (do_ : ∀ j, d.own j → w2.heap.size ≤ j) (k3 : w2.grownBy w3 none) :
    SF w0 w3 k.n d.p g 0 := by
  have B1 := Below.of_none k1
  have B2 := B1.trans (tu.below B1.size (fun j e => by rw [e]; exact hh))
  have B3 := B2.trans ((Below.of_none k3).mono B2.size)
  refine ⟨⟨k, d, newV (List.replicate 11000 0) 0, ⟨0, 0, 0, 0⟩, rfl, rfl, kg, ⟨ns.grown k3, ds, dg.trans kg.symm, dh.trans kh.symm⟩, newV_ok _ _, newV_hc _ _, rfl, by rw [newV_len, List.length_replicate], ⟨by show (0 : Int) ≤ 0; decide, by show (0 : Int) ≤ _; decide⟩, ⟨by show (0 : Int) ≤ 0; decide, by show (0 : Int) ≤ _; decide⟩, by show (0 : Int) ≤ _; decide, by show (0 : Int) ≤ _; decide, fun j hj => ?_⟩, B3⟩
  rcases hj with (e | e) | (e | e)
  · rw [e, kh]; exact hh
  · exact Nat.le_trans k1.size (ko j e)
  · rw [e, dh]; exact hh
  · exact Nat.le_trans B2.size (do_ j e)
theorem bj_res {rs : Int} {w0 w : World} {n p g L : Nat} {base : Int} {Gs Cs : List (List UInt8)} {dr : Int} (b : BJ rs w0 w n p g L base Gs Cs dr) : ∃ r : Int, rs < r ∧ ∀ w', w.grownBy w' none → Calls Try.prog 25 #[.pointer (some ⟨n, 0, none⟩)] w' fun e w'' => e = .returned (.int .i64 r) ∧ w' = w'' := by
  obtain ⟨k, d, v, x, D, W, A, C, rfl, h2, hgg, h3, h4, h5, h6, h7, h8, h9, h10, h11, h12, h13, h14, h15⟩ := b.ex
  exact ⟨v.resets, h14.2.2, fun w' gr => resets_any4 (h3.ni.grown gr)⟩
theorem n4_u64 {n : Int} (h : (Lit.int .u64 n).wf = true) : 0 ≤ n := by
  have : 0 ≤ n ∧ n ≤ 18446744073709551615 := by simpa [Lit.wf, IntKind.min, IntKind.max, IntKind.signed, IntKind.bits] using h
  exact this.1
set_option maxRecDepth 100000 in
set_option maxHeartbeats 16000000 in
theorem walk_out (p0 : Option Addr) (len cap : Nat) (l : List Act4) (w : World) (hl : IsActs4 w p0 len l) (hg : great4 l = true) :
    Calls Try.prog 7 #[.slice p0 len cap] w fun e w' => e = .returned (.bool true) ∧ Below w.heap.size w w' := by
  have HT := Lib.hid hl
  have HG := Lib.hid hg
  clear hl hg
  go_enter Try.func7, Try.ntmps7
  go_wp2_with fail
  refine (awake4 _).mono ?_
  rintro e wa ⟨rfl, bl⟩
  have BL0 := Lib.hid bl
  clear bl
  go_wp2_with fail
  refine (Great4_any wa p0 len cap l (HT.out.below BL0.out)).mono ?_
  rintro e w0 ⟨rfl, rfl⟩
  rw [HG.out]
  go_wp2_with fail
  go_ret
  exact ⟨rfl, BL0.out⟩
set_option maxRecDepth 100000 in
set_option maxHeartbeats 16000000 in
theorem walk_main (p0 : Option Addr) (len cap : Nat) (l : List Act4) (w : World) (hl : IsActs4 w p0 len l) (hg : great4 l = false) :
    Calls Try.prog 7 #[.slice p0 len cap] w fun e w' => e = .returned (.bool true) ∧ Below w.heap.size w w' := by
  have HT := Lib.hid hl
  have HG := Lib.hid hg
  have HGN := Lib.hid (great4_no hg)
  have HLEN : Hid (len ≤ 80) := Lib.hid (by have := (great4_no hg).1; rw [hl.1] at this; exact this)
  clear hl hg
  go_enter Try.func7, Try.ntmps7
  go_wp2_with fail
  refine (awake4 _).mono ?_
  rintro e wa ⟨rfl, bl⟩
  have BL0 := Lib.hid bl
  clear bl
  go_wp2_with fail
  refine (Great4_any wa p0 len cap l (HT.out.below BL0.out)).mono ?_
  rintro e w0 ⟨rfl, rfl⟩
  rw [HG.out]
  go_wp2_with fail
  refine (New_ok wa 11000 (by omega) (by omega)).mono ?_
  rintro e w1 ⟨rfl, m1, k1⟩
  have M1 := Lib.hid m1
  have K1 := Lib.hid k1
  clear m1 k1
  go_wp2_with fail
  refine (new4_ok w1 _ _ _ M1.out 0 (by rw [List.length_replicate]; decide) (by rw [List.length_replicate]; decide) (by decide) (by rw [List.length_replicate]; decide)).mono ?_
  rintro e w2 ⟨k, kg, kh, rfl, ns, ko, tu⟩
  have NS2 := Lib.hid ns
  have KO := Lib.hid ko
  have TU := Lib.hid tu
  have KG := Lib.hid kg
  have KH := Lib.hid kh
  clear ns ko tu kg kh
  go_wp2_with fail
  have MM := Lib.hid NS2.out.mem
  rw [KG.out, KH.out] at MM
  have HL2 : Hid ((newV (List.replicate (11000 : Int).toNat 0) 0).lm.length = 11000) := Lib.hid (by rw [newV_len, List.length_replicate]; rfl)
  refine (open4_ok w2 _ _ _ MM.out 0 (by rw [HL2.out]; decide) (by rw [HL2.out]; decide) (by decide) (by rw [HL2.out]; decide)).mono ?_
  rintro e w3 ⟨d, dg, dh, rfl, ds, do_, k3⟩
  have B0 := Lib.hid (sf_made (w0 := wa) K1.out (by omega) (by omega) KG.out KH.out NS2.out KO.out TU.out dg dh ds do_ k3)
  clear dg dh ds do_ k3 NS2 KO TU KG KH MM HL2 M1 K1
  generalize k.n = n at B0 ⊢
  generalize d.p = p at B0 ⊢
  generalize wa.heap.size + 1 = gm at B0 ⊢
  go_upto_region 11 with fail
  go_loopw [9] (fun i wr => ∃ k : Nat, k ≤ len ∧ i = .int .i64 k ∧ Hid (SF wa wr n p gm k)) (fun i _ => len - (intOf i).toNat)
  case atStart => exact ⟨0, Nat.zero_le _, rfl, B0⟩
  case round =>
    clear B0
    obtain ⟨k, hk, rfl, HV⟩ := hrel
    have BW : Hid (Below w.heap.size w wr) := Lib.hid (BL0.out.trans (HV.out.bl.mono BL0.out.size))
    by_cases hlt : k < len
    · have HKL := Lib.hid hlt
      have HKK : Hid (k ≤ 1000) := Lib.hid (by have := HLEN.out; omega)
      obtain ⟨b, oo, c, hp0, hck, hfit, tw⟩ := HT.out.at_ k hlt
      have TW := Lib.hid (act_rangeL (tw.kept (BW.out.block b tw.block)))
      have HF := Lib.hid hfit
      have HS : Hid (c.s.size ≤ 1000) := Lib.hid (HGN.out.2 c (List.mem_of_getElem? hck))
      have HX0 : Hid (0 ≤ c.x) := Lib.hid (n4_u64 hfit.2.2.2.2.2)
      subst hp0
      have q1 : (0 : Int) ≤ (k : Int) := by omega
      have q2 : (k : Int) < (len : Int) := by omega
      have q3 : decide ((k : Int) < (len : Int)) = true := decide_eq_true q2
      have q4 : IntKind.i64.wrap ((k : Int) + 1) = (k : Int) + 1 := IntWalk.i64_in _ (by have := HLEN.out; omega)
      have X0 := Lib.hid (heap_alloc_new wr (.cells #[.int .i64 c.d, .string c.s, .int .u16 c.n, .int .i64 c.a, .int .i64 c.m, .int .u64 c.x] 63))
      have K0 := Lib.hid (World.grownBy_alloc wr (.cells #[.int .i64 c.d, .string c.s, .int .u16 c.n, .int .i64 c.a, .int .i64 c.m, .int .u64 c.x] 63) none)
      clear tw hfit hck hk hlt
      go_upto_region 14 with (refine wpList_load_mid rfl 63 _ rfl b (oo + k * 6) rfl [.int .i64 c.d, .string c.s, .int .u16 c.n, .int .i64 c.a, .int .i64 c.m, .int .u64 c.x] _ TW.out Try.underlying63 rfl (by kernel_rfl) ?_)
      generalize wr.alloc _ = w5 at X0 K0 ⊢
      generalize wr.heap.size = x at X0 ⊢
      have Y5 : Hid (w5.heap[x]? = some (actO c)) := X0
      have S5 := Lib.hid (HV.out.grown K0.out)
      have RG := Lib.hid (act_range Y5.out)
      obtain ⟨t, ht⟩ : ∃ t, t = frameT c := ⟨_, rfl⟩
      have HTS : Hid (t.size ≤ 1000) := Lib.hid (by rw [ht]; exact frameT_size c HS.out)
      have FA := Lib.hid (actframe_any w5 c HF.out)
      rw [← ht] at FA
      obtain ⟨a0, -⟩ := act_cells Y5.out
      obtain ⟨d, hd⟩ : ∃ d, d = c.d := ⟨_, rfl⟩
      rw [← hd] at a0
      have HD := Lib.hid hd
      clear ht hd X0 K0 HV TW
      go_upto_region 15 with fail
      clear a0
      by_cases hd0 : d = 0
      · subst hd0
        go_wp2_with (refine wpList_load_mid rfl 63 _ rfl x 0 rfl [.int .i64 c.d, .string c.s, .int .u16 c.n, .int .i64 c.a, .int .i64 c.m, .int .u64 c.x] _ RG.out Try.underlying63 rfl (by kernel_rfl) ?_)
        refine FA.out.mono ?_
        rintro e w6 ⟨rfl, k6⟩
        have S6 := Lib.hid (S5.out.grown k6)
        clear k6 S5 RG FA
        go_wp2_with fail
        refine (sSend S6.out HKK.out t).mono ?_
        rintro e w7 ⟨E, rfl, s7, -⟩
        have S7 := Lib.hid s7
        clear s7 S6
        go_wp2_with fail
        go_roundw
        case rel => exact ⟨k + 1, by have := HKL.out; omega, by go_num, S7⟩
        case measure => simp [intOf]; have := HKL.out; omega
      by_cases hd1 : d = 1
      · subst hd1
        go_wp2_with fail
        refine (sRecv S5.out HKK.out).mono ?_
        rintro e w7 ⟨y, ly, rfl, r7, ln, hok, s7, -⟩
        have S7 := Lib.hid s7
        obtain ⟨py, cy, hy, hcy⟩ := r7.tx.ex
        subst hy
        obtain ⟨nl, hnl⟩ : ∃ nl, nl = ly.length := ⟨_, rfl⟩
        rw [← hnl] at ln ⊢
        have HCY := Lib.hid hcy
        have HNL := Lib.hid hnl
        have HLN := Lib.hid ln
        have HOK := Lib.hid hok
        have c8 : decide ((8 : Int) < (nl : Int)) = false := decide_eq_false (by omega)
        have c8n : decide (8 < nl) = false := decide_eq_false (by omega)
        clear s7 S5 r7 hcy hok hnl ln FA RG
        go_upto_region 22 with fail
        clear c8 c8n
        go_loopw [12] (fun i wt => ∃ m : Nat, m ≤ nl ∧ i = .int .i64 m ∧ wt = w7) (fun i _ => nl - (intOf i).toNat)
        case atStart => exact ⟨0, Nat.zero_le _, rfl, rfl⟩
        case round =>
          obtain ⟨m, hm, rfl, rfl⟩ := hrel
          by_cases hlt2 : m < nl
          · have e1 : decide ((m : Int) < (nl : Int)) = true := decide_eq_true (by omega)
            have e1n : decide (m < nl) = true := decide_eq_true hlt2
            have hm2 : m < ly.length := by rw [← HNL.out]; exact hlt2
            obtain ⟨b1, o1, ep, x1⟩ := HCY.out m hm2
            subst ep
            obtain ⟨s, hs⟩ : ∃ s : ByteArray, s = ⟨(ly[m]'hm2).toArray⟩ := ⟨_, rfl⟩
            have hsz : 14 ≤ s.size ∧ s.size ≤ 600 := by
              have := HOK.out _ (List.getElem_mem hm2)
              rw [hs]
              show 14 ≤ (ly[m]'hm2).toArray.size ∧ (ly[m]'hm2).toArray.size ≤ 600
              rw [List.size_toArray]
              exact this
            rw [← hs] at x1
            clear hs
            have f1 : decide ((s.size : Int) < 14) = false := decide_eq_false (by omega)
            have f1n : decide (s.size < 14) = false := decide_eq_false (by omega)
            have f2 : decide ((600 : Int) < (s.size : Int)) = false := decide_eq_false (by omega)
            have f2n : decide (600 < s.size) = false := decide_eq_false (by omega)
            have q1 : (0 : Int) ≤ (m : Int) := by omega
            have q2 : (m : Int) < (nl : Int) := by omega
            have q5 : IntKind.i64.wrap ((m : Int) + 1) = (m : Int) + 1 := IntWalk.i64_in _ (by have := HLN.out; omega)
            have HM1 : Hid (m + 1 ≤ nl) := Lib.hid (by omega)
            clear hsz hm hlt2 hm2
            go_wp2_with fail
            go_roundw
            case rel => exact ⟨m + 1, HM1.out, by go_num, by trivial⟩
            case measure => simp [intOf]; have := HM1.out; omega
          · obtain rfl : m = nl := by omega
            have e1 : decide ((m : Int) < (m : Int)) = false := by simp
            clear hm hlt2
            go_wp2_with fail
            go_roundw
            case rel => exact ⟨k + 1, by have := HKL.out; omega, by go_num, S7⟩
            case measure => simp [intOf]; have := HKL.out; omega
      by_cases hd2 : d = 2
      · subst hd2
        go_wp2_with (refine wpList_load_mid rfl 63 _ rfl x 0 rfl [.int .i64 c.d, .string c.s, .int .u16 c.n, .int .i64 c.a, .int .i64 c.m, .int .u64 c.x] _ RG.out Try.underlying63 rfl (by kernel_rfl) ?_)
        refine FA.out.mono ?_
        rintro e w6 ⟨rfl, k6⟩
        have S6 := Lib.hid (S5.out.grown k6)
        clear k6 S5 RG FA
        go_wp2_with fail
        refine (sDeliv S6.out t (by have := HTS.out; omega)).mono ?_
        rintro e w7 ⟨E, rfl, s7, -⟩
        have S7 := Lib.hid s7.more
        clear s7 S6
        go_wp2_with fail
        go_roundw
        case rel => exact ⟨k + 1, by have := HKL.out; omega, by go_num, S7⟩
        case measure => simp [intOf]; have := HKL.out; omega
      by_cases hd3 : d = 3
      · subst hd3
        go_wp2_with fail
        refine (sSent S5.out).mono ?_
        rintro e w7 ⟨y, ly, rfl, -, s7, -⟩
        have S7 := Lib.hid s7.more
        clear s7 S5 FA RG
        go_wp2_with fail
        go_roundw
        case rel => exact ⟨k + 1, by have := HKL.out; omega, by go_num, S7⟩
        case measure => simp [intOf]; have := HKL.out; omega
      by_cases hd4 : d = 4
      · subst hd4
        obtain ⟨-, -, -, a3, a4, a5, -⟩ := act_cells Y5.out
        go_wp2_with fail
        refine (sPut S5.out c.a c.m c.x HX0.out).mono ?_
        rintro e w7 ⟨E, rfl, s7, -⟩
        have S7 := Lib.hid s7.more
        clear s7 S5 FA RG a3 a4 a5
        go_wp2_with fail
        go_roundw
        case rel => exact ⟨k + 1, by have := HKL.out; omega, by go_num, S7⟩
        case measure => simp [intOf]; have := HKL.out; omega
      have g0 : (d == 0) = false := beq_eq_false_iff_ne.2 hd0
      have g1 : (d == 1) = false := beq_eq_false_iff_ne.2 hd1
      have g2 : (d == 2) = false := beq_eq_false_iff_ne.2 hd2
      have g3 : (d == 3) = false := beq_eq_false_iff_ne.2 hd3
      have g4 : (d == 4) = false := beq_eq_false_iff_ne.2 hd4
      have S7 := Lib.hid S5.out.more
      clear hd0 hd1 hd2 hd3 hd4 FA RG
      go_wp2_with fail
      go_roundw
      case rel => exact ⟨k + 1, by have := HKL.out; omega, by go_num, S7⟩
      case measure => simp [intOf]; have := HKL.out; omega
    · obtain rfl : k = len := by omega
      have q3 : decide ((k : Int) < (k : Int)) = false := by simp
      have HKK : Hid (k ≤ 1000) := Lib.hid (by have := HLEN.out; omega)
      clear hk hlt
      obtain ⟨rs, s0⟩ := HV.out.q
      have S0 := Lib.hid s0
      clear s0 HV
      go_wp2_with fail
      refine (qPut S0.out 130 2 0 (by decide) 0 (by decide) (fun _ => True) (fun _ _ _ => trivial)).mono ?_
      rintro e w3 ⟨rfl, s1, -⟩
      have S1 := Lib.hid s1
      clear s1 S0 q3
      go_wp2_with fail
      refine (qPut S1.out 150 2 40000 (by decide) 0 (by decide) (fun M => ∃ M0, M0.length = 11000 ∧ M = putL M0 150 2 40000) (fun M _ h => ⟨M, h, rfl⟩)).mono ?_
      rintro e w4 ⟨rfl, s1, -⟩
      have S2 := Lib.hid s1
      clear s1 S1
      go_wp2_with fail
      refine (qPut S2.out 374 2 40000 (by decide) 0 (by decide) (fun M => usedI M 0 8 = 40000 ∧ usedI M 224 8 = 40000) (fun M ⟨M0, h0, e⟩ h => by rw [e]; exact puts_used M0 h0)).mono ?_
      rintro e w5 ⟨rfl, s1, -⟩
      have S3 := Lib.hid s1
      clear s1 S2
      go_wp2_with fail
      refine (qResets S3.out).mono ?_
      rintro e w6 ⟨rfl, rfl⟩
      go_wp2_with fail
      refine (qRecv S3.out HKK.out (fun M h => h)).mono ?_
      rintro e w7 ⟨y, rfl, -, s1⟩
      have S4 := Lib.hid s1
      clear s1 S3
      go_wp2_with fail
      refine (text_any w7 20 (by decide) 1 1 rfl).mono ?_
      rintro e w8 ⟨rfl, k8⟩
      have S5 := Lib.hid (S4.out.grown k8)
      clear k8 S4
      go_wp2_with fail
      refine (rSend S5.out (txt 20 1) (by rw [txt_size]; decide) (by rw [txt_size]; decide)).mono ?_
      rintro e w9 ⟨rfl, s1⟩
      have S6 := Lib.hid s1
      clear s1 S5
      go_wp2_with fail
      refine (uOpen S6.out).mono ?_
      rintro e w10 ⟨q, dr, rfl, b0, hdr⟩
      have B0 := Lib.hid b0
      have HDR := Lib.hid hdr
      clear b0 hdr S6
      go_wp2_with fail
      refine (jSent B0.out).mono ?_
      rintro e w11 ⟨y1, rfl, r, -, b, -⟩
      have B1 := Lib.hid b
      have R1 := Lib.hid r
      clear b r B0
      go_wp2_with fail
      refine (text_any w11 33 (by decide) 5 5 rfl).mono ?_
      rintro e w12 ⟨rfl, k4⟩
      have B2 := Lib.hid (B1.out.grown k4)
      have R2 : Hid (SRow w12 y1 [(txt 20 1).data.toList]) := Lib.hid (R1.out.grown k4)
      clear k4 B1 R1
      go_wp2_with fail
      refine (jDeliv B2.out (txt 33 5) (by rw [txt_size]; decide) 0 (by rw [txt_size]; decide)).mono ?_
      rintro e w13 ⟨rfl, b, tt⟩
      have B3 := Lib.hid b
      have R3 := Lib.hid (R2.out.far tt)
      clear b tt B2 R2
      go_wp2_with fail
      refine (jRecv B3.out ⟨HDR.out.1, by have := HDR.out.2; omega⟩ _ rfl).mono ?_
      rintro e w14 ⟨y2, rfl, r, -, b, tt⟩
      have R4 := Lib.hid (R3.out.far tt)
      have Z4 : Hid (SRow w14 y2 [(txt 33 5).data.toList]) := Lib.hid r
      have BW9 := Lib.hid b.bl
      obtain ⟨r1, hr1, kr⟩ := bj_res b
      have KR := Lib.hid kr
      have dcr : decide (rs < r1) = true := decide_eq_true hr1
      have DCR := Lib.hid dcr
      clear r b tt B3 R3 kr hr1 dcr
      obtain ⟨b1, c1, rfl, l1, x1⟩ := srow_one R4.out
      obtain ⟨b2, c2, rfl, l2, x2⟩ := srow_one Z4.out
      have L1 := Lib.hid l1
      have L2 := Lib.hid l2
      rw [txt_back] at x1 x2
      clear l1 l2 R4 Z4
      have T1 := Lib.hid (fun w' => text_any w' 20 (by decide) 1 1 rfl)
      have T2 := Lib.hid (fun w' => text_any w' 33 (by decide) 5 5 rfl)
      generalize txt 20 1 = s1 at x1 T1
      generalize txt 33 5 = s2 at x2 T2
      have X1 := Lib.hid x1
      have X2 := Lib.hid x2
      have EQ1 := Lib.hid (str_eq s1)
      have EQ2 := Lib.hid (str_eq s2)
      clear x1 x2
      go_upto_region 42 with fail
      refine wp_region_noPanic ?_
      refine region_held (S := fun V => Below w14.heap.size w14 V) (by kernel_rfl) (fun V d => Below.of_none d.grown) (fun V d hS => ?_)
      refine wpAnyH_take (i := 0) (oi := ⟨some 134, Op.move (Operand.tmp 14), _, _, _, none⟩) (v := (.int .i64 0)) rfl (by kernel_rfl) (by kernel_rfl) (by kernel_rfl) (fun _ _ _ h => h) (Or.inl ⟨by rfl, fun w' h' => ?_⟩) hS ?_
      · clear h'
        go_simp
      simp only [Act.put]
      refine wpAnyH_take (i := 1) (oi := ⟨some 135, Op.binOp BinOp.eql 23 (Operand.tmp 134) (Operand.const (Value.int IntKind.i64 0)) 23, _, _, _, none⟩) (v := (.bool true)) rfl (by kernel_rfl) (by kernel_rfl) (by kernel_rfl) (fun _ _ _ h => h) (Or.inl ⟨by rfl, fun w' h' => ?_⟩) hS ?_
      · clear h'
        go_simp
      simp only [Act.put]
      refine wpAnyH_take (i := 2) (oi := ⟨some 136, Op.move (Operand.tmp 135), _, _, _, none⟩) (v := (.bool true)) rfl (by kernel_rfl) (by kernel_rfl) (by kernel_rfl) (fun _ _ _ h => h) (Or.inl ⟨by rfl, fun w' h' => ?_⟩) hS ?_
      · clear h'
        go_simp
      simp only [Act.put]
      refine wpAnyH_take (i := 3) (oi := ⟨some 137, Op.move (Operand.tmp 16), _, _, _, some (2, true)⟩) (v := (.int .i64 0)) rfl (by kernel_rfl) (by kernel_rfl) (by kernel_rfl) (fun _ _ _ h => h) (Or.inl ⟨by kernel_rfl, fun w' h' => ?_⟩) hS ?_
      · clear h'
        go_simp
      simp only [Act.put]
      refine wpAnyH_take (i := 4) (oi := ⟨some 138, Op.binOp BinOp.eql 23 (Operand.tmp 137) (Operand.const (Value.int IntKind.i64 0)) 23, _, _, _, some (2, true)⟩) (v := (.bool true)) rfl (by kernel_rfl) (by kernel_rfl) (by kernel_rfl) (fun _ _ _ h => h) (Or.inl ⟨by kernel_rfl, fun w' h' => ?_⟩) hS ?_
      · clear h'
        go_simp
      simp only [Act.put]
      refine wpAnyH_take (i := 5) (oi := ⟨some 139, Op.pick (Operand.tmp 136) (Operand.tmp 138) (Operand.const (Value.bool false)), _, _, _, none⟩) (v := (.bool true)) rfl (by kernel_rfl) (by kernel_rfl) (by kernel_rfl) (fun _ _ _ h => h) (Or.inl ⟨by rfl, fun w' h' => ?_⟩) hS ?_
      · clear h'
        go_simp
      simp only [Act.put]
      refine wpAnyH_take (i := 6) (oi := ⟨some 140, Op.move (Operand.tmp 139), _, _, _, none⟩) (v := (.bool true)) rfl (by kernel_rfl) (by kernel_rfl) (by kernel_rfl) (fun _ _ _ h => h) (Or.inl ⟨by rfl, fun w' h' => ?_⟩) hS ?_
      · clear h'
        go_simp
      simp only [Act.put]
      refine wpAnyH_take (i := 7) (oi := ⟨some 141, Op.move (Operand.tmp 5), _, _, _, some (6, true)⟩) (v := (.pointer (some ⟨n, 0, none⟩))) rfl (by kernel_rfl) (by kernel_rfl) (by kernel_rfl) (fun _ _ _ h => h) (Or.inl ⟨by kernel_rfl, fun w' h' => ?_⟩) hS ?_
      · clear h'
        go_simp
      simp only [Act.put]
      refine wpAnyH_take (i := 9) (oi := ⟨some 143, Op.move (Operand.tmp 13), _, _, _, some (6, true)⟩) (v := (.int .i64 rs)) rfl (by kernel_rfl) (by kernel_rfl) (by kernel_rfl) (fun _ _ _ h => h) (Or.inl ⟨by kernel_rfl, fun w' h' => ?_⟩) hS ?_
      · clear h'
        go_simp
      simp only [Act.put]
      refine wpAnyH_ready (rs := [8]) (by kernel_rfl) (by simp) ?_
      refine AllReadyH.cons rfl (fun K hK => ?_) AllReadyH.nil
      go_simp
      refine (KR.out _ (below_none4 hS)).mono ?_
      rintro e w15 ⟨rfl, rfl⟩
      go_simp
      refine hK.out _ _ hS (fun _ => ?_)
      clear hK K
      refine wpAnyH_take (i := 10) (oi := ⟨some 144, Op.binOp BinOp.gtr 3 (Operand.tmp 142) (Operand.tmp 143) 3, _, _, _, some (6, true)⟩) (v := (.bool true)) rfl (by kernel_rfl) (by kernel_rfl) (by kernel_rfl) (fun _ _ _ h => h) (Or.inl ⟨by kernel_rfl, fun w' h' => ?_⟩) hS ?_
      · have c0 := DCR.out
        clear h'
        go_simp
      simp only [Act.put]
      refine wpAnyH_take (i := 11) (oi := ⟨some 145, Op.pick (Operand.tmp 140) (Operand.tmp 144) (Operand.const (Value.bool false)), _, _, _, none⟩) (v := (.bool true)) rfl (by kernel_rfl) (by kernel_rfl) (by kernel_rfl) (fun _ _ _ h => h) (Or.inl ⟨by rfl, fun w' h' => ?_⟩) hS ?_
      · clear h'
        go_simp
      simp only [Act.put]
      refine wpAnyH_take (i := 12) (oi := ⟨some 146, Op.move (Operand.tmp 145), _, _, _, none⟩) (v := (.bool true)) rfl (by kernel_rfl) (by kernel_rfl) (by kernel_rfl) (fun _ _ _ h => h) (Or.inl ⟨by rfl, fun w' h' => ?_⟩) hS ?_
      · clear h'
        go_simp
      simp only [Act.put]
      refine wpAnyH_take (i := 13) (oi := ⟨some 147, Op.move (Operand.tmp 17), _, _, _, some (12, true)⟩) (v := (.slice (some ⟨b1, 0, none⟩) 1 c1)) rfl (by kernel_rfl) (by kernel_rfl) (by kernel_rfl) (fun _ _ _ h => h) (Or.inl ⟨by kernel_rfl, fun w' h' => ?_⟩) hS ?_
      · clear h'
        go_simp
      simp only [Act.put]
      refine wpAnyH_take (i := 14) (oi := ⟨some 148, Op.call { callee := Callee.builtin Builtin.len, args := #[(Operand.tmp 147)], argTypes := #[34] }, _, _, _, some (12, true)⟩) (v := (.int .i64 1)) rfl (by kernel_rfl) (by kernel_rfl) (by kernel_rfl) (fun _ _ _ h => h) (Or.inl ⟨by kernel_rfl, fun w' h' => ?_⟩) hS ?_
      · clear h'
        go_simp
      simp only [Act.put]
      refine wpAnyH_take (i := 15) (oi := ⟨some 149, Op.binOp BinOp.eql 3 (Operand.tmp 148) (Operand.const (Value.int IntKind.i64 1)) 3, _, _, _, some (12, true)⟩) (v := (.bool true)) rfl (by kernel_rfl) (by kernel_rfl) (by kernel_rfl) (fun _ _ _ h => h) (Or.inl ⟨by kernel_rfl, fun w' h' => ?_⟩) hS ?_
      · clear h'
        go_simp
      simp only [Act.put]
      refine wpAnyH_take (i := 16) (oi := ⟨some 150, Op.pick (Operand.tmp 146) (Operand.tmp 149) (Operand.const (Value.bool false)), _, _, _, none⟩) (v := (.bool true)) rfl (by kernel_rfl) (by kernel_rfl) (by kernel_rfl) (fun _ _ _ h => h) (Or.inl ⟨by rfl, fun w' h' => ?_⟩) hS ?_
      · clear h'
        go_simp
      simp only [Act.put]
      refine wpAnyH_take (i := 17) (oi := ⟨some 151, Op.move (Operand.tmp 150), _, _, _, none⟩) (v := (.bool true)) rfl (by kernel_rfl) (by kernel_rfl) (by kernel_rfl) (fun _ _ _ h => h) (Or.inl ⟨by rfl, fun w' h' => ?_⟩) hS ?_
      · clear h'
        go_simp
      simp only [Act.put]
      refine wpAnyH_take (i := 18) (oi := ⟨some 152, Op.move (Operand.tmp 17), _, _, _, some (17, true)⟩) (v := (.slice (some ⟨b1, 0, none⟩) 1 c1)) rfl (by kernel_rfl) (by kernel_rfl) (by kernel_rfl) (fun _ _ _ h => h) (Or.inl ⟨by kernel_rfl, fun w' h' => ?_⟩) hS ?_
      · clear h'
        go_simp
      simp only [Act.put]
      refine wpAnyH_take (i := 19) (oi := ⟨some 153, Op.indexAddr 34 (Operand.tmp 152) (Operand.const (Value.int IntKind.i64 0)), _, _, _, some (17, true)⟩) (v := (.pointer (some ⟨b1, 0, none⟩))) rfl (by kernel_rfl) (by kernel_rfl) (by kernel_rfl) (fun _ _ _ h => h) (Or.inl ⟨by kernel_rfl, fun w' h' => ?_⟩) hS ?_
      · clear h'
        go_simp
      simp only [Act.put]
      refine wpAnyH_take (i := 20) (oi := ⟨some 154, Op.load 9 (Operand.tmp 153), _, _, _, some (17, true)⟩) (v := (.string s1)) rfl (by kernel_rfl) (by kernel_rfl) (by kernel_rfl) (fun _ _ _ h => h) (Or.inl ⟨by kernel_rfl, fun w' h' => ?_⟩) hS ?_
      · have c0 := ((World.cell?_of_block (a := ⟨b1, 0, none⟩) (h'.block b1 L1.out)).trans X1.out)
        clear h'
        go_simp
      simp only [Act.put]
      refine wpAnyH_ready (rs := [21]) (by kernel_rfl) (by simp) ?_
      refine AllReadyH.cons rfl (fun K hK => ?_) AllReadyH.nil
      go_simp
      refine (T1.out _).mono ?_
      rintro e w16 ⟨rfl, q⟩
      have q2 := hS.trans ((Below.of_none q).mono hS.size)
      clear q
      go_simp
      refine hK.out _ _ q2 (fun _ => ?_)
      clear hK K
      refine wpAnyH_take (i := 22) (oi := ⟨some 156, Op.binOp BinOp.eql 9 (Operand.tmp 154) (Operand.tmp 155) 9, _, _, _, some (17, true)⟩) (v := (.bool true)) rfl (by kernel_rfl) (by kernel_rfl) (by kernel_rfl) (fun _ _ _ h => h) (Or.inl ⟨by kernel_rfl, fun w' h' => ?_⟩) q2 ?_
      · have c0 := EQ1.out
        clear h'
        go_simp
      simp only [Act.put]
      refine wpAnyH_take (i := 23) (oi := ⟨some 157, Op.pick (Operand.tmp 151) (Operand.tmp 156) (Operand.const (Value.bool false)), _, _, _, none⟩) (v := (.bool true)) rfl (by kernel_rfl) (by kernel_rfl) (by kernel_rfl) (fun _ _ _ h => h) (Or.inl ⟨by rfl, fun w' h' => ?_⟩) q2 ?_
      · clear h'
        go_simp
      simp only [Act.put]
      refine wpAnyH_take (i := 24) (oi := ⟨some 158, Op.move (Operand.tmp 157), _, _, _, none⟩) (v := (.bool true)) rfl (by kernel_rfl) (by kernel_rfl) (by kernel_rfl) (fun _ _ _ h => h) (Or.inl ⟨by rfl, fun w' h' => ?_⟩) q2 ?_
      · clear h'
        go_simp
      simp only [Act.put]
      refine wpAnyH_take (i := 25) (oi := ⟨some 159, Op.move (Operand.tmp 18), _, _, _, some (24, true)⟩) (v := (.int .i64 0)) rfl (by kernel_rfl) (by kernel_rfl) (by kernel_rfl) (fun _ _ _ h => h) (Or.inl ⟨by kernel_rfl, fun w' h' => ?_⟩) q2 ?_
      · clear h'
        go_simp
      simp only [Act.put]
      refine wpAnyH_take (i := 26) (oi := ⟨some 160, Op.binOp BinOp.eql 23 (Operand.tmp 159) (Operand.const (Value.int IntKind.i64 0)) 23, _, _, _, some (24, true)⟩) (v := (.bool true)) rfl (by kernel_rfl) (by kernel_rfl) (by kernel_rfl) (fun _ _ _ h => h) (Or.inl ⟨by kernel_rfl, fun w' h' => ?_⟩) q2 ?_
      · clear h'
        go_simp
      simp only [Act.put]
      refine wpAnyH_take (i := 27) (oi := ⟨some 161, Op.pick (Operand.tmp 158) (Operand.tmp 160) (Operand.const (Value.bool false)), _, _, _, none⟩) (v := (.bool true)) rfl (by kernel_rfl) (by kernel_rfl) (by kernel_rfl) (fun _ _ _ h => h) (Or.inl ⟨by rfl, fun w' h' => ?_⟩) q2 ?_
      · clear h'
        go_simp
      simp only [Act.put]
      refine wpAnyH_take (i := 28) (oi := ⟨some 162, Op.move (Operand.tmp 161), _, _, _, none⟩) (v := (.bool true)) rfl (by kernel_rfl) (by kernel_rfl) (by kernel_rfl) (fun _ _ _ h => h) (Or.inl ⟨by rfl, fun w' h' => ?_⟩) q2 ?_
      · clear h'
        go_simp
      simp only [Act.put]
      refine wpAnyH_take (i := 29) (oi := ⟨some 163, Op.move (Operand.tmp 19), _, _, _, some (28, true)⟩) (v := (.slice (some ⟨b2, 0, none⟩) 1 c2)) rfl (by kernel_rfl) (by kernel_rfl) (by kernel_rfl) (fun _ _ _ h => h) (Or.inl ⟨by kernel_rfl, fun w' h' => ?_⟩) q2 ?_
      · clear h'
        go_simp
      simp only [Act.put]
      refine wpAnyH_take (i := 30) (oi := ⟨some 164, Op.call { callee := Callee.builtin Builtin.len, args := #[(Operand.tmp 163)], argTypes := #[34] }, _, _, _, some (28, true)⟩) (v := (.int .i64 1)) rfl (by kernel_rfl) (by kernel_rfl) (by kernel_rfl) (fun _ _ _ h => h) (Or.inl ⟨by kernel_rfl, fun w' h' => ?_⟩) q2 ?_
      · clear h'
        go_simp
      simp only [Act.put]
      refine wpAnyH_take (i := 31) (oi := ⟨some 165, Op.binOp BinOp.eql 3 (Operand.tmp 164) (Operand.const (Value.int IntKind.i64 1)) 3, _, _, _, some (28, true)⟩) (v := (.bool true)) rfl (by kernel_rfl) (by kernel_rfl) (by kernel_rfl) (fun _ _ _ h => h) (Or.inl ⟨by kernel_rfl, fun w' h' => ?_⟩) q2 ?_
      · clear h'
        go_simp
      simp only [Act.put]
      refine wpAnyH_take (i := 32) (oi := ⟨some 166, Op.pick (Operand.tmp 162) (Operand.tmp 165) (Operand.const (Value.bool false)), _, _, _, none⟩) (v := (.bool true)) rfl (by kernel_rfl) (by kernel_rfl) (by kernel_rfl) (fun _ _ _ h => h) (Or.inl ⟨by rfl, fun w' h' => ?_⟩) q2 ?_
      · clear h'
        go_simp
      simp only [Act.put]
      refine wpAnyH_take (i := 33) (oi := ⟨some 167, Op.move (Operand.tmp 166), _, _, _, none⟩) (v := (.bool true)) rfl (by kernel_rfl) (by kernel_rfl) (by kernel_rfl) (fun _ _ _ h => h) (Or.inl ⟨by rfl, fun w' h' => ?_⟩) q2 ?_
      · clear h'
        go_simp
      simp only [Act.put]
      refine wpAnyH_take (i := 34) (oi := ⟨some 168, Op.move (Operand.tmp 19), _, _, _, some (33, true)⟩) (v := (.slice (some ⟨b2, 0, none⟩) 1 c2)) rfl (by kernel_rfl) (by kernel_rfl) (by kernel_rfl) (fun _ _ _ h => h) (Or.inl ⟨by kernel_rfl, fun w' h' => ?_⟩) q2 ?_
      · clear h'
        go_simp
      simp only [Act.put]
      refine wpAnyH_take (i := 35) (oi := ⟨some 169, Op.indexAddr 34 (Operand.tmp 168) (Operand.const (Value.int IntKind.i64 0)), _, _, _, some (33, true)⟩) (v := (.pointer (some ⟨b2, 0, none⟩))) rfl (by kernel_rfl) (by kernel_rfl) (by kernel_rfl) (fun _ _ _ h => h) (Or.inl ⟨by kernel_rfl, fun w' h' => ?_⟩) q2 ?_
      · clear h'
        go_simp
      simp only [Act.put]
      refine wpAnyH_take (i := 36) (oi := ⟨some 170, Op.load 9 (Operand.tmp 169), _, _, _, some (33, true)⟩) (v := (.string s2)) rfl (by kernel_rfl) (by kernel_rfl) (by kernel_rfl) (fun _ _ _ h => h) (Or.inl ⟨by kernel_rfl, fun w' h' => ?_⟩) q2 ?_
      · have c0 := ((World.cell?_of_block (a := ⟨b2, 0, none⟩) (h'.block b2 L2.out)).trans X2.out)
        clear h'
        go_simp
      simp only [Act.put]
      refine wpAnyH_ready (rs := [37]) (by kernel_rfl) (by simp) ?_
      refine AllReadyH.cons rfl (fun K hK => ?_) AllReadyH.nil
      go_simp
      refine (T2.out _).mono ?_
      rintro e w17 ⟨rfl, q⟩
      have q3 := q2.trans ((Below.of_none q).mono q2.size)
      clear q
      go_simp
      refine hK.out _ _ q3 (fun _ => ?_)
      clear hK K
      refine wpAnyH_take (i := 38) (oi := ⟨some 172, Op.binOp BinOp.eql 9 (Operand.tmp 170) (Operand.tmp 171) 9, _, _, _, some (33, true)⟩) (v := (.bool true)) rfl (by kernel_rfl) (by kernel_rfl) (by kernel_rfl) (fun _ _ _ h => h) (Or.inl ⟨by kernel_rfl, fun w' h' => ?_⟩) q3 ?_
      · have c0 := EQ2.out
        clear h'
        go_simp
      simp only [Act.put]
      refine wpAnyH_take (i := 39) (oi := ⟨some 173, Op.pick (Operand.tmp 167) (Operand.tmp 172) (Operand.const (Value.bool false)), _, _, _, none⟩) (v := (.bool true)) rfl (by kernel_rfl) (by kernel_rfl) (by kernel_rfl) (fun _ _ _ h => h) (Or.inl ⟨by rfl, fun w' h' => ?_⟩) q3 ?_
      · clear h'
        go_simp
      simp only [Act.put]
      refine wpAnyH_take (i := 40) (oi := ⟨some 2, Op.assign (Operand.tmp 173), _, _, _, none⟩) (v := (.bool true)) rfl (by kernel_rfl) (by kernel_rfl) (by kernel_rfl) (fun _ _ _ h => h) (Or.inl ⟨by rfl, fun w' h' => ?_⟩) q3 ?_
      · clear h'
        go_simp
      simp only [Act.put]
      refine wpAnyH_done (by kernel_rfl) (NoPanic.normal ?_) _
      go_wp2_with fail
      go_ret
      exact ⟨rfl, BL0.out.trans ((BW9.out.trans (q3.mono BW9.out.size)).mono BL0.out.size)⟩
theorem walk (p0 : Option Addr) (len cap : Nat) (l : List Act4) (w : World) (w0 : IsActs4 w p0 len l) :
    Calls Try.prog 7 #[.slice p0 len cap] w fun e w' => e = .returned (.bool true) ∧ Below w.heap.size w w' := by
  cases hg : great4 l with
  | true => exact walk_out p0 len cap l w w0 hg
  | false => exact walk_main p0 len cap l w w0 hg
set_option maxRecDepth 100000 in
theorem lifted (os : Os) (started : os.Started) (H : Type) (enc : TypeId × Value → H) :
    ReturnsInHanded {} Try.checked os 7 .any (Rows.vnetSafeSpec.pre6 enc Try.prog Try.f7 Rows.vnetSafeRow.domain false) (Rows.vnetSafeSpec.post enc Try.prog Try.f7 false true false false) := by
  refine returnsInHanded_of_change (C := Try.checked) own started (by kernel_rfl) Try.func7
    (ChangeSpec.witness6 (enc := enc) (C := Try.checked) false ⟨#[], #[.slice none 0 0], []⟩ 8 (by kernel_rfl) (by kernel_rfl) (by kernel_rfl) (by kernel_rfl)) ?_
  intro W base args ds gs before hval0 hW hcnd _
  have hval : ∀ (j : Nat) t v, Try.f7.params[j]? = some t → args[j]? = some v → Value.okWide Try.prog W .any base t v := hval0
  have hW' := hW
  obtain ⟨p, q, hA0, hV, rfl, hfz, hnd⟩ := hW
  have hA : DataW.TrodAll enc Try.prog W 0 (fun _ => true) true Try.f7.params.toList args.toList ds p := hA0
  rw [Try.params7] at hA hval
  obtain ⟨v0, vs0, d0, ds0, p0, q0, hargs, rfl, rfl, h0, r0⟩ := trodAll_cons hA
  obtain ⟨rfl, rfl, rfl⟩ := trodAll_nil r0
  obtain rfl : args = #[v0] := by cases args; simp_all
  obtain ⟨rfl, rfl⟩ := trodVars_none hV
  obtain ⟨a0, len0, cap0, rfl⟩ := okWide_slice Try.underlying58 (hval 0 58 v0 rfl rfl)
  have k0 := h0
  have lt0 : ∀ x ∈ p0, x.block < W.heap.size := by obtain ⟨m, hm⟩ := k0; exact DataW.trod_lt m _ _ _ hm
  obtain ⟨l0, w0⟩ : ∃ l, IsActs4 W a0 len0 l := by obtain ⟨fuel, hf⟩ := h0; exact open_acts4 hf
  clear hA0 hval0
  refine (walk a0 len0 cap0 l0 W w0).mono fun e W' ⟨he, bel⟩ => ?_
  subst he
  exact ⟨_, rfl, _, _, _, [], _, [], hW', trodAll_mk1 (shut_bool Try.underlying4 _), (trodAll_cons_mk (Below.trod laidOut (by kernel_rfl) (of_decide_eq_true (by kernel_rfl)) k0 bel lt0) trodAll_mk0), rfl, bel.frame _, fun h => by cases h⟩

/-- THE STATEMENT. -/
theorem proved : Rows.VnetSafeSaid :=
  OpenClaim.holds_of_wide 7 Try.f7 rfl rfl rfl rfl rfl rfl rfl ⟨rfl, rfl, rfl, rfl, rfl⟩ rfl rfl rfl rfl rfl (by kernel_rfl) Try.func7 (by kernel_rfl)
    (of_decide_eq_true (by kernel_rfl)) (by unfold Func.isWrapper; first | (rw [if_pos (by decide +kernel)]; kernel_rfl) | (rw [if_neg (by decide +kernel)]; exact ⟨rfl, rfl⟩))
    (fun os started H enc _ => lifted os started H enc)
#print axioms proved

end Go.Proofs.Ytmlicejhkdkhnaa.nxw
