/-
  VnetBack: what is sent the device tells, in that order, each once; what it delivers is received, in that order, each once, but for what may not go; what has no room is refused. Conditions: none beyond the kinds of the arguments.
-/
import Derived.Test.YtmlicejhkdkhnaaNvH
import Derived.ProofKit
import Derived.OpenShut
import Derived.ShutString
import Derived.ChangeOld
import Derived.Below
namespace Go.Proofs.Ytmlicejhkdkhnaa
open Go.RowKit Go.ChangeShapes Go.WideShapes Go.Deep Go.Conc Go.Sort
set_option linter.unusedVariables false

theorem SRow.beside {w w' : World} {v : Value} {l : List (List UInt8)} (h : SRow w v l) {o : Option Nat} (gr : w.grownBy w' o) (hne : ∀ b, v.ownBlock = some b → o ≠ some b) : SRow w' v l := by
  have hb : ∀ b, v.ownBlock = some b → w'.heap[b]? = w.heap[b]? := fun b e => by
    obtain ⟨x, hx, _⟩ := StrRow.kd h.row e
    exact gr.block b (lt_of_block hx) (fun e2 => hne b e e2.symm)
  exact ⟨RowA.kept h.row gr.size hb, fun b e x hx => by
    rw [World.cell?_of_block (w := w) (a := ⟨b, 0, none⟩) (hb b e)] at hx
    exact h.ni b e x hx⟩
theorem SRow.nil (w : World) : SRow w (.slice none 0 0) [] := ⟨World.ownsRow_nil _ _ _ _, fun b hb => by cases hb⟩
/-- The driver, the device, and the two rows: what is to go, what is to come. -/
structure VB (w0 w : World) (n p g : Nat) (vg vc : Value) (RG RC Gs Cs : List (List UInt8)) (dr : Int) : Prop where
  bi : BI w0 w n p g 12000 32 Gs Cs dr
  rg : SRow w vg RG
  rc : SRow w vc RC
  ap : ∀ b, vg.ownBlock = some b → vc.ownBlock ≠ some b
  og : ∀ b, vg.ownBlock = some b → w0.heap.size ≤ b
  oc : ∀ b, vc.ownBlock = some b → w0.heap.size ≤ b
section
variable {w0 w w' : World} {n p g : Nat} {vg vc vg' vc' : Value} {RG RC Gs Cs : List (List UInt8)} {dr : Int}
theorem VB.grown (h : VB w0 w n p g vg vc RG RC Gs Cs dr) (k : w.grownBy w' none) : VB w0 w' n p g vg vc RG RC Gs Cs dr := ⟨h.bi.grown k, h.rg.grown k, h.rc.grown k, h.ap, h.og, h.oc⟩
theorem VB.far (h : VB w0 w n p g vg vc RG RC Gs Cs dr) (t : Turned (OwnK w) w w') {Gs' Cs' : List (List UInt8)} {dr' : Int} (b : BI w0 w' n p g 12000 32 Gs' Cs' dr') : VB w0 w' n p g vg vc RG RC Gs' Cs' dr' := ⟨b, h.rg.far t, h.rc.far t, h.ap, h.og, h.oc⟩
theorem VB.nilG (h : VB w0 w n p g vg vc RG RC Gs Cs dr) : VB w0 w n p g (.slice none 0 0) vc [] RC Gs Cs dr := ⟨h.bi, SRow.nil w, h.rc, fun b hb => (by cases hb), fun b hb => (by cases hb), h.oc⟩
theorem VB.nilC (h : VB w0 w n p g vg vc RG RC Gs Cs dr) : VB w0 w n p g vg (.slice none 0 0) RG [] Gs Cs dr := ⟨h.bi, h.rg, SRow.nil w, fun b _ e => (by cases e), h.og, fun b hb => (by cases hb)⟩
theorem VB.appG (h : VB w0 w n p g vg vc RG RC Gs Cs dr) {s : List UInt8} (r : StrRow w' vg' (RG ++ [s])) (gr : w.grownBy w' vg.ownBlock) (e : vg'.ownBlock = vg.ownBlock ∨ vg'.ownBlock = some w.heap.size) : VB w0 w' n p g vg' vc (RG ++ [s]) RC Gs Cs dr := by
  have hc : ∀ b, vc.ownBlock = some b → b < w.heap.size := fun b hb => by
    obtain ⟨x, hx, _⟩ := StrRow.kd h.rc.row hb
    exact lt_of_block hx
  refine ⟨h.bi.row h.rg gr h.og, SRow.push r, h.rc.beside gr (fun b hb e2 => h.ap b e2 hb), fun b hb e2 => ?_, fun b hb => ?_, h.oc⟩
  · rcases e with e | e
    · exact h.ap b (by rw [← e]; exact hb) e2
    · rw [e] at hb; injection hb with hb
      have := hc b e2
      omega
  · rcases e with e | e
    · exact h.og b (by rw [← e]; exact hb)
    · rw [e] at hb; injection hb with hb
      rw [← hb]; exact h.bi.bl.size
theorem VB.appC (h : VB w0 w n p g vg vc RG RC Gs Cs dr) {s : List UInt8} (r : StrRow w' vc' (RC ++ [s])) (gr : w.grownBy w' vc.ownBlock) (e : vc'.ownBlock = vc.ownBlock ∨ vc'.ownBlock = some w.heap.size) : VB w0 w' n p g vg vc' RG (RC ++ [s]) Gs Cs dr := by
  have hg : ∀ b, vg.ownBlock = some b → b < w.heap.size := fun b hb => by
    obtain ⟨x, hx, _⟩ := StrRow.kd h.rg.row hb
    exact lt_of_block hx
  refine ⟨h.bi.row h.rc gr h.oc, h.rg.beside gr (fun b hb e2 => h.ap b hb e2), SRow.push r, fun b hb e2 => ?_, h.og, fun b hb => ?_⟩
  · rcases e with e | e
    · exact h.ap b hb (by rw [← e]; exact e2)
    · rw [e] at e2; injection e2 with e2
      have := hg b hb
      omega
  · rcases e with e | e
    · exact h.oc b (by rw [← e]; exact hb)
    · rw [e] at hb; injection hb with hb
      rw [← hb]; exact h.bi.bl.size
theorem vSend (h : VB w0 w n p g vg vc RG RC Gs Cs dr) (S : ByteArray) (E : Int) (hE : sendE Gs.length S.size = E) (Gs' : List (List UInt8)) (hG : Gs' = if E = 0 then Gs ++ [S.data.toList] else Gs) :
    Calls Try.prog 12 #[.pointer (some ⟨n, 0, none⟩), .string S] w fun e w' => e = .returned (.int .i64 E) ∧ VB w0 w' n p g vg vc RG RC Gs' Cs dr := by
  subst hG
  exact (iSend h.bi S E hE).mono fun e w' ⟨e1, e2, e3⟩ => ⟨e1, h.far e3 e2⟩
theorem vDeliv (h : VB w0 w n p g vg vc RG RC Gs Cs dr) (S : ByteArray) (hS : S.size ≤ 1000000) (E : Int) (hE : delivE Cs.length S.size = E) (Cs' : List (List UInt8)) (hC : Cs' = if E = 0 then Cs ++ [S.data.toList] else Cs) :
    Calls Try.prog 14 #[.pointer (some ⟨p, 0, none⟩), .string S] w fun e w' => e = .returned (.int .i64 E) ∧ VB w0 w' n p g vg vc RG RC Gs Cs' dr := by
  subst hC
  exact (iDeliv h.bi S hS E hE).mono fun e w' ⟨e1, e2, e3⟩ => ⟨e1, h.far e3 e2⟩
theorem vSent (h : VB w0 w n p g vg vc RG RC Gs Cs dr) :
    Calls Try.prog 13 #[.pointer (some ⟨p, 0, none⟩)] w fun e w' => ∃ y, e = .returned y ∧ SRow w' y Gs ∧ VB w0 w' n p g vg vc RG RC [] Cs dr :=
  (iSent h.bi).mono fun e w' ⟨y, e1, e2, _, e3, e4⟩ => ⟨y, e1, e2, h.far e4 e3⟩
theorem vRecv (h : VB w0 w n p g vg vc RG RC Gs Cs dr) (hd : 0 ≤ dr ∧ dr < 2305843009213693952) (dr' : Int) (hdr : dr' = dr + (Cs.filter fun s => !mayGo s).length) :
    Calls Try.prog 15 #[.pointer (some ⟨n, 0, none⟩)] w fun e w' => ∃ y, e = .returned y ∧ SRow w' y (Cs.filter mayGo) ∧ VB w0 w' n p g vg vc RG RC Gs [] dr' :=
  (iRecv h.bi hd dr' hdr).mono fun e w' ⟨y, e1, e2, _, e3, e4⟩ => ⟨y, e1, e2, h.far e4 e3⟩
end
/-- A box with an act. -/
def actO (c : Act4) : Obj := .cells #[.int .i64 c.d, .string c.s, .int .u16 c.n, .int .i64 c.a, .int .i64 c.m, .int .u64 c.x] 63 (0, 0)
theorem act_cells {w : World} {x : Nat} {c : Act4} (h : w.heap[x]? = some (actO c)) :
    w.cell? ⟨x, 0, none⟩ = some (.int .i64 c.d) ∧ w.cell? ⟨x, 1, none⟩ = some (.string c.s) ∧ w.cell? ⟨x, 2, none⟩ = some (.int .u16 c.n) ∧ w.cell? ⟨x, 3, none⟩ = some (.int .i64 c.a) ∧ w.cell? ⟨x, 4, none⟩ = some (.int .i64 c.m) ∧ w.cell? ⟨x, 5, none⟩ = some (.int .u64 c.x) ∧ ∀ i, w.frozen? ⟨x, i, none⟩ = false := by
  unfold actO at h
  exact ⟨by rw [cell_of_block h]; rfl, by rw [cell_of_block h]; rfl, by rw [cell_of_block h]; rfl, by rw [cell_of_block h]; rfl, by rw [cell_of_block h]; rfl, by rw [cell_of_block h]; rfl, fun i => by simp [World.frozen?, h]⟩
theorem act_range {w : World} {x : Nat} {c : Act4} (h : w.heap[x]? = some (actO c)) : w.rangeAt x 0 [.int .i64 c.d, .string c.s, .int .u16 c.n, .int .i64 c.a, .int .i64 c.m, .int .u64 c.x] := fun j u hu => by
  unfold actO at h
  rw [Nat.zero_add, cell_of_block h]
  exact (List.getElem?_toArray (xs := ([.int .i64 c.d, .string c.s, .int .u16 c.n, .int .i64 c.a, .int .i64 c.m, .int .u64 c.x] : List Value))).trans hu
theorem act_rangeL {w : World} {b o : Nat} {c : Act4} (h : Act4At w b o c) : w.rangeAt b o [.int .i64 c.d, .string c.s, .int .u16 c.n, .int .i64 c.a, .int .i64 c.m, .int .u64 c.x] := fun j u hu => by
  obtain ⟨h0, h1, h2, h3, h4, h5⟩ := h
  match j, hu with
  | 0, hu => injection hu with hu; rw [← hu]; exact h0
  | 1, hu => injection hu with hu; rw [← hu]; exact h1
  | 2, hu => injection hu with hu; rw [← hu]; exact h2
  | 3, hu => injection hu with hu; rw [← hu]; exact h3
  | 4, hu => injection hu with hu; rw [← hu]; exact h4
  | 5, hu => injection hu with hu; rw [← hu]; exact h5
theorem st_act {w : World} {x : Nat} {c c' : Act4} (h : w.heap[x]? = some (actO c)) :
    (storeVar 63 ⟨x, 0, none⟩ (.agg #[.int .i64 c'.d, .string c'.s, .int .u16 c'.n, .int .i64 c'.a, .int .i64 c'.m, .int .u64 c'.x])).run Try.prog w = .ok () (w.setRow x #[.int .i64 c'.d, .string c'.s, .int .u16 c'.n, .int .i64 c'.a, .int .i64 c'.m, .int .u64 c'.x]) :=
  run_storeVar_row (P := Try.prog) w x 63 63 _ #[.int .i64 c'.d, .string c'.s, .int .u16 c'.n, .int .i64 c'.a, .int .i64 c'.m, .int .u64 c'.x] h (by kernel_rfl) rfl (by simp [Value.oneCell'])
theorem act_kd (c : Act4) : kd (actO c) ∉ ownKs := by show 63 ∉ ownKs; decide
theorem act_ne {w : World} {x : Nat} {c : Act4} (h : w.heap[x]? = some (actO c)) : ¬ OwnK w x := OwnK.no h (act_kd c)
theorem upon_storeN {P : Program} {o : Oper} {a : Act} {w w' : World} {K : Act → World → Prop} {Q : Exit → Act → World → Prop} (t : TypeId) (p x : Operand) (ho : o.op = .store t p x) (v : Value) (g : Nat) (hp : a.eval p = .pointer (some ⟨g, 0, none⟩)) (hx : a.eval x = v)
    (hr : (storeVar t ⟨g, 0, none⟩ v).run P w = .ok () w') (h : K (a.put o.dst undef) w') : o.wp P a w K Q := by
  unfold Oper.wp execOp
  simp only [ho, hp, hx, Instr.storeAt, Instr.sureAddr, Sem.run_bind, Sem.run_pure, Result.andThen_ok, hr]
  exact h
theorem wpList_storeN {P : Program} {ops : Array Oper} {rest : List Oper} {o : Oper} {a : Act} {w w' : World} {Q : Exit → Act → World → Prop} (t : TypeId) (p x : Operand) (hgd : o.guard = none) (ho : o.op = .store t p x) (v : Value) (g : Nat) (hp : a.eval p = .pointer (some ⟨g, 0, none⟩)) (hx : a.eval x = v)
    (hr : (storeVar t ⟨g, 0, none⟩ v).run P w = .ok () w') (h : wpList P ops Q rest (a.put o.dst undef) w') : wpList P ops Q (o :: rest) a w :=
  wpList_plain hgd fun _ hK => upon_storeN t p x ho v g hp hx hr (hK _ _ h)
end Go.Proofs.Ytmlicejhkdkhnaa

namespace Go.Proofs.Ytmlicejhkdkhnaa.nxv
open Go.ChangeShapes Go.WideShapes Go.ChangeAt Go.RowKit
open Go.ChangeMaps (open_string shut_string)
set_option linter.unusedVariables false

theorem own : ownKnob Try.prog.godebug = none := by kernel_rfl
theorem laidOut : laidOutB Try.prog = true := by kernel_rfl
/-- How many may not go. -/
def sh (C : List (List UInt8)) : Nat := (C.filter fun s => !mayGo s).length
theorem sh_le (C : List (List UInt8)) : sh C ≤ C.length := List.length_filter_le _ _
theorem sh_yes {C : List (List UInt8)} {s : List UInt8} (h : mayGo s = true) : sh (C ++ [s]) = sh C ∧ (C ++ [s]).filter mayGo = C.filter mayGo ++ [s] := by
  unfold sh
  rw [List.filter_append, List.filter_append, List.filter_cons_of_neg (by simp [h]), List.filter_cons_of_pos h]
  simp
theorem sh_no {C : List (List UInt8)} {s : List UInt8} (h : mayGo s = false) : sh (C ++ [s]) = sh C + 1 ∧ (C ++ [s]).filter mayGo = C.filter mayGo := by
  unfold sh
  rw [List.filter_append, List.filter_append, List.filter_cons_of_pos (by simp [h]), List.filter_cons_of_neg (by simp [h])]
  simp
theorem may_of (s : ByteArray) : mayGo s.data.toList = decide (14 ≤ s.size) := by
  unfold mayGo
  rw [Array.length_toList]
  rfl
set_option maxRecDepth 100000 in
set_option maxHeartbeats 16000000 in
theorem walk_out (p0 : Option Addr) (len cap : Nat) (l : List Act4) (w : World) (hl : IsActs4 w p0 len l) (hg : great4 l = true) :
    Calls Try.prog 6 #[.slice p0 len cap] w fun e w' => e = .returned (.bool true) ∧ Below w.heap.size w w' := by
  have HT := Lib.hid hl
  have HG := Lib.hid hg
  clear hl hg
  go_enter Try.func6, Try.ntmps6
  go_wp2_with fail
  refine (awake4 _).mono ?_
  rintro e wa ⟨rfl, bl⟩
  have BL0 := Lib.hid bl
  clear bl
  go_wp2_with fail
  refine (Great4_any wa p0 len cap l (HT.out.below BL0.out)).mono ?_
  rintro e w0 ⟨rfl, rfl⟩
  rw [HG.out]
  go_wp2_with fail
  go_ret
  exact ⟨rfl, BL0.out⟩
theorem info_str4 : ∃ i, Try.prog.info? 9 = some i ∧ i.zero = some (.string ⟨#[]⟩) ∧ i.size = 1 ∧ i.bytes = 16 := by
  have h := info_strK
  cases hi : Try.prog.info? 9 with
  | none => rw [hi] at h; cases h
  | some i =>
    rw [hi] at h
    simp only [Option.map_some, Option.some.injEq, Prod.mk.injEq] at h
    exact ⟨i, rfl, h.1, h.2.1, h.2.2⟩
set_option maxRecDepth 100000 in
set_option maxHeartbeats 16000000 in
theorem walk_main (p0 : Option Addr) (len cap : Nat) (l : List Act4) (w : World) (hl : IsActs4 w p0 len l) (hg : great4 l = false) :
    Calls Try.prog 6 #[.slice p0 len cap] w fun e w' => e = .returned (.bool true) ∧ Below w.heap.size w w' := by
  have HT := Lib.hid hl
  have HG := Lib.hid hg
  have HGN := Lib.hid (great4_no hg)
  have HLEN : Hid (len ≤ 80) := Lib.hid (by have := (great4_no hg).1; rw [hl.1] at this; exact this)
  clear hl hg
  go_enter Try.func6, Try.ntmps6
  go_wp2_with fail
  refine (awake4 _).mono ?_
  rintro e wa ⟨rfl, bl⟩
  have BL0 := Lib.hid bl
  clear bl
  go_wp2_with fail
  refine (Great4_any wa p0 len cap l (HT.out.below BL0.out)).mono ?_
  rintro e w0 ⟨rfl, rfl⟩
  rw [HG.out]
  go_wp2_with fail
  refine (New_ok wa 12000 (by omega) (by omega)).mono ?_
  rintro e w1 ⟨rfl, m1, k1⟩
  have M1 := Lib.hid m1
  have K1 := Lib.hid k1
  clear m1 k1
  go_wp2_with fail
  refine (new4_ok w1 _ _ _ M1.out 32 (by rw [List.length_replicate]; decide) (by rw [List.length_replicate]; decide) (by decide) (by rw [List.length_replicate]; decide)).mono ?_
  rintro e w2 ⟨k, kg, kh, rfl, ns, ko, tu⟩
  have NS2 := Lib.hid ns
  have KO := Lib.hid ko
  have TU := Lib.hid tu
  have KG := Lib.hid kg
  have KH := Lib.hid kh
  clear ns ko tu kg kh
  go_wp2_with fail
  have MM := Lib.hid NS2.out.mem
  rw [KG.out, KH.out] at MM
  have HL2 : Hid ((newV (List.replicate (12000 : Int).toNat 0) 32).lm.length = 12000) := Lib.hid (by rw [newV_len, List.length_replicate]; rfl)
  refine (open4_ok w2 _ _ _ MM.out 32 (by rw [HL2.out]; decide) (by rw [HL2.out]; decide) (by decide) (by rw [HL2.out]; decide)).mono ?_
  rintro e w3 ⟨d, dg, dh, rfl, ds, do_, k3⟩
  have B0 := Lib.hid (bi_made (w0 := wa) K1.out (by omega) (by omega) (by decide) (by decide) KG.out KH.out NS2.out KO.out TU.out dg dh ds do_ k3)
  clear dg dh ds do_ k3 NS2 KO TU KG KH MM HL2 M1 K1
  generalize k.n = n at B0 ⊢
  generalize d.p = p at B0 ⊢
  generalize wa.heap.size + 1 = gm at B0 ⊢
  have V0 : Hid (VB wa w3 n p gm (.slice none 0 0) (.slice none 0 0) [] [] [] [] 0) := Lib.hid ⟨B0.out, SRow.nil _, SRow.nil _, fun b hb => (by cases hb), fun b hb => (by cases hb), fun b hb => (by cases hb)⟩
  clear B0
  go_upto_region 14 with fail
  go_loopw [9, 10, 11, 12, 13] (fun vg vc wt dv iv wr => ∃ (k : Nat) (Gs Cs : List (List UInt8)) (dr ds : Int) (pg pc : Option Addr) (cg cc : Nat) (nc : Nat), k ≤ len + 2 ∧ iv = .int .i64 k ∧ wt = .int .i64 (nc : Nat) ∧ dv = .int .i64 ds ∧ vg = .slice pg Gs.length cg ∧ vc = .slice pc (Cs.filter mayGo).length cc ∧ Hid (nc = Cs.length) ∧ Hid (ds = dr + sh Cs ∧ 0 ≤ dr ∧ dr ≤ 8 * k) ∧ Hid (k = len + 2 → Cs = []) ∧ Hid (VB wa wr n p gm (.slice pg Gs.length cg) (.slice pc (Cs.filter mayGo).length cc) Gs (Cs.filter mayGo) Gs Cs dr)) (fun _ _ _ _ iv _ => len + 2 - (intOf iv).toNat)
  case atStart => exact ⟨0, [], [], 0, 0, none, none, 0, 0, 0, by omega, rfl, rfl, rfl, rfl, rfl, Lib.hid rfl, Lib.hid ⟨rfl, by decide, by decide⟩, Lib.hid (fun _ => rfl), V0⟩
  case round =>
    clear V0
    obtain ⟨k, Gs, Cs, dr, ds, pg, pc, cg, cc, nc, hk, rfl, rfl, rfl, rfl, rfl, HNC, HDR, HEND, HV⟩ := hrel
    have BW : Hid (Below w.heap.size w wr) := Lib.hid (BL0.out.trans (HV.out.bi.bl.mono BL0.out.size))
    have e1 : IntKind.i64.wrap ((len : Int) + 1) = (len : Int) + 1 := IntWalk.i64_in _ (by have := HLEN.out; omega)
    by_cases hlt : k < len + 2
    · have HKL := Lib.hid hlt
      have q3 : decide ((k : Int) ≤ (len : Int) + 1) = true := decide_eq_true (by omega)
      have q4 : IntKind.i64.wrap ((k : Int) + 1) = (k : Int) + 1 := IntWalk.i64_in _ (by have := HLEN.out; omega)
      obtain ⟨c0, hc0⟩ : ∃ c0 : Act4, c0 = ⟨1, ⟨#[]⟩, 0, 0, 0, 0⟩ := ⟨_, rfl⟩
      have X0 := Lib.hid (heap_alloc_new wr (.cells #[.int .i64 1, .string ⟨#[]⟩, .int .u16 0, .int .i64 0, .int .i64 0, .int .u64 0] 63))
      have K0 := Lib.hid (World.grownBy_alloc wr (.cells #[.int .i64 1, .string ⟨#[]⟩, .int .u16 0, .int .i64 0, .int .i64 0, .int .u64 0] 63) none)
      go_upto_if 53 with fail
      generalize wr.alloc _ = w5 at X0 K0 ⊢
      obtain ⟨x, hx⟩ : ∃ x, x = wr.heap.size := ⟨_, rfl⟩
      rw [← hx] at X0 ⊢
      have HX := Lib.hid hx
      clear hx
      have Y0 : Hid (w5.heap[x]? = some (actO c0)) := Lib.hid (by rw [hc0]; exact X0.out)
      have HC0 := Lib.hid hc0
      clear X0 hc0 hlt hk
      go_cut [] from 53 to 61 (fun wx => ∃ c : Act4, Hid (wx.heap[x]? = some (actO c)) ∧ Hid (c.fits ∧ c.s.size ≤ 1000) ∧ Hid (k = len + 1 → c.d = 1) ∧ Hid (wr.grownBy wx none))
      case first =>
        have BW5 : Hid (Below w.heap.size w w5) := Lib.hid (BW.out.trans ((Below.of_none K0.out).mono BW.out.size))
        by_cases h1 : k < len
        · obtain ⟨b, oo, c, rfl, hck, hfit, tw⟩ := HT.out.at_ k h1
          have TW := Lib.hid (act_rangeL (tw.kept (BW5.out.block b tw.block)))
          have HF := Lib.hid hfit
          have HS : Hid (c.s.size ≤ 1000) := Lib.hid (HGN.out.2 c (List.mem_of_getElem? hck))
          have ST := Lib.hid (st_act (c' := c) Y0.out)
          have RW : Hid ((w5.setRow x #[.int .i64 c.d, .string c.s, .int .u16 c.n, .int .i64 c.a, .int .i64 c.m, .int .u64 c.x]).heap[x]? = some (actO c)) := Lib.hid (setRow_heap _ _ _ _ _ _ Y0.out)
          have KR : Hid (wr.grownBy (w5.setRow x #[.int .i64 c.d, .string c.s, .int .u16 c.n, .int .i64 c.a, .int .i64 c.m, .int .u64 c.x]) none) := Lib.hid ⟨K0.out.os, K0.out.tape, K0.out.output, by rw [size_setRow]; exact K0.out.size, fun j hj hn => by rw [setRow_other _ _ _ _ (by rw [HX.out]; exact Nat.ne_of_lt hj)]; exact K0.out.block j hj hn⟩
          have d1 : decide ((k : Int) < (len : Int)) = true := decide_eq_true (by omega)
          have d1n : decide (k < len) = true := decide_eq_true h1
          have q1 : (0 : Int) ≤ (k : Int) := by omega
          have q2 : (k : Int) < (len : Int) := by omega
          have HK1 : Hid (k = len + 1 → c.d = 1) := Lib.hid (fun e => by omega)
          clear tw hfit hck h1
          go_wp2_with (first | (refine wpList_load_mid rfl 63 _ rfl b (oo + k * 6) rfl [.int .i64 c.d, .string c.s, .int .u16 c.n, .int .i64 c.a, .int .i64 c.m, .int .u64 c.x] _ TW.out Try.underlying63 rfl (by kernel_rfl) ?_) | (refine wpList_storeN 63 _ _ rfl rfl (.agg #[.int .i64 c.d, .string c.s, .int .u16 c.n, .int .i64 c.a, .int .i64 c.m, .int .u64 c.x]) x rfl rfl ST.out ?_))
          go_meet
          case rel => exact ⟨c, RW, Lib.hid ⟨HF.out, HS.out⟩, HK1, KR⟩
        · have d1 : decide ((k : Int) < (len : Int)) = false := decide_eq_false (by omega)
          have d1n : decide (k < len) = false := decide_eq_false h1
          obtain ⟨a0, -, -, -, -, -, ff⟩ := act_cells Y0.out
          have f0 := ff 0
          by_cases h2 : k = len
          · have d2 : (k == len) = true := by rw [h2]; simp
            have d2i : ((k : Int) == (len : Int)) = true := by rw [h2]; simp
            have RW : Hid ((w5.setCell ⟨x, 0, none⟩ (.int .i64 3)).heap[x]? = some (actO { c0 with d := 3 })) := Lib.hid (by
              have h9 := Y0.out
              unfold actO at h9 ⊢
              rw [setCell_eq_setRow w5 x 0 _ _ (0, 0) _ h9]
              exact setRow_heap _ _ _ _ _ _ h9)
            have KR : Hid (wr.grownBy (w5.setCell ⟨x, 0, none⟩ (.int .i64 3)) none) := Lib.hid ⟨K0.out.os, K0.out.tape, K0.out.output, by simp [World.setCell]; exact K0.out.size, fun j hj hn => by rw [heap_setCell_other w5 ⟨x, 0, none⟩ j _ (by show j ≠ x; rw [HX.out]; exact Nat.ne_of_lt hj)]; exact K0.out.block j hj hn⟩
            have HK1 : Hid (k = len + 1 → ({ c0 with d := 3 } : Act4).d = 1) := Lib.hid (fun e => by omega)
            have HF : Hid (({ c0 with d := 3 } : Act4).fits ∧ ({ c0 with d := 3 } : Act4).s.size ≤ 1000) := Lib.hid (by rw [HC0.out]; exact ⟨⟨by decide, by decide, by decide, by decide, by decide, by decide⟩, by decide⟩)
            clear ff h2
            go_wp2_with fail
            go_meet
            case rel => exact ⟨{ c0 with d := 3 }, RW, HF, HK1, KR⟩
          · have d2 : (k == len) = false := by simpa using h2
            have d2i : ((k : Int) == (len : Int)) = false := beq_eq_false_iff_ne.2 (by omega)
            have HK1 : Hid (k = len + 1 → c0.d = 1) := Lib.hid (fun e => by rw [HC0.out])
            have HF : Hid (c0.fits ∧ c0.s.size ≤ 1000) := Lib.hid (by rw [HC0.out]; exact ⟨⟨by decide, by decide, by decide, by decide, by decide, by decide⟩, by decide⟩)
            clear ff a0 f0
            go_wp2_with fail
            go_meet
            case rel => exact ⟨c0, Y0, HF, HK1, K0⟩
      case rest =>
      obtain ⟨c, RW, HF, HK1, KR⟩ := hcut
      rename World => w6
      clear Y0 K0 HC0 HX
      have RG := Lib.hid (act_range RW.out)
      obtain ⟨d, hd⟩ : ∃ d, d = c.d := ⟨_, rfl⟩
      have V6 := Lib.hid (HV.out.grown KR.out)
      obtain ⟨t, ht⟩ : ∃ t, t = frameT c := ⟨_, rfl⟩
      have HTS : Hid (t.size ≤ 1000) := Lib.hid (by rw [ht]; exact frameT_size c HF.out.2)
      have FA := Lib.hid (actframe_any w6 c HF.out.1)
      rw [← ht] at FA
      clear ht
      go_upto_region 21 with fail
      go_wp2_with (first | (refine wpList_load_mid rfl 63 _ rfl x 0 rfl [.int .i64 c.d, .string c.s, .int .u16 c.n, .int .i64 c.a, .int .i64 c.m, .int .u64 c.x] _ RG.out Try.underlying63 rfl (by kernel_rfl) ?_))
      refine FA.out.mono ?_
      rintro e w7 ⟨rfl, k7⟩
      have V7 := Lib.hid (V6.out.grown k7)
      have a0 : w7.cell? ⟨x, 0, none⟩ = some (.int .i64 d) := by rw [cell_of_block (show w7.heap[x]? = some (actO c) from (k7.block x (lt_of_block RW.out) (by simp)).trans RW.out), hd]; rfl
      have HK2 : Hid (k = len + 1 → d = 1) := Lib.hid (fun e => by rw [hd]; exact HK1.out e)
      clear k7 hd RG FA V6 HF HK1 RW KR HV
      obtain ⟨m, hm⟩ : ∃ m, m = t.size := ⟨_, rfl⟩
      have HM := Lib.hid hm
      have HMM := Lib.hid (may_of t)
      rw [← hm] at HMM HTS
      have HLG := Lib.hid V7.out.bi.lens
      have HKK : Hid (k ≤ 82) := Lib.hid (by have := HKL.out; have := HLEN.out; omega)
      clear hm
      by_cases hd0 : d = 0
      · subst hd0
        have NE : Hid (¬ k = len + 1) := Lib.hid (fun e => by have := HK2.out e; omega)
        by_cases h14 : m < 14
        · have HE : Hid (sendE Gs.length m = 7) := Lib.hid (by unfold sendE; rw [fitsE_lo _ (by omega)]; rfl)
          have c14 : decide ((14 : Int) ≤ (m : Int)) = false := decide_eq_false (by omega)
          have c14n : decide (14 ≤ m) = false := decide_eq_false (by omega)
          have c600 : decide ((m : Int) ≤ 600) = true := decide_eq_true (by omega)
          have c600n : decide (m ≤ 600) = true := decide_eq_true (by omega)
          have x14 : decide ((m : Int) < 14) = true := decide_eq_true (by omega)
          have x14n : decide (m < 14) = true := decide_eq_true (by omega)
          have x600 : decide ((600 : Int) < (m : Int)) = false := decide_eq_false (by omega)
          have x600n : decide (600 < m) = false := decide_eq_false (by omega)
          have hms : (t.size : Int) = (m : Int) := by rw [← HM.out]
          have hmn : t.size = m := HM.out.symm
          clear h14
          go_wp2_with fail
          refine (vSend V7.out t 7 (by rw [← HM.out]; exact HE.out) _ rfl).mono ?_
          rintro e w8 ⟨rfl, v8⟩
          clear a0
          rw [if_neg (by decide)] at v8
          have V8 := Lib.hid v8
          clear v8 V7
          go_wp2_with fail
          go_roundw
          case rel => exact ⟨k + 1, Gs, Cs, dr, ds, pg, pc, cg, cc, nc, by have := HKL.out; omega, by go_num, rfl, rfl, rfl, rfl, HNC, Lib.hid ⟨HDR.out.1, HDR.out.2.1, by have := HDR.out.2.2; omega⟩, Lib.hid (fun e => absurd (show k = len + 1 by omega) NE.out), V8⟩
          case measure => simp [intOf]; have := HKL.out; omega
        · by_cases h600 : 600 < m
          · have HE : Hid (sendE Gs.length m = 3) := Lib.hid (by unfold sendE; rw [fitsE_hi _ (by omega)]; rfl)
            have c14 : decide ((14 : Int) ≤ (m : Int)) = true := decide_eq_true (by omega)
            have c14n : decide (14 ≤ m) = true := decide_eq_true (by omega)
            have c600 : decide ((m : Int) ≤ 600) = false := decide_eq_false (by omega)
            have c600n : decide (m ≤ 600) = false := decide_eq_false (by omega)
            have x14 : decide ((m : Int) < 14) = false := decide_eq_false (by omega)
            have x14n : decide (m < 14) = false := decide_eq_false (by omega)
            have x600 : decide ((600 : Int) < (m : Int)) = true := decide_eq_true (by omega)
            have x600n : decide (600 < m) = true := decide_eq_true (by omega)
            have hms : (t.size : Int) = (m : Int) := by rw [← HM.out]
            have hmn : t.size = m := HM.out.symm
            clear h14 h600
            go_wp2_with fail
            refine (vSend V7.out t 3 (by rw [← HM.out]; exact HE.out) _ rfl).mono ?_
            rintro e w8 ⟨rfl, v8⟩
            clear a0
            rw [if_neg (by decide)] at v8
            have V8 := Lib.hid v8
            clear v8 V7
            go_wp2_with fail
            go_roundw
            case rel => exact ⟨k + 1, Gs, Cs, dr, ds, pg, pc, cg, cc, nc, by have := HKL.out; omega, by go_num, rfl, rfl, rfl, rfl, HNC, Lib.hid ⟨HDR.out.1, HDR.out.2.1, by have := HDR.out.2.2; omega⟩, Lib.hid (fun e => absurd (show k = len + 1 by omega) NE.out), V8⟩
            case measure => simp [intOf]; have := HKL.out; omega
          · by_cases h8 : Gs.length = 8
            · have HE : Hid (sendE Gs.length m = 6) := Lib.hid (by unfold sendE; rw [fitsE_ok _ (by omega) (by omega), h8]; rfl)
              have c8 : decide ((Gs.length : Int) < 8) = false := decide_eq_false (by omega)
              have c8n : decide (Gs.length < 8) = false := decide_eq_false (by omega)
              have c14 : decide ((14 : Int) ≤ (m : Int)) = true := decide_eq_true (by omega)
              have c14n : decide (14 ≤ m) = true := decide_eq_true (by omega)
              have c600 : decide ((m : Int) ≤ 600) = true := decide_eq_true (by omega)
              have c600n : decide (m ≤ 600) = true := decide_eq_true (by omega)
              have x14 : decide ((m : Int) < 14) = false := decide_eq_false (by omega)
              have x14n : decide (m < 14) = false := decide_eq_false (by omega)
              have x600 : decide ((600 : Int) < (m : Int)) = false := decide_eq_false (by omega)
              have x600n : decide (600 < m) = false := decide_eq_false (by omega)
              have hms : (t.size : Int) = (m : Int) := by rw [← HM.out]
              have hmn : t.size = m := HM.out.symm
              clear h14 h600 h8
              go_wp2_with fail
              refine (vSend V7.out t 6 (by rw [← HM.out]; exact HE.out) _ rfl).mono ?_
              rintro e w8 ⟨rfl, v8⟩
              clear a0
              rw [if_neg (by decide)] at v8
              have V8 := Lib.hid v8
              clear v8 V7
              go_wp2_with fail
              go_roundw
              case rel => exact ⟨k + 1, Gs, Cs, dr, ds, pg, pc, cg, cc, nc, by have := HKL.out; omega, by go_num, rfl, rfl, rfl, rfl, HNC, Lib.hid ⟨HDR.out.1, HDR.out.2.1, by have := HDR.out.2.2; omega⟩, Lib.hid (fun e => absurd (show k = len + 1 by omega) NE.out), V8⟩
              case measure => simp [intOf]; have := HKL.out; omega
            · have HE : Hid (sendE Gs.length m = 0) := Lib.hid (by unfold sendE; rw [fitsE_ok _ (by omega) (by omega), if_neg (by decide), if_neg (by omega)])
              have c8 : decide ((Gs.length : Int) < 8) = true := decide_eq_true (by have := HLG.out.1; omega)
              have c8n : decide (Gs.length < 8) = true := decide_eq_true (by have := HLG.out.1; omega)
              have HLN : Hid (Gs.length ≤ 8) := Lib.hid HLG.out.1
              have c14 : decide ((14 : Int) ≤ (m : Int)) = true := decide_eq_true (by omega)
              have c14n : decide (14 ≤ m) = true := decide_eq_true (by omega)
              have c600 : decide ((m : Int) ≤ 600) = true := decide_eq_true (by omega)
              have c600n : decide (m ≤ 600) = true := decide_eq_true (by omega)
              have x14 : decide ((m : Int) < 14) = false := decide_eq_false (by omega)
              have x14n : decide (m < 14) = false := decide_eq_false (by omega)
              have x600 : decide ((600 : Int) < (m : Int)) = false := decide_eq_false (by omega)
              have x600n : decide (600 < m) = false := decide_eq_false (by omega)
              have hms : (t.size : Int) = (m : Int) := by rw [← HM.out]
              have hmn : t.size = m := HM.out.symm
              clear h14 h600 h8
              go_wp2_with fail
              refine (vSend V7.out t 0 (by rw [← HM.out]; exact HE.out) _ rfl).mono ?_
              rintro e w8 ⟨rfl, v8⟩
              clear a0
              rw [if_pos rfl] at v8
              have V8 := Lib.hid v8
              clear v8 V7
              have KA := Lib.hid (World.grownBy_alloc w8 (.cells #[.string t] 9) none)
              have VA := Lib.hid (V8.out.grown KA.out)
              obtain ⟨i0, I1, I2, I3, I4⟩ := info_str4
              have J1 := Lib.hid I1
              have J2 := Lib.hid I2
              have J3 := Lib.hid I3
              have J4 := Lib.hid I4
              clear I1 I2 I3 I4
              go_wp2_with (at_builtin; refine wpList_append_many (k := 1) (enc := fun (s : List UInt8) => [Value.string ⟨s.toArray⟩]) (fun _ => rfl) (fun x u hu => by rw [List.mem_singleton.1 hu]; rfl) (by decide) rfl _ _ 34 rfl i0 (.string ⟨#[]⟩) 16 Try.underlying34 J1.out J2.out J3.out J4.out (by decide) rfl (.slice pg Gs.length cg) Gs rfl VA.out.rg.row [t.data.toList] (by have := HLN.out; simp only [List.length_cons, List.length_nil]; omega) ⟨w8.heap.size, 0, none⟩ 1 1 rfl rfl (fun j x hx => cell_one_new w8 _ _ j x hx) ?_; intro v3 w9 r3 g3 b3)
              have V9 := Lib.hid (VA.out.appG r3 g3 b3)
              clear r3 g3 b3 VA KA
              obtain ⟨p3, c3, hp3⟩ := RowA.shape V9.out.rg.row
              subst hp3
              go_wp2_with fail
              go_roundw
              case rel => exact ⟨k + 1, Gs ++ [t.data.toList], Cs, dr, ds, p3, pc, c3, cc, nc, by have := HKL.out; omega, by go_num, rfl, rfl, rfl, rfl, HNC, Lib.hid ⟨HDR.out.1, HDR.out.2.1, by have := HDR.out.2.2; omega⟩, Lib.hid (fun e => absurd (show k = len + 1 by omega) NE.out), V9⟩
              case measure => simp [intOf]; have := HKL.out; omega
      by_cases hd1 : d = 1
      · subst hd1
        obtain ⟨dr2, hdr2⟩ : ∃ dr2 : Int, dr2 = dr + ((Cs.filter fun s => !mayGo s).length : Nat) := ⟨_, rfl⟩
        have HD2 : Hid (ds = dr2 + sh [] ∧ 0 ≤ dr2 ∧ dr2 ≤ 8 * ((k + 1 : Nat) : Int)) := Lib.hid (by
          have h1 := HDR.out
          have h2 := sh_le Cs
          have h3 := HLG.out.2
          have h4 : dr2 = dr + (sh Cs : Nat) := hdr2
          refine ⟨?_, by omega, by omega⟩
          rw [h4, h1.1]
          show dr + (sh Cs : Nat) = dr + (sh Cs : Nat) + ((0 : Nat) : Int)
          omega)
        go_wp2_with fail
        refine (vRecv V7.out ⟨HDR.out.2.1, by have := HDR.out.2.2; have := HKK.out; omega⟩ dr2 hdr2).mono ?_
        rintro e w8 ⟨y, rfl, r8, v8⟩
        clear a0
        have V8 := Lib.hid v8
        have R8 := Lib.hid r8
        clear v8 r8 V7 hdr2
        go_wp2_with fail
        refine (same_true _ _ _ (Cs.filter mayGo) R8.out.tx V8.out.rc.tx (by have := HLG.out.2; have := List.length_filter_le mayGo Cs; omega)).mono ?_
        rintro e w9 ⟨rfl, k9⟩
        have V9 := Lib.hid (V8.out.nilC.grown k9)
        clear k9 V8 R8
        go_wp2_with fail
        go_roundw
        case rel => exact ⟨k + 1, Gs, [], dr2, ds, pg, none, cg, 0, 0, by have := HKL.out; omega, by go_num, rfl, rfl, rfl, rfl, Lib.hid rfl, HD2, Lib.hid (fun _ => rfl), V9⟩
        case measure => simp [intOf]; have := HKL.out; omega
      by_cases hd2 : d = 2
      · subst hd2
        have NE : Hid (¬ k = len + 1) := Lib.hid (fun e => by have := HK2.out e; omega)
        by_cases h600 : 600 < m
        · have HE : Hid (delivE Cs.length m = 3) := Lib.hid (by unfold delivE; rw [if_pos (by omega)])
          have c14 : decide ((14 : Int) ≤ (m : Int)) = true := decide_eq_true (by omega)
          have c14n : decide (14 ≤ m) = true := decide_eq_true (by omega)
          have c600 : decide ((m : Int) ≤ 600) = false := decide_eq_false (by omega)
          have c600n : decide (m ≤ 600) = false := decide_eq_false (by omega)
          have x14 : decide ((m : Int) < 14) = false := decide_eq_false (by omega)
          have x14n : decide (m < 14) = false := decide_eq_false (by omega)
          have x600 : decide ((600 : Int) < (m : Int)) = true := decide_eq_true (by omega)
          have x600n : decide (600 < m) = true := decide_eq_true (by omega)
          have hms : (t.size : Int) = (m : Int) := by rw [← HM.out]
          have hmn : t.size = m := HM.out.symm
          clear h600
          go_wp2_with fail
          refine (vDeliv V7.out t (by have := HTS.out; rw [← HM.out]; omega) 3 (by rw [← HM.out]; exact HE.out) _ rfl).mono ?_
          rintro e w8 ⟨rfl, v8⟩
          clear a0
          rw [if_neg (by decide)] at v8
          have V8 := Lib.hid v8
          clear v8 V7
          go_wp2_with fail
          go_roundw
          case rel => exact ⟨k + 1, Gs, Cs, dr, ds, pg, pc, cg, cc, nc, by have := HKL.out; omega, by go_num, rfl, rfl, rfl, rfl, HNC, Lib.hid ⟨HDR.out.1, HDR.out.2.1, by have := HDR.out.2.2; omega⟩, Lib.hid (fun e => absurd (show k = len + 1 by omega) NE.out), V8⟩
          case measure => simp [intOf]; have := HKL.out; omega
        · by_cases h8 : Cs.length = 8
          · have HE : Hid (delivE Cs.length m = 6) := Lib.hid (by unfold delivE; rw [if_neg (by omega), h8]; rfl)
            have c8 : decide ((nc : Int) < 8) = false := decide_eq_false (by have := HNC.out; omega)
            have c8n : decide (nc < 8) = false := decide_eq_false (by have := HNC.out; omega)
            have c600 : decide ((m : Int) ≤ 600) = true := decide_eq_true (by omega)
            have c600n : decide (m ≤ 600) = true := decide_eq_true (by omega)
            have x600 : decide ((600 : Int) < (m : Int)) = false := decide_eq_false (by omega)
            have x600n : decide (600 < m) = false := decide_eq_false (by omega)
            have hms : (t.size : Int) = (m : Int) := by rw [← HM.out]
            have hmn : t.size = m := HM.out.symm
            clear h600 h8
            go_wp2_with fail
            refine (vDeliv V7.out t (by have := HTS.out; rw [← HM.out]; omega) 6 (by rw [← HM.out]; exact HE.out) _ rfl).mono ?_
            rintro e w8 ⟨rfl, v8⟩
            clear a0
            rw [if_neg (by decide)] at v8
            have V8 := Lib.hid v8
            clear v8 V7
            go_wp2_with fail
            go_roundw
            case rel => exact ⟨k + 1, Gs, Cs, dr, ds, pg, pc, cg, cc, nc, by have := HKL.out; omega, by go_num, rfl, rfl, rfl, rfl, HNC, Lib.hid ⟨HDR.out.1, HDR.out.2.1, by have := HDR.out.2.2; omega⟩, Lib.hid (fun e => absurd (show k = len + 1 by omega) NE.out), V8⟩
            case measure => simp [intOf]; have := HKL.out; omega
          · by_cases h14 : 14 ≤ m
            · have HE : Hid (delivE Cs.length m = 0) := Lib.hid (by unfold delivE; rw [if_neg (by omega), if_neg (by omega)])
              have c8 : decide ((nc : Int) < 8) = true := decide_eq_true (by have := HNC.out; have := HLG.out.2; omega)
              have c8n : decide (nc < 8) = true := decide_eq_true (by have := HNC.out; have := HLG.out.2; omega)
              have e2 : IntKind.i64.wrap ((nc : Int) + 1) = (nc : Int) + 1 := IntWalk.i64_in _ (by have := HNC.out; have := HLG.out.2; omega)
              have HNC1 : Hid (nc + 1 = (Cs ++ [t.data.toList]).length) := Lib.hid (by rw [List.length_append, List.length_singleton, HNC.out])
              have HLN : Hid ((Cs.filter mayGo).length ≤ 8) := Lib.hid (by have := HLG.out.2; have := List.length_filter_le mayGo Cs; omega)
              have c14 : decide ((14 : Int) ≤ (m : Int)) = true := decide_eq_true (by omega)
              have c14n : decide (14 ≤ m) = true := decide_eq_true (by omega)
              have c600 : decide ((m : Int) ≤ 600) = true := decide_eq_true (by omega)
              have c600n : decide (m ≤ 600) = true := decide_eq_true (by omega)
              have x14 : decide ((m : Int) < 14) = false := decide_eq_false (by omega)
              have x14n : decide (m < 14) = false := decide_eq_false (by omega)
              have x600 : decide ((600 : Int) < (m : Int)) = false := decide_eq_false (by omega)
              have x600n : decide (600 < m) = false := decide_eq_false (by omega)
              have hms : (t.size : Int) = (m : Int) := by rw [← HM.out]
              have hmn : t.size = m := HM.out.symm
              have HMY : Hid (mayGo t.data.toList = true) := Lib.hid (by rw [HMM.out]; exact decide_eq_true h14)
              clear h14 h600 h8
              go_wp2_with fail
              refine (vDeliv V7.out t (by have := HTS.out; rw [← HM.out]; omega) 0 (by rw [← HM.out]; exact HE.out) _ rfl).mono ?_
              rintro e w8 ⟨rfl, v8⟩
              clear a0
              rw [if_pos rfl] at v8
              have V8 := Lib.hid v8
              clear v8 V7
              have KA := Lib.hid (World.grownBy_alloc w8 (.cells #[.string t] 9) none)
              have VA := Lib.hid (V8.out.grown KA.out)
              obtain ⟨i0, I1, I2, I3, I4⟩ := info_str4
              have J1 := Lib.hid I1
              have J2 := Lib.hid I2
              have J3 := Lib.hid I3
              have J4 := Lib.hid I4
              clear I1 I2 I3 I4
              go_wp2_with (at_builtin; refine wpList_append_many (k := 1) (enc := fun (s : List UInt8) => [Value.string ⟨s.toArray⟩]) (fun _ => rfl) (fun x u hu => by rw [List.mem_singleton.1 hu]; rfl) (by decide) rfl _ _ 34 rfl i0 (.string ⟨#[]⟩) 16 Try.underlying34 J1.out J2.out J3.out J4.out (by decide) rfl (.slice pc (Cs.filter mayGo).length cc) (Cs.filter mayGo) rfl VA.out.rc.row [t.data.toList] (by have := HLN.out; simp only [List.length_cons, List.length_nil]; omega) ⟨w8.heap.size, 0, none⟩ 1 1 rfl rfl (fun j x hx => cell_one_new w8 _ _ j x hx) ?_; intro v3 w9 r3 g3 b3)
              have V9 := Lib.hid (VA.out.appC r3 g3 b3)
              clear r3 g3 b3 VA KA
              obtain ⟨p3, c3, hp3⟩ := RowA.shape V9.out.rc.row
              subst hp3
              have V10 := V9.out
              rw [← (sh_yes (C := Cs) HMY.out).2] at V10 ⊢
              have V11 := Lib.hid V10
              clear V10 V9
              go_wp2_with fail
              go_roundw
              case rel => exact ⟨k + 1, Gs, Cs ++ [t.data.toList], dr, ds, pg, p3, cg, c3, nc + 1, by have := HKL.out; omega, by go_num, by go_num, rfl, rfl, rfl, HNC1, Lib.hid ⟨by rw [(sh_yes HMY.out).1]; exact HDR.out.1, HDR.out.2.1, by have := HDR.out.2.2; omega⟩, Lib.hid (fun e => absurd (show k = len + 1 by omega) NE.out), V11⟩
              case measure => simp [intOf]; have := HKL.out; omega
            · have HE : Hid (delivE Cs.length m = 0) := Lib.hid (by unfold delivE; rw [if_neg (by omega), if_neg (by omega)])
              have c8 : decide ((nc : Int) < 8) = true := decide_eq_true (by have := HNC.out; have := HLG.out.2; omega)
              have c8n : decide (nc < 8) = true := decide_eq_true (by have := HNC.out; have := HLG.out.2; omega)
              have e2 : IntKind.i64.wrap ((nc : Int) + 1) = (nc : Int) + 1 := IntWalk.i64_in _ (by have := HNC.out; have := HLG.out.2; omega)
              have HNC1 : Hid (nc + 1 = (Cs ++ [t.data.toList]).length) := Lib.hid (by rw [List.length_append, List.length_singleton, HNC.out])
              have HLN : Hid ((Cs.filter mayGo).length ≤ 8) := Lib.hid (by have := HLG.out.2; have := List.length_filter_le mayGo Cs; omega)
              have c14 : decide ((14 : Int) ≤ (m : Int)) = false := decide_eq_false (by omega)
              have c14n : decide (14 ≤ m) = false := decide_eq_false (by omega)
              have c600 : decide ((m : Int) ≤ 600) = true := decide_eq_true (by omega)
              have c600n : decide (m ≤ 600) = true := decide_eq_true (by omega)
              have x14 : decide ((m : Int) < 14) = true := decide_eq_true (by omega)
              have x14n : decide (m < 14) = true := decide_eq_true (by omega)
              have x600 : decide ((600 : Int) < (m : Int)) = false := decide_eq_false (by omega)
              have x600n : decide (600 < m) = false := decide_eq_false (by omega)
              have hms : (t.size : Int) = (m : Int) := by rw [← HM.out]
              have hmn : t.size = m := HM.out.symm
              have HMY : Hid (mayGo t.data.toList = false) := Lib.hid (by rw [HMM.out]; exact decide_eq_false h14)
              have e5 : IntKind.i64.wrap (ds + 1) = ds + 1 := IntWalk.i64_in _ (by have h1 := HDR.out; have h2 := sh_le Cs; have h3 := HLG.out.2; have h4 := HKK.out; omega)
              clear h14 h600 h8
              go_wp2_with fail
              refine (vDeliv V7.out t (by have := HTS.out; rw [← HM.out]; omega) 0 (by rw [← HM.out]; exact HE.out) _ rfl).mono ?_
              rintro e w8 ⟨rfl, v8⟩
              clear a0
              rw [if_pos rfl] at v8
              have V8 : Hid (VB wa w8 n p gm (.slice pg Gs.length cg) (.slice pc ((Cs ++ [t.data.toList]).filter mayGo).length cc) Gs ((Cs ++ [t.data.toList]).filter mayGo) Gs (Cs ++ [t.data.toList]) dr) := Lib.hid (by rw [(sh_no HMY.out).2]; exact v8)
              clear v8 V7
              go_wp2_with fail
              go_roundw
              case rel => exact ⟨k + 1, Gs, Cs ++ [t.data.toList], dr, ds + 1, pg, pc, cg, cc, nc + 1, by have := HKL.out; omega, by go_num, by go_num, rfl, rfl, by rw [(sh_no HMY.out).2], HNC1, Lib.hid ⟨by rw [(sh_no HMY.out).1, HDR.out.1]; omega, HDR.out.2.1, by have := HDR.out.2.2; omega⟩, Lib.hid (fun e => absurd (show k = len + 1 by omega) NE.out), V8⟩
              case measure => simp [intOf]; have := HKL.out; omega
      have NE : Hid (¬ k = len + 1) := Lib.hid (fun e => hd1 (HK2.out e))
      by_cases hd3 : d = 3
      · subst hd3
        go_wp2_with fail
        refine (vSent V7.out).mono ?_
        rintro e w8 ⟨y, rfl, r8, v8⟩
        clear a0
        have V8 := Lib.hid v8
        have R8 := Lib.hid r8
        clear v8 r8 V7
        go_wp2_with fail
        refine (same_true _ _ _ Gs R8.out.tx V8.out.rg.tx (by have := HLG.out.1; omega)).mono ?_
        rintro e w9 ⟨rfl, k9⟩
        have V9 := Lib.hid (V8.out.nilG.grown k9)
        clear k9 V8 R8
        go_wp2_with fail
        go_roundw
        case rel => exact ⟨k + 1, [], Cs, dr, ds, none, pc, 0, cc, nc, by have := HKL.out; omega, by go_num, rfl, rfl, rfl, rfl, HNC, Lib.hid ⟨HDR.out.1, HDR.out.2.1, by have := HDR.out.2.2; omega⟩, Lib.hid (fun e => absurd (show k = len + 1 by omega) NE.out), V9⟩
        case measure => simp [intOf]; have := HKL.out; omega
      have g0 : (d == 0) = false := beq_eq_false_iff_ne.2 hd0
      have g1 : (d == 1) = false := beq_eq_false_iff_ne.2 hd1
      have g2 : (d == 2) = false := beq_eq_false_iff_ne.2 hd2
      have g3 : (d == 3) = false := beq_eq_false_iff_ne.2 hd3
      clear hd0 hd1 hd2 hd3
      go_wp2_with fail
      go_roundw
      case rel => exact ⟨k + 1, Gs, Cs, dr, ds, pg, pc, cg, cc, nc, by have := HKL.out; omega, by go_num, rfl, rfl, rfl, rfl, HNC, Lib.hid ⟨HDR.out.1, HDR.out.2.1, by have := HDR.out.2.2; omega⟩, Lib.hid (fun e => absurd (show k = len + 1 by omega) NE.out), V7⟩
      case measure => simp [intOf]; have := HKL.out; omega
    · have hk2 : k = len + 2 := by omega
      have q3 : decide ((k : Int) ≤ (len : Int) + 1) = false := decide_eq_false (by omega)
      have hCs := HEND.out hk2
      have hds : ds = dr := by rw [HDR.out.1, hCs]; show dr + ((sh [] : Nat) : Int) = dr; show dr + 0 = dr; omega
      have HDS := Lib.hid hds
      clear hk2 hCs hds hlt hk
      go_wp2_with fail
      refine (iDrops HV.out.bi).mono ?_
      rintro e w8 ⟨rfl, rfl⟩
      rw [HDS.out]
      go_wp2_with fail
      refine (iResets HV.out.bi).mono ?_
      rintro e w8 ⟨rfl, rfl⟩
      go_wp2_with fail
      go_ret
      exact ⟨rfl, BW.out⟩
theorem walk (p0 : Option Addr) (len cap : Nat) (l : List Act4) (w : World) (w0 : IsActs4 w p0 len l) :
    Calls Try.prog 6 #[.slice p0 len cap] w fun e w' => e = .returned (.bool true) ∧ Below w.heap.size w w' := by
  cases hg : great4 l with
  | true => exact walk_out p0 len cap l w w0 hg
  | false => exact walk_main p0 len cap l w w0 hg
set_option maxRecDepth 100000 in
theorem lifted (os : Os) (started : os.Started) (H : Type) (enc : TypeId × Value → H) :
    ReturnsInHanded {} Try.checked os 6 .any (Rows.vnetBackSpec.pre6 enc Try.prog Try.f6 Rows.vnetBackRow.domain false) (Rows.vnetBackSpec.post enc Try.prog Try.f6 false true false false) := by
  refine returnsInHanded_of_change (C := Try.checked) own started (by kernel_rfl) Try.func6
    (ChangeSpec.witness6 (enc := enc) (C := Try.checked) false ⟨#[], #[.slice none 0 0], []⟩ 8 (by kernel_rfl) (by kernel_rfl) (by kernel_rfl) (by kernel_rfl)) ?_
  intro W base args ds gs before hval0 hW hcnd _
  have hval : ∀ (j : Nat) t v, Try.f6.params[j]? = some t → args[j]? = some v → Value.okWide Try.prog W .any base t v := hval0
  have hW' := hW
  obtain ⟨p, q, hA0, hV, rfl, hfz, hnd⟩ := hW
  have hA : DataW.TrodAll enc Try.prog W 0 (fun _ => true) true Try.f6.params.toList args.toList ds p := hA0
  rw [Try.params6] at hA hval
  obtain ⟨v0, vs0, d0, ds0, p0, q0, hargs, rfl, rfl, h0, r0⟩ := trodAll_cons hA
  obtain ⟨rfl, rfl, rfl⟩ := trodAll_nil r0
  obtain rfl : args = #[v0] := by cases args; simp_all
  obtain ⟨rfl, rfl⟩ := trodVars_none hV
  obtain ⟨a0, len0, cap0, rfl⟩ := okWide_slice Try.underlying58 (hval 0 58 v0 rfl rfl)
  have k0 := h0
  have lt0 : ∀ x ∈ p0, x.block < W.heap.size := by obtain ⟨m, hm⟩ := k0; exact DataW.trod_lt m _ _ _ hm
  obtain ⟨l0, w0⟩ : ∃ l, IsActs4 W a0 len0 l := by obtain ⟨fuel, hf⟩ := h0; exact open_acts4 hf
  clear hA0 hval0
  refine (walk a0 len0 cap0 l0 W w0).mono fun e W' ⟨he, bel⟩ => ?_
  subst he
  exact ⟨_, rfl, _, _, _, [], _, [], hW', trodAll_mk1 (shut_bool Try.underlying4 _), (trodAll_cons_mk (Below.trod laidOut (by kernel_rfl) (of_decide_eq_true (by kernel_rfl)) k0 bel lt0) trodAll_mk0), rfl, bel.frame _, fun h => by cases h⟩

/-- THE STATEMENT. -/
theorem proved : Rows.VnetBackSaid :=
  OpenClaim.holds_of_wide 6 Try.f6 rfl rfl rfl rfl rfl rfl rfl ⟨rfl, rfl, rfl, rfl, rfl⟩ rfl rfl rfl rfl rfl (by kernel_rfl) Try.func6 (by kernel_rfl)
    (of_decide_eq_true (by kernel_rfl)) (by unfold Func.isWrapper; first | (rw [if_pos (by decide +kernel)]; kernel_rfl) | (rw [if_neg (by decide +kernel)]; exact ⟨rfl, rfl⟩))
    (fun os started H enc _ => lifted os started H enc)
#print axioms proved

end Go.Proofs.Ytmlicejhkdkhnaa.nxv
