/-
  Layer 3: what a chain asks. Conditions: the memory is of at most 65536 bytes; the chain has a buffer, and each is of no more bytes than an int can tell.
-/
import Derived.Test.YtdchlnffbiooaaaGreatDoorBlkK
import Derived.Test.YtdchlnffbiooaaaGreatDoorBlkI
namespace Go.Proofs.YtdchlnffbiooaaaGreatDoor
open Go.RowKit Go.Sort

/-- The order that a chain of these buffers asks. -/
def askF (lm : List UInt8) (l : List Bf) (s : Shp) : Option Ord :=
  let H := textS lm (l.headD ⟨0, 0, false⟩).a (l.headD ⟨0, 0, false⟩).n
  let D := if 0 < s.len ∧ s.back = false then textS lm (l.getD 1 ⟨0, 0, false⟩).a (l.getD 1 ⟨0, 0, false⟩).n else []
  let X := sectV (tellX s ⟨H.toArray⟩ ⟨D.toArray⟩)
  let o : Ord := ⟨s.kind, X.1, if s.kind = 2 then ⟨D.toArray⟩ else ⟨#[]⟩⟩
  if X.2 = true ∧ H = headL s o ∧ D = dataL s o then some o else none
/-- The shape of a type. -/
def ofN (n : Int) : Option Nat := if n = 0 then some 0 else if n = 1 then some 1 else if n = 4 then some 2 else if n = 11 then some 3 else if n = 13 then some 4 else none
def headN (lm : List UInt8) (l : List Bf) : Int := num (cutS ⟨(textS lm (l.headD ⟨0, 0, false⟩).a (l.headD ⟨0, 0, false⟩).n).toArray⟩ 0 4)
def askL (lm : List UInt8) (l : List Bf) : Option Ord := match ofN (headN lm l) with
  | some k => if likeL l (chainL (shpAt k) 0) = true then askF lm l (shpAt k) else none
  | none => none
theorem ofN_some {n : Int} {k : Nat} (h : ofN n = some k) : k < 5 ∧ n = (shpAt k).num := by
  unfold ofN at h
  repeat' split at h
  all_goals first | (cases h; subst_vars; exact ⟨by decide, rfl⟩) | cases h
theorem ofN_none {n : Int} (h : ofN n = none) : ∀ k, k < 5 → n ≠ (shpAt k).num := by
  intro k hk e
  unfold ofN at h
  rcases (show k = 0 ∨ k = 1 ∨ k = 2 ∨ k = 3 ∨ k = 4 by omega) with rfl | rfl | rfl | rfl | rfl <;> rw [e] at h <;> exact absurd h (by decide)

/-- What order comes to. -/
def OrdPost (w : World) (lm : List UInt8) (l : List Bf) (e : Ending) (w' : World) : Prop :=
  (∃ o, askL lm l = some o ∧ e = .returned (.tuple #[o.val, .bool true]) ∧ w.grownBy w' none) ∨ (askL lm l = none ∧ ∃ o : Ord, e = .returned (.tuple #[o.val, .bool false]) ∧ w.grownBy w' none)

/-- What stays through order's calls. -/
structure OrdI (w0 w : World) (r g p u h : Nat) (lm : List UInt8) (v : Value) (l : List Bf) (sb : Nat) (s : Shp) : Prop where
  ra : RAt w r g p u
  mem : Mem w g h lm
  sbk : w.heap[sb]? = some (.cells #[.int .i64 s.kind, .int .u64 s.num, .int .i64 s.len, .bool s.back, .int .i64 s.sec] 74 (0, 0))
  rbk : w.heap[w0.heap.size]? = some (.cells #[.int .i64 0, .int .i64 0, .string ⟨#[]⟩] 39 (0, 0))
  bufs : IsBufs w v l
  gr : w0.grownBy w none
  old : w0.heap.size < sb
theorem OrdI.grown {w0 w w' : World} {r g p u h : Nat} {lm : List UInt8} {v : Value} {l : List Bf} {sb : Nat} {s : Shp} (i : OrdI w0 w r g p u h lm v l sb s) (k : w.grownBy w' none) : OrdI w0 w' r g p u h lm v l sb s :=
  ⟨i.ra.kept (k.block _ (lt_of_block i.ra) (by simp)), i.mem.same k, (k.block _ (lt_of_block i.sbk) (by simp)).trans i.sbk, (k.block _ (lt_of_block i.rbk) (by simp)).trans i.rbk, i.bufs.grown k, i.gr.trans k, i.old⟩
section
variable {w0 w : World} {r g p u h : Nat} {lm : List UInt8} {v : Value} {l : List Bf} {sb : Nat} {s : Shp}
theorem OrdI.s0 (i : OrdI w0 w r g p u h lm v l sb s) : w.cell? ⟨sb, 0, none⟩ = some (.int .i64 s.kind) := cell_of_block i.sbk
theorem OrdI.s1 (i : OrdI w0 w r g p u h lm v l sb s) : w.cell? ⟨sb, 1, none⟩ = some (.int .u64 s.num) := cell_of_block i.sbk
theorem OrdI.s2 (i : OrdI w0 w r g p u h lm v l sb s) : w.cell? ⟨sb, 2, none⟩ = some (.int .i64 s.len) := cell_of_block i.sbk
theorem OrdI.s3 (i : OrdI w0 w r g p u h lm v l sb s) : w.cell? ⟨sb, 3, none⟩ = some (.bool s.back) := cell_of_block i.sbk
theorem OrdI.s4 (i : OrdI w0 w r g p u h lm v l sb s) : w.cell? ⟨sb, 4, none⟩ = some (.int .i64 s.sec) := cell_of_block i.sbk
end
/-- What stays in order's last region. -/
def OrdJ (w : World) (sb ob : Nat) (s : Shp) (o : Ord) : Prop :=
  w.heap[sb]? = some (.cells #[.int .i64 s.kind, .int .u64 s.num, .int .i64 s.len, .bool s.back, .int .i64 s.sec] 74 (0, 0)) ∧ w.heap[ob]? = some (.cells #[.int .i64 o.kind, .int .i64 o.sec, .string o.data] 39 (0, 0))
section
variable {w w' : World} {sb ob : Nat} {s : Shp} {o : Ord}
theorem OrdJ.kept (i : OrdJ w sb ob s o) (k1 : w'.heap[sb]? = w.heap[sb]?) (k2 : w'.heap[ob]? = w.heap[ob]?) : OrdJ w' sb ob s o := ⟨k1.trans i.1, k2.trans i.2⟩
theorem OrdJ.grown (i : OrdJ w sb ob s o) (k : w.grownBy w' none) : OrdJ w' sb ob s o := i.kept (k.block _ (lt_of_block i.1) (by simp)) (k.block _ (lt_of_block i.2) (by simp))
theorem OrdJ.s0 (i : OrdJ w sb ob s o) : w.cell? ⟨sb, 0, none⟩ = some (.int .i64 s.kind) := cell_of_block i.1
theorem OrdJ.s1 (i : OrdJ w sb ob s o) : w.cell? ⟨sb, 1, none⟩ = some (.int .u64 s.num) := cell_of_block i.1
theorem OrdJ.s2 (i : OrdJ w sb ob s o) : w.cell? ⟨sb, 2, none⟩ = some (.int .i64 s.len) := cell_of_block i.1
theorem OrdJ.s3 (i : OrdJ w sb ob s o) : w.cell? ⟨sb, 3, none⟩ = some (.bool s.back) := cell_of_block i.1
theorem OrdJ.s4 (i : OrdJ w sb ob s o) : w.cell? ⟨sb, 4, none⟩ = some (.int .i64 s.sec) := cell_of_block i.1
theorem OrdJ.o0 (i : OrdJ w sb ob s o) : w.cell? ⟨ob, 0, none⟩ = some (.int .i64 o.kind) := cell_of_block i.2
theorem OrdJ.o1 (i : OrdJ w sb ob s o) : w.cell? ⟨ob, 1, none⟩ = some (.int .i64 o.sec) := cell_of_block i.2
theorem OrdJ.o2 (i : OrdJ w sb ob s o) : w.cell? ⟨ob, 2, none⟩ = some (.string o.data) := cell_of_block i.2
end
theorem toArray_inj {a b : List UInt8} (h : (⟨a.toArray⟩ : ByteArray) = ⟨b.toArray⟩) : a = b := by
  injection h with h
  simpa using h
theorem textS_len (lm : List UInt8) (a n : Int) : (textS lm a n).length ≤ lm.length := by
  unfold textS
  split
  · rw [List.length_take, List.length_drop]; omega
  · simp

/-- The result's cells, written anew. -/
theorem ord_grown {v w : World} {rb : Nat} (h : v.grownBy w none) (hb : v.heap.size ≤ rb) (x0 x1 x2 : Value) : v.grownBy (((w.setCell ⟨rb, 0, none⟩ x0).setCell ⟨rb, 1, none⟩ x1).setCell ⟨rb, 2, none⟩ x2) none := three_grown h hb x0 x1 x2
theorem ord_out {v w : World} {rb : Nat} {t : TypeId} {y0 y1 y2 : Value} (h : w.heap[rb]? = some (.cells #[y0, y1, y2] t (0, 0))) (_ : v.grownBy w none) (o : Ord) {G : Prop}
    (k : (((w.setCell ⟨rb, 0, none⟩ (.int .i64 o.kind)).setCell ⟨rb, 1, none⟩ (.int .i64 o.sec)).setCell ⟨rb, 2, none⟩ (.string o.data)).cell? ⟨rb, 0, none⟩ = some (.int .i64 o.kind) →
      (((w.setCell ⟨rb, 0, none⟩ (.int .i64 o.kind)).setCell ⟨rb, 1, none⟩ (.int .i64 o.sec)).setCell ⟨rb, 2, none⟩ (.string o.data)).cell? ⟨rb, 1, none⟩ = some (.int .i64 o.sec) →
      (((w.setCell ⟨rb, 0, none⟩ (.int .i64 o.kind)).setCell ⟨rb, 1, none⟩ (.int .i64 o.sec)).setCell ⟨rb, 2, none⟩ (.string o.data)).cell? ⟨rb, 2, none⟩ = some (.string o.data) → G) : G := by
  have b := three_block h (.int .i64 o.kind) (.int .i64 o.sec) (.string o.data)
  exact k (cell_of_block b) (cell_of_block b) (cell_of_block b)

theorem like_len {l r : List Bf} (h : likeL l r = true) : l.length = r.length := by
  by_cases hl : l.length = r.length
  · exact hl
  · rw [likeL_len l r hl] at h
    cases h
theorem sectV_bd {X : Int} (h0 : 0 ≤ X) : 0 ≤ (sectV X).1 ∧ (sectV X).1 ≤ 9223372036854775807 := by
  unfold sectV
  split <;> simp only <;> omega

theorem mk_toList (l : List UInt8) : (⟨l.toArray⟩ : ByteArray).toList = l := by rw [ByteArray.toList_eq]
theorem OrdI.setOb {w0 w w' : World} {r g p u h : Nat} {lm : List UInt8} {v : Value} {l : List Bf} {sb ob : Nat} {s : Shp} (i : OrdI w0 w r g p u h lm v l sb s) (k : w.grownBy w' (some ob)) (hob : sb < ob) (hg : g ≠ ob) (hh : h ≠ ob) (hr : r ≠ ob)
    (hb : IsBufs w' v l) : OrdI w0 w' r g p u h lm v l sb s := by
  have h1 := i.old
  have keep : ∀ x, x < w.heap.size → x ≠ ob → w'.heap[x]? = w.heap[x]? := fun x hx hn => k.block x hx (fun e => hn (by injection e with e))
  exact ⟨i.ra.kept (keep _ (lt_of_block i.ra) hr), ⟨(keep _ i.mem.lt1 hg).trans i.mem.1, (keep _ i.mem.lt2 hh).trans i.mem.2⟩, (keep _ (lt_of_block i.sbk) (by omega)).trans i.sbk, (keep _ (lt_of_block i.rbk) (by omega)).trans i.rbk, hb, i.gr.andThen k (fun j e => .inl (by injection e with e; omega)), h1⟩

set_option maxRecDepth 100000 in
set_option maxHeartbeats 4000000 in
theorem order_any (w : World) (r g p u h : Nat) (lm : List UInt8) (hS : Shapes w) (hr : RAt w r g p u) (m : Mem w g h lm) (l2 : lm.length ≤ 65536) (v : Value) (l : List Bf) (hv : IsBufs w v l) (h0 : 0 < l.length) (hbd : ∀ x ∈ l, x.n ≤ 9223372036854775807) :
    Calls Tryz.prog 30 #[.pointer (some ⟨r, 0, none⟩), v] w (OrdPost w lm l) := by
  obtain ⟨pp, cap, rfl, hle⟩ := hv.form
  obtain ⟨R, hR⟩ : ∃ R, R = askL lm l := ⟨_, rfl⟩
  have HR := Lib.hid hR
  clear hR
  have ka := World.grownBy_alloc w (.cells #[.int .i64 0, .int .i64 0, .string ⟨#[]⟩] 39) none
  have hrb := heap_alloc_new w (.cells #[.int .i64 0, .int .i64 0, .string ⟨#[]⟩] 39)
  have hr1 := hr.kept (ka.block _ (lt_of_block hr) (by simp))
  have m1 := m.same ka
  have v1 := hv.grown ka
  have S1 := Lib.hid (hS.grown ka)
  obtain ⟨b, o, x0, rfl, hx0, c0, c1, c2⟩ := v1.at_ 0 h0
  obtain ⟨xa, xn, xw⟩ := x0
  simp only [Nat.zero_mul, Nat.add_zero] at c0 c1 c2
  have hxn := hbd _ (List.mem_of_getElem? hx0)
  obtain ⟨H, hH⟩ : ∃ H, H = textS lm xa xn := ⟨_, rfl⟩
  have hhd : l.headD ⟨0, 0, false⟩ = ⟨xa, xn, xw⟩ := by
    cases l with
    | nil => simp at h0
    | cons a t => simpa using hx0
  have hHl : H.length ≤ 65536 := by rw [hH]; exact Nat.le_trans (textS_len _ _ _) l2
  have hHs : (⟨H.toArray⟩ : ByteArray).size ≤ 9223372036854775807 := by rw [toArray_size]; omega
  obtain ⟨X, hX⟩ : ∃ X, X = headN lm l := ⟨_, rfl⟩
  have hX2 : X = num (cutS ⟨H.toArray⟩ 0 4) := by rw [hX]; unfold headN; rw [hhd, hH]
  have TC := Lib.hid (rtext_any _ r g p u h lm hr1 m1 l2 ⟨xa, xn, xw⟩ hxn)
  simp only at TC
  rw [← hH] at TC
  have HV1 := Lib.hid v1
  have HBD := Lib.hid hbd
  have HH := Lib.hid hH
  have HHD := Lib.hid hhd
  have HX := Lib.hid hX
  have HX2 := Lib.hid hX2
  have HX0 := Lib.hid hx0
  have HRB := Lib.hid hrb
  have HR1 := Lib.hid hr1
  have HM1 := Lib.hid m1
  have KA := Lib.hid ka
  have h0i : (0 : Int) < (l.length : Int) := by omega
  clear hr m hv hr1 m1 v1 hS hbd hx0 hH hhd hX hX2 hxn hrb ka
  go_enter Tryz.func30, Tryz.ntmps30
  go_upto_region 1 with fail
  generalize w.alloc _ = W1 at HV1 HRB HR1 HM1 KA S1 TC c0 c1 c2 ⊢
  go_wp2_with fail
--@1
  refine TC.out.mono ?_
  rintro e w1 ⟨rfl, k1⟩
  clear c0 c1 c2
  go_wp2_with fail
  refine (Little_read _ ⟨H.toArray⟩ 0 4 hHs X HX2.out).mono ?_
  rintro e w2 ⟨bb, rfl, k2⟩
  have k12 := k1.trans k2
  go_wp2_with fail
--@2
  cases hk : ofN X with
  | none =>
    have HN : R = none := by rw [HR.out]; unfold askL; rw [← HX.out, hk]
    have OC := ofType_no w2 (S1.out.grown k12) X (ofN_none hk)
    unfold noShp Shp.val at OC
    have HRN := Lib.hid HN
    have rb2 := (k12.block _ (lt_of_block HRB.out) (by simp)).trans HRB.out
    have KK := Lib.hid (KA.out.trans k12)
    clear hk HN k1 k2
    refine OC.mono ?_
    rintro e w3 ⟨rfl, k3⟩
    clear OC
    have rb3 := (k3.block _ (lt_of_block rb2) (by simp)).trans rb2
    have rb4 := (Below.heap_alloc w3 (.cells #[.int .i64 0, .int .u64 0, .int .i64 0, .bool false, .int .i64 0] 74) _ (lt_of_block rb3)).trans rb3
    have k4 := (KK.out.trans k3).trans (World.grownBy_alloc w3 (.cells #[.int .i64 0, .int .u64 0, .int .i64 0, .bool false, .int .i64 0] 74) none)
    have f0 := frozen_of_block (i := 0) rb4
    have f1 := frozen_of_block (i := 1) rb4
    have f2 := frozen_of_block (i := 2) rb4
    have d0 : (w3.alloc (.cells #[.int .i64 0, .int .u64 0, .int .i64 0, .bool false, .int .i64 0] 74)).cell? ⟨w.heap.size, 0, none⟩ = some (.int .i64 0) := cell_of_block rb4
    have d1 : (w3.alloc (.cells #[.int .i64 0, .int .u64 0, .int .i64 0, .bool false, .int .i64 0] 74)).cell? ⟨w.heap.size, 1, none⟩ = some (.int .i64 0) := cell_of_block rb4
    have d2 : (w3.alloc (.cells #[.int .i64 0, .int .u64 0, .int .i64 0, .bool false, .int .i64 0] 74)).cell? ⟨w.heap.size, 2, none⟩ = some (.string ⟨#[]⟩) := cell_of_block rb4
    have B4 := Lib.hid rb4
    have K4 := Lib.hid k4
    clear rb2 rb3 rb4 k3 k4 k12
    go_wp2_with fail
    exact ord_out B4.out K4.out ⟨0, 0, ⟨#[]⟩⟩ (fun q0 q1 q2 => bodyPost_ret (v := .tuple #[.agg #[.int .i64 0, .int .i64 0, .string ⟨#[]⟩], .bool false]) (by simp [results, Tryz.results30, go_sem, q0, q1, q2]) rfl (.inr ⟨by rw [← HR.out]; exact HRN.out, ⟨0, 0, ⟨#[]⟩⟩, rfl, ord_grown K4.out (Nat.le_refl _) _ _ _⟩))
  | some k =>
    obtain ⟨hk5, hkn⟩ := ofN_some hk
    have HA : Hid (R = if likeL l (chainL (shpAt k) 0) = true then askF lm l (shpAt k) else none) := Lib.hid (by rw [HR.out]; unfold askL; rw [← HX.out, hk])
    have OC := ofType_yes w2 (S1.out.grown k12) k hk5
    rw [← hkn] at OC
    obtain ⟨hn0, hsl⟩ := shp_bd k hk5
    generalize shpAt k = s at HA OC hn0 hsl
    obtain ⟨sk, sn, sl, sb, ss⟩ := s
    unfold Shp.val at OC
    simp only at OC hn0 hsl
    have K12 := Lib.hid k12
    clear hk hkn hk5 k1 k2 k12
    refine OC.mono ?_
    rintro e w3 ⟨rfl, k3⟩
    clear OC
    have K3 := (K12.out.trans k3).trans (World.grownBy_alloc w3 (.cells #[.int .i64 sk, .int .u64 sn, .int .i64 sl, .bool sb, .int .i64 ss] 74) none)
    have i3 : OrdI w (w3.alloc (.cells #[.int .i64 sk, .int .u64 sn, .int .i64 sl, .bool sb, .int .i64 ss] 74)) r g p u h lm (.slice (some ⟨b, o, none⟩) l.length cap) l w3.heap.size ⟨sk, sn, sl, sb, ss⟩ :=
      ⟨HR1.out.kept (K3.block _ (lt_of_block HR1.out) (by simp)), HM1.out.same K3, heap_alloc_new w3 _, (K3.block _ (lt_of_block HRB.out) (by simp)).trans HRB.out, HV1.out.grown K3, KA.out.trans K3, Nat.lt_of_lt_of_le (lt_of_block HRB.out) (K12.out.trans k3).size⟩
    clear K3 k3
    go_upto_region 4 with fail
    generalize w3.alloc _ = W3 at i3 ⊢
    have c0 := i3.s0
    have c1 := i3.s1
    have c2 := i3.s2
    have c3 := i3.s3
    have c4 := i3.s4
    have I3 := Lib.hid i3
    clear i3
    go_wp2_with fail
--@3
    refine (chain_any W3 ⟨sk, sn, sl, sb, ss⟩ 0 (by omega) (by omega)).mono ?_
    rintro e w4 ⟨v4, rfl, bv4, k4⟩
    have I4 := Lib.hid (I3.out.grown k4)
    clear c0 c1 c2 c3 c4
    go_wp2_with fail
    refine (equal_any w4 _ v4 l (chainL ⟨sk, sn, sl, sb, ss⟩ 0) I4.out.bufs bv4).mono ?_
    rintro e w5 ⟨rfl, k5⟩
    have I5 := Lib.hid (I4.out.grown k5)
    clear k4 k5 bv4 I4 I3
    cases hlk : likeL l (chainL ⟨sk, sn, sl, sb, ss⟩ 0) with
    | false =>
      have HRN : Hid (R = none) := Lib.hid (by rw [HA.out, hlk, if_neg (by decide)])
      clear hlk
      have rb := I5.out.rbk
      have f0 := frozen_of_block (i := 0) rb
      have f1 := frozen_of_block (i := 1) rb
      have f2 := frozen_of_block (i := 2) rb
      have d0 : w5.cell? ⟨w.heap.size, 0, none⟩ = some (.int .i64 0) := cell_of_block rb
      have d1 : w5.cell? ⟨w.heap.size, 1, none⟩ = some (.int .i64 0) := cell_of_block rb
      have d2 : w5.cell? ⟨w.heap.size, 2, none⟩ = some (.string ⟨#[]⟩) := cell_of_block rb
      have RB := Lib.hid rb
      clear rb
      go_wp2_with fail
      exact ord_out RB.out I5.out.gr ⟨0, 0, ⟨#[]⟩⟩ (fun q0 q1 q2 => bodyPost_ret (v := .tuple #[.agg #[.int .i64 0, .int .i64 0, .string ⟨#[]⟩], .bool false]) (by simp [results, Tryz.results30, go_sem, q0, q1, q2]) rfl (.inr ⟨by rw [← HR.out]; exact HRN.out, ⟨0, 0, ⟨#[]⟩⟩, rfl, ord_grown I5.out.gr (Nat.le_refl _) _ _ _⟩))
    | true =>
--@4
      have HA2 : Hid (R = askF lm l ⟨sk, sn, sl, sb, ss⟩) := Lib.hid (by rw [HA.out, hlk, if_pos rfl])
      have hll := like_len hlk
      have HLL := Lib.hid hll
      clear hlk hll HA
      obtain ⟨D, hD⟩ : ∃ D, D = if 0 < sl ∧ sb = false then textS lm (l.getD 1 ⟨0, 0, false⟩).a (l.getD 1 ⟨0, 0, false⟩).n else [] := ⟨_, rfl⟩
      have HD := Lib.hid hD
      clear hD
      have e0 := I5.out.s0
      have e1 := I5.out.s1
      have e2 := I5.out.s2
      have e3 := I5.out.s3
      have e4 := I5.out.s4
      obtain ⟨B, hB⟩ : ∃ B, B = (decide (0 < sl) && !sb) := ⟨_, rfl⟩
      have HB := Lib.hid hB
      clear hB
      go_upto_region 7 with fail
      go_cut [47] (fun s47 wx => s47 = .bool B ∧ w5 = wx)
      case first =>
        by_cases hl0 : 0 < sl
        · cases sb with
          | false =>
            have hb : B = true := by rw [HB.out, decide_eq_true hl0]; rfl
            subst hb
            go_wp2_with fail
            go_meet
            case rel => exact ⟨rfl, rfl⟩
          | true =>
            have hb : B = false := by rw [HB.out]; simp
            subst hb
            go_wp2_with fail
            go_meet
            case rel => exact ⟨rfl, rfl⟩
        · have hl1 : decide (0 < sl) = false := decide_eq_false hl0
          have hb : B = false := by rw [HB.out, hl1]; rfl
          subst hb
          clear hl0
          go_wp2_with fail
          go_meet
          case rel => exact ⟨rfl, rfl⟩
      case rest =>
      obtain ⟨rfl, rfl⟩ := hcut
      clear e0 e1 e2 e3 e4
      go_upto_if 47 with fail
      go_cut [11] (fun dv wx => dv = .string ⟨D.toArray⟩ ∧ OrdI w wx r g p u h lm (.slice (some ⟨b, o, none⟩) l.length cap) l w3.heap.size ⟨sk, sn, sl, sb, ss⟩)
      case first =>
        cases B with
        | true =>
          have hb := HB.out
          have hl0 : 0 < sl := by
            by_cases hc : 0 < sl
            · exact hc
            · rw [decide_eq_false hc] at hb; cases hb
          have hs0 : sb = false := by
            cases sb with
            | false => rfl
            | true => simp at hb
          clear hb
          have h3 : l.length = 3 := by rw [HLL.out]; unfold chainL; rw [if_pos hl0]; rfl
          obtain ⟨b', o', y, hbo, hy, g0, g1, g2⟩ := I5.out.bufs.at_ 1 (by omega)
          injection hbo with hbo
          injection hbo with hb1 hb2
          subst hb1 hb2
          have hyD : l.getD 1 ⟨0, 0, false⟩ = y := by rw [List.getD_eq_getElem?_getD, hy]; rfl
          have hD2 : D = textS lm y.a y.n := by rw [HD.out, if_pos ⟨hl0, hs0⟩, hyD]
          have hyn := HBD.out y (List.mem_of_getElem? hy)
          obtain ⟨ya, yn, yw⟩ := y
          simp only [Nat.one_mul] at g0 g1 g2 hD2 hyn
          have TC2 := Lib.hid (rtext_any w5 r g p u h lm I5.out.ra I5.out.mem l2 ⟨ya, yn, yw⟩ hyn)
          simp only at TC2
          rw [← hD2] at TC2
          have hi1 : (1 : Int) < (l.length : Int) := by omega
          clear hD2 hy hyD h3
          go_wp2_with fail
          refine TC2.out.mono ?_
          rintro e w6 ⟨rfl, k6⟩
          have I6 := Lib.hid (I5.out.grown k6)
          clear k6
          go_wp2_with fail
          go_meet
          case rel => exact ⟨rfl, I6.out⟩
        | false =>
          have hb := HB.out
          have hD2 : D = [] := by
            rw [HD.out, if_neg (fun c => ?_)]
            rw [decide_eq_true c.1, c.2] at hb
            cases hb
          subst hD2
          clear hb
          go_wp2_with fail
          go_meet
          case rel => exact ⟨rfl, I5.out⟩
      case rest =>
--@5
        obtain ⟨rfl, i6⟩ := hcut
        clear I5
        have hDl : D.length ≤ 65536 := by
          rw [HD.out]
          split
          · exact Nat.le_trans (textS_len _ _ _) l2
          · simp
        have hDs : (⟨D.toArray⟩ : ByteArray).size ≤ 9223372036854775807 := by rw [toArray_size]; omega
        have tp := tellX_pos ⟨sk, sn, sl, sb, ss⟩ ⟨H.toArray⟩ ⟨D.toArray⟩
        obtain ⟨x0, x1⟩ := sectV_bd tp
        have SC := Lib.hid (fun W => sectorOf_any W ⟨sk, sn, sl, sb, ss⟩ ⟨H.toArray⟩ ⟨D.toArray⟩ hHs hDs)
        obtain ⟨X1, hX1⟩ : ∃ X1, X1 = (sectV (tellX ⟨sk, sn, sl, sb, ss⟩ ⟨H.toArray⟩ ⟨D.toArray⟩)).1 := ⟨_, rfl⟩
        obtain ⟨X2, hX2⟩ : ∃ X2, X2 = (sectV (tellX ⟨sk, sn, sl, sb, ss⟩ ⟨H.toArray⟩ ⟨D.toArray⟩)).2 := ⟨_, rfl⟩
        rw [← hX1] at x0 x1
        rw [← hX1, ← hX2] at SC
        obtain ⟨DD, hDD⟩ : ∃ DD : ByteArray, DD = if sk = 2 then ⟨D.toArray⟩ else ⟨#[]⟩ := ⟨_, rfl⟩
        have HA3 : Hid (R = if X2 = true ∧ H = headL ⟨sk, sn, sl, sb, ss⟩ ⟨sk, X1, DD⟩ ∧ D = dataL ⟨sk, sn, sl, sb, ss⟩ ⟨sk, X1, DD⟩ then some ⟨sk, X1, DD⟩ else none) := Lib.hid (by
          rw [HA2.out]
          unfold askF
          simp only [HHD.out, ← HH.out, ← HD.out, ← hX1, ← hX2, ← hDD])
        have HDD := Lib.hid hDD
        have c0 := i6.s0
        have c1 := i6.s1
        have c2 := i6.s2
        have c3 := i6.s3
        have c4 := i6.s4
        have I6 := Lib.hid i6
        clear hX1 hX2 hDD tp i6 hDl
        go_wp2_with fail
        refine (SC.out _).mono ?_
        rintro e w7 ⟨rfl, k7⟩
        have I7 := Lib.hid (I6.out.grown k7)
        clear k7 c0 c1 c2 c3 c4 I6
        cases X2 with
        | false =>
          have HRN : Hid (R = none) := Lib.hid (by rw [HA3.out, if_neg (fun c => by cases c.1)])
          have rb := I7.out.rbk
          have f0 := frozen_of_block (i := 0) rb
          have f1 := frozen_of_block (i := 1) rb
          have f2 := frozen_of_block (i := 2) rb
          have d0 : w7.cell? ⟨w.heap.size, 0, none⟩ = some (.int .i64 0) := cell_of_block rb
          have d1 : w7.cell? ⟨w.heap.size, 1, none⟩ = some (.int .i64 0) := cell_of_block rb
          have d2 : w7.cell? ⟨w.heap.size, 2, none⟩ = some (.string ⟨#[]⟩) := cell_of_block rb
          have RB := Lib.hid rb
          clear rb
          go_wp2_with fail
          exact ord_out RB.out I7.out.gr ⟨0, 0, ⟨#[]⟩⟩ (fun q0 q1 q2 => bodyPost_ret (v := .tuple #[.agg #[.int .i64 0, .int .i64 0, .string ⟨#[]⟩], .bool false]) (by simp [results, Tryz.results30, go_sem, q0, q1, q2]) rfl (.inr ⟨by rw [← HR.out]; exact HRN.out, ⟨0, 0, ⟨#[]⟩⟩, rfl, ord_grown I7.out.gr (Nat.le_refl _) _ _ _⟩))
        | true =>
--@6
          have c0 := I7.out.s0
          have hob : w.heap.size < w7.heap.size := Nat.lt_trans I7.out.old (lt_of_block I7.out.sbk)
          have i8 := I7.out.grown (World.grownBy_alloc w7 (.cells #[.int .i64 sk, .int .i64 X1, .string ⟨#[]⟩] 39) none)
          have hb8 := heap_alloc_new w7 (.cells #[.int .i64 sk, .int .i64 X1, .string ⟨#[]⟩] 39)
          go_upto_region 13 with fail
          generalize w7.alloc _ = W8 at i8 hb8 ⊢
          have I8 := Lib.hid i8
          have B8 := Lib.hid hb8
          clear c0
          have c0 := i8.s0
          have c2 : W8.cell? ⟨w7.heap.size, 2, none⟩ = some (.string ⟨#[]⟩) := cell_of_block hb8
          have f2 := frozen_of_block (i := 2) hb8
          have hgl7 := I7.out.mem.lt1
          have hhl7 := I7.out.mem.lt2
          have hrl7 := lt_of_block I7.out.ra
          have hsb7 := lt_of_block I7.out.sbk
          clear i8 hb8 I7
          go_upto_if 69 with fail
          go_cut [] (fun wx => OrdI w wx r g p u h lm (.slice (some ⟨b, o, none⟩) l.length cap) l w3.heap.size ⟨sk, sn, sl, sb, ss⟩ ∧ OrdJ wx w3.heap.size w7.heap.size ⟨sk, sn, sl, sb, ss⟩ ⟨sk, X1, DD⟩)
          case first =>
            by_cases hk2 : sk = 2
            · subst hk2
              have hd : DD = ⟨D.toArray⟩ := by rw [HDD.out, if_pos rfl]
              have k8 := grown_setCell W8 w7.heap.size 2 (.string ⟨D.toArray⟩)
              have b9 : (W8.setCell ⟨w7.heap.size, 2, none⟩ (.string ⟨D.toArray⟩)).heap[w7.heap.size]? = some (.cells #[.int .i64 2, .int .i64 X1, .string ⟨D.toArray⟩] 39 (0, 0)) := set_block B8.out 2 (.string ⟨D.toArray⟩)
              have i9 : OrdI w (W8.setCell ⟨w7.heap.size, 2, none⟩ (.string ⟨D.toArray⟩)) r g p u h lm (.slice (some ⟨b, o, none⟩) l.length cap) l w3.heap.size ⟨2, sn, sl, sb, ss⟩ := I8.out.setOb k8 hsb7 (Nat.ne_of_lt hgl7) (Nat.ne_of_lt hhl7) (Nat.ne_of_lt hrl7) (I8.out.bufs.kept_at (fun b' i' u' hu hz => by
                rw [World.cell?_setCell_other _ _ _ _ (fun e => by
                  injection e with e1 e2
                  subst e1 e2
                  rw [c2] at hu
                  injection hu with hu
                  rcases hz with ⟨z, hz⟩ | ⟨z, hz⟩ <;> rw [← hu] at hz <;> cases hz)]
                exact hu))
              subst hd
              have I9 := Lib.hid i9
              have B9 := Lib.hid b9
              clear i9 b9 k8
              go_wp2_with fail
              go_meet
              case rel => exact ⟨I9.out, I9.out.sbk, B9.out⟩
            · have hd : DD = ⟨#[]⟩ := by rw [HDD.out, if_neg hk2]
              have e1 : (sk == 2) = false := beq_eq_false_iff_ne.2 hk2
              subst hd
              clear hk2
              go_wp2_with fail
              go_meet
              case rel => exact ⟨I8.out, I8.out.sbk, B8.out⟩
          case rest =>
--@7
            clear I8 B8 c0 c2 f2
            go_wp2_with fail
            obtain ⟨i8, j8⟩ := hcut
            have I8 := Lib.hid i8
            have J8 := Lib.hid j8
            clear i8 j8
            by_cases hh : H = headL ⟨sk, sn, sl, sb, ss⟩ ⟨sk, X1, DD⟩
            · have HHE := Lib.hid hh
              by_cases hd : D = dataL ⟨sk, sn, sl, sb, ss⟩ ⟨sk, X1, DD⟩
              · have HDE := Lib.hid hd
                have HRN : Hid (R = some ⟨sk, X1, DD⟩) := Lib.hid (by rw [HA3.out, if_pos ⟨by simp, hh, hd⟩])
                clear hh hd
                refine wp_region_noPanic ?_
                refine region_held (S := fun w' => OrdJ w' w3.heap.size w7.heap.size ⟨sk, sn, sl, sb, ss⟩ ⟨sk, X1, DD⟩) (by kernel_rfl) (fun V d => J8.out.grown d.grown) (fun V d hS => ?_)
                have iV := Lib.hid (I8.out.grown d.grown)
                refine wpAnyH_take (i := 0) (v := (.agg #[.int .i64 sk, .int .i64 X1, .string DD])) rfl (by kernel_rfl) (by kernel_rfl) (by kernel_rfl) (fun _ _ _ h => h) (Or.inl ⟨by rfl, fun w' h' => ?_⟩) hS ?_
                · have c0 := h'.o0
                  have c1 := h'.o1
                  have c2 := h'.o2
                  clear h'
                  go_simp
                simp only [Act.put]
                refine wpAnyH_take (i := 1) (v := (.string ⟨H.toArray⟩)) rfl (by kernel_rfl) (by kernel_rfl) (by kernel_rfl) (fun _ _ _ h => h) (Or.inl ⟨by rfl, fun w' h' => ?_⟩) hS ?_
                · clear h'
                  go_simp
                simp only [Act.put]
                refine wpAnyH_take (i := 2) (v := (.agg #[.int .i64 sk, .int .u64 sn, .int .i64 sl, .bool sb, .int .i64 ss])) rfl (by kernel_rfl) (by kernel_rfl) (by kernel_rfl) (fun _ _ _ h => h) (Or.inl ⟨by rfl, fun w' h' => ?_⟩) hS ?_
                · have c0 := h'.s0
                  have c1 := h'.s1
                  have c2 := h'.s2
                  have c3 := h'.s3
                  have c4 := h'.s4
                  clear h'
                  go_simp
                simp only [Act.put]
                refine wpAnyH_take (i := 3) (v := (.agg #[.int .i64 sk, .int .i64 X1, .string DD])) rfl (by kernel_rfl) (by kernel_rfl) (by kernel_rfl) (fun _ _ _ h => h) (Or.inl ⟨by rfl, fun w' h' => ?_⟩) hS ?_
                · have c0 := h'.o0
                  have c1 := h'.o1
                  have c2 := h'.o2
                  clear h'
                  go_simp
                simp only [Act.put]
                refine wpAnyH_ready (rs := [4]) (by kernel_rfl) (by simp) ?_
                refine AllReadyH.cons rfl (fun K hK => ?_) AllReadyH.nil
                go_simp
                refine (head_any V ⟨sk, sn, sl, sb, ss⟩ ⟨sk, X1, DD⟩ hn0 x0 x1).mono ?_
                rintro e w9 ⟨rfl, k9⟩
                have j9 := hS.grown k9
                have I9 := Lib.hid (iV.out.grown k9)
                go_simp
                refine hK.out _ _ j9 (fun _ => ?_)
                clear hK K
                refine wpAnyH_take (i := 5) (v := (.bool true)) rfl (by kernel_rfl) (by kernel_rfl) (by kernel_rfl) (fun _ _ _ h => h) (Or.inl ⟨by rfl, fun w' h' => ?_⟩) j9 ?_
                · have c0 := HHE.out
                  clear h'
                  go_simp
                simp only [Act.put]
                refine wpAnyH_take (i := 6) (oi := ⟨some 78, Op.move (Operand.tmp 77), _, _, _, none⟩) (v := (.bool true)) rfl (by kernel_rfl) (by kernel_rfl) (by kernel_rfl) (fun _ _ _ h => h) (Or.inl ⟨by rfl, fun w' h' => ?_⟩) j9 ?_
                · clear h'
                  go_simp
                simp only [Act.put]
                refine wpAnyH_take (i := 7) (oi := ⟨some 79, Op.move (Operand.tmp 11), _, _, _, some (6, true)⟩) (v := (.string ⟨D.toArray⟩)) rfl (by kernel_rfl) (by kernel_rfl) (by kernel_rfl) (fun _ _ _ h => h) (Or.inl ⟨by rfl, fun w' h' => ?_⟩) j9 ?_
                · clear h'
                  go_simp
                simp only [Act.put]
                refine wpAnyH_take (i := 8) (v := (.agg #[.int .i64 sk, .int .u64 sn, .int .i64 sl, .bool sb, .int .i64 ss])) rfl (by kernel_rfl) (by kernel_rfl) (by kernel_rfl) (fun _ _ _ h => h) (Or.inl ⟨by rfl, fun w' h' => ?_⟩) j9 ?_
                · have c0 := h'.s0
                  have c1 := h'.s1
                  have c2 := h'.s2
                  have c3 := h'.s3
                  have c4 := h'.s4
                  clear h'
                  go_simp
                simp only [Act.put]
                refine wpAnyH_take (i := 9) (v := (.agg #[.int .i64 sk, .int .i64 X1, .string DD])) rfl (by kernel_rfl) (by kernel_rfl) (by kernel_rfl) (fun _ _ _ h => h) (Or.inl ⟨by rfl, fun w' h' => ?_⟩) j9 ?_
                · have c0 := h'.o0
                  have c1 := h'.o1
                  have c2 := h'.o2
                  clear h'
                  go_simp
                simp only [Act.put]
                refine wpAnyH_ready (rs := [10]) (by kernel_rfl) (by simp) ?_
                refine AllReadyH.cons rfl (fun K hK => ?_) AllReadyH.nil
                go_simp
                refine (data_any w9 ⟨sk, sn, sl, sb, ss⟩ ⟨sk, X1, DD⟩ x0 x1).mono ?_
                rintro e w10 ⟨rfl, k10⟩
                have j10 := j9.grown k10
                have I10 := Lib.hid (I9.out.grown k10)
                go_simp
                refine hK.out _ _ j10 (fun _ => ?_)
                clear hK K
                refine wpAnyH_take (i := 11) (oi := ⟨some 83, Op.binOp BinOp.eql 9 (Operand.tmp 79) (Operand.tmp 82) 9, _, _, _, some (6, true)⟩) (v := (.bool true)) rfl (by kernel_rfl) (by kernel_rfl) (by kernel_rfl) (fun _ _ _ h => h) (Or.inl ⟨by rfl, fun w' h' => ?_⟩) j10 ?_
                · have c0 := HDE.out
                  clear h'
                  go_simp
                simp only [Act.put]
                refine wpAnyH_take (i := 12) (oi := ⟨some 84, Op.pick (Operand.tmp 78) (Operand.tmp 83) (Operand.const (Value.bool false)), _, _, _, none⟩) (v := (.bool true)) rfl (by kernel_rfl) (by kernel_rfl) (by kernel_rfl) (fun _ _ _ h => h) (Or.inl ⟨by rfl, fun w' h' => ?_⟩) j10 ?_
                · clear h'
                  go_simp
                simp only [Act.put]
                have rb := I10.out.rbk
                have f0 := frozen_of_block (i := 0) rb
                have f1 := frozen_of_block (i := 1) rb
                have f2 := frozen_of_block (i := 2) rb
                have d0 : w10.cell? ⟨w.heap.size, 0, none⟩ = some (.int .i64 0) := cell_of_block rb
                have d1 : w10.cell? ⟨w.heap.size, 1, none⟩ = some (.int .i64 0) := cell_of_block rb
                have d2 : w10.cell? ⟨w.heap.size, 2, none⟩ = some (.string ⟨#[]⟩) := cell_of_block rb
                have RB := Lib.hid rb
                have n1 : w3.heap.size ≠ w.heap.size := Nat.ne_of_gt I10.out.old
                have n2 : w7.heap.size ≠ w.heap.size := Nat.ne_of_gt hob
                have jE : OrdJ (((w10.setCell ⟨w.heap.size, 0, none⟩ (.int .i64 sk)).setCell ⟨w.heap.size, 1, none⟩ (.int .i64 X1)).setCell ⟨w.heap.size, 2, none⟩ (.string DD)) w3.heap.size w7.heap.size ⟨sk, sn, sl, sb, ss⟩ ⟨sk, X1, DD⟩ :=
                  j10.kept (by rw [Below.heap_setCell _ _ _ _ n1, Below.heap_setCell _ _ _ _ n1, Below.heap_setCell _ _ _ _ n1]) (by rw [Below.heap_setCell _ _ _ _ n2, Below.heap_setCell _ _ _ _ n2, Below.heap_setCell _ _ _ _ n2])
                clear rb n1 n2
                refine wpAnyH_ready (rs := [13]) (by kernel_rfl) (by simp) ?_
                refine AllReadyH.cons rfl (fun K hK => ?_) AllReadyH.nil
                go_simp
                refine hK.out _ _ jE (fun _ => ?_)
                clear hK K
                refine wpAnyH_take (i := 14) (oi := ⟨some 5, Op.assign (Operand.tmp 84), _, _, _, none⟩) (v := (.bool true)) rfl (by kernel_rfl) (by kernel_rfl) (by kernel_rfl) (fun _ _ _ h => h) (Or.inl ⟨by rfl, fun w' h' => ?_⟩) jE ?_
                · clear h'
                  go_simp
                simp only [Act.put]
                refine wpAnyH_done (by kernel_rfl) (NoPanic.normal ?_) _
                clear d0 d1 d2 f0 f1 f2 jE hS d
                go_wp2_with fail
                exact ord_out RB.out I10.out.gr ⟨sk, X1, DD⟩ (fun q0 q1 q2 => bodyPost_ret (v := .tuple #[.agg #[.int .i64 sk, .int .i64 X1, .string DD], .bool true]) (by simp [results, Tryz.results30, go_sem, q0, q1, q2]) rfl (.inl ⟨⟨sk, X1, DD⟩, by rw [← HR.out]; exact HRN.out, rfl, ord_grown I10.out.gr (Nat.le_refl _) _ _ _⟩))
              · have HDE := Lib.hid hd
                have HRN : Hid (R = none) := Lib.hid (by rw [HA3.out, if_neg (fun c => hd c.2.2)])
                clear hh hd
                refine wp_region_noPanic ?_
                refine region_held (S := fun w' => OrdJ w' w3.heap.size w7.heap.size ⟨sk, sn, sl, sb, ss⟩ ⟨sk, X1, DD⟩) (by kernel_rfl) (fun V d => J8.out.grown d.grown) (fun V d hS => ?_)
                have iV := Lib.hid (I8.out.grown d.grown)
                refine wpAnyH_take (i := 0) (v := (.agg #[.int .i64 sk, .int .i64 X1, .string DD])) rfl (by kernel_rfl) (by kernel_rfl) (by kernel_rfl) (fun _ _ _ h => h) (Or.inl ⟨by rfl, fun w' h' => ?_⟩) hS ?_
                · have c0 := h'.o0
                  have c1 := h'.o1
                  have c2 := h'.o2
                  clear h'
                  go_simp
                simp only [Act.put]
                refine wpAnyH_take (i := 1) (v := (.string ⟨H.toArray⟩)) rfl (by kernel_rfl) (by kernel_rfl) (by kernel_rfl) (fun _ _ _ h => h) (Or.inl ⟨by rfl, fun w' h' => ?_⟩) hS ?_
                · clear h'
                  go_simp
                simp only [Act.put]
                refine wpAnyH_take (i := 2) (v := (.agg #[.int .i64 sk, .int .u64 sn, .int .i64 sl, .bool sb, .int .i64 ss])) rfl (by kernel_rfl) (by kernel_rfl) (by kernel_rfl) (fun _ _ _ h => h) (Or.inl ⟨by rfl, fun w' h' => ?_⟩) hS ?_
                · have c0 := h'.s0
                  have c1 := h'.s1
                  have c2 := h'.s2
                  have c3 := h'.s3
                  have c4 := h'.s4
                  clear h'
                  go_simp
                simp only [Act.put]
                refine wpAnyH_take (i := 3) (v := (.agg #[.int .i64 sk, .int .i64 X1, .string DD])) rfl (by kernel_rfl) (by kernel_rfl) (by kernel_rfl) (fun _ _ _ h => h) (Or.inl ⟨by rfl, fun w' h' => ?_⟩) hS ?_
                · have c0 := h'.o0
                  have c1 := h'.o1
                  have c2 := h'.o2
                  clear h'
                  go_simp
                simp only [Act.put]
                refine wpAnyH_ready (rs := [4]) (by kernel_rfl) (by simp) ?_
                refine AllReadyH.cons rfl (fun K hK => ?_) AllReadyH.nil
                go_simp
                refine (head_any V ⟨sk, sn, sl, sb, ss⟩ ⟨sk, X1, DD⟩ hn0 x0 x1).mono ?_
                rintro e w9 ⟨rfl, k9⟩
                have j9 := hS.grown k9
                have I9 := Lib.hid (iV.out.grown k9)
                go_simp
                refine hK.out _ _ j9 (fun _ => ?_)
                clear hK K
                refine wpAnyH_take (i := 5) (v := (.bool true)) rfl (by kernel_rfl) (by kernel_rfl) (by kernel_rfl) (fun _ _ _ h => h) (Or.inl ⟨by rfl, fun w' h' => ?_⟩) j9 ?_
                · have c0 := HHE.out
                  clear h'
                  go_simp
                simp only [Act.put]
                refine wpAnyH_take (i := 6) (oi := ⟨some 78, Op.move (Operand.tmp 77), _, _, _, none⟩) (v := (.bool true)) rfl (by kernel_rfl) (by kernel_rfl) (by kernel_rfl) (fun _ _ _ h => h) (Or.inl ⟨by rfl, fun w' h' => ?_⟩) j9 ?_
                · clear h'
                  go_simp
                simp only [Act.put]
                refine wpAnyH_take (i := 7) (oi := ⟨some 79, Op.move (Operand.tmp 11), _, _, _, some (6, true)⟩) (v := (.string ⟨D.toArray⟩)) rfl (by kernel_rfl) (by kernel_rfl) (by kernel_rfl) (fun _ _ _ h => h) (Or.inl ⟨by rfl, fun w' h' => ?_⟩) j9 ?_
                · clear h'
                  go_simp
                simp only [Act.put]
                refine wpAnyH_take (i := 8) (v := (.agg #[.int .i64 sk, .int .u64 sn, .int .i64 sl, .bool sb, .int .i64 ss])) rfl (by kernel_rfl) (by kernel_rfl) (by kernel_rfl) (fun _ _ _ h => h) (Or.inl ⟨by rfl, fun w' h' => ?_⟩) j9 ?_
                · have c0 := h'.s0
                  have c1 := h'.s1
                  have c2 := h'.s2
                  have c3 := h'.s3
                  have c4 := h'.s4
                  clear h'
                  go_simp
                simp only [Act.put]
                refine wpAnyH_take (i := 9) (v := (.agg #[.int .i64 sk, .int .i64 X1, .string DD])) rfl (by kernel_rfl) (by kernel_rfl) (by kernel_rfl) (fun _ _ _ h => h) (Or.inl ⟨by rfl, fun w' h' => ?_⟩) j9 ?_
                · have c0 := h'.o0
                  have c1 := h'.o1
                  have c2 := h'.o2
                  clear h'
                  go_simp
                simp only [Act.put]
                refine wpAnyH_ready (rs := [10]) (by kernel_rfl) (by simp) ?_
                refine AllReadyH.cons rfl (fun K hK => ?_) AllReadyH.nil
                go_simp
                refine (data_any w9 ⟨sk, sn, sl, sb, ss⟩ ⟨sk, X1, DD⟩ x0 x1).mono ?_
                rintro e w10 ⟨rfl, k10⟩
                have j10 := j9.grown k10
                have I10 := Lib.hid (I9.out.grown k10)
                go_simp
                refine hK.out _ _ j10 (fun _ => ?_)
                clear hK K
                refine wpAnyH_take (i := 11) (oi := ⟨some 83, Op.binOp BinOp.eql 9 (Operand.tmp 79) (Operand.tmp 82) 9, _, _, _, some (6, true)⟩) (v := (.bool false)) rfl (by kernel_rfl) (by kernel_rfl) (by kernel_rfl) (fun _ _ _ h => h) (Or.inl ⟨by rfl, fun w' h' => ?_⟩) j10 ?_
                · have c0 := HDE.out
                  clear h'
                  go_simp
                simp only [Act.put]
                refine wpAnyH_take (i := 12) (oi := ⟨some 84, Op.pick (Operand.tmp 78) (Operand.tmp 83) (Operand.const (Value.bool false)), _, _, _, none⟩) (v := (.bool false)) rfl (by kernel_rfl) (by kernel_rfl) (by kernel_rfl) (fun _ _ _ h => h) (Or.inl ⟨by rfl, fun w' h' => ?_⟩) j10 ?_
                · clear h'
                  go_simp
                simp only [Act.put]
                have rb := I10.out.rbk
                have f0 := frozen_of_block (i := 0) rb
                have f1 := frozen_of_block (i := 1) rb
                have f2 := frozen_of_block (i := 2) rb
                have d0 : w10.cell? ⟨w.heap.size, 0, none⟩ = some (.int .i64 0) := cell_of_block rb
                have d1 : w10.cell? ⟨w.heap.size, 1, none⟩ = some (.int .i64 0) := cell_of_block rb
                have d2 : w10.cell? ⟨w.heap.size, 2, none⟩ = some (.string ⟨#[]⟩) := cell_of_block rb
                have RB := Lib.hid rb
                have n1 : w3.heap.size ≠ w.heap.size := Nat.ne_of_gt I10.out.old
                have n2 : w7.heap.size ≠ w.heap.size := Nat.ne_of_gt hob
                have jE : OrdJ (((w10.setCell ⟨w.heap.size, 0, none⟩ (.int .i64 sk)).setCell ⟨w.heap.size, 1, none⟩ (.int .i64 X1)).setCell ⟨w.heap.size, 2, none⟩ (.string DD)) w3.heap.size w7.heap.size ⟨sk, sn, sl, sb, ss⟩ ⟨sk, X1, DD⟩ :=
                  j10.kept (by rw [Below.heap_setCell _ _ _ _ n1, Below.heap_setCell _ _ _ _ n1, Below.heap_setCell _ _ _ _ n1]) (by rw [Below.heap_setCell _ _ _ _ n2, Below.heap_setCell _ _ _ _ n2, Below.heap_setCell _ _ _ _ n2])
                clear rb n1 n2
                refine wpAnyH_ready (rs := [13]) (by kernel_rfl) (by simp) ?_
                refine AllReadyH.cons rfl (fun K hK => ?_) AllReadyH.nil
                go_simp
                refine hK.out _ _ jE (fun _ => ?_)
                clear hK K
                refine wpAnyH_take (i := 14) (oi := ⟨some 5, Op.assign (Operand.tmp 84), _, _, _, none⟩) (v := (.bool false)) rfl (by kernel_rfl) (by kernel_rfl) (by kernel_rfl) (fun _ _ _ h => h) (Or.inl ⟨by rfl, fun w' h' => ?_⟩) jE ?_
                · clear h'
                  go_simp
                simp only [Act.put]
                refine wpAnyH_done (by kernel_rfl) (NoPanic.normal ?_) _
                clear d0 d1 d2 f0 f1 f2 jE hS d
                go_wp2_with fail
                exact ord_out RB.out I10.out.gr ⟨sk, X1, DD⟩ (fun q0 q1 q2 => bodyPost_ret (v := .tuple #[.agg #[.int .i64 sk, .int .i64 X1, .string DD], .bool false]) (by simp [results, Tryz.results30, go_sem, q0, q1, q2]) rfl (.inr ⟨by rw [← HR.out]; exact HRN.out, ⟨sk, X1, DD⟩, rfl, ord_grown I10.out.gr (Nat.le_refl _) _ _ _⟩))
            · have HHE := Lib.hid hh
              have HRN : Hid (R = none) := Lib.hid (by rw [HA3.out, if_neg (fun c => hh c.2.1)])
              clear hh
              refine wp_region_noPanic ?_
              refine region_held (S := fun w' => OrdJ w' w3.heap.size w7.heap.size ⟨sk, sn, sl, sb, ss⟩ ⟨sk, X1, DD⟩) (by kernel_rfl) (fun V d => J8.out.grown d.grown) (fun V d hS => ?_)
              have iV := Lib.hid (I8.out.grown d.grown)
              refine wpAnyH_take (i := 0) (v := (.agg #[.int .i64 sk, .int .i64 X1, .string DD])) rfl (by kernel_rfl) (by kernel_rfl) (by kernel_rfl) (fun _ _ _ h => h) (Or.inl ⟨by rfl, fun w' h' => ?_⟩) hS ?_
              · have c0 := h'.o0
                have c1 := h'.o1
                have c2 := h'.o2
                clear h'
                go_simp
              simp only [Act.put]
              refine wpAnyH_take (i := 1) (v := (.string ⟨H.toArray⟩)) rfl (by kernel_rfl) (by kernel_rfl) (by kernel_rfl) (fun _ _ _ h => h) (Or.inl ⟨by rfl, fun w' h' => ?_⟩) hS ?_
              · clear h'
                go_simp
              simp only [Act.put]
              refine wpAnyH_take (i := 2) (v := (.agg #[.int .i64 sk, .int .u64 sn, .int .i64 sl, .bool sb, .int .i64 ss])) rfl (by kernel_rfl) (by kernel_rfl) (by kernel_rfl) (fun _ _ _ h => h) (Or.inl ⟨by rfl, fun w' h' => ?_⟩) hS ?_
              · have c0 := h'.s0
                have c1 := h'.s1
                have c2 := h'.s2
                have c3 := h'.s3
                have c4 := h'.s4
                clear h'
                go_simp
              simp only [Act.put]
              refine wpAnyH_take (i := 3) (v := (.agg #[.int .i64 sk, .int .i64 X1, .string DD])) rfl (by kernel_rfl) (by kernel_rfl) (by kernel_rfl) (fun _ _ _ h => h) (Or.inl ⟨by rfl, fun w' h' => ?_⟩) hS ?_
              · have c0 := h'.o0
                have c1 := h'.o1
                have c2 := h'.o2
                clear h'
                go_simp
              simp only [Act.put]
              refine wpAnyH_ready (rs := [4]) (by kernel_rfl) (by simp) ?_
              refine AllReadyH.cons rfl (fun K hK => ?_) AllReadyH.nil
              go_simp
              refine (head_any V ⟨sk, sn, sl, sb, ss⟩ ⟨sk, X1, DD⟩ hn0 x0 x1).mono ?_
              rintro e w9 ⟨rfl, k9⟩
              have j9 := hS.grown k9
              have I9 := Lib.hid (iV.out.grown k9)
              go_simp
              refine hK.out _ _ j9 (fun _ => ?_)
              clear hK K
              refine wpAnyH_take (i := 5) (v := (.bool false)) rfl (by kernel_rfl) (by kernel_rfl) (by kernel_rfl) (fun _ _ _ h => h) (Or.inl ⟨by rfl, fun w' h' => ?_⟩) j9 ?_
              · have c0 := HHE.out
                clear h'
                go_simp
              simp only [Act.put]
              refine wpAnyH_take (i := 6) (oi := ⟨some 78, Op.move (Operand.tmp 77), _, _, _, none⟩) (v := (.bool false)) rfl (by kernel_rfl) (by kernel_rfl) (by kernel_rfl) (fun _ _ _ h => h) (Or.inl ⟨by rfl, fun w' h' => ?_⟩) j9 ?_
              · clear h'
                go_simp
              simp only [Act.put]
              refine wpAnyH_take (i := 7) (oi := ⟨some 79, Op.move (Operand.tmp 11), _, _, _, some (6, true)⟩) (v := undef) rfl (by kernel_rfl) (by kernel_rfl) (by kernel_rfl) (fun _ _ _ h => h) (Or.inr ⟨by rfl, rfl⟩) j9 ?_
              simp only [Act.put]
              refine wpAnyH_take (i := 8) (v := undef) rfl (by kernel_rfl) (by kernel_rfl) (by kernel_rfl) (fun _ _ _ h => h) (Or.inr ⟨by rfl, rfl⟩) j9 ?_
              simp only [Act.put]
              refine wpAnyH_take (i := 9) (v := undef) rfl (by kernel_rfl) (by kernel_rfl) (by kernel_rfl) (fun _ _ _ h => h) (Or.inr ⟨by rfl, rfl⟩) j9 ?_
              simp only [Act.put]
              refine wpAnyH_take (i := 10) (oi := ⟨some 82, Op.call { callee := Callee.value (Operand.func 48), args := #[(Operand.tmp 80), (Operand.tmp 81)], argTypes := #[74, 39] }, _, _, _, some (6, true)⟩) (v := undef) rfl (by kernel_rfl) (by kernel_rfl) (by kernel_rfl) (fun _ _ _ h => h) (Or.inr ⟨by rfl, rfl⟩) j9 ?_
              simp only [Act.put]
              refine wpAnyH_take (i := 11) (oi := ⟨some 83, Op.binOp BinOp.eql 9 (Operand.tmp 79) (Operand.tmp 82) 9, _, _, _, some (6, true)⟩) (v := undef) rfl (by kernel_rfl) (by kernel_rfl) (by kernel_rfl) (fun _ _ _ h => h) (Or.inr ⟨by rfl, rfl⟩) j9 ?_
              simp only [Act.put]
              refine wpAnyH_take (i := 12) (oi := ⟨some 84, Op.pick (Operand.tmp 78) (Operand.tmp 83) (Operand.const (Value.bool false)), _, _, _, none⟩) (v := (.bool false)) rfl (by kernel_rfl) (by kernel_rfl) (by kernel_rfl) (fun _ _ _ h => h) (Or.inl ⟨by rfl, fun w' h' => ?_⟩) j9 ?_
              · clear h'
                go_simp
              simp only [Act.put]
              have rb := I9.out.rbk
              have f0 := frozen_of_block (i := 0) rb
              have f1 := frozen_of_block (i := 1) rb
              have f2 := frozen_of_block (i := 2) rb
              have d0 : w9.cell? ⟨w.heap.size, 0, none⟩ = some (.int .i64 0) := cell_of_block rb
              have d1 : w9.cell? ⟨w.heap.size, 1, none⟩ = some (.int .i64 0) := cell_of_block rb
              have d2 : w9.cell? ⟨w.heap.size, 2, none⟩ = some (.string ⟨#[]⟩) := cell_of_block rb
              have RB := Lib.hid rb
              have n1 : w3.heap.size ≠ w.heap.size := Nat.ne_of_gt I9.out.old
              have n2 : w7.heap.size ≠ w.heap.size := Nat.ne_of_gt hob
              have jE : OrdJ (((w9.setCell ⟨w.heap.size, 0, none⟩ (.int .i64 sk)).setCell ⟨w.heap.size, 1, none⟩ (.int .i64 X1)).setCell ⟨w.heap.size, 2, none⟩ (.string DD)) w3.heap.size w7.heap.size ⟨sk, sn, sl, sb, ss⟩ ⟨sk, X1, DD⟩ :=
                j9.kept (by rw [Below.heap_setCell _ _ _ _ n1, Below.heap_setCell _ _ _ _ n1, Below.heap_setCell _ _ _ _ n1]) (by rw [Below.heap_setCell _ _ _ _ n2, Below.heap_setCell _ _ _ _ n2, Below.heap_setCell _ _ _ _ n2])
              clear rb n1 n2
              refine wpAnyH_ready (rs := [13]) (by kernel_rfl) (by simp) ?_
              refine AllReadyH.cons rfl (fun K hK => ?_) AllReadyH.nil
              go_simp
              refine hK.out _ _ jE (fun _ => ?_)
              clear hK K
              refine wpAnyH_take (i := 14) (oi := ⟨some 5, Op.assign (Operand.tmp 84), _, _, _, none⟩) (v := (.bool false)) rfl (by kernel_rfl) (by kernel_rfl) (by kernel_rfl) (fun _ _ _ h => h) (Or.inl ⟨by rfl, fun w' h' => ?_⟩) jE ?_
              · clear h'
                go_simp
              simp only [Act.put]
              refine wpAnyH_done (by kernel_rfl) (NoPanic.normal ?_) _
              clear d0 d1 d2 f0 f1 f2 jE hS d
              go_wp2_with fail
              exact ord_out RB.out I9.out.gr ⟨sk, X1, DD⟩ (fun q0 q1 q2 => bodyPost_ret (v := .tuple #[.agg #[.int .i64 sk, .int .i64 X1, .string DD], .bool false]) (by simp [results, Tryz.results30, go_sem, q0, q1, q2]) rfl (.inr ⟨by rw [← HR.out]; exact HRN.out, ⟨sk, X1, DD⟩, rfl, ord_grown I9.out.gr (Nat.le_refl _) _ _ _⟩))
end Go.Proofs.YtdchlnffbiooaaaGreatDoor
