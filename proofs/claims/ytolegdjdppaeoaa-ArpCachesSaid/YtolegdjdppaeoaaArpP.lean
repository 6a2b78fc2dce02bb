/-
  Layer 7: slices.DeleteFunc of the entries that are too old; Tick. Conditions: as said.
-/
import Derived.Test.YtolegdjdppaeoaaArpO
namespace Go.Proofs.Ytolegdjdppaeoaa
open Go.RowKit Go.Sort Go.Shelf
set_option linter.unusedVariables false

section
variable {α : Type} {k : Nat} {enc : α → List Value} {TE : TypeId} {w : World}
/-- One cell of one element is written. -/
theorem RowA.set1 (hk : ∀ x, (enc x).length = k) {b cap i j : Nat} {l : List α} (h : RowA k enc TE w (.slice (some ⟨b, 0, none⟩) l.length cap) l) (hi : i < l.length) (hj : j < k) (y : α) (u : Value) (hy : enc y = (enc l[i]).set j u) :
    RowA k enc TE (w.setCell ⟨b, i * k + j, none⟩ u) (.slice (some ⟨b, 0, none⟩) l.length cap) (l.set i y) := by
  obtain ⟨b', cap', cur, hv, h1, h2, h3, h4, h5⟩ := h.block (by omega)
  injection hv with hv _ hc; injection hv with hv; injection hv with hv
  subst hv hc
  have hik : i * k + k ≤ l.length * k := by rw [← Nat.add_one_mul]; exact Nat.mul_le_mul_right k (by omega)
  have hlk : l.length * k ≤ cap * k := Nat.mul_le_mul_right k h2
  have hcs : cur.toList.length = cap * k := by rw [Array.length_toList]; exact h4
  refine RowA.put hk h hi y (fun cur2 hc2 => ?_) (cur' := cur.setIfInBounds (i * k + j) u)
  rw [h1] at hc2
  injection hc2 with hc2; injection hc2 with hc2
  subst hc2
  refine ⟨set_cells h1 u (by omega), ?_⟩
  have e0 : (cur.toList.drop (i * k)).take k = enc l[i] := by
    have a1 : (cur.toList.drop (i * k)).take k = ((cur.toList.take (l.length * k)).drop (i * k)).take k := by
      rw [List.drop_take, List.take_take, Nat.min_eq_left (by omega)]
    have a2 := encA_append enc (l.take i) (l.drop i)
    rw [List.take_append_drop] at a2
    have a3 := encA_length hk (l.take i)
    rw [List.length_take, Nat.min_eq_left (by omega)] at a3
    rw [a1, h5, a2, List.drop_left' a3, List.drop_eq_getElem_cons hi]
    show (encA enc ([l[i]] ++ l.drop (i + 1))).take k = _
    rw [encA_append]
    have a4 : encA enc [l[i]] = enc l[i] := by simp [encA]
    rw [a4]
    exact List.take_left' (hk _)
  have e1 : cur.toList = cur.toList.take (i * k) ++ (enc l[i] ++ cur.toList.drop (i * k + k)) := by
    rw [← e0, ← List.drop_drop, List.take_append_drop, List.take_append_drop]
  have el : (cur.toList.take (i * k)).length = i * k := by rw [List.length_take]; omega
  rw [Array.toList_setIfInBounds]
  conv => lhs; rw [e1]
  rw [List.set_append, if_neg (by rw [el]; omega), el, Nat.add_sub_cancel_left, List.set_append, if_pos (by rw [hk]; exact hj), hy, List.append_assoc]
/-- Fewer elements. -/
theorem RowA.fewer (hk : ∀ x, (enc x).length = k) {b cap a : Nat} {l : List α} (h : RowA k enc TE w (.slice (some ⟨b, 0, none⟩) l.length cap) l) (h0 : 0 < l.length) (ha : a ≤ l.length) :
    RowA k enc TE w (.slice (some ⟨b, 0, none⟩) (l.take a).length cap) (l.take a) := by
  obtain ⟨b', cap', cur, hv, h1, h2, h3, h4, h5⟩ := h.block h0
  injection hv with hv _ hc; injection hv with hv; injection hv with hv
  subst hv hc
  have hla : (l.take a).length = a := by rw [List.length_take]; omega
  refine ⟨by rw [encA_length hk], .inr ⟨b, cap, cur, rfl, Nat.zero_le _, h1, by rw [hla]; omega, h3, h4, ?_⟩⟩
  rw [hla]
  have a2 := encA_append enc (l.take a) (l.drop a)
  rw [List.take_append_drop] at a2
  have a3 := encA_length hk (l.take a)
  rw [hla] at a3
  have a1 : cur.toList.take (a * k) = (cur.toList.take (l.length * k)).take (a * k) := by
    rw [List.take_take, Nat.min_eq_left (Nat.mul_le_mul_right k ha)]
  rw [a1, h5, a2]
  exact List.take_left' a3
/-- What lies behind the elements is written. -/
theorem RowA.tail (hk : ∀ x, (enc x).length = k) {b cap : Nat} {l : List α} {cur zs : List Value} {m : Nat} (hb : w.heap[b]? = some (.cells cur.toArray TE (0, 0))) (h : RowA k enc TE w (.slice (some ⟨b, 0, none⟩) l.length cap) l) (hz : zs.length = m) (hfit : l.length * k + m ≤ cur.length) :
    RowA k enc TE (w.setRow b (cur.take (l.length * k) ++ zs ++ cur.drop (l.length * k + m)).toArray) (.slice (some ⟨b, 0, none⟩) l.length cap) l := by
  rcases h.2 with ⟨hv, _⟩ | ⟨b', cap', cur', hv, h0, h1, h2, h3, h4, h5⟩
  · cases hv
  injection hv with hv _ hc; injection hv with hv; injection hv with hv
  subst hv hc
  rw [hb] at h1
  injection h1 with h1; injection h1 with h1
  subst h1
  refine ⟨h.1, .inr ⟨b, cap, _, rfl, h0, setRow_heap _ _ _ _ _ _ hb, h2, h3, ?_, ?_⟩⟩
  · rw [List.size_toArray] at h4 ⊢
    rw [List.length_append, List.length_append, List.length_take, List.length_drop]
    omega
  · rw [← h5]
    show (cur.take (l.length * k) ++ zs ++ cur.drop (l.length * k + m)).take (l.length * k) = _
    rw [List.append_assoc]
    exact List.take_left' (by rw [List.length_take]; omega)
end

/-- What Tick's closure reads. -/
structure TkS (n1 g : Nat) (lim : Int) (w : World) : Prop where
  box : w.cell? ⟨n1, 0, none⟩ = some (.pointer (some ⟨g, 0, none⟩))
  lim0 : w.cell? ⟨g, 0, none⟩ = some (.int .i64 lim)
  l1 : n1 < w.heap.size
  lg : g < w.heap.size
theorem TkS.grow {n1 g : Nat} {lim : Int} {w w' : World} (h : TkS n1 g lim w) (b : Below w.heap.size w w') : TkS n1 g lim w' :=
  ⟨(b.cell (p := ⟨n1, 0, none⟩) h.l1).trans h.box, (b.cell (p := ⟨g, 0, none⟩) h.lg).trans h.lim0, Nat.lt_of_lt_of_le h.l1 b.size, Nat.lt_of_lt_of_le h.lg b.size⟩
theorem cell_turn {w w' : World} {O : Nat → Prop} (t : Turn w w' O) {n i : Nat} (hn : n < w.heap.size) (ho : ¬ O n) : w'.cell? ⟨n, i, none⟩ = w.cell? ⟨n, i, none⟩ := by
  simp [World.cell?, t.block n hn ho]
theorem frozen_turn {w w' : World} {O : Nat → Prop} (t : Turn w w' O) {n i : Nat} (hn : n < w.heap.size) (ho : ¬ O n) : w'.frozen? ⟨n, i, none⟩ = w.frozen? ⟨n, i, none⟩ := by
  simp [World.frozen?, t.block n hn ho]
theorem TkS.turn {n1 g : Nat} {lim : Int} {w w' : World} {O : Nat → Prop} (h : TkS n1 g lim w) (t : Turn w w' O) (h1 : ¬ O n1) (h2 : ¬ O g) : TkS n1 g lim w' :=
  ⟨(cell_turn t h.l1 h1).trans h.box, (cell_turn t h.lg h2).trans h.lim0, Nat.lt_of_lt_of_le h.l1 t.size, Nat.lt_of_lt_of_le h.lg t.size⟩

theorem enters_tick : ∀ args w, (callFunc 29 args).run Try.prog w = .ok (.enter 29 args) w := enters_of Try.func29 (by kernel_rfl) rfl
set_option maxRecDepth 100000 in
set_option maxHeartbeats 2000000 in
theorem tick1_ok {n1 g : Nat} {lim : Int} {W : World} (h : TkS n1 g lim W) (x : En) :
    Calls Try.prog 29 #[.agg #[.int .u8 (x.ip.a.toNat : Int), .int .u8 (x.ip.b.toNat : Int), .int .u8 (x.ip.c.toNat : Int), .int .u8 (x.ip.d.toNat : Int), .int .u8 (x.ma.a.toNat : Int), .int .u8 (x.ma.b.toNat : Int), .int .u8 (x.ma.c.toNat : Int), .int .u8 (x.ma.d.toNat : Int), .int .u8 (x.ma.e.toNat : Int), .int .u8 (x.ma.f.toNat : Int), .int .i64 x.age], .pointer (some ⟨n1, 0, none⟩)] W fun e w' => e = .returned (.bool (decide (lim ≤ x.age))) ∧ Below W.heap.size W w' := by
  have bl : Below W.heap.size W (W.alloc (.cells #[.int .u8 (x.ip.a.toNat : Int), .int .u8 (x.ip.b.toNat : Int), .int .u8 (x.ip.c.toNat : Int), .int .u8 (x.ip.d.toNat : Int), .int .u8 (x.ma.a.toNat : Int), .int .u8 (x.ma.b.toNat : Int), .int .u8 (x.ma.c.toNat : Int), .int .u8 (x.ma.d.toNat : Int), .int .u8 (x.ma.e.toNat : Int), .int .u8 (x.ma.f.toNat : Int), .int .i64 x.age] 68)) := (Below.refl _ _).alloc (Nat.le_refl _) _
  have k := h.grow bl
  have k1 := k.box
  have k2 := k.lim0
  have cA : (W.alloc (.cells #[.int .u8 (x.ip.a.toNat : Int), .int .u8 (x.ip.b.toNat : Int), .int .u8 (x.ip.c.toNat : Int), .int .u8 (x.ip.d.toNat : Int), .int .u8 (x.ma.a.toNat : Int), .int .u8 (x.ma.b.toNat : Int), .int .u8 (x.ma.c.toNat : Int), .int .u8 (x.ma.d.toNat : Int), .int .u8 (x.ma.e.toNat : Int), .int .u8 (x.ma.f.toNat : Int), .int .i64 x.age] 68)).cell? ⟨W.heap.size, 10, none⟩ = some (.int .i64 x.age) := by rw [cell_of_block (heap_alloc_new W _)]; rfl
  have BL := Lib.hid bl
  clear bl k h
  go_enter Try.func29, Try.ntmps29
  go_upto_region 1 with fail
  obtain ⟨n, hn⟩ : ∃ n, n = W.heap.size := ⟨_, rfl⟩
  have HN := Lib.hid hn
  generalize W.alloc _ = W1 at k1 k2 cA BL ⊢
  rw [← hn] at cA ⊢
  clear hn
  go_quiet (fail)
  go_wp2
  go_ret
  exact ⟨rfl, below_drewN BL.out _⟩
theorem tick1_pred {n1 g : Nat} {lim : Int} {W : World} (h : TkS n1 g lim W) : PredBelow Try.prog 29 #[.pointer (some ⟨n1, 0, none⟩)] (fun x => .agg (enE x).toArray) (fun x : En => decide (lim ≤ x.age)) W := fun V x hb => by
  have := (tick1_ok (h.grow hb) x).mono (fun e w' ⟨h1, h2⟩ => (⟨h1, hb.trans (h2.mono hb.size)⟩ : e = Ending.returned (.bool (decide (lim ≤ x.age))) ∧ Below W.heap.size W w'))
  exact this

theorem wpList_storeAt {P : Program} {ops : Array Oper} {rest : List Oper} {o : Oper} {a : Act} {w w' : World} {Q : Exit → Act → World → Prop} (t : TypeId) (p x : Operand) (hgd : o.guard = none) (ho : o.op = .store t p x) (hd : o.dst = none) (v : Value) (g i : Nat) (hp : a.eval p = .pointer (some ⟨g, i, none⟩)) (hx : a.eval x = v)
    (hr : (storeVar t ⟨g, i, none⟩ v).run P w = .ok () w') (h : wpList P ops Q rest a w') : wpList P ops Q (o :: rest) a w :=
  wpList_plain hgd fun _ hK => upon_store_at t p x ho hd v g i hp hx hr (hK _ _ h)

/-- An entry is written in its place, of any row. -/
theorem EnRow.put {w : World} {l : List En} {b cap : Nat} (h : EnRow w (.slice (some ⟨b, 0, none⟩) l.length cap) l) {j : Nat} (hj : j < l.length) (y : En) :
    ∃ W, (storeVar 68 ⟨b, j * 11, none⟩ (.agg #[.int .u8 (y.ip.a.toNat : Int), .int .u8 (y.ip.b.toNat : Int), .int .u8 (y.ip.c.toNat : Int), .int .u8 (y.ip.d.toNat : Int), .int .u8 (y.ma.a.toNat : Int), .int .u8 (y.ma.b.toNat : Int), .int .u8 (y.ma.c.toNat : Int), .int .u8 (y.ma.d.toNat : Int), .int .u8 (y.ma.e.toNat : Int), .int .u8 (y.ma.f.toNat : Int), .int .i64 y.age])).run Try.prog w = .ok () W ∧ EnRow W (.slice (some ⟨b, 0, none⟩) l.length cap) (l.set j y) ∧ Turn w W (fun k => k = b) := by
  obtain ⟨b', cap', cur, hv, h1, h2, h3, h4, h5⟩ := h.block (by omega)
  injection hv with hv _ hc; injection hv with hv; injection hv with hv
  subst hv hc
  have hfit : j * 11 + (enE y).length ≤ cur.size := by rw [enE_len, h4]; omega
  have hst := run_storeCells_at Try.prog b (j * 11) 68 (enE y) 0 cur w h1 (by simpa using hfit) (enE_one y)
  simp only [Nat.add_zero] at hst
  rw [enE_len] at hst
  have hi : (Try.prog.info? 68).map (·.size) = some 11 := by kernel_rfl
  refine ⟨w.setRow b (cur.toList.take (j * 11) ++ enE y ++ cur.toList.drop (j * 11 + 11)).toArray, ?_, ?_, Turn.setRow (O := fun k => k = b) (Turn.refl _ _) rfl _⟩
  · cases hq : Try.prog.info? 68 with
    | none => simp [hq] at hi
    | some q =>
      have hs : q.size = 11 := by simpa [hq] using hi
      have hst2 : Sem.run Try.prog (storeCells ⟨b, j * 11, none⟩ [.int .u8 (y.ip.a.toNat : Int), .int .u8 (y.ip.b.toNat : Int), .int .u8 (y.ip.c.toNat : Int), .int .u8 (y.ip.d.toNat : Int), .int .u8 (y.ma.a.toNat : Int), .int .u8 (y.ma.b.toNat : Int), .int .u8 (y.ma.c.toNat : Int), .int .u8 (y.ma.d.toNat : Int), .int .u8 (y.ma.e.toNat : Int), .int .u8 (y.ma.f.toNat : Int), .int .i64 y.age]) w = .ok () (w.setRow b (cur.toList.take (j * 11) ++ enE y ++ cur.toList.drop (j * 11 + 11)).toArray) := hst
      simp [storeVar, sizeOf, typeInfo, hq, Value.cells, hs, hst2]
  · refine RowA.put enE_len (cur' := (cur.toList.take (j * 11) ++ enE y ++ cur.toList.drop (j * 11 + 11)).toArray) h hj y (fun cur2 hc2 => ?_)
    rw [h1] at hc2
    injection hc2 with hc2; injection hc2 with hc2
    subst hc2
    exact ⟨setRow_heap w b cur _ _ _ h1, rfl⟩

/-- How the row stands while the entries that stay are moved together. -/
structure DelS (l m : List En) (q : En → Bool) (a c : Nat) : Prop where
  len : m.length = l.length
  ac : a < c
  cl : c ≤ l.length
  al : a = ((l.take c).filter q).length
  done : m.take a = (l.take c).filter q
  rest : m.drop c = l.drop c
theorem take_succ_get {l : List En} {c : Nat} (hc : c < l.length) : l.take (c + 1) = l.take c ++ [l[c]] := by
  rw [List.take_add_one, List.getElem?_eq_getElem hc]
  rfl
theorem DelS.get {l m : List En} {q : En → Bool} {a c : Nat} (h : DelS l m q a c) (hc : c < l.length) : m[c]'(by rw [h.len]; exact hc) = l[c] := by
  have e := congrArg (fun x => x[0]?) h.rest
  simp only [List.getElem?_drop, Nat.add_zero] at e
  rw [List.getElem?_eq_getElem hc, List.getElem?_eq_getElem (by rw [h.len]; exact hc)] at e
  injection e
theorem DelS.out {l m : List En} {q : En → Bool} {a c : Nat} (h : DelS l m q a c) (hc : c < l.length) (hq : q l[c] = false) : DelS l m q a (c + 1) := by
  have e := take_succ_get hc
  have f : (l.take (c + 1)).filter q = (l.take c).filter q := by rw [e, List.filter_append]; simp [hq]
  refine ⟨h.len, by have := h.ac; omega, hc, by rw [f]; exact h.al, by rw [f]; exact h.done, ?_⟩
  rw [← List.drop_drop, ← List.drop_drop, h.rest]
theorem DelS.stay {l m : List En} {q : En → Bool} {a c : Nat} (h : DelS l m q a c) (hc : c < l.length) (hq : q l[c] = true) : DelS l (m.set a l[c]) q (a + 1) (c + 1) := by
  have e := take_succ_get hc
  have f : (l.take (c + 1)).filter q = (l.take c).filter q ++ [l[c]] := by rw [e, List.filter_append]; simp [hq]
  have hac := h.ac
  have ham : a < m.length := by rw [h.len]; omega
  refine ⟨by rw [List.length_set]; exact h.len, by omega, hc, by rw [f, List.length_append, ← h.al]; rfl, ?_, ?_⟩
  · rw [f, ← h.done, List.take_add_one, List.take_set_of_le (Nat.le_refl a), List.getElem?_set_self ham]
    rfl
  · rw [List.drop_set_of_lt (by omega), ← List.drop_drop, ← List.drop_drop, h.rest]

theorem filter_len_le (q : En → Bool) (l : List En) : (l.filter q).length ≤ l.length := List.length_filter_le _ _
set_option maxRecDepth 100000 in
set_option maxHeartbeats 4000000 in
theorem delfunc_ok {w : World} {n1 g : Nat} {lim : Int} {p : Option Addr} {c : Nat} {l : List En} (h : EnRow w (.slice p l.length c) l) (hl : l.length ≤ 1000000) (hb : TkS n1 g lim w) (hne : ∀ k, (Value.slice p l.length c).ownBlock = some k → k ≠ n1 ∧ k ≠ g) (q : En → Bool) (hq : q = fun x => !decide (lim ≤ x.age)) :
    Calls Try.prog 28 #[.slice p l.length c, .func (.func 29) #[] #[.pointer (some ⟨n1, 0, none⟩)]] w fun e w' =>
      e = .returned (.slice p (l.filter q).length c) ∧ EnRow w' (.slice p (l.filter q).length c) (l.filter q) ∧ Turn w w' (fun k => (Value.slice p l.length c).ownBlock = some k) := by
  have HX := Lib.hid (idx_ok (fun x : En => decide (lim ≤ x.age)) 29 #[.pointer (some ⟨n1, 0, none⟩)] enters_tick w (.slice p l.length c) l h hl (tick1_pred hb))
  have HB := Lib.hid hb
  have HR := Lib.hid h
  have HNE := Lib.hid hne
  clear hb h hne
  go_enter Try.func28, Try.ntmps28
  go_upto_region 2 with (go_at_call 33; refine HX.out.mono ?_; rintro e w2 ⟨r, rfl, q1, q2⟩; have Q1 := Lib.hid q1; have Q2 := Lib.hid q2; clear q1 q2)
  have HR2 : Hid (EnRow w2 (.slice p l.length c) l) := Lib.hid (HR.out.kept Q2.out.size (fun b hb => Q2.out.block b (HR.out.lt b hb).2))
  have HB2 := Lib.hid (HB.out.grow Q2.out)
  rcases Q1.out with ⟨rfl, hno⟩ | ⟨j, hj, rfl, hpj, hf⟩
  · have hfl : l.filter (fun x => !decide (lim ≤ x.age)) = l := List.filter_eq_self.2 (fun x hx => by rw [hno x hx]; rfl)
    have HFL := Lib.hid hfl
    clear hfl hno
    go_wp2_with fail
    go_ret
    rw [HFL.out]
    exact ⟨rfl, HR2.out, Turn.of_below Q2.out⟩
  · obtain ⟨b, cap, hv, hcap, hcm, hbl, hfz, _⟩ := RowA.elem enE_len HR2.out (by omega)
    injection hv with hv _ hc
    subst hv hc
    have hnb := HNE.out b rfl
    have HQ := Lib.hid hq
    have hjn : ((j : Int) == -1) = false := by simp <;> omega
    unfold maxLen at hcm
    have D0 : Hid (DelS l l q j (j + 1)) := Lib.hid (by
      have e := take_succ_get hj
      have f0 : (l.take j).filter q = l.take j := List.filter_eq_self.2 (fun x hx => by rw [hq]; simp [hf x hx])
      have f : (l.take (j + 1)).filter q = l.take j := by rw [e, List.filter_append, f0]; simp [hq, hpj]
      exact ⟨rfl, Nat.lt_succ_self _, hj, by rw [f, List.length_take]; omega, by rw [f], rfl⟩)
    have T0 : Hid (Turn w w2 (fun k => k = b)) := Lib.hid (Turn.of_below Q2.out)
    clear hpj hf hq hfz Q1 Q2 HX
    go_wp2_with fail
    clear hjn
    go_loopw [5, 6] (fun i5 i6 wr => ∃ (a c6 : Nat) (m : List En), i5 = .int .i64 a ∧ i6 = .int .i64 c6 ∧ Hid (DelS l m q a c6) ∧ Hid (EnRow wr (.slice (some ⟨b, 0, none⟩) l.length c) m) ∧ Hid (Turn w wr (fun k => k = b)) ∧ Hid (TkS n1 g lim wr)) (fun _ i6 _ => l.length - (intOf i6).toNat)
    case atStart => exact ⟨j, j + 1, l, rfl, by go_num, D0, HR2, T0, HB2⟩
    case round =>
      obtain ⟨a, c6, m, rfl, rfl, D, R, T, S⟩ := hrel
      have hac := D.out.ac
      have hcl := D.out.cl
      have hml := D.out.len
      by_cases hlt : c6 < l.length
      · have R' : Hid (EnRow wr (.slice (some ⟨b, 0, none⟩) m.length c) m) := Lib.hid (by rw [hml]; exact R.out)
        have hE : Hid (wr.rangeAt b (c6 * 11) (enE l[c6])) := Lib.hid (by
          obtain ⟨b', cap', hv', _, _, _, _, hE⟩ := RowA.elem enE_len R'.out (by omega)
          injection hv' with hv' _ _; injection hv' with hv'; injection hv' with hv'
          subst hv'
          rw [← D.out.get hlt]
          exact hE c6 (by omega))
        have D1 : Hid (q l[c6] = false → DelS l m q a (c6 + 1)) := Lib.hid (fun hq => D.out.out hlt hq)
        have D2 : Hid (q l[c6] = true → DelS l (m.set a l[c6]) q (a + 1) (c6 + 1)) := Lib.hid (fun hq => D.out.stay hlt hq)
        have hml2 : a < m.length := by omega
        generalize l[c6] = x at hE D1 D2
        have hj1 : decide ((c6 : Int) < (l.length : Int)) = true := by simp; omega
        have hw6 : IntKind.i64.wrap ((c6 : Int) + 1) = (c6 : Int) + 1 := IntWalk.i64_in _ (by omega)
        go_upto_region 8 with (refine wpList_load_mid rfl 68 _ rfl b (c6 * 11) rfl [.int .u8 (x.ip.a.toNat : Int), .int .u8 (x.ip.b.toNat : Int), .int .u8 (x.ip.c.toNat : Int), .int .u8 (x.ip.d.toNat : Int), .int .u8 (x.ma.a.toNat : Int), .int .u8 (x.ma.b.toNat : Int), .int .u8 (x.ma.c.toNat : Int), .int .u8 (x.ma.d.toNat : Int), .int .u8 (x.ma.e.toNat : Int), .int .u8 (x.ma.f.toNat : Int), .int .i64 x.age] _ hE.out Try.underlying68 rfl (by kernel_rfl) ?_)
        have B2 : Hid (Below wr.heap.size wr (wr.alloc (.cells #[.int .u8 (x.ip.a.toNat : Int), .int .u8 (x.ip.b.toNat : Int), .int .u8 (x.ip.c.toNat : Int), .int .u8 (x.ip.d.toNat : Int), .int .u8 (x.ma.a.toNat : Int), .int .u8 (x.ma.b.toNat : Int), .int .u8 (x.ma.c.toNat : Int), .int .u8 (x.ma.d.toNat : Int), .int .u8 (x.ma.e.toNat : Int), .int .u8 (x.ma.f.toNat : Int), .int .i64 x.age] 68))) := Lib.hid ((Below.refl _ _).alloc (Nat.le_refl _) _)
        have hX : Hid ((wr.alloc (.cells #[.int .u8 (x.ip.a.toNat : Int), .int .u8 (x.ip.b.toNat : Int), .int .u8 (x.ip.c.toNat : Int), .int .u8 (x.ip.d.toNat : Int), .int .u8 (x.ma.a.toNat : Int), .int .u8 (x.ma.b.toNat : Int), .int .u8 (x.ma.c.toNat : Int), .int .u8 (x.ma.d.toNat : Int), .int .u8 (x.ma.e.toNat : Int), .int .u8 (x.ma.f.toNat : Int), .int .i64 x.age] 68)).rangeAt wr.heap.size 0 [.int .u8 (x.ip.a.toNat : Int), .int .u8 (x.ip.b.toNat : Int), .int .u8 (x.ip.c.toNat : Int), .int .u8 (x.ip.d.toNat : Int), .int .u8 (x.ma.a.toNat : Int), .int .u8 (x.ma.b.toNat : Int), .int .u8 (x.ma.c.toNat : Int), .int .u8 (x.ma.d.toNat : Int), .int .u8 (x.ma.e.toNat : Int), .int .u8 (x.ma.f.toNat : Int), .int .i64 x.age]) := Lib.hid (fun i u hu => by
          have := en_new wr x i u hu
          rw [add_off] at this
          exact this)
        obtain ⟨n7, hn7⟩ : ∃ n, n = wr.heap.size := ⟨_, rfl⟩
        have h7 : n7 < (wr.alloc (.cells #[.int .u8 (x.ip.a.toNat : Int), .int .u8 (x.ip.b.toNat : Int), .int .u8 (x.ip.c.toNat : Int), .int .u8 (x.ip.d.toNat : Int), .int .u8 (x.ma.a.toNat : Int), .int .u8 (x.ma.b.toNat : Int), .int .u8 (x.ma.c.toNat : Int), .int .u8 (x.ma.d.toNat : Int), .int .u8 (x.ma.e.toNat : Int), .int .u8 (x.ma.f.toNat : Int), .int .i64 x.age] 68)).heap.size := by rw [hn7]; simp
        have hb7 : n7 ≠ b := by
          have := (R.out.lt b rfl).2
          omega
        generalize wr.alloc _ = W5 at B2 hX h7 ⊢
        rw [← hn7] at hX ⊢
        clear hn7
        have S5 := Lib.hid (S.out.grow B2.out)
        have T5 : Hid (Turn w W5 (fun k => k = b)) := Lib.hid (T.out.trans (Turn.of_below B2.out))
        have R5 : Hid (EnRow W5 (.slice (some ⟨b, 0, none⟩) m.length c) m) := Lib.hid (R'.out.kept B2.out.size (fun k hk => B2.out.block k (R'.out.lt k hk).2))
        have HC : Hid (Calls Try.prog 29 #[.agg #[.int .u8 (x.ip.a.toNat : Int), .int .u8 (x.ip.b.toNat : Int), .int .u8 (x.ip.c.toNat : Int), .int .u8 (x.ip.d.toNat : Int), .int .u8 (x.ma.a.toNat : Int), .int .u8 (x.ma.b.toNat : Int), .int .u8 (x.ma.c.toNat : Int), .int .u8 (x.ma.d.toNat : Int), .int .u8 (x.ma.e.toNat : Int), .int .u8 (x.ma.f.toNat : Int), .int .i64 x.age], .pointer (some ⟨n1, 0, none⟩)] W5 fun e w' => e = .returned (.bool (decide (lim ≤ x.age))) ∧ Hid (w'.rangeAt n7 0 [.int .u8 (x.ip.a.toNat : Int), .int .u8 (x.ip.b.toNat : Int), .int .u8 (x.ip.c.toNat : Int), .int .u8 (x.ip.d.toNat : Int), .int .u8 (x.ma.a.toNat : Int), .int .u8 (x.ma.b.toNat : Int), .int .u8 (x.ma.c.toNat : Int), .int .u8 (x.ma.d.toNat : Int), .int .u8 (x.ma.e.toNat : Int), .int .u8 (x.ma.f.toNat : Int), .int .i64 x.age]) ∧ Hid (Turn w w' (fun k => k = b)) ∧ Hid (TkS n1 g lim w') ∧ Hid (EnRow w' (.slice (some ⟨b, 0, none⟩) m.length c) m)) := Lib.hid ((tick1_ok S5.out x).mono (fun e w' ⟨h1, h2⟩ => ⟨h1, Lib.hid (fun i u hu => by rw [h2.cell (p := ⟨n7, 0 + i, none⟩) h7]; exact hX.out i u hu), Lib.hid (T5.out.trans (Turn.of_below h2)), Lib.hid (S5.out.grow h2), Lib.hid (R5.out.kept h2.size (fun k hk => h2.block k (R5.out.lt k hk).2))⟩))
        clear hE B2 h7 S T R R5 S5 T5 R'
        by_cases hage : lim ≤ x.age
        · have d1 : decide (lim ≤ x.age) = true := by simpa using hage
          have hqx : q x = false := by rw [HQ.out]; simp [d1]
          go_wp2_with (first | (refine wpList_load_mid rfl 68 _ rfl n7 0 rfl [.int .u8 (x.ip.a.toNat : Int), .int .u8 (x.ip.b.toNat : Int), .int .u8 (x.ip.c.toNat : Int), .int .u8 (x.ip.d.toNat : Int), .int .u8 (x.ma.a.toNat : Int), .int .u8 (x.ma.b.toNat : Int), .int .u8 (x.ma.c.toNat : Int), .int .u8 (x.ma.d.toNat : Int), .int .u8 (x.ma.e.toNat : Int), .int .u8 (x.ma.f.toNat : Int), .int .i64 x.age] _ hX.out Try.underlying68 rfl (by kernel_rfl) ?_) | (go_at_call 29; refine HC.out.mono ?_; rintro e W6 ⟨rfl, X6, T6, S6, R6⟩))
          go_roundw
          case rel => exact ⟨a, c6 + 1, m, rfl, by go_num, Lib.hid (D1.out hqx), Lib.hid (by rw [← hml]; exact R6.out), T6, S6⟩
          case measure => simp [intOf]; omega
        · have d1 : decide (lim ≤ x.age) = false := by simpa using hage
          have hqx : q x = true := by rw [HQ.out]; simp [d1]
          have hwa : IntKind.i64.wrap ((a : Int) + 1) = (a : Int) + 1 := IntWalk.i64_in _ (by omega)
          have HP : Hid (∀ w', EnRow w' (.slice (some ⟨b, 0, none⟩) m.length c) m → Turn w w' (fun k => k = b) → TkS n1 g lim w' → ∃ W, (storeVar 68 ⟨b, a * 11, none⟩ (.agg #[.int .u8 (x.ip.a.toNat : Int), .int .u8 (x.ip.b.toNat : Int), .int .u8 (x.ip.c.toNat : Int), .int .u8 (x.ip.d.toNat : Int), .int .u8 (x.ma.a.toNat : Int), .int .u8 (x.ma.b.toNat : Int), .int .u8 (x.ma.c.toNat : Int), .int .u8 (x.ma.d.toNat : Int), .int .u8 (x.ma.e.toNat : Int), .int .u8 (x.ma.f.toNat : Int), .int .i64 x.age])).run Try.prog w' = .ok () W ∧ EnRow W (.slice (some ⟨b, 0, none⟩) l.length c) (m.set a x) ∧ Turn w W (fun k => k = b) ∧ TkS n1 g lim W) := Lib.hid (fun w' r t s => by
            obtain ⟨W, e1, e2, e3⟩ := EnRow.put r hml2 x
            exact ⟨W, e1, by rw [← hml]; exact e2, t.trans e3, s.turn e3 (Ne.symm hnb.1) (Ne.symm hnb.2)⟩)
          have q1 : (0 : Int) ≤ (a : Int) := by omega
          have q2 : (a : Int) < (l.length : Int) := by omega
          have q3 : decide ((a : Int) < (l.length : Int)) = true := by simp; omega
          go_upto_region 9 with (first | (refine wpList_load_mid rfl 68 _ rfl n7 0 rfl [.int .u8 (x.ip.a.toNat : Int), .int .u8 (x.ip.b.toNat : Int), .int .u8 (x.ip.c.toNat : Int), .int .u8 (x.ip.d.toNat : Int), .int .u8 (x.ma.a.toNat : Int), .int .u8 (x.ma.b.toNat : Int), .int .u8 (x.ma.c.toNat : Int), .int .u8 (x.ma.d.toNat : Int), .int .u8 (x.ma.e.toNat : Int), .int .u8 (x.ma.f.toNat : Int), .int .i64 x.age] _ hX.out Try.underlying68 rfl (by kernel_rfl) ?_) | (go_at_call 29; refine HC.out.mono ?_; rintro e W6 ⟨rfl, X6, T6, S6, R6⟩))
          obtain ⟨W, e1, e2, e3, e4⟩ := HP.out W6 R6.out T6.out S6.out
          have E2 := Lib.hid e2
          have E3 := Lib.hid e3
          have E4 := Lib.hid e4
          clear e2 e3 e4
          go_wp2_with (first | (refine wpList_load_mid rfl 68 _ rfl n7 0 rfl [.int .u8 (x.ip.a.toNat : Int), .int .u8 (x.ip.b.toNat : Int), .int .u8 (x.ip.c.toNat : Int), .int .u8 (x.ip.d.toNat : Int), .int .u8 (x.ma.a.toNat : Int), .int .u8 (x.ma.b.toNat : Int), .int .u8 (x.ma.c.toNat : Int), .int .u8 (x.ma.d.toNat : Int), .int .u8 (x.ma.e.toNat : Int), .int .u8 (x.ma.f.toNat : Int), .int .i64 x.age] _ X6.out Try.underlying68 rfl (by kernel_rfl) ?_) | (refine wpList_storeAt 68 _ _ rfl rfl rfl _ b (a * 11) rfl rfl e1 ?_))
          go_roundw
          case rel => exact ⟨a + 1, c6 + 1, _, by go_num, by go_num, Lib.hid (D2.out hqx), E2, E3, E4⟩
          case measure => simp [intOf]; omega
      · obtain rfl : c6 = l.length := by omega
        have hj1 : decide ((l.length : Int) < (l.length : Int)) = false := by simp
        have hal := D.out.al
        have hdone := D.out.done
        rw [List.take_length] at hal hdone
        have R' : EnRow wr (.slice (some ⟨b, 0, none⟩) m.length c) m := by rw [hml]; exact R.out
        obtain ⟨b', cap', cur, hv', z1, z2, z3, z4, z5⟩ := R'.block (by omega)
        injection hv' with hv' _ hc'; injection hv' with hv'; injection hv' with hv'
        subst hv' hc'
        obtain ⟨W2, hW2, zs, hzl, hW2e⟩ := run_clear_row (P := Try.prog) wr 60 68 _ Try.underlying60 Try.zeroValue68 b (a * 11) (l.length - a) (c - a) cur z1 (by omega) 11 (by omega) rfl (by omega) (by kernel_rfl)
        have hfit : (l.filter q).length * 11 + (l.length - a) * 11 ≤ cur.toList.length := by
          have e : cur.toList.length = cur.size := Array.length_toList
          rw [← hal, e, z4]
          omega
        have HF : Hid (EnRow W2 (.slice (some ⟨b, 0, none⟩) (l.filter q).length c) (l.filter q) ∧ Turn w W2 (fun k => k = b)) := Lib.hid (by
          have r1 := RowA.fewer enE_len R' (by omega) (show a ≤ m.length by omega)
          rw [hdone] at r1
          have r2 := RowA.tail (zs := zs) (m := (l.length - a) * 11) enE_len (cur := cur.toList) (by simpa using z1) r1 hzl hfit
          rw [← hal] at r2 ⊢
          refine ⟨by rw [hW2e]; exact r2, ?_⟩
          rw [hW2e]
          exact T.out.setRow rfl _)
        have hca : (a : Int) ≤ (l.length : Int) := by omega
        have hca2 : (a : Int) ≤ (c : Int) := by omega
        have hlc : (l.length : Int) ≤ (c : Int) := by omega
        have hnz : ¬ (c = a) := by omega
        have HAL := Lib.hid hal
        clear hfit z1 z2 z3 z4 z5 hW2e hzl hdone hal R' D R T S
        go_wp2_with fail
        go_ret
        exact ⟨by rw [← HAL.out]; rfl, HF.out.1, HF.out.2.mono (fun k _ e => by rw [e]; rfl)⟩

end Go.Proofs.Ytolegdjdppaeoaa
