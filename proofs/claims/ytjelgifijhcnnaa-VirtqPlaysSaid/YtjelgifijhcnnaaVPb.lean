/-
  Layer 2, the document's own queue: Add. Conditions: the memory has at most 5000 bytes, the base is at most 5000, a queue has at most 64 entries and 64 chains, an offer at most 100 buffers.
-/
import Derived.Test.YtjelgifijhcnnaaVPa
import Derived.Test.YtjelgifijhcnnaaAdd
import Derived.BigQuiet
namespace Go.Proofs.Ytjelgifijhcnnaa
open Go.RowKit Go.Sort
set_option linter.unusedVariables false

section
variable {w W : World} {m1 m2 x : Nat} {base n : Int} {v : Value} {told back : Int} {F : List Int} {fb fc k : Nat} {hd mo : Int}
theorem AdL.mostCell (h : AdL w W m1 m2 x base n v told back F fb fc k hd mo) : W.cell? ⟨x, 2, none⟩ = some (.int .i64 mo) := by rw [cell_of_block h.ch]; rfl
theorem AdL.headCell (h : AdL w W m1 m2 x base n v told back F fb fc k hd mo) : W.cell? ⟨x, 0, none⟩ = some (.int .i64 hd) := by rw [cell_of_block h.ch]; rfl
theorem AdL.mostFree (h : AdL w W m1 m2 x base n v told back F fb fc k hd mo) : W.frozen? ⟨x, 2, none⟩ = false := by simp [World.frozen?, h.ch]
end
theorem headD_take (l : List Int) (k : Nat) (h : 0 < l.length) (hk : 0 < k) : (l.take k).headD 0 = l[0] := by
  cases l with
  | nil => simp at h
  | cons a t =>
    cases k with
    | zero => omega
    | succ k => rfl
theorem ch_cell0 {W : World} {x : Nat} {a b d : Value} {fr : Nat × Nat} (h : W.heap[x]? = some (.cells #[a, b, d] 119 fr)) : W.cell? ⟨x, 0, none⟩ = some a := by rw [cell_of_block h]; rfl
theorem ch_cell1 {W : World} {x : Nat} {a b d : Value} {fr : Nat × Nat} (h : W.heap[x]? = some (.cells #[a, b, d] 119 fr)) : W.cell? ⟨x, 1, none⟩ = some b := by rw [cell_of_block h]; rfl
theorem ch_cell2 {W : World} {x : Nat} {a b d : Value} {fr : Nat × Nat} (h : W.heap[x]? = some (.cells #[a, b, d] 119 fr)) : W.cell? ⟨x, 2, none⟩ = some d := by rw [cell_of_block h]; rfl
theorem ch_new (w : World) (y : Cq) (k : Nat) (hk : y.of.length = k) : ∀ (j : Nat) (u : Value), (encA encQ [y])[j]? = some u → (w.alloc (.cells #[.int .i64 y.head, .slice y.op k y.oc, .int .i64 y.most] 119)).cell? ((⟨w.heap.size, 0, none⟩ : Addr).add j) = some u := by
  intro j u hu
  subst hk
  have e : encA encQ [y] = encQ y := by simp [encA]
  rw [e] at hu
  rw [add_off, Nat.zero_add, cell_of_block (heap_alloc_new w _)]
  exact (List.getElem?_toArray (xs := encQ y)).trans hu
section
variable {P : Program} {ops : Array Oper} {rest : List Oper} {o : Oper} {a : Act} {w : World} {Q : Exit → Act → World → Prop} {α : Type} {k : Nat} {enc : α → List Value} {TE : TypeId}
theorem wpList_copyq (hk : ∀ x, (enc x).length = k) (h1e : ∀ x, ∀ u ∈ enc x, u.oneCell' = true) (hk0 : 0 < k) (hg : o.guard = none) (s x : Operand) (t : TypeId) (hop : o.op = Op.call { callee := Callee.builtin Builtin.append, args := #[s, x], argTypes := #[t, t] })
    (i : TypeInfo) (z : Value) (ht : P.underlying t = some (.slice TE)) (hi : P.info? TE = some i) (hz : i.zero = some z) (hsize : i.size = k) (hb2 : i.bytes ≤ 1000) (hzs : z.cells.size = k)
    (hs : a.eval s = .slice none 0 0) (v : Value) (l : List α) (hx : a.eval x = v) (hv : RowA k enc TE w v l) (hl : l.length ≤ 1000000)
    (hK : ∀ v' w', RowA k enc TE w' v' l → w.grownBy w' none → (v'.ownBlock = none ∨ v'.ownBlock = some w.heap.size) → wpList P ops Q rest (a.put o.dst v') w') : wpList P ops Q (o :: rest) a w := by
  refine wpList_plain hg fun K hKK => ?_
  rcases hv.2 with ⟨rfl, h0⟩ | ⟨b, cap, cur, rfl, _⟩
  · obtain rfl : l = [] := List.length_eq_zero_iff.1 h0
    have hr : (Builtin.append_ #[t, t] o.type #[.slice none 0 0, .slice none 0 0]).run P w = .ok (.slice none 0 0) w := by
      simp [Builtin.append_, run_underlying ht, sizeOf, typeInfo, hi, Builtin.lenOf, Builtin.firstCells]
    unfold Oper.wp
    simp only [execOp, hop, resolve, invoke, builtin, Sem.run_bind, Sem.run_pure, Result.andThen_ok, List.map_toArray, List.map_cons, List.map_nil, hs, hx, hr]
    exact hKK _ _ (hK _ _ (World.ownsRow_nil _ _ _ _) (World.grownBy.refl _ _) (.inl rfl))
  · obtain ⟨v', w', hr, h2, h3, _, h5⟩ := run_append_own_at (P := P) w 0 t o.type TE i z k i.bytes ht hi hz hsize rfl hzs hk0 (.slice none 0 0) 0 [] (World.ownsRow_nil _ _ _ _) ⟨b, 0, none⟩ l.length cap (encA enc l) (encA_length hk l) (hv.cells (g := b) rfl)
      (fun u hu => by
        obtain ⟨tm, _, hu⟩ := List.mem_flatMap.1 hu
        exact h1e tm u hu) (by unfold maxLen; omega) (by have := Nat.mul_le_mul (show 0 + l.length ≤ 1000000 by omega) hb2; omega) (Nat.zero_le _)
    unfold Oper.wp
    simp only [execOp, hop, resolve, invoke, builtin, Sem.run_bind, Sem.run_pure, Result.andThen_ok, List.map_toArray, List.map_cons, List.map_nil, hs, hx, hr]
    refine hKK _ _ (hK v' w' ?_ h3 h5)
    simp only [Nat.zero_add, List.nil_append] at h2
    exact h2
end
theorem descs_nil (base : Int) (l : List Bf) (m : List UInt8) : descs base [] l m = m := by unfold descs; rfl
set_option maxRecDepth 100000 in
set_option maxHeartbeats 20000000 in
theorem rAdd_any (base told back : Int) (n : Nat) (broken : Bool) (p : Option Addr) (c : Nat) (l : List Cq) (b : List UInt8) (w : World) (hl : b.length ≤ 5000) (hb0 : 0 ≤ base) (hb1 : base ≤ 5000) (hn1 : 1 ≤ n) (hn2 : n ≤ 64) (ht0 : 0 ≤ told) (ht1 : told ≤ 65535) (h : RowA 3 encQ 119 w (.slice p l.length c) l) (hI : ∀ x ∈ l, IsInts w (.slice x.op x.of.length x.oc) x.of) (hll : l.length ≤ 64)
    (v : Value) (bs : List Bf) (hv : IsBufs w v bs) (hbl : bs.length ≤ 100) (hbd : ∀ x ∈ bs, x.n ≤ 9223372036854775807) (FR : List Int) (hFR : FR = freeL (l.map toCh) n) (E : Int) (hE : E = addE b (l.map toCh) n broken bs) :
    Calls Try.prog 39 #[.agg #[.int .i64 base, .int .i64 n, .slice p l.length c, .int .i64 told, .int .i64 back, .bool broken], .string ⟨b.toArray⟩, v] w
      (AddRef w base n p c l b told back broken bs (FR.take bs.length) E) := by
  have hl' : b.length ≤ 9223372036854775807 := by omega
  obtain ⟨bp, bcap, rfl, hble⟩ := hv.form
  have HE := Lib.hid hE
  have HV := Lib.hid hv
  have HR0 := Lib.hid h
  have HI0 := Lib.hid hI
  have HBD := Lib.hid hbd
  have HFR := Lib.hid hFR
  obtain ⟨m1, m2, hm1, hm2, ads⟩ := ads_new w base n (.slice p l.length c) told back broken
  have S1 := Lib.hid ads
  clear hE hv h hI hbd hFR ads hble
  go_enter Try.func39, Try.ntmps39
  go_upto_region 1 with fail
  generalize (w.alloc _).alloc _ = W1 at S1 ⊢
  try rw [hm2]
  try rw [hm1]
  have hm12 : m1 + 1 = m2 := by omega
  try rw [hm12]
  clear hm1 hm2 hm12
  cases broken with
  | true =>
    have hEv : E = 11 := by rw [HE.out, addE, if_pos rfl]
    subst hEv
    obtain ⟨c0, c1, c2, c3, c4, c5⟩ := qu_all S1.out.q1
    obtain ⟨hst, hp2⟩ := qu_store S1.out.q2 base n p l.length c told back true
    have hbl := below_setRow S1.out.bl S1.out.g2 #[.int .i64 base, .int .i64 n, .slice p l.length c, .int .i64 told, .int .i64 back, .bool true]
    go_wp2_with (refine wpl_store_at 40 _ _ rfl rfl rfl _ m2 0 rfl rfl hst ?_)
    refine bodyPost_ret (v := .tuple #[.agg #[.int .i64 base, .int .i64 n, .slice p l.length c, .int .i64 told, .int .i64 back, .bool true], .string ⟨b.toArray⟩, .int .i64 0, .int .i64 11]) (results_row4 _ 6 7 8 9 40 (by kernel_rfl) _ m2 _ _ _ _ _ _ rfl rfl rfl rfl hp2 Try.underlying40 rfl (by kernel_rfl)) rfl ?_
    exact ⟨hbl, .inl ⟨by decide, rfl⟩⟩
  | false =>
    have hER : E = refuseE b bs FR.length := by rw [HE.out, addE, if_neg (by decide), HFR.out]
    have HER := Lib.hid hER
    clear hER HE
    by_cases hz : bs.length = 0
    · have hEv : E = 1 := by rw [HER.out, refuseE, if_pos (by rw [inOrd, decide_eq_false (by omega), Bool.and_false]; rfl)]
      subst hEv
      have hz1 : ((bs.length : Int) == 0) = true := by simp [hz]
      have c5 := (qu_all S1.out.q1).2.2.2.2.2
      obtain ⟨c0, c1, c2, c3, c4, c5⟩ := qu_all S1.out.q1
      obtain ⟨hst, hp2⟩ := qu_store S1.out.q2 base n p l.length c told back false
      have hbl := below_setRow S1.out.bl S1.out.g2 #[.int .i64 base, .int .i64 n, .slice p l.length c, .int .i64 told, .int .i64 back, .bool false]
      go_wp2_with (refine wpl_store_at 40 _ _ rfl rfl rfl _ m2 0 rfl rfl hst ?_)
      refine bodyPost_ret (v := .tuple #[.agg #[.int .i64 base, .int .i64 n, .slice p l.length c, .int .i64 told, .int .i64 back, .bool false], .string ⟨b.toArray⟩, .int .i64 0, .int .i64 1]) (results_row4 _ 6 7 8 9 40 (by kernel_rfl) _ m2 _ _ _ _ _ _ rfl rfl rfl rfl hp2 Try.underlying40 rfl (by kernel_rfl)) rfl ?_
      exact ⟨hbl, .inl ⟨by decide, rfl⟩⟩
    have hz1 : ((bs.length : Int) == 0) = false := beq_eq_false_iff_ne.2 (by omega)
    have c5 := (qu_all S1.out.q1).2.2.2.2.2
    go_wp2_with fail
    clear c5 hz1
    go_loopw [10] (fun a wr => ∃ (j : Nat) (pw : Bool), j ≤ bs.length ∧ a = .int .i64 j ∧ (j = 0 → pw = false) ∧ (∀ t x, j = t + 1 → bs[t]? = some x → pw = x.wr) ∧ Hid (okFrom false bs = okFrom pw (bs.drop j)) ∧ W1 = wr) (fun a _ => bs.length - (intOf a).toNat)
    case atStart => exact ⟨0, false, Nat.zero_le _, rfl, fun _ => rfl, fun t x e => (by omega), Lib.hid rfl, rfl⟩
    case round =>
      obtain ⟨j, pw, hj, rfl, hp0, hp1, HO, rfl⟩ := hrel
      by_cases hlt : j < bs.length
      · have hd : decide ((j : Int) < (bs.length : Int)) = true := decide_eq_true (by omega)
        have hvb := HV.out.grown (w' := W1) ⟨S1.out.bl.os, S1.out.bl.tape, S1.out.bl.output, S1.out.bl.size, fun q hq _ => S1.out.bl.block q hq⟩
        obtain ⟨bb, bo, x, rfl, hx, x0, x1, x2⟩ := hvb.at_ j hlt
        have hst := okFrom_at pw hx
        have HST := Lib.hid hst
        have HX := Lib.hid hx
        have hwj : IntKind.i64.wrap ((j : Int) + 1) = (j : Int) + 1 := IntWalk.i64_in _ (by omega)
        have hjb : (j : Int) < (bs.length : Int) := by omega
        clear hst hx
        by_cases hn0 : x.n < 1
        · have hEv : E = 1 := by rw [HER.out, refuseE, if_pos (by rw [inOrd, HO.out, HST.out, decide_eq_true hn0]; rfl)]
          subst hEv
          have hnb : decide (x.n < 1) = true := decide_eq_true hn0
          clear hvb HO HST hp0 hp1 HX HER
          obtain ⟨c0, c1, c2, c3, c4, c5⟩ := qu_all S1.out.q1
          obtain ⟨hst, hp2⟩ := qu_store S1.out.q2 base n p l.length c told back false
          have hbl := below_setRow S1.out.bl S1.out.g2 #[.int .i64 base, .int .i64 n, .slice p l.length c, .int .i64 told, .int .i64 back, .bool false]
          go_wp2_with (refine wpl_store_at 40 _ _ rfl rfl rfl _ m2 0 rfl rfl hst ?_)
          refine bodyPost_ret (v := .tuple #[.agg #[.int .i64 base, .int .i64 n, .slice p l.length c, .int .i64 told, .int .i64 back, .bool false], .string ⟨b.toArray⟩, .int .i64 0, .int .i64 1]) (results_row4 _ 6 7 8 9 40 (by kernel_rfl) _ m2 _ _ _ _ _ _ rfl rfl rfl rfl hp2 Try.underlying40 rfl (by kernel_rfl)) rfl ?_
          exact ⟨hbl, .inl ⟨by decide, rfl⟩⟩
        have hnb : decide (x.n < 1) = false := decide_eq_false hn0
        rcases j with _ | t
        · have hpw := hp0 rfl
          subst hpw
          have hd0 : decide ((0 : Int) < ((0 : Nat) : Int)) = false := by decide
          clear hp0 hp1 hvb
          go_wp2_with fail
          go_roundw
          case rel => exact ⟨1, x.wr, by omega, by go_num, fun e => (by omega), fun t y e hy => (by have ht0 : t = 0 := (by omega); subst ht0; have hy' := HX.out.symm.trans hy; injection hy' with hy'; rw [hy']), Lib.hid (by rw [HO.out, HST.out, hnb]; simp), trivial⟩
          case measure => simp [intOf]; omega
        · have htl : t < bs.length := by omega
          obtain ⟨bb', bo', y, ee, hy, y0, y1, y2⟩ := hvb.at_ t htl
          injection ee with ee
          injection ee with e1 e2
          subst e1 e2
          have hpw := hp1 t y rfl hy
          subst hpw
          have hd0 : decide ((0 : Int) < ((t + 1 : Nat) : Int)) = true := decide_eq_true (by omega)
          have hwm : IntKind.i64.wrap (((t + 1 : Nat) : Int) - 1) = (t : Int) := by rw [IntWalk.i64_in _ (by omega)]; omega
          have htb : (t : Int) < (bs.length : Int) := by omega
          have hp9 : (0 : Int) < ((t + 1 : Nat) : Int) := by omega
          have HXW := HX
          clear hp0 hp1 hvb hy y0 y1
          cases hyw : y.wr with
          | true =>
            rw [hyw] at y2 HO HST
            cases hxw : x.wr with
            | true =>
              rw [hxw] at x2 HST
              go_wp2_with fail
              go_roundw
              case rel => exact ⟨t + 2, true, by omega, by go_num, fun e => (by omega), fun q z e hz => (by have hq0 : q = t + 1 := (by omega); subst hq0; have hz' := HX.out.symm.trans hz; injection hz' with hz'; rw [← hz', hxw]), Lib.hid (by rw [HO.out, HST.out, hnb]; simp), trivial⟩
              case measure => simp [intOf]; omega
            | false =>
              rw [hxw] at x2 HST
              have hEv : E = 1 := by rw [HER.out, refuseE, if_pos (by rw [inOrd, HO.out, HST.out]; simp)]
              subst hEv
              clear HO HST HX HXW HER
              obtain ⟨c0, c1, c2, c3, c4, c5⟩ := qu_all S1.out.q1
              obtain ⟨hst, hp2⟩ := qu_store S1.out.q2 base n p l.length c told back false
              have hbl := below_setRow S1.out.bl S1.out.g2 #[.int .i64 base, .int .i64 n, .slice p l.length c, .int .i64 told, .int .i64 back, .bool false]
              go_wp2_with (refine wpl_store_at 40 _ _ rfl rfl rfl _ m2 0 rfl rfl hst ?_)
              refine bodyPost_ret (v := .tuple #[.agg #[.int .i64 base, .int .i64 n, .slice p l.length c, .int .i64 told, .int .i64 back, .bool false], .string ⟨b.toArray⟩, .int .i64 0, .int .i64 1]) (results_row4 _ 6 7 8 9 40 (by kernel_rfl) _ m2 _ _ _ _ _ _ rfl rfl rfl rfl hp2 Try.underlying40 rfl (by kernel_rfl)) rfl ?_
              exact ⟨hbl, .inl ⟨by decide, rfl⟩⟩
          | false =>
            rw [hyw] at y2 HO HST
            go_wp2_with fail
            go_roundw
            case rel => exact ⟨t + 2, x.wr, by omega, by go_num, fun e => (by omega), fun q z e hz => (by have hq0 : q = t + 1 := (by omega); subst hq0; have hz' := HX.out.symm.trans hz; injection hz' with hz'; rw [hz']), Lib.hid (by rw [HO.out, HST.out, hnb]; simp), trivial⟩
            case measure => simp [intOf]; omega
      · have hjl : j = bs.length := by omega
        have hd : decide ((j : Int) < (bs.length : Int)) = false := decide_eq_false (by omega)
        have hio : inOrd bs = true := by
          rw [inOrd, HO.out, hjl, List.drop_length, decide_eq_true (by omega)]; rfl
        have HIO := Lib.hid hio
        have HER2 : Hid (E = if outside b bs = true then 13 else if FR.length < bs.length then 6 else 0) := Lib.hid (by rw [HER.out, refuseE, hio]; rfl)
        clear hp0 hp1 HO hio HER hjl hj
        go_wp2_with fail
        clear hd
        go_loopw [11] (fun a wr => ∃ j : Nat, j ≤ bs.length ∧ a = .int .i64 j ∧ Hid (outside b (bs.take j) = false) ∧ Hid (AdS w wr m1 m2 base n (.slice p l.length c) told back false)) (fun a _ => bs.length - (intOf a).toNat)
        case atStart => exact ⟨0, Nat.zero_le _, rfl, Lib.hid rfl, S1⟩
        case round =>
          obtain ⟨j, hj, rfl, HO, S2⟩ := hrel
          rename World => W2
          clear S1
          by_cases hlt : j < bs.length
          · have hd : decide ((j : Int) < (bs.length : Int)) = true := decide_eq_true (by omega)
            have hvb := HV.out.grown (w' := W2) ⟨S2.out.bl.os, S2.out.bl.tape, S2.out.bl.output, S2.out.bl.size, fun q hq _ => S2.out.bl.block q hq⟩
            obtain ⟨bb, bo, x, rfl, hx, x0, x1, x2⟩ := hvb.at_ j hlt
            have hos := outside_succ (b := b) hx
            rw [HO.out, Bool.false_or] at hos
            have HOS := Lib.hid hos
            have hwj : IntKind.i64.wrap ((j : Int) + 1) = (j : Int) + 1 := IntWalk.i64_in _ (by omega)
            have hjb : (j : Int) < (bs.length : Int) := by omega
            obtain ⟨tb, htb⟩ : ∃ tb, (textE b x.a x.n == 0) = tb := ⟨_, rfl⟩
            have kI := Lib.hid (fun w => rinside_any w b x.a x.n x.wr hl')
            rw [htb] at kI
            rw [htb] at hos
            have HO2 := Lib.hid hos
            clear hx hos hvb HOS htb
            go_wp2_with fail
            refine (kI.out _).mono ?_
            rintro e w3 ⟨rfl, k3⟩
            have S3 := Lib.hid (S2.out.grow (Below.of_none k3))
            clear k3 x0 x1 x2
            cases tb with
            | true =>
              go_wp2_with fail
              go_roundw
              case rel => exact ⟨j + 1, by omega, by go_num, Lib.hid (by rw [HO2.out]; rfl), S3⟩
              case measure => simp [intOf]; omega
            | false =>
              have hEv : E = 13 := by rw [HER2.out, if_pos (outside_of (k := j + 1) (by rw [HO2.out]; rfl))]
              subst hEv
              clear HO HO2 HER2
              obtain ⟨c0, c1, c2, c3, c4, c5⟩ := qu_all S3.out.q1
              obtain ⟨hst, hp2⟩ := qu_store S3.out.q2 base n p l.length c told back false
              have hbl := below_setRow S3.out.bl S3.out.g2 #[.int .i64 base, .int .i64 n, .slice p l.length c, .int .i64 told, .int .i64 back, .bool false]
              go_wp2_with (refine wpl_store_at 40 _ _ rfl rfl rfl _ m2 0 rfl rfl hst ?_)
              refine bodyPost_ret (v := .tuple #[.agg #[.int .i64 base, .int .i64 n, .slice p l.length c, .int .i64 told, .int .i64 back, .bool false], .string ⟨b.toArray⟩, .int .i64 0, .int .i64 13]) (results_row4 _ 6 7 8 9 40 (by kernel_rfl) _ m2 _ _ _ _ _ _ rfl rfl rfl rfl hp2 Try.underlying40 rfl (by kernel_rfl)) rfl ?_
              exact ⟨hbl, .inl ⟨by decide, rfl⟩⟩
          · have hjl : j = bs.length := by omega
            have hd : decide ((j : Int) < (bs.length : Int)) = false := decide_eq_false (by omega)
            have hob : outside b bs = false := by have := HO.out; rw [hjl, List.take_length] at this; exact this
            have HOB := Lib.hid hob
            have HER3 : Hid (E = if FR.length < bs.length then 6 else 0) := Lib.hid (by rw [HER2.out, hob, if_neg (by decide)])
            have hrow := HR0.out.kept S2.out.bl.size (fun k hk => S2.out.bl.block k (HR0.out.lt k hk).2)
            have hchs : IsChs W2 (.slice p l.length c) (l.map toCh) := chs_of_row hrow (fun y hy => (HI0.out y hy).kept (fun a ha => by
              obtain ⟨u, hu⟩ := Option.isSome_iff_exists.1 ha
              exact S2.out.bl.cell (World.block_lt_of_cell? w a hu))) (by omega)
            have kF := Lib.hid (free_row base n told back false (.slice p l.length c) (l.map toCh) W2 hn2 hchs FR HFR.out)
            clear HO hob HER2 hrow hchs hjl hj
            obtain ⟨c0, c1, c2, c3, c4, c5⟩ := qu_all S2.out.q1
            go_wp2_with fail
            refine kF.out.mono ?_
            rintro e w4 ⟨fp, fc, rfl, hfc, hfr, b4⟩
            have S4 := Lib.hid (S2.out.grow b4)
            have hsz2 := S2.out.bl.size
            clear b4 S2 c0 c1 c2 c3 c4 c5 kF
            by_cases hfull : FR.length < bs.length
            · have hEv : E = 6 := by rw [HER3.out, if_pos hfull]
              subst hEv
              have hfb : decide ((FR.length : Int) < (bs.length : Int)) = true := decide_eq_true (by omega)
              clear hfr HER3
              obtain ⟨c0, c1, c2, c3, c4, c5⟩ := qu_all S4.out.q1
              obtain ⟨hst, hp2⟩ := qu_store S4.out.q2 base n p l.length c told back false
              have hbl := below_setRow S4.out.bl S4.out.g2 #[.int .i64 base, .int .i64 n, .slice p l.length c, .int .i64 told, .int .i64 back, .bool false]
              go_wp2_with (refine wpl_store_at 40 _ _ rfl rfl rfl _ m2 0 rfl rfl hst ?_)
              refine bodyPost_ret (v := .tuple #[.agg #[.int .i64 base, .int .i64 n, .slice p l.length c, .int .i64 told, .int .i64 back, .bool false], .string ⟨b.toArray⟩, .int .i64 0, .int .i64 6]) (results_row4 _ 6 7 8 9 40 (by kernel_rfl) _ m2 _ _ _ _ _ _ rfl rfl rfl rfl hp2 Try.underlying40 rfl (by kernel_rfl)) rfl ?_
              exact ⟨hbl, .inl ⟨by decide, rfl⟩⟩
            have hEv : E = 0 := by rw [HER3.out, if_neg hfull]
            subst hEv
            have hfb : decide ((FR.length : Int) < (bs.length : Int)) = false := decide_eq_false (by omega)
            have hfl : bs.length ≤ FR.length := by omega
            obtain ⟨fb, fcur, rfl, hfge, hfb0, hfcell⟩ := hfr (by omega)
            have HGF := Lib.hid (Nat.le_trans hsz2 hfge)
            clear hsz2 hfge
            have hfbl := lt_of_block hfb0
            have hfm : fb ≠ m1 := by
              rintro rfl
              have := hfb0.symm.trans S4.out.q1
              injection this with this
              injection this with _ this
              exact absurd this (by decide)
            have hfm2 : fb ≠ m2 := by
              rintro rfl
              have := hfb0.symm.trans S4.out.q2
              injection this with this
              injection this with _ this
              exact absurd this (by decide)
            have HFC := Lib.hid hfcell
            clear HER3 hfr hfull hfcell hd
            go_upto_region 18 with fail
            clear hfb
            obtain ⟨hd, hhd⟩ : ∃ hd, FR[0]'(by omega) = hd := ⟨_, rfl⟩
            have hc0 := HFC.out 0 (by omega)
            rw [hhd] at hc0
            have hfp : (0 : Int) < (FR.length : Int) := by omega
            have hbc : (bs.length : Int) ≤ (fc : Int) := by omega
            have hbp : (0 : Int) ≤ (bs.length : Int) := by omega
            refine wp_region_noPanic ?_
            refine region_held (S := fun W => W.cell? ⟨fb, 0, none⟩ = some (.int .i64 hd)) (by kernel_rfl) (fun V d => (World.cell?_of_block (w := w4) (a := ⟨fb, 0, none⟩) (d.block _)).trans hc0) (fun V d hS => ?_)
            have b5 : Below w4.heap.size w4 V := Below.of_none d.grown
            have S5 := Lib.hid (S4.out.grow b5)
            have HFC5 : Hid (∀ (i : Nat) (h : i < FR.length), V.cell? ⟨fb, i, none⟩ = some (.int .i64 FR[i])) := Lib.hid (fun i h => (b5.cell (p := ⟨fb, i, none⟩) hfbl).trans (HFC.out i h))
            have hfl5 : fb < V.heap.size := Nat.lt_of_lt_of_le hfbl b5.size
            clear b5 S4 HFC hfbl hc0 d
            refine wpAnyH_take (i := 0) (oi := ⟨some 86, Op.move (Operand.tmp 12), _, _, _, none⟩) (v := (.slice (some ⟨fb, 0, none⟩) FR.length fc)) rfl (by kernel_rfl) (by kernel_rfl) (by kernel_rfl) (fun _ _ _ h => h) (Or.inl ⟨by rfl, fun w' h' => ?_⟩) hS ?_
            · clear h'
              go_simp
            simp only [Act.put]
            refine wpAnyH_take (i := 1) (oi := ⟨some 87, Op.indexAddr 43 (Operand.tmp 86) (Operand.const (Value.int IntKind.i64 0)), _, _, _, none⟩) (v := (.pointer (some ⟨fb, 0, none⟩))) rfl (by kernel_rfl) (by kernel_rfl) (by kernel_rfl) (fun _ _ _ h => h) (Or.inl ⟨by rfl, fun w' h' => ?_⟩) hS ?_
            · clear h'
              go_simp
              intro hnil
              simp [hnil] at hfp
            simp only [Act.put]
            refine wpAnyH_take (i := 2) (oi := ⟨some 88, Op.load 3 (Operand.tmp 87), _, _, _, none⟩) (v := (.int .i64 hd)) rfl (by kernel_rfl) (by kernel_rfl) (by kernel_rfl) (fun _ _ _ h => h) (Or.inl ⟨by rfl, fun w' h' => ?_⟩) hS ?_
            · have c0 := h'
              clear h'
              go_simp
            simp only [Act.put]
            refine wpAnyH_take (i := 3) (oi := ⟨some 89, Op.move (Operand.tmp 12), _, _, _, none⟩) (v := (.slice (some ⟨fb, 0, none⟩) FR.length fc)) rfl (by kernel_rfl) (by kernel_rfl) (by kernel_rfl) (fun _ _ _ h => h) (Or.inl ⟨by rfl, fun w' h' => ?_⟩) hS ?_
            · clear h'
              go_simp
            simp only [Act.put]
            refine wpAnyH_take (i := 4) (oi := ⟨some 90, Op.move (Operand.tmp 2), _, _, _, none⟩) (v := (.slice bp bs.length bcap)) rfl (by kernel_rfl) (by kernel_rfl) (by kernel_rfl) (fun _ _ _ h => h) (Or.inl ⟨by rfl, fun w' h' => ?_⟩) hS ?_
            · clear h'
              go_simp
            simp only [Act.put]
            refine wpAnyH_take (i := 5) (oi := ⟨some 91, Op.call { callee := Callee.builtin Builtin.len, args := #[(Operand.tmp 90)], argTypes := #[47] }, _, _, _, none⟩) (v := (.int .i64 bs.length)) rfl (by kernel_rfl) (by kernel_rfl) (by kernel_rfl) (fun _ _ _ h => h) (Or.inl ⟨by rfl, fun w' h' => ?_⟩) hS ?_
            · clear h'
              go_simp
            simp only [Act.put]
            refine wpAnyH_take (i := 6) (oi := ⟨some 92, Op.slice 43 (Operand.tmp 89) none (some (Operand.tmp 91)) none, _, _, _, none⟩) (v := (.slice (some ⟨fb, 0, none⟩) bs.length fc)) rfl (by kernel_rfl) (by kernel_rfl) (by kernel_rfl) (fun _ _ _ h => h) (Or.inl ⟨by rfl, fun w' h' => ?_⟩) hS ?_
            · clear h'
              go_simp
            simp only [Act.put]
            refine wpAnyH_take (i := 7) (oi := ⟨some 93, Op.build 119 #[(0, (Operand.tmp 88)), (1, (Operand.tmp 92))], _, _, _, none⟩) (v := (.agg #[.int .i64 hd, .slice (some ⟨fb, 0, none⟩) bs.length fc, .int .i64 0])) rfl (by kernel_rfl) (by kernel_rfl) (by kernel_rfl) (fun _ _ _ h => h) (Or.inl ⟨by rfl, fun w' h' => ?_⟩) hS ?_
            · clear h'
              go_simp
            simp only [Act.put]
            refine wpAnyH_ready (rs := [8]) (by kernel_rfl) (by simp) ?_
            refine AllReadyH.cons rfl (fun K hK => ?_) AllReadyH.nil
            obtain ⟨x, hx⟩ : ∃ x, x = V.heap.size := ⟨_, rfl⟩
            have hX : (V.alloc (.cells #[.int .i64 0, .slice none 0 0, .int .i64 0] 119)).heap[x]? = some (.cells #[.int .i64 0, .slice none 0 0, .int .i64 0] 119 (0, 0)) := by rw [hx]; exact heap_alloc_new V _
            have bx := (Below.refl V.heap.size V).alloc (Nat.le_refl _) (.cells #[.int .i64 0, .slice none 0 0, .int .i64 0] 119)
            have S6 := Lib.hid (S5.out.grow bx)
            have HFC6 : Hid (∀ (i : Nat) (h : i < FR.length), (V.alloc (.cells #[.int .i64 0, .slice none 0 0, .int .i64 0] 119)).cell? ⟨fb, i, none⟩ = some (.int .i64 FR[i])) := Lib.hid (fun i h => (bx.cell (p := ⟨fb, i, none⟩) hfl5).trans (HFC5.out i h))
            have hS6 : (V.alloc (.cells #[.int .i64 0, .slice none 0 0, .int .i64 0] 119)).cell? ⟨fb, 0, none⟩ = some (.int .i64 hd) := (bx.cell (p := ⟨fb, 0, none⟩) hfl5).trans hS
            have hxm : w.heap.size ≤ x ∧ x ≠ m1 ∧ x ≠ m2 ∧ fb ≠ x := by
              have h1 := S5.out.bl.size; have h2 := lt_of_block S5.out.q1; have h3 := lt_of_block S5.out.q2
              exact ⟨by omega, by omega, by omega, by omega⟩
            have hfl6 := Nat.lt_of_lt_of_le hfl5 bx.size
            go_simp
            rw [← hx]
            generalize V.alloc _ = V6 at hX S6 HFC6 hS6 hfl6 ⊢
            clear hx bx S5 HFC5 hfl5 hS
            refine hK.out _ _ hS6 (fun _ => ?_)
            clear hK K
            refine wpAnyH_ready (rs := [9]) (by kernel_rfl) (by simp) ?_
            refine AllReadyH.cons rfl (fun K hK => ?_) AllReadyH.nil
            have hst : (storeVar 119 ⟨x, 0, none⟩ (.agg #[.int .i64 hd, .slice (some ⟨fb, 0, none⟩) bs.length fc, .int .i64 0])).run Try.prog V6 = .ok () (V6.setRow x #[.int .i64 hd, .slice (some ⟨fb, 0, none⟩) bs.length fc, .int .i64 0]) := run_storeVar_row (P := Try.prog) V6 x 119 119 _ #[.int .i64 hd, .slice (some ⟨fb, 0, none⟩) bs.length fc, .int .i64 0] hX (by kernel_rfl) rfl (by simp [Value.oneCell'])
            have hX7 := setRow_heap V6 x _ #[.int .i64 hd, .slice (some ⟨fb, 0, none⟩) bs.length fc, .int .i64 0] _ _ hX
            obtain ⟨x1, x2, x3, x4⟩ := hxm
            have hne : ∀ q, q ≠ x → (V6.setRow x #[.int .i64 hd, .slice (some ⟨fb, 0, none⟩) bs.length fc, .int .i64 0]).heap[q]? = V6.heap[q]? := fun q hq => setRow_other _ _ _ _ hq
            have hS7 : (V6.setRow x #[.int .i64 hd, .slice (some ⟨fb, 0, none⟩) bs.length fc, .int .i64 0]).cell? ⟨fb, 0, none⟩ = some (.int .i64 hd) := (World.cell?_of_block (w := V6) (a := ⟨fb, 0, none⟩) (hne fb x4)).trans hS6
            have L7 : Hid (AdL w (V6.setRow x #[.int .i64 hd, .slice (some ⟨fb, 0, none⟩) bs.length fc, .int .i64 0]) m1 m2 x base n (.slice p l.length c) told back FR fb fc bs.length hd 0) := Lib.hid ⟨⟨(hne m1 (Ne.symm x2)).trans S6.out.q1, (hne m2 (Ne.symm x3)).trans S6.out.q2, below_setRow S6.out.bl x1 _, S6.out.g1, S6.out.g2, S6.out.ne⟩, hX7, fun i hi => (World.cell?_of_block (w := V6) (a := ⟨fb, i, none⟩) (hne fb x4)).trans (HFC6.out i hi), x1, x2, x3, x4, by have := hfl6; simpa [World.setRow] using this⟩
            refine upn_store_at 119 _ _ rfl rfl (.agg #[.int .i64 hd, .slice (some ⟨fb, 0, none⟩) bs.length fc, .int .i64 0]) x 0 rfl rfl hst ?_
            clear hst hX7 hX hS6 S6 HFC6 hne hfl6 x1 x2 x3
            generalize V6.setRow _ _ = V7 at hS7 L7 ⊢
            refine hK.out _ _ hS7 (fun _ => ?_)
            clear hK K
            refine wpAnyH_done (by kernel_rfl) (NoPanic.normal ?_) _
            clear hS7
            go_upto_region 20 with fail
            obtain ⟨D, hD⟩ : ∃ D, D = descs base (FR.take bs.length) bs b := ⟨_, rfl⟩
            have HDD := Lib.hid hD
            clear hD
            have HQB := Lib.hid (outside_no HOB.out (inOrd_pos HIO.out).2 (by omega))
            have HYB : Hid (∀ (i : Nat) (h : i < FR.length), 0 ≤ FR[i] ∧ FR[i] < n) := Lib.hid (fun i h => by
              have := free_spec (show FR[i] ∈ freeL (l.map toCh) n from by rw [← HFR.out]; exact List.getElem_mem h)
              exact ⟨this.1, this.2.1⟩)
            go_loopw [1, 14] (fun a1 a14 wr => ∃ (j : Nat) (m : List UInt8), j ≤ bs.length ∧ a1 = .string ⟨m.toArray⟩ ∧ a14 = .int .i64 j ∧ m.length = b.length ∧ Hid (descs base ((FR.take bs.length).drop j) (bs.drop j) m = D) ∧ Hid (AdL w wr m1 m2 x base n (.slice p l.length c) told back FR fb fc bs.length hd (roomOf (bs.take j)))) (fun _ a14 _ => bs.length - (intOf a14).toNat)
            case atStart => exact ⟨0, b, Nat.zero_le _, rfl, rfl, rfl, Lib.hid HDD.out.symm, L7⟩
            case round =>
              obtain ⟨j, m, hj, rfl, rfl, hml, HM, L⟩ := hrel
              rename World => W3
              clear L7
              by_cases hlt : j < bs.length
              · have hd1 : decide ((j : Int) < (bs.length : Int)) = true := decide_eq_true (by omega)
                obtain ⟨bb, bo, q, hbp9, hx, x0, x1, x2⟩ := HV.out.at_ j hlt
                subst hbp9
                have hbb : bb < w.heap.size := World.block_lt_of_cell? w _ x0
                obtain ⟨q0, q1, q2, q3⟩ := HQB.out q (List.mem_of_getElem? hx)
                have hjf : j < FR.length := by omega
                obtain ⟨y, hy⟩ : ∃ y, FR[j]'hjf = y := ⟨_, rfl⟩
                have HY := Lib.hid hy
                have hyb := HYB.out j hjf
                rw [hy] at hyb
                obtain ⟨y0, y1⟩ := hyb
                have hyt : (FR.take bs.length)[j]? = some y := by rw [List.getElem?_take, if_pos hlt, List.getElem?_eq_getElem hjf, hy]
                have hstep := descs_at (base := base) (lm := m) hyt hx
                rw [HM.out] at hstep
                have hrs := room_succ hx
                have hrb := roomOf_bd (bs.take j) (fun z hz => by have := HQB.out z (List.mem_of_mem_take hz); omega)
                rw [List.length_take] at hrb
                obtain ⟨r, hr0⟩ : ∃ r, roomOf (bs.take j) = r := ⟨_, rfl⟩
                rw [hr0] at hrs hrb L
                have hr := Lib.hid hr0
                obtain ⟨r0, r1⟩ := hrb
                have X0 := Lib.hid x0
                have X1 := Lib.hid x1
                have X2 := Lib.hid x2
                have hjb : (j : Int) < (bs.length : Int) := by omega
                have hjf' : (j : Int) < (FR.length : Int) := by omega
                have e7 := (L.out.s.bl.cell (p := ⟨bb, bo + j * 3 + 2, none⟩) hbb).trans x2
                have hwj : IntKind.i64.wrap ((j : Int) + 1) = (j : Int) + 1 := IntWalk.i64_in _ (by omega)
                have hw16 : IntKind.i64.wrap (16 * y) = 16 * y := IntWalk.i64_in _ (by omega)
                have hwb : IntKind.i64.wrap (base + 16 * y) = base + 16 * y := IntWalk.i64_in _ (by omega)
                have hw8 : IntKind.i64.wrap (base + 16 * y + 8) = base + 16 * y + 8 := IntWalk.i64_in _ (by omega)
                have hw12 : IntKind.i64.wrap (base + 16 * y + 12) = base + 16 * y + 12 := IntWalk.i64_in _ (by omega)
                have hw14 : IntKind.i64.wrap (base + 16 * y + 14) = base + 16 * y + 14 := IntWalk.i64_in _ (by omega)
                have hwr : IntKind.i64.wrap (r + q.n) = r + q.n := IntWalk.i64_in _ (by omega)
                clear hx x0 x1 x2 hyt hy hr0 HM
                by_cases hmore : j + 1 < bs.length
                · have hjb1 : decide ((j : Int) + 1 < (bs.length : Int)) = true := decide_eq_true (by omega)
                  have hjn : j + 1 < FR.length := by omega
                  obtain ⟨z, hz⟩ : ∃ z, FR[j + 1]'hjn = z := ⟨_, rfl⟩
                  have hzb := HYB.out (j + 1) hjn
                  rw [hz] at hzb
                  obtain ⟨z0, z1⟩ := hzb
                  have e8 := L.out.fr (j + 1) hjn
                  rw [hz] at e8
                  have e9 : (j : Int) + 1 < (FR.length : Int) := by omega
                  have hzg : (FR.take bs.length).getD (j + 1) 0 = z := by
                    rw [List.getD_eq_getElem?_getD, List.getElem?_take, if_pos hmore, List.getElem?_eq_getElem hjn, hz]; rfl
                  rw [decide_eq_true hmore, if_pos hmore, hzg] at hstep
                  clear hz hzg
                  cases hqw : q.wr with
                  | true =>
                    rw [hqw] at e7 hstep hrs
                    have HS := Lib.hid hstep
                    have HRS := Lib.hid hrs
                    clear hstep hrs X2
                    go_upto_region 29 with fail
                    clear hjb1
                    refine region_tail 9 (by kernel_rfl) (by kernel_rfl) (fun W4 d => ?_)
                    have L4 := Lib.hid (L.out.grow (Below.of_none d.grown))
                    have e0 := L4.out.mostCell
                    have e2 := L4.out.mostFree
                    have e1 := (L4.out.s.bl.cell (p := ⟨bb, bo + j * 3 + 1, none⟩) hbb).trans X1.out
                    clear d e7 e8 e9
                    simp only [List.take_succ_cons, List.take_zero, List.drop_succ_cons, List.drop_zero]
                    repeat still_step
                    refine wpStill_nil ?_
                    have L5 := Lib.hid (L4.out.most (r + q.n))
                    go_upto_region 30 with fail
                    clear e0 e1 e2 hwr L4
                    generalize W4.setCell _ _ = W5 at L5 ⊢
                    have c0 := (qu_all L5.out.s.q1).1
                    have hyc := L5.out.fr j hjf
                    rw [HY.out] at hyc
                    go_quiet (fail)
                    have L6 := Lib.hid (L5.out.grow (below_drewN (Below.refl W5.heap.size W5) nq))
                    clear c0 hyc L5
                    generalize W5.drewN nq = W6 at L6 ⊢
                    have e1 := (L6.out.s.bl.cell (p := ⟨bb, bo + j * 3, none⟩) hbb).trans X0.out
                    go_wp2_with fail
                    refine (rput_any _ m (base + 16 * y) 8 q.a (by omega) q0 (by omega)).mono ?_
                    rintro e w7 ⟨rfl, k7⟩
                    have L7 := Lib.hid (L6.out.grow (Below.of_none k7))
                    clear k7 e1 L6
                    have e1 := (L7.out.s.bl.cell (p := ⟨bb, bo + j * 3 + 1, none⟩) hbb).trans X1.out
                    go_wp2_with fail
                    refine (rput_any _ _ (base + 16 * y + 8) 4 q.n (by simp only [putL_length]; omega) (by omega) (by omega)).mono ?_
                    rintro e w8 ⟨rfl, k8⟩
                    have L8 := Lib.hid (L7.out.grow (Below.of_none k8))
                    clear k8 e1 L7
                    go_wp2_with fail
                    refine (rput_any _ _ (base + 16 * y + 12) 2 3 (by simp only [putL_length]; omega) (by omega) (by omega)).mono ?_
                    rintro e w9 ⟨rfl, k9⟩
                    have L9 := Lib.hid (L8.out.grow (Below.of_none k9))
                    clear k9 L8
                    go_wp2_with fail
                    refine (rput_any _ _ (base + 16 * y + 14) 2 z (by simp only [putL_length]; omega) (by omega) (by omega)).mono ?_
                    rintro e w10 ⟨rfl, k10⟩
                    have L10 := Lib.hid (L9.out.grow (Below.of_none k10))
                    clear k10 L9
                    go_wp2_with fail
                    go_roundw
                    case rel => exact ⟨j + 1, descL m (base + 16 * y) q.a q.n 3 z, by omega, rfl, by go_num, by rw [descL_length]; exact hml, Lib.hid HS.out.symm, by have := HRS.out; rw [if_pos trivial] at this; rw [this]; exact L10⟩
                    case measure => simp [intOf]; omega
                  | false =>
                    rw [hqw] at e7 hstep hrs
                    have HS := Lib.hid hstep
                    have HRS := Lib.hid hrs
                    clear hstep hrs X2 hwr
                    have c0 := (qu_all L.out.s.q1).1
                    have hyc := L.out.fr j hjf
                    rw [HY.out] at hyc
                    go_wp2_with fail
                    go_quiet (fail)
                    have L6 := Lib.hid (L.out.grow (below_drewN (Below.refl W3.heap.size W3) nq))
                    clear c0 hyc e7 e8 e9 hjb1
                    generalize W3.drewN nq = W6 at L6 ⊢
                    have e1 := (L6.out.s.bl.cell (p := ⟨bb, bo + j * 3, none⟩) hbb).trans X0.out
                    go_wp2_with fail
                    refine (rput_any _ m (base + 16 * y) 8 q.a (by omega) q0 (by omega)).mono ?_
                    rintro e w7 ⟨rfl, k7⟩
                    have L7 := Lib.hid (L6.out.grow (Below.of_none k7))
                    clear k7 e1 L6
                    have e1 := (L7.out.s.bl.cell (p := ⟨bb, bo + j * 3 + 1, none⟩) hbb).trans X1.out
                    go_wp2_with fail
                    refine (rput_any _ _ (base + 16 * y + 8) 4 q.n (by simp only [putL_length]; omega) (by omega) (by omega)).mono ?_
                    rintro e w8 ⟨rfl, k8⟩
                    have L8 := Lib.hid (L7.out.grow (Below.of_none k8))
                    clear k8 e1 L7
                    go_wp2_with fail
                    refine (rput_any _ _ (base + 16 * y + 12) 2 1 (by simp only [putL_length]; omega) (by omega) (by omega)).mono ?_
                    rintro e w9 ⟨rfl, k9⟩
                    have L9 := Lib.hid (L8.out.grow (Below.of_none k9))
                    clear k9 L8
                    go_wp2_with fail
                    refine (rput_any _ _ (base + 16 * y + 14) 2 z (by simp only [putL_length]; omega) (by omega) (by omega)).mono ?_
                    rintro e w10 ⟨rfl, k10⟩
                    have L10 := Lib.hid (L9.out.grow (Below.of_none k10))
                    clear k10 L9
                    go_wp2_with fail
                    go_roundw
                    case rel => exact ⟨j + 1, descL m (base + 16 * y) q.a q.n 1 z, by omega, rfl, by go_num, by rw [descL_length]; exact hml, Lib.hid HS.out.symm, by have := HRS.out; rw [if_neg (by decide), Int.add_zero] at this; rw [this]; exact L10⟩
                    case measure => simp [intOf]; omega
                · have hjb1 : decide ((j : Int) + 1 < (bs.length : Int)) = false := decide_eq_false (by omega)
                  have e8 := hjb1
                  have e9 := hjb1
                  rw [decide_eq_false hmore, if_neg hmore] at hstep
                  cases hqw : q.wr with
                  | true =>
                    rw [hqw] at e7 hstep hrs
                    have HS := Lib.hid hstep
                    have HRS := Lib.hid hrs
                    clear hstep hrs X2
                    go_upto_region 29 with fail
                    clear hjb1
                    refine region_tail 9 (by kernel_rfl) (by kernel_rfl) (fun W4 d => ?_)
                    have L4 := Lib.hid (L.out.grow (Below.of_none d.grown))
                    have e0 := L4.out.mostCell
                    have e2 := L4.out.mostFree
                    have e1 := (L4.out.s.bl.cell (p := ⟨bb, bo + j * 3 + 1, none⟩) hbb).trans X1.out
                    clear d e7 e8 e9
                    simp only [List.take_succ_cons, List.take_zero, List.drop_succ_cons, List.drop_zero]
                    repeat still_step
                    refine wpStill_nil ?_
                    have L5 := Lib.hid (L4.out.most (r + q.n))
                    go_upto_region 30 with fail
                    clear e0 e1 e2 hwr L4
                    generalize W4.setCell _ _ = W5 at L5 ⊢
                    have c0 := (qu_all L5.out.s.q1).1
                    have hyc := L5.out.fr j hjf
                    rw [HY.out] at hyc
                    go_quiet (fail)
                    have L6 := Lib.hid (L5.out.grow (below_drewN (Below.refl W5.heap.size W5) nq))
                    clear c0 hyc L5
                    generalize W5.drewN nq = W6 at L6 ⊢
                    have e1 := (L6.out.s.bl.cell (p := ⟨bb, bo + j * 3, none⟩) hbb).trans X0.out
                    go_wp2_with fail
                    refine (rput_any _ m (base + 16 * y) 8 q.a (by omega) q0 (by omega)).mono ?_
                    rintro e w7 ⟨rfl, k7⟩
                    have L7 := Lib.hid (L6.out.grow (Below.of_none k7))
                    clear k7 e1 L6
                    have e1 := (L7.out.s.bl.cell (p := ⟨bb, bo + j * 3 + 1, none⟩) hbb).trans X1.out
                    go_wp2_with fail
                    refine (rput_any _ _ (base + 16 * y + 8) 4 q.n (by simp only [putL_length]; omega) (by omega) (by omega)).mono ?_
                    rintro e w8 ⟨rfl, k8⟩
                    have L8 := Lib.hid (L7.out.grow (Below.of_none k8))
                    clear k8 e1 L7
                    go_wp2_with fail
                    refine (rput_any _ _ (base + 16 * y + 12) 2 2 (by simp only [putL_length]; omega) (by omega) (by omega)).mono ?_
                    rintro e w9 ⟨rfl, k9⟩
                    have L9 := Lib.hid (L8.out.grow (Below.of_none k9))
                    clear k9 L8
                    go_wp2_with fail
                    refine (rput_any _ _ (base + 16 * y + 14) 2 0 (by simp only [putL_length]; omega) (by omega) (by omega)).mono ?_
                    rintro e w10 ⟨rfl, k10⟩
                    have L10 := Lib.hid (L9.out.grow (Below.of_none k10))
                    clear k10 L9
                    go_wp2_with fail
                    go_roundw
                    case rel => exact ⟨j + 1, descL m (base + 16 * y) q.a q.n 2 0, by omega, rfl, by go_num, by rw [descL_length]; exact hml, Lib.hid HS.out.symm, by have := HRS.out; rw [if_pos trivial] at this; rw [this]; exact L10⟩
                    case measure => simp [intOf]; omega
                  | false =>
                    rw [hqw] at e7 hstep hrs
                    have HS := Lib.hid hstep
                    have HRS := Lib.hid hrs
                    clear hstep hrs X2 hwr
                    have c0 := (qu_all L.out.s.q1).1
                    have hyc := L.out.fr j hjf
                    rw [HY.out] at hyc
                    go_wp2_with fail
                    go_quiet (fail)
                    have L6 := Lib.hid (L.out.grow (below_drewN (Below.refl W3.heap.size W3) nq))
                    clear c0 hyc e7 e8 e9 hjb1
                    generalize W3.drewN nq = W6 at L6 ⊢
                    have e1 := (L6.out.s.bl.cell (p := ⟨bb, bo + j * 3, none⟩) hbb).trans X0.out
                    go_wp2_with fail
                    refine (rput_any _ m (base + 16 * y) 8 q.a (by omega) q0 (by omega)).mono ?_
                    rintro e w7 ⟨rfl, k7⟩
                    have L7 := Lib.hid (L6.out.grow (Below.of_none k7))
                    clear k7 e1 L6
                    have e1 := (L7.out.s.bl.cell (p := ⟨bb, bo + j * 3 + 1, none⟩) hbb).trans X1.out
                    go_wp2_with fail
                    refine (rput_any _ _ (base + 16 * y + 8) 4 q.n (by simp only [putL_length]; omega) (by omega) (by omega)).mono ?_
                    rintro e w8 ⟨rfl, k8⟩
                    have L8 := Lib.hid (L7.out.grow (Below.of_none k8))
                    clear k8 e1 L7
                    go_wp2_with fail
                    refine (rput_any _ _ (base + 16 * y + 12) 2 0 (by simp only [putL_length]; omega) (by omega) (by omega)).mono ?_
                    rintro e w9 ⟨rfl, k9⟩
                    have L9 := Lib.hid (L8.out.grow (Below.of_none k9))
                    clear k9 L8
                    go_wp2_with fail
                    refine (rput_any _ _ (base + 16 * y + 14) 2 0 (by simp only [putL_length]; omega) (by omega) (by omega)).mono ?_
                    rintro e w10 ⟨rfl, k10⟩
                    have L10 := Lib.hid (L9.out.grow (Below.of_none k10))
                    clear k10 L9
                    go_wp2_with fail
                    go_roundw
                    case rel => exact ⟨j + 1, descL m (base + 16 * y) q.a q.n 0 0, by omega, rfl, by go_num, by rw [descL_length]; exact hml, Lib.hid HS.out.symm, by have := HRS.out; rw [if_neg (by decide), Int.add_zero] at this; rw [this]; exact L10⟩
                    case measure => simp [intOf]; omega
              · have hjl : j = bs.length := by omega
                have hd1 : decide ((j : Int) < (bs.length : Int)) = false := decide_eq_false (by omega)
                have hmD : m = D := by
                  have := HM.out
                  rw [hjl, List.drop_of_length_le (by rw [List.length_take]; omega), descs_nil] at this
                  exact this
                subst hmD
                rw [hjl, List.take_length] at L
                obtain ⟨RO, hRO⟩ : ∃ R, R = roomOf bs := ⟨_, rfl⟩
                rw [← hRO] at L
                have HRO := Lib.hid hRO
                have hyb := HYB.out 0 (by omega)
                rw [hhd] at hyb
                obtain ⟨y0, y1⟩ := hyb
                obtain ⟨r, hr⟩ : ∃ r, told % (n : Int) = r := ⟨_, rfl⟩
                have hr0 : 0 ≤ told % (n : Int) := Int.emod_nonneg _ (by omega)
                have hr1 : told % (n : Int) < n := Int.emod_lt_of_pos _ (by omega)
                rw [hr] at hr0 hr1
                have hrt : Int.tmod told (n : Int) = r := by rw [Int.tmod_eq_emod_of_nonneg ht0, hr]
                have hwr : IntKind.i64.wrap r = r := IntWalk.i64_in _ (by omega)
                have hw1 : IntKind.i64.wrap (16 * (n : Int)) = 16 * n := IntWalk.i64_in _ (by omega)
                have hw2 : IntKind.i64.wrap (base + 16 * (n : Int)) = base + 16 * n := IntWalk.i64_in _ (by omega)
                have hw3 : IntKind.i64.wrap (base + 16 * (n : Int) + 4) = base + 16 * n + 4 := IntWalk.i64_in _ (by omega)
                have hw4 : IntKind.i64.wrap (2 * r) = 2 * r := IntWalk.i64_in _ (by omega)
                have hw5 : IntKind.i64.wrap (base + 16 * (n : Int) + 4 + 2 * r) = base + 16 * n + 4 + 2 * r := IntWalk.i64_in _ (by omega)
                have hw6 : IntKind.i64.wrap (base + 16 * (n : Int) + 2) = base + 16 * n + 2 := IntWalk.i64_in _ (by omega)
                have hn00 : ¬ n = 0 := by omega
                have HR9 := Lib.hid hr
                clear HM hRO hj hjl
                go_upto_region 35 with fail
                refine region_tail 17 (by kernel_rfl) (by kernel_rfl) (fun W4 d => ?_)
                have L4 := Lib.hid (L.out.grow (Below.of_none d.grown))
                obtain ⟨c0, c1, c2, c3, c4, c5⟩ := qu_all L4.out.s.q1
                have e0 := L4.out.headCell
                clear d hd1 L
                simp only [List.take_succ_cons, List.take_zero, List.drop_succ_cons, List.drop_zero]
                repeat still_step
                refine wpStill_nil ?_
                clear c0 c1 c2 c3 c4 c5 e0
                go_wp2_with fail
                refine (rput_any _ m (base + 16 * n + 4 + 2 * r) 2 hd (by omega) y0 (by omega)).mono ?_
                rintro e w5 ⟨rfl, k5⟩
                have L5 := Lib.hid (L4.out.grow (Below.of_none k5))
                clear k5 L4
                obtain ⟨c0, c1, c2, c3, c4, c5⟩ := qu_all L5.out.s.q1
                have f3 := qu_free L5.out.s.q1 3
                have L6 := Lib.hid (L5.out.tellIt hfm ((told + 1) % 65536))
                go_upto_region 37 with fail
                clear c0 c1 c2 c3 c4 c5 f3 L5
                generalize w5.setCell _ _ = W6 at L6 ⊢
                obtain ⟨c0, c1, c2, c3, c4, c5⟩ := qu_all L6.out.s.q1
                go_wp2_with fail
                refine (rput_any _ _ (base + 16 * n + 2) 2 ((told + 1) % 65536) (by simp only [putL_length]; omega) (by omega) (by omega)).mono ?_
                rintro e w7 ⟨rfl, k7⟩
                have L7 := Lib.hid (L6.out.grow (Below.of_none k7))
                clear k7 L6 c0 c1 c2 c3 c4 c5
                obtain ⟨M, hM⟩ : ∃ M, M = putL (putL m (base + 16 * n + 4 + 2 * r) 2 hd) (base + 16 * n + 2) 2 ((told + 1) % 65536) := ⟨_, rfl⟩
                rw [← hM]
                have hHD : (FR.take bs.length).headD 0 = hd := by rw [headD_take FR bs.length (by omega) (by omega), hhd]
                have hAD : addR b base n told (FR.take bs.length) bs = M := by rw [hM, addR, ← HDD.out, hHD, HR9.out]
                have HHD := Lib.hid hHD
                have HAD := Lib.hid hAD
                clear hM hHD hAD hw1 hw2 hw3 hw4 hw5 hw6 hrt hwr hr hn00
                obtain ⟨T, hT⟩ : ∃ T, T = (told + 1) % 65536 := ⟨_, rfl⟩
                rw [← hT] at L7
                obtain ⟨ob, hob⟩ : ∃ o, w7.heap[fb]? = some o := ⟨_, Array.getElem?_eq_getElem L7.out.fl⟩
                have S8 : Hid (RaG 3 encQ 119 w w7 [(m1, .cells (qCells base n (.slice p l.length c) T back false) 40 (0, 0)), (m2, .cells (qCells 0 0 (.slice none 0 0) 0 0 false) 40 (0, 0)), (x, .cells #[.int .i64 hd, .slice (some ⟨fb, 0, none⟩) bs.length fc, .int .i64 RO] 119 (0, 0)), (fb, ob)] (.slice none 0 0) []) :=
                  Lib.hid ⟨World.ownsRow_nil _ _ _ _, fun k hk => (by cases hk), L7.out.s.bl, fun q hq => by
                    have hh : w7.heap[q.1]? = some q.2 := by
                      simp only [List.mem_cons, List.not_mem_nil, or_false] at hq
                      rcases hq with rfl | rfl | rfl | rfl
                      · exact L7.out.s.q1
                      · exact L7.out.s.q2
                      · exact L7.out.ch
                      · exact hob
                    exact ⟨hh, fun k hk => (by cases hk)⟩⟩
                have HF7 := Lib.hid L7.out.fr
                have hrow := Lib.hid (HR0.out.kept L7.out.s.bl.size (fun k hk => L7.out.s.bl.block k (HR0.out.lt k hk).2))
                have G1 := Lib.hid L7.out.s.g1
                have G2 := Lib.hid L7.out.s.g2
                have GN := Lib.hid L7.out.s.ne
                have GX1 := Lib.hid L7.out.n1
                have GX2 := Lib.hid L7.out.n2
                have HOB9 := Lib.hid hob
                obtain ⟨ii, zz, y1', y2', y3', y4', y5'⟩ := info_ch
                have Y1 := Lib.hid y1'
                have Y2 := Lib.hid y2'
                have Y3 := Lib.hid y3'
                have Y4 := Lib.hid y4'
                have Y5 := Lib.hid y5'
                have HLL1 : Hid (l.length ≤ 1000000) := Lib.hid (by omega)
                have HLL2 : Hid (l.length + 1 ≤ 100000000) := Lib.hid (by omega)
                obtain ⟨c0, c1, c2, c3, c4, c5⟩ := qu_all L7.out.s.q1
                clear y1' y2' y3' y4' y5' hob L7
                go_upto_region 39 with fail
                go_upto_region 40 with (refine wpList_copyq encQ_len encQ_one (by decide) rfl (.tmp 195) (.tmp 197) 38 rfl ii zz Try.underlying38 Y1.out Y2.out Y3.out (by rw [Y4.out]; decide) Y5.out (by kernel_rfl) (.slice p l.length c) l (by kernel_rfl) hrow.out HLL1.out ?_; intro v8 w8 hrow8 hgr hob8; have S9 := Lib.hid (S8.out.app hgr hrow8 hob8); clear hrow8 hgr hob8)
                clear c0 c1 c2 c3 c4 c5 hrow S8
                have e0 := ch_cell0 (S9.out.get (.tail _ (.tail _ (.head _))))
                have e1 := ch_cell1 (S9.out.get (.tail _ (.tail _ (.head _))))
                have e2 := ch_cell2 (S9.out.get (.tail _ (.tail _ (.head _))))
                have HA := Lib.hid (S9.out.alloc (.cells #[.int .i64 hd, .slice (some ⟨fb, 0, none⟩) bs.length fc, .int .i64 RO] 119))
                have HNW := Lib.hid (ch_new w8 ⟨hd, some ⟨fb, 0, none⟩, fc, FR.take bs.length, RO⟩ bs.length (by rw [List.length_take]; omega))
                go_upto_region 41 with (refine wpList_append_many encQ_len encQ_one (by decide) rfl (.tmp 199) (.tmp 201) 38 rfl ii zz 40 Try.underlying38 Y1.out Y2.out Y3.out Y4.out (by decide) Y5.out v8 l (by kernel_rfl) HA.out.acc [⟨hd, some ⟨fb, 0, none⟩, fc, FR.take bs.length, RO⟩] HLL2.out ⟨w8.heap.size, 0, none⟩ 1 1 rfl (by kernel_rfl) HNW.out ?_; intro v9 w9 hrow9 hgr hbl9; have S10 := Lib.hid (HA.out.app hgr hrow9 hbl9); obtain ⟨p9, c9, hv9⟩ := RowA.shape hrow9; subst hv9; have Q4 : QuAt w9 m1 base n (.slice p l.length c) T back false := S10.out.get (.head _); have k4 := (qu_all Q4).2.2.1; have f4 := qu_free Q4 2; have HQ4 := Lib.hid Q4; clear hrow9 hgr hbl9 Q4)
                obtain ⟨LL, hLL⟩ : ∃ LL, LL = l ++ [(⟨hd, some ⟨fb, 0, none⟩, fc, FR.take bs.length, RO⟩ : Cq)] := ⟨_, rfl⟩
                have hl1 : LL.length = l.length + 1 := by rw [hLL]; simp
                have R9 := S10.out.acc
                rw [← hLL, hl1] at R9
                have hbm1 := (S10.out.fx _ (.head _)).2
                have hbm2 := (S10.out.fx _ (.tail _ (.head _))).2
                rw [← hLL, hl1] at hbm1 hbm2
                have hne : ∀ q, q ≠ m1 → (w9.setCell ⟨m1, 2, none⟩ (.slice p9 (l.length + 1) c9)).heap[q]? = w9.heap[q]? := fun q hq => Below.heap_setCell _ _ _ _ hq
                have Q5 : QuAt (w9.setCell ⟨m1, 2, none⟩ (.slice p9 (l.length + 1) c9)) m1 base n (.slice p9 (l.length + 1) c9) T back false := set_block HQ4.out 2 _
                have Q6 : QuAt (w9.setCell ⟨m1, 2, none⟩ (.slice p9 (l.length + 1) c9)) m2 0 0 (.slice none 0 0) 0 0 false := (hne m2 GN.out.symm).trans (S10.out.get (.tail _ (.head _)))
                have X5 : (w9.setCell ⟨m1, 2, none⟩ (.slice p9 (l.length + 1) c9)).heap[x]? = some (.cells #[.int .i64 hd, .slice (some ⟨fb, 0, none⟩) bs.length fc, .int .i64 RO] 119 (0, 0)) := (hne x GX1.out).trans (S10.out.get (.tail _ (.tail _ (.head _))))
                have F5 : (w9.setCell ⟨m1, 2, none⟩ (.slice p9 (l.length + 1) c9)).heap[fb]? = some ob := (hne fb hfm).trans (S10.out.get (.tail _ (.tail _ (.tail _ (.head _)))))
                have BL5 : Below w.heap.size w (w9.setCell ⟨m1, 2, none⟩ (.slice p9 (l.length + 1) c9)) := S10.out.bl.setCell (p := ⟨m1, 2, none⟩) G1.out _
                have R5 : RowA 3 encQ 119 (w9.setCell ⟨m1, 2, none⟩ (.slice p9 (l.length + 1) c9)) (.slice p9 (l.length + 1) c9) LL := R9.kept (by simp [World.setCell]) (fun b hb => hne b (hbm1 b hb))
                clear hne R9 S10 HQ4 hbm1
                generalize w9.setCell _ _ = W5 at Q5 Q6 X5 F5 BL5 R5 ⊢
                refine wp_region_noPanic ?_
                refine region_held (S := fun W => QuAt W m1 base n (.slice p9 (l.length + 1) c9) T back false ∧ W.heap[x]? = some (.cells #[.int .i64 hd, .slice (some ⟨fb, 0, none⟩) bs.length fc, .int .i64 RO] 119 (0, 0))) (by kernel_rfl) (fun V d => ⟨(d.block _).trans Q5, (d.block _).trans X5⟩) (fun V d hS => ?_)
                have Q6V : QuAt V m2 0 0 (.slice none 0 0) 0 0 false := (d.block m2).trans Q6
                have F5V := (d.block fb).trans F5
                have BLV := BL5.trans ((Below.of_none d.grown).mono BL5.size)
                have R5V := R5.kept (w' := V) (Below.of_none d.grown).size (fun b hb => d.block b)
                clear Q5 Q6 X5 F5 BL5 R5 d
                refine wpAnyH_take (i := 0) (oi := ⟨some 204, Op.load 40 (Operand.tmp 3), _, _, _, none⟩) (v := (.agg #[.int .i64 base, .int .i64 n, .slice p9 (l.length + 1) c9, .int .i64 T, .int .i64 back, .bool false])) rfl (by kernel_rfl) (by kernel_rfl) (by kernel_rfl) (fun _ _ _ h => h) (Or.inl ⟨by rfl, fun w' h' => ?_⟩) hS ?_
                · have c0 := (qu_all h'.1).1
                  have c1 := (qu_all h'.1).2.1
                  have c2 := (qu_all h'.1).2.2.1
                  have c3 := (qu_all h'.1).2.2.2.1
                  have c4 := (qu_all h'.1).2.2.2.2.1
                  have c5 := (qu_all h'.1).2.2.2.2.2
                  clear h'
                  go_simp
                simp only [Act.put]
                refine wpAnyH_take (i := 1) (oi := ⟨some 205, Op.move (Operand.tmp 1), _, _, _, none⟩) (v := (.string ⟨M.toArray⟩)) rfl (by kernel_rfl) (by kernel_rfl) (by kernel_rfl) (fun _ _ _ h => h) (Or.inl ⟨by rfl, fun w' h' => ?_⟩) hS ?_
                · clear h'
                  go_simp
                simp only [Act.put]
                refine wpAnyH_take (i := 2) (oi := ⟨some 206, Op.fieldAddr 119 (Operand.tmp 13) 0, _, _, _, none⟩) (v := (.pointer (some ⟨x, 0, none⟩))) rfl (by kernel_rfl) (by kernel_rfl) (by kernel_rfl) (fun _ _ _ h => h) (Or.inl ⟨by rfl, fun w' h' => ?_⟩) hS ?_
                · clear h'
                  go_simp
                simp only [Act.put]
                refine wpAnyH_take (i := 3) (oi := ⟨some 207, Op.load 3 (Operand.tmp 206), _, _, _, none⟩) (v := (.int .i64 hd)) rfl (by kernel_rfl) (by kernel_rfl) (by kernel_rfl) (fun _ _ _ h => h) (Or.inl ⟨by rfl, fun w' h' => ?_⟩) hS ?_
                · have c0 := ch_cell0 h'.2
                  clear h'
                  go_simp
                simp only [Act.put]
                obtain ⟨hst, hp2⟩ := qu_store Q6V base n p9 (l.length + 1) c9 T back false
                have hS7 : QuAt (V.setRow m2 #[.int .i64 base, .int .i64 n, .slice p9 (l.length + 1) c9, .int .i64 T, .int .i64 back, .bool false]) m1 base n (.slice p9 (l.length + 1) c9) T back false ∧ (V.setRow m2 #[.int .i64 base, .int .i64 n, .slice p9 (l.length + 1) c9, .int .i64 T, .int .i64 back, .bool false]).heap[x]? = some (.cells #[.int .i64 hd, .slice (some ⟨fb, 0, none⟩) bs.length fc, .int .i64 RO] 119 (0, 0)) := ⟨(setRow_other _ _ _ _ GN.out).trans hS.1, (setRow_other _ _ _ _ GX2.out).trans hS.2⟩
                have BL7 := below_setRow BLV G2.out #[.int .i64 base, .int .i64 n, .slice p9 (l.length + 1) c9, .int .i64 T, .int .i64 back, .bool false]
                have R7 := R5V.kept (w' := V.setRow m2 #[.int .i64 base, .int .i64 n, .slice p9 (l.length + 1) c9, .int .i64 T, .int .i64 back, .bool false]) (by simp [World.setRow]) (fun b hb => setRow_other _ _ _ _ (hbm2 b hb))
                have F7 := (setRow_other V m2 fb #[.int .i64 base, .int .i64 n, .slice p9 (l.length + 1) c9, .int .i64 T, .int .i64 back, .bool false] hfm2).trans F5V
                refine wpAnyH_ready (rs := [4]) (by kernel_rfl) (by simp) ?_
                refine rdy_store_at (n := 4) rfl rfl 40 (Operand.tmp 6) (Operand.tmp 204) rfl rfl (.agg #[.int .i64 base, .int .i64 n, .slice p9 (l.length + 1) c9, .int .i64 T, .int .i64 back, .bool false]) m2 0 (by kernel_rfl) (by kernel_rfl) hst hS7 ?_
                clear hst
                generalize V.setRow _ _ = V7 at hS7 hp2 BL7 R7 F7 ⊢
                refine wpAnyH_take (i := 5) (oi := ⟨some 7, Op.assign (Operand.tmp 205), _, _, _, none⟩) (v := (.string ⟨M.toArray⟩)) rfl (by kernel_rfl) (by kernel_rfl) (by kernel_rfl) (fun _ _ _ h => h) (Or.inl ⟨by rfl, fun w' h' => ?_⟩) hS7 ?_
                · clear h'
                  go_simp
                simp only [Act.put]
                refine wpAnyH_take (i := 6) (oi := ⟨some 8, Op.assign (Operand.tmp 207), _, _, _, none⟩) (v := (.int .i64 hd)) rfl (by kernel_rfl) (by kernel_rfl) (by kernel_rfl) (fun _ _ _ h => h) (Or.inl ⟨by rfl, fun w' h' => ?_⟩) hS7 ?_
                · clear h'
                  go_simp
                simp only [Act.put]
                refine wpAnyH_take (i := 7) (oi := ⟨some 9, Op.assign (Operand.const (Value.int IntKind.i64 0)), _, _, _, none⟩) (v := (.int .i64 0)) rfl (by kernel_rfl) (by kernel_rfl) (by kernel_rfl) (fun _ _ _ h => h) (Or.inl ⟨by rfl, fun w' h' => ?_⟩) hS7 ?_
                · clear h'
                  go_simp
                simp only [Act.put]
                refine wpAnyH_done (by kernel_rfl) (NoPanic.normal ?_) _
                try go_wp2_with fail
                have hI9 : IsInts V7 (.slice (some ⟨fb, 0, none⟩) (FR.take bs.length).length fc) (FR.take bs.length) := ⟨_, _, rfl, by rw [List.length_take]; omega, fun _ => ⟨fb, 0, rfl, fun i hi => by
                  have h1 : i < FR.length := by rw [List.length_take] at hi; omega
                  rw [Nat.zero_add, World.cell?_of_block (w := w7) (a := ⟨fb, i, none⟩) (F7.trans HOB9.out.symm), HF7.out i h1, List.getElem_take]⟩⟩
                exact bodyPost_ret (v := .tuple #[.agg #[.int .i64 base, .int .i64 n, .slice p9 (l.length + 1) c9, .int .i64 T, .int .i64 back, .bool false], .string ⟨M.toArray⟩, .int .i64 hd, .int .i64 0]) (results_row4 _ 6 7 8 9 40 (by kernel_rfl) _ m2 _ _ _ _ _ _ rfl rfl rfl rfl hp2 Try.underlying40 rfl (by kernel_rfl)) rfl ⟨BL7, .inr ⟨rfl, p9, c9, LL, by rw [HAD.out, HHD.out, hl1, hT], by rw [hl1]; exact R7, fun y hy => by
                  rw [hLL] at hy
                  rcases List.mem_append.1 hy with hy | hy
                  · exact (HI0.out y hy).kept (fun a ha => by
                      obtain ⟨u, hu⟩ := Option.isSome_iff_exists.1 ha
                      exact BL7.cell (World.block_lt_of_cell? w a hu))
                  · rw [List.mem_singleton.1 hy]
                    exact hI9, fun y hy => by
                  rw [hLL] at hy
                  rcases List.mem_append.1 hy with hy | hy
                  · exact .inl hy
                  · rw [List.mem_singleton.1 hy]
                    exact .inr ⟨fb, rfl, HGF.out⟩, by rw [hLL, List.map_append, HHD.out, ← HRO.out]; rfl⟩⟩

end Go.Proofs.Ytjelgifijhcnnaa
