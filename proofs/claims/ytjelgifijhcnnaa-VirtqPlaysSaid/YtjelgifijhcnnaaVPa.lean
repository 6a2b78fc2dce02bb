/-
  Layer 2, the document's own queue: what Add looks at. Conditions: a queue has at most 64 entries.
-/
import Derived.Test.YtjelgifijhcnnaaVPp
import Derived.Test.YtjelgifijhcnnaaOffer
import Derived.Test.YtjelgifijhcnnaaDescr
import Derived.Test.YtjelgifijhcnnaaPort
namespace Go.Proofs.Ytjelgifijhcnnaa
open Go.RowKit Go.Sort
set_option linter.unusedVariables false

set_option maxRecDepth 100000 in
set_option maxHeartbeats 1000000 in
theorem free_own (base : Int) (n : Nat) (told back : Int) (broken : Bool) (v : Value) (l : List Ch) (w : World) (hn : n ≤ 64) (hv : IsChs w v l) :
    Calls Try.prog 50 #[.agg #[.int .i64 base, .int .i64 n, v, .int .i64 told, .int .i64 back, .bool broken]] w
      fun e w' => (∃ r, e = .returned r ∧ ∃ B, w.heap.size ≤ B ∧ w'.ownsRow B 3 1 r (freeL l n).length ((freeL l n).map (Value.int .i64))) ∧ w.grownBy w' none := by
  have hv0 := hv
  obtain ⟨p, cap, rfl, hl, _⟩ := hv0
  obtain ⟨i0, hi, hz0, hz1, hz2⟩ := info_parts info_int
  go_enter Try.func50, Try.ntmps50
  go_wp2
  generalize hw0 : w.alloc _ = w0
  have x1 : w0.cell? ⟨w.heap.size, 1, none⟩ = some (.int .i64 n) := by rw [← hw0, cell_of_block (heap_alloc_new w _)]; rfl
  have x2 : w0.cell? ⟨w.heap.size, 2, none⟩ = some (.slice p l.length cap) := by rw [← hw0, cell_of_block (heap_alloc_new w _)]; rfl
  have xs : w0.heap.size = w.heap.size + 1 := by rw [← hw0]; simp
  have kv : w.grownBy w0 none := by rw [← hw0]; exact World.grownBy_alloc _ _ _
  have hv1 := hv.kept (kept_grown kv)
  have XS := Lib.hid xs
  clear hw0 xs hv
  go_loopw [3, 4] (fun v i wr => ∃ k : Nat, k ≤ n ∧ i = .int .i64 k ∧ wr.ownsRow w0.heap.size 3 1 v (freeL l k).length ((freeL l k).map (Value.int .i64)) ∧ Below w0.heap.size w0 wr) (fun _ i _ => n - (intOf i).toNat)
  case atStart => exact ⟨0, Nat.zero_le _, rfl, ⟨rfl, .inl ⟨rfl, rfl⟩⟩, Below.refl _ _⟩
  case round =>
    obtain ⟨k, hk, rfl, hown, hb⟩ := hrel
    have y1 : wr.cell? ⟨w.heap.size, 1, none⟩ = some (.int .i64 n) := by rw [hb.cell (by show w.heap.size < _; rw [XS.out]; omega)]; exact x1
    have y2 : wr.cell? ⟨w.heap.size, 2, none⟩ = some (.slice p l.length cap) := by rw [hb.cell (by show w.heap.size < _; rw [XS.out]; omega)]; exact x2
    have hv2 : IsChs wr (.slice p l.length cap) l := hv1.kept fun a h => by
      obtain ⟨u, hu⟩ := Option.isSome_iff_exists.1 h
      exact hb.cell (World.block_lt_of_cell? w0 a hu)
    by_cases hlt : k < n
    · go_wp2_with fail
      go_loop [5, 6, 7] (fun t kk _ => ∃ c : Nat, c ≤ l.length ∧ kk = .int .i64 c ∧ t = .bool (takenBy (l.take c) k)) (fun _ kk _ => l.length - (intOf kk).toNat)
      case atStart => exact ⟨0, Nat.zero_le _, rfl, rfl⟩
      case round =>
        obtain ⟨c, hcl, rfl, rfl⟩ := hrel
        by_cases hlt2 : c < l.length
        · obtain ⟨b, o, ch, q, m, rfl, hch, hcell, hints⟩ := hv2.at_ c hlt2
          have hil := hints.le
          have hnext : takenBy (l.take (c + 1)) k = (takenBy (l.take c) k || ch.of.any (· == (k : Int))) := any_take_succ l (fun c => c.of.any (· == (k : Int))) c ch hch
          have HN := Lib.hid hnext
          clear hnext hch hv1 hv2
          generalize takenBy (l.take c) k = t0 at HN ⊢
          go_wp2_with fail
          go_loop [5, 7] (fun t j => ∃ d : Nat, d ≤ ch.of.length ∧ j = .int .i64 d ∧ t = .bool (t0 || (ch.of.take d).any (· == (k : Int)))) (fun _ j => ch.of.length - (intOf j).toNat)
          case atStart => exact ⟨0, Nat.zero_le _, rfl, by simp⟩
          case round =>
            obtain ⟨d, hd, rfl, rfl⟩ := hrel
            by_cases hlt3 : d < ch.of.length
            · obtain ⟨b2, o2, x, rfl, hx, hcx⟩ := hints.at_ d hlt3
              have hs := any_take_succ ch.of (· == (k : Int)) d x hx
              have HS := Lib.hid hs
              clear hs hx hints
              cases ht : (t0 || (ch.of.take d).any (· == (k : Int))) with
              | true =>
                have HT := Lib.hid ht
                clear ht
                go_wp2_with fail
                go_round
                case rel => exact ⟨d + 1, by omega, by go_num, by rw [HS.out, ← Bool.or_assoc, HT.out, Bool.true_or]⟩
                case measure => simp [intOf]; omega
              | false =>
                have HT := Lib.hid ht
                clear ht
                go_wp2_with fail
                go_round
                case rel => exact ⟨d + 1, by omega, by go_num, by rw [HS.out, ← Bool.or_assoc, HT.out, Bool.false_or]⟩
                case measure => simp [intOf]; omega
            · have hd3 : decide ((d : Int) < ch.of.length) = false := decide_eq_false (by omega)
              have hz : ch.of.take d = ch.of := List.take_of_length_le (by omega)
              have HZ := Lib.hid hz
              clear hz hints
              go_wp2_with fail
              go_round
              case rel => exact ⟨c + 1, by omega, by go_num, by rw [HN.out, HZ.out]⟩
              case measure => simp [intOf]; omega
        · have hz : takenBy (l.take c) k = takenBy l k := by rw [List.take_of_length_le (by omega)]
          have hsucc := freeL_succ l k
          have hle := freeL_le l k
          have hcd : decide ((c : Int) < l.length) = false := decide_eq_false (by omega)
          rw [hz]
          clear hz hv1 hv2
          cases ht : takenBy l k with
          | true =>
            rw [ht, if_pos rfl, List.append_nil] at hsucc
            have HU := Lib.hid hsucc
            clear hsucc
            go_wp2_with fail
            go_roundw
            case rel => exact ⟨k + 1, by omega, by go_num, by rw [HU.out]; exact hown, hb⟩
            case measure => simp [intOf]; omega
          | false =>
            rw [ht, if_neg (by decide)] at hsucc
            have HU := Lib.hid hsucc
            clear hsucc
            have hbs := hb.size
            go_wp2_with (at_builtin; refine wpList_append_own _ rfl _ _ 43 rfl w0.heap.size 3 i0 (.int .i64 0) 1 8 Try.underlying43 hi hz0 hz1 hz2 rfl (by decide) _ _ _ rfl (hown.alloc _) ⟨wr.heap.size, 0, none⟩ 1 1 [.int .i64 (k : Int)] rfl rfl ?c1 ?c2 ?c3 ?c4 ?c5 ?_)
            case c2 => first | rfl | (simp [Value.oneCell']; done)
            case c3 => unfold maxLen; omega
            case c4 => omega
            case c5 => first | omega | (simp; omega)
            intro v' w2 hown' hgrow _
            have hb2 : Below w0.heap.size w0 w2 := (hb.alloc hb.size _).grown hgrow (by simp; omega) (own_ge hown)
            go_wp2_with fail
            go_roundw
            case rel => exact ⟨k + 1, by omega, by go_num, by rw [HU.out, List.length_append, List.map_append]; exact hown', hb2⟩
            case measure => simp [intOf]; omega
    · have hkn : k = n := by omega
      subst hkn
      have hd0 : decide ((k : Int) < k) = false := decide_eq_false (by omega)
      clear hv1 hv2
      have hgr : w.grownBy wr none := ⟨hb.os.trans kv.os, hb.tape.trans kv.tape, hb.output.trans kv.output, Nat.le_trans kv.size hb.size, fun j hj _ => by
        rw [hb.block j (by rw [XS.out]; omega), kv.block j hj (by simp)]⟩
      go_wp2_with fail
      go_ret
      exact ⟨⟨_, rfl, _, by rw [XS.out]; omega, hown⟩, hgr⟩

/-- The free descriptors, a slice with room. -/
theorem free_row (base : Int) (n : Nat) (told back : Int) (broken : Bool) (v : Value) (l : List Ch) (w : World) (hn : n ≤ 64) (hv : IsChs w v l) (F : List Int) (hF : F = freeL l n) :
    Calls Try.prog 50 #[.agg #[.int .i64 base, .int .i64 n, v, .int .i64 told, .int .i64 back, .bool broken]] w
      fun e w' => ∃ p c, e = .returned (.slice p F.length c) ∧ F.length ≤ c ∧ (0 < F.length → ∃ fb cur, p = some ⟨fb, 0, none⟩ ∧ w.heap.size ≤ fb ∧ w'.heap[fb]? = some (.cells cur 3 (0, 0)) ∧ ∀ (i : Nat) (h : i < F.length), w'.cell? ⟨fb, i, none⟩ = some (.int .i64 F[i])) ∧ Below w.heap.size w w' := by
  subst hF
  refine (free_own base n told back broken v l w hn hv).mono ?_
  rintro e w' ⟨⟨r, rfl, B, hBw, ho⟩, g⟩
  rcases ho.2 with ⟨rfl, h0⟩ | ⟨fb, cap, cur, rfl, hB, hb, hc, hm, _⟩
  · exact ⟨none, 0, by rw [h0], by omega, fun h => absurd h (by omega), Below.of_none g⟩
  · refine ⟨some ⟨fb, 0, none⟩, cap, rfl, hc, fun _ => ⟨fb, cur, rfl, Nat.le_trans hBw hB, hb, fun i hi => ?_⟩, Below.of_none g⟩
    rw [ho.cellAt i (by omega), List.getElem?_map, List.getElem?_eq_getElem hi]
    rfl
/-- A chain of the document's, as such. -/
def toCh (x : Cq) : Ch := ⟨x.head, x.of, x.most⟩
theorem chs_of_row {w : World} {p : Option Addr} {c : Nat} {l : List Cq} (h : RowA 3 encQ 119 w (.slice p l.length c) l) (hI : ∀ x ∈ l, IsInts w (.slice x.op x.of.length x.oc) x.of) (hl : l.length ≤ 1000) : IsChs w (.slice p l.length c) (l.map toCh) := by
  refine ⟨p, c, by rw [List.length_map], by rw [List.length_map]; exact hl, fun hp => ?_⟩
  rw [List.length_map] at hp
  obtain ⟨b, cap, hv, hcap, hcm, hbl, hfz, hE⟩ := RowA.elem encQ_len h hp
  injection hv with hv _ hc
  subst hv hc
  refine ⟨b, 0, rfl, fun i hi => ?_⟩
  have hi' : i < l.length := by rw [List.length_map] at hi; exact hi
  have e := hE i hi'
  rw [List.getElem_map]
  refine ⟨.slice l[i].op l[i].of.length l[i].oc, ?_, ?_, ?_, hI _ (List.getElem_mem hi')⟩
  · rw [Nat.zero_add]; have := e 0 _ rfl; rw [Nat.add_zero] at this; exact this
  · rw [Nat.zero_add]; exact e 1 _ rfl
  · rw [Nat.zero_add]; exact e 2 _ rfl
/-- Each buffer has bytes, and stands where it may, if they are in order. -/
theorem okFrom_prev : ∀ (l : List Bf) (pw : Bool) (i : Nat) (x : Bf), okFrom pw l = true → l[i]? = some x → 1 ≤ x.n
  | [], _, i, x, _, h => by simp at h
  | y :: l, pw, 0, x, h, hx => by
    simp only [List.getElem?_cons_zero, Option.some.injEq] at hx
    subst hx
    simp only [okFrom, Bool.and_eq_true, Bool.not_eq_true', Bool.or_eq_false_iff, decide_eq_false_iff_not] at h
    omega
  | y :: l, pw, i + 1, x, h, hx => by
    rw [List.getElem?_cons_succ] at hx
    simp only [okFrom, Bool.and_eq_true] at h
    exact okFrom_prev l y.wr i x h.2 hx
theorem room_succ {l : List Bf} {k : Nat} {x : Bf} (h : l[k]? = some x) : roomOf (l.take (k + 1)) = roomOf (l.take k) + (if x.wr then x.n else 0) := by
  have hk := (List.getElem?_eq_some_iff.1 h).1
  unfold roomOf
  rw [List.take_succ_eq_append_getElem hk, List.map_append, List.sum_append, (List.getElem?_eq_some_iff.1 h).2]
  simp
theorem outside_succ {b : List UInt8} {l : List Bf} {k : Nat} {x : Bf} (h : l[k]? = some x) : outside b (l.take (k + 1)) = (outside b (l.take k) || !(textE b x.a x.n == 0)) := by
  have hk := (List.getElem?_eq_some_iff.1 h).1
  unfold outside
  rw [List.take_succ_eq_append_getElem hk, List.any_append, (List.getElem?_eq_some_iff.1 h).2]
  simp
theorem outside_of {b : List UInt8} {l : List Bf} {k : Nat} (h : outside b (l.take k) = true) : outside b l = true := by
  unfold outside at h ⊢
  obtain ⟨x, hx, hp⟩ := List.any_eq_true.1 h
  exact List.any_eq_true.2 ⟨x, List.mem_of_mem_take hx, hp⟩

/-- The queue that came in, and the one that is answered, a block each. -/
structure AdS (w W : World) (m1 m2 : Nat) (base n : Int) (v : Value) (told back : Int) (broken : Bool) : Prop where
  q1 : QuAt W m1 base n v told back broken
  q2 : QuAt W m2 0 0 (.slice none 0 0) 0 0 false
  bl : Below w.heap.size w W
  g1 : w.heap.size ≤ m1
  g2 : w.heap.size ≤ m2
  ne : m1 ≠ m2
theorem AdS.grow {w W W' : World} {m1 m2 : Nat} {base n told back : Int} {v : Value} {broken : Bool} (h : AdS w W m1 m2 base n v told back broken) (b : Below W.heap.size W W') : AdS w W' m1 m2 base n v told back broken :=
  ⟨h.q1.grow b, h.q2.grow b, h.bl.trans (b.mono h.bl.size), h.g1, h.g2, h.ne⟩
theorem ads_new (w : World) (base n : Int) (v : Value) (told back : Int) (broken : Bool) : ∃ m1 m2, w.heap.size = m1 ∧ w.heap.size + 1 = m2 ∧ AdS w ((w.alloc (.cells #[.int .i64 base, .int .i64 n, v, .int .i64 told, .int .i64 back, .bool broken] 40)).alloc (.cells #[.int .i64 0, .int .i64 0, .slice none 0 0, .int .i64 0, .int .i64 0, .bool false] 40)) m1 m2 base n v told back broken := by
  refine ⟨_, _, rfl, rfl, ?_, ?_, ?_, Nat.le_refl _, Nat.le_succ _, by omega⟩
  · exact QuAt.grow (heap_alloc_new w _) ((Below.refl _ _).alloc (Nat.le_refl _) _)
  · exact alloc_two w _ _
  · exact ((Below.refl _ _).alloc (Nat.le_refl _) _).alloc (by simp) _
/-- A chain that is laid beside them, and the free row. -/
structure AdL (w W : World) (m1 m2 x : Nat) (base n : Int) (v : Value) (told back : Int) (F : List Int) (fb fc k : Nat) (hd mo : Int) : Prop where
  s : AdS w W m1 m2 base n v told back false
  ch : W.heap[x]? = some (.cells #[.int .i64 hd, .slice (some ⟨fb, 0, none⟩) k fc, .int .i64 mo] 119 (0, 0))
  fr : ∀ (i : Nat) (h : i < F.length), W.cell? ⟨fb, i, none⟩ = some (.int .i64 F[i])
  gx : w.heap.size ≤ x
  n1 : x ≠ m1
  n2 : x ≠ m2
  nf : fb ≠ x
  fl : fb < W.heap.size
section
variable {w W W' : World} {m1 m2 x : Nat} {base n : Int} {v : Value} {told back : Int} {F : List Int} {fb fc k : Nat} {hd mo : Int}
theorem AdL.grow (h : AdL w W m1 m2 x base n v told back F fb fc k hd mo) (b : Below W.heap.size W W') : AdL w W' m1 m2 x base n v told back F fb fc k hd mo :=
  ⟨h.s.grow b, (b.block x (lt_of_block h.ch)).trans h.ch, fun i hi => (b.cell (p := ⟨fb, i, none⟩) h.fl).trans (h.fr i hi), h.gx, h.n1, h.n2, h.nf, Nat.lt_of_lt_of_le h.fl b.size⟩
theorem AdL.most (h : AdL w W m1 m2 x base n v told back F fb fc k hd mo) (mo' : Int) : AdL w (W.setCell ⟨x, 2, none⟩ (.int .i64 mo')) m1 m2 x base n v told back F fb fc k hd mo' := by
  have hne : ∀ q, q ≠ x → (W.setCell ⟨x, 2, none⟩ (.int .i64 mo')).heap[q]? = W.heap[q]? := fun q hq => Below.heap_setCell _ _ _ _ hq
  refine ⟨⟨(hne m1 h.n1.symm).trans h.s.q1, (hne m2 h.n2.symm).trans h.s.q2, h.s.bl.setCell h.gx _, h.s.g1, h.s.g2, h.s.ne⟩, ?_, fun i hi => (World.cell?_of_block (w := W) (a := ⟨fb, i, none⟩) (hne fb h.nf)).trans (h.fr i hi), h.gx, h.n1, h.n2, h.nf, by have := h.fl; simpa [World.setCell] using this⟩
  have := set_block h.ch 2 (.int .i64 mo')
  exact this
theorem AdL.tellIt (h : AdL w W m1 m2 x base n v told back F fb fc k hd mo) (hf : fb ≠ m1) (t' : Int) : AdL w (W.setCell ⟨m1, 3, none⟩ (.int .i64 t')) m1 m2 x base n v t' back F fb fc k hd mo := by
  have hne : ∀ q, q ≠ m1 → (W.setCell ⟨m1, 3, none⟩ (.int .i64 t')).heap[q]? = W.heap[q]? := fun q hq => Below.heap_setCell _ _ _ _ hq
  refine ⟨⟨?_, (hne m2 h.s.ne.symm).trans h.s.q2, h.s.bl.setCell h.s.g1 _, h.s.g1, h.s.g2, h.s.ne⟩, (hne x h.n1).trans h.ch, fun i hi => (World.cell?_of_block (w := W) (a := ⟨fb, i, none⟩) (hne fb hf)).trans (h.fr i hi), h.gx, h.n1, h.n2, h.nf, by have := h.fl; simpa [World.setCell] using this⟩
  have := set_block (show W.heap[m1]? = some (.cells (qCells base n v told back false) 40 (0, 0)) from h.s.q1) 3 (.int .i64 t')
  exact this
end
/-- The memory's bytes behind Add. -/
def addR (b : List UInt8) (base : Int) (n : Nat) (told : Int) (ns : List Int) (bs : List Bf) : List UInt8 :=
  putL (putL (descs base ns bs b) (base + 16 * n + 4 + 2 * (told % n)) 2 (ns.headD 0)) (base + 16 * n + 2) 2 ((told + 1) % 65536)
/-- What bars an offer. -/
def addE (b : List UInt8) (ls : List Ch) (n : Nat) (broken : Bool) (bs : List Bf) : Int := if broken then 11 else refuseE b bs (freeL ls n).length
def AddRef (w : World) (base : Int) (n : Nat) (p : Option Addr) (c : Nat) (l : List Cq) (b : List UInt8) (told back : Int) (broken : Bool) (bs : List Bf) (ns : List Int) (E : Int) (e : Ending) (w' : World) : Prop :=
  Below w.heap.size w w' ∧ ((E ≠ 0 ∧ e = .returned (.tuple #[.agg #[.int .i64 base, .int .i64 n, .slice p l.length c, .int .i64 told, .int .i64 back, .bool broken], .string ⟨b.toArray⟩, .int .i64 0, .int .i64 E])) ∨
  (E = 0 ∧ ∃ p' c' l', e = .returned (.tuple #[.agg #[.int .i64 base, .int .i64 n, .slice p' (List.length l') c', .int .i64 ((told + 1) % 65536), .int .i64 back, .bool broken], .string ⟨(addR b base n told ns bs).toArray⟩, .int .i64 (ns.headD 0), .int .i64 0]) ∧
    RowA 3 encQ 119 w' (.slice p' l'.length c') l' ∧ (∀ x ∈ l', IsInts w' (.slice x.op x.of.length x.oc) x.of) ∧ (∀ x ∈ l', x ∈ l ∨ ∃ k, x.op = some ⟨k, 0, none⟩ ∧ w.heap.size ≤ k) ∧ l'.map toCh = l.map toCh ++ [⟨ns.headD 0, ns, roomOf bs⟩]))

end Go.Proofs.Ytjelgifijhcnnaa
