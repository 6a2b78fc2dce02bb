/-
  The document's queue of layer 2 as a value: its chains in memory, and the contract of its free descriptors. Conditions: at most 64 entries; the lists are no longer than an int can tell.
-/
import Derived.Test.YtjelgifijhcnnaaRefTwo
import Derived.WalkSmall
namespace Go.Proofs.Ytjelgifijhcnnaa
open Go.RowKit Go.Sort

/-- The slice reads as these ints. -/
def IsInts (w : World) (v : Value) (l : List Int) : Prop :=
  ∃ (p : Option Addr) (cap : Nat), v = .slice p l.length cap ∧ l.length ≤ 1000 ∧ (0 < l.length → ∃ b o, p = some ⟨b, o, none⟩ ∧ ∀ (i : Nat) (h : i < l.length), w.cell? ⟨b, o + i, none⟩ = some (.int .i64 l[i]))

/-- A chain that is out. -/
structure Ch where
  head : Int
  of : List Int
  most : Int

/-- The chain's three cells lie from o on in block b. -/
def ChAt (w : World) (b o : Nat) (c : Ch) : Prop :=
  ∃ v, w.cell? ⟨b, o, none⟩ = some (.int .i64 c.head) ∧ w.cell? ⟨b, o + 1, none⟩ = some v ∧ w.cell? ⟨b, o + 2, none⟩ = some (.int .i64 c.most) ∧ IsInts w v c.of

/-- The slice reads as these chains. -/
def IsChs (w : World) (v : Value) (l : List Ch) : Prop :=
  ∃ (p : Option Addr) (cap : Nat), v = .slice p l.length cap ∧ l.length ≤ 1000 ∧ (0 < l.length → ∃ b o, p = some ⟨b, o, none⟩ ∧ ∀ (i : Nat) (h : i < l.length), ChAt w b (o + i * 3) l[i])

theorem IsInts.kept {w w' : World} {v : Value} {l : List Int} (h : IsInts w v l) (k : ∀ a, (w.cell? a).isSome → w'.cell? a = w.cell? a) : IsInts w' v l := by
  obtain ⟨p, cap, rfl, hl, hc⟩ := h
  refine ⟨p, cap, rfl, hl, fun hp => ?_⟩
  obtain ⟨b, o, rfl, hi⟩ := hc hp
  exact ⟨b, o, rfl, fun i h => by rw [k _ (by rw [hi i h]; rfl)]; exact hi i h⟩
theorem ChAt.kept {w w' : World} {b o : Nat} {c : Ch} (h : ChAt w b o c) (k : ∀ a, (w.cell? a).isSome → w'.cell? a = w.cell? a) : ChAt w' b o c := by
  obtain ⟨v, h1, h2, h3, h4⟩ := h
  exact ⟨v, by rw [k _ (by rw [h1]; rfl)]; exact h1, by rw [k _ (by rw [h2]; rfl)]; exact h2, by rw [k _ (by rw [h3]; rfl)]; exact h3, h4.kept k⟩
theorem IsChs.kept {w w' : World} {v : Value} {l : List Ch} (h : IsChs w v l) (k : ∀ a, (w.cell? a).isSome → w'.cell? a = w.cell? a) : IsChs w' v l := by
  obtain ⟨p, cap, rfl, hl, hc⟩ := h
  refine ⟨p, cap, rfl, hl, fun hp => ?_⟩
  obtain ⟨b, o, rfl, hi⟩ := hc hp
  exact ⟨b, o, rfl, fun i h => (hi i h).kept k⟩

theorem kept_grown {w w' : World} (k : w.grownBy w' none) : ∀ a, (w.cell? a).isSome → w'.cell? a = w.cell? a := fun a h => by
  obtain ⟨u, hu⟩ := Option.isSome_iff_exists.1 h
  exact World.cell?_of_block (k.block a.block (World.block_lt_of_cell? w a hu) (by simp))

/-- Is descriptor i taken? -/
def takenBy (l : List Ch) (i : Int) : Bool := l.any fun c => c.of.any (· == i)
/-- The free descriptors. -/
def freeL (l : List Ch) (n : Nat) : List Int := ((List.range n).filter fun (i : Nat) => !takenBy l i).map fun (i : Nat) => (i : Int)

theorem any_take_succ {α : Type} (l : List α) (p : α → Bool) (k : Nat) (a : α) (h : l[k]? = some a) : (l.take (k + 1)).any p = ((l.take k).any p || p a) := by
  rw [List.take_add_one, h]
  simp
theorem freeL_succ (l : List Ch) (n : Nat) : freeL l (n + 1) = freeL l n ++ if takenBy l n then [] else [(n : Int)] := by
  unfold freeL
  rw [List.range_succ, List.filter_append, List.map_append]
  cases h : takenBy l n <;> simp [h]
theorem freeL_le (l : List Ch) (n : Nat) : (freeL l n).length ≤ n := by
  unfold freeL
  rw [List.length_map]
  exact Nat.le_trans (List.length_filter_le _ _) (by simp)

/-- The document's queue as a value. -/
def queueV (base n : Int) (v : Value) (told back : Int) (broken : Bool) : Value := .agg #[.int .i64 base, .int .i64 n, v, .int .i64 told, .int .i64 back, .bool broken]

theorem info_int : (Try.prog.info? 3).map (fun i => (i.zero, i.size, i.bytes)) = some (some (.int .i64 0), 1, 8) := by kernel_rfl

theorem IsChs.at_ {w : World} {p : Option Addr} {cap : Nat} {l : List Ch} (h : IsChs w (.slice p l.length cap) l) (i : Nat) (hi : i < l.length) :
    ∃ b o c q m, p = some ⟨b, o, none⟩ ∧ l[i]? = some c ∧ w.cell? ⟨b, o + i * 3 + 1, none⟩ = some (.slice q c.of.length m) ∧ IsInts w (.slice q c.of.length m) c.of := by
  obtain ⟨p', cap', e, hl, hc⟩ := h
  injection e with e1 e2 e3
  subst e1
  obtain ⟨b, o, rfl, hi'⟩ := hc (by omega)
  obtain ⟨v, h1, h2, h3, h4⟩ := hi' i hi
  have h5 := h4
  obtain ⟨q, m, rfl, _⟩ := h5
  exact ⟨b, o, l[i], q, m, rfl, List.getElem?_eq_getElem hi, h2, h4⟩
theorem IsInts.at_ {w : World} {p : Option Addr} {cap : Nat} {l : List Int} (h : IsInts w (.slice p l.length cap) l) (i : Nat) (hi : i < l.length) :
    ∃ b o x, p = some ⟨b, o, none⟩ ∧ l[i]? = some x ∧ w.cell? ⟨b, o + i, none⟩ = some (.int .i64 x) := by
  obtain ⟨p', cap', e, hl, hc⟩ := h
  injection e with e1 e2 e3
  subst e1
  obtain ⟨b, o, rfl, hi'⟩ := hc (by omega)
  exact ⟨b, o, l[i], rfl, List.getElem?_eq_getElem hi, hi' i hi⟩
theorem IsInts.le {w : World} {v : Value} {l : List Int} (h : IsInts w v l) : l.length ≤ 1000 := by obtain ⟨_, _, _, h, _⟩ := h; exact h

theorem own_ge {w : World} {base : Nat} {e : TypeId} {size : Nat} {v : Value} {n : Nat} {xs : List Value} (h : w.ownsRow base e size v n xs) : ∀ j, v.ownBlock = some j → base ≤ j := by
  intro j hj
  rcases h.2 with ⟨rfl, _⟩ | ⟨g, cap, cur, rfl, hg, _⟩
  · simp [Value.ownBlock] at hj
  · have : g = j := by simpa [Value.ownBlock] using hj
    omega

theorem ints_of_own {w : World} {base : Nat} {e : TypeId} {v : Value} {l : List Int} (h : w.ownsRow base e 1 v l.length (l.map (Value.int .i64))) (hl : l.length ≤ 1000) : IsInts w v l := by
  rcases h.2 with ⟨rfl, h0⟩ | ⟨g, cap, cur, rfl, _⟩
  · exact ⟨none, 0, by rw [h0], hl, fun hp => absurd hp (by omega)⟩
  · refine ⟨some ⟨g, 0, none⟩, cap, rfl, hl, fun _ => ⟨g, 0, rfl, fun i hi => ?_⟩⟩
    rw [Nat.zero_add, h.cellAt i (by omega), List.getElem?_map, List.getElem?_eq_getElem hi]
    rfl

set_option maxRecDepth 100000 in
set_option maxHeartbeats 1000000 in
theorem free_any (base : Int) (n : Nat) (told back : Int) (broken : Bool) (v : Value) (l : List Ch) (w : World) (hn : n ≤ 64) (hv : IsChs w v l) :
    Calls Try.prog 50 #[.agg #[.int .i64 base, .int .i64 n, v, .int .i64 told, .int .i64 back, .bool broken]] w
      fun e w' => (∃ r, e = .returned r ∧ IsInts w' r (freeL l n)) ∧ w.grownBy w' none := by
  have hv0 := hv
  obtain ⟨p, cap, rfl, hl, _⟩ := hv0
  obtain ⟨i0, hi, hz0, hz1, hz2⟩ := info_parts info_int
  go_enter Try.func50, Try.ntmps50
  go_wp2
  generalize hw0 : w.alloc _ = w0
  have x1 : w0.cell? ⟨w.heap.size, 1, none⟩ = some (.int .i64 n) := by rw [← hw0, cell_of_block (heap_alloc_new w _)]; rfl
  have x2 : w0.cell? ⟨w.heap.size, 2, none⟩ = some (.slice p l.length cap) := by rw [← hw0, cell_of_block (heap_alloc_new w _)]; rfl
  have xs : w0.heap.size = w.heap.size + 1 := by rw [← hw0]; simp
  have kv : w.grownBy w0 none := by rw [← hw0]; exact World.grownBy_alloc _ _ _
  have hv1 := hv.kept (kept_grown kv)
  have XS := Lib.hid xs
  clear hw0 xs hv
  go_loopw [3, 4] (fun v i wr => ∃ k : Nat, k ≤ n ∧ i = .int .i64 k ∧ wr.ownsRow w0.heap.size 3 1 v (freeL l k).length ((freeL l k).map (Value.int .i64)) ∧ Below w0.heap.size w0 wr) (fun _ i _ => n - (intOf i).toNat)
  case atStart => exact ⟨0, Nat.zero_le _, rfl, ⟨rfl, .inl ⟨rfl, rfl⟩⟩, Below.refl _ _⟩
  case round =>
    obtain ⟨k, hk, rfl, hown, hb⟩ := hrel
    have y1 : wr.cell? ⟨w.heap.size, 1, none⟩ = some (.int .i64 n) := by rw [hb.cell (by show w.heap.size < _; rw [XS.out]; omega)]; exact x1
    have y2 : wr.cell? ⟨w.heap.size, 2, none⟩ = some (.slice p l.length cap) := by rw [hb.cell (by show w.heap.size < _; rw [XS.out]; omega)]; exact x2
    have hv2 : IsChs wr (.slice p l.length cap) l := hv1.kept fun a h => by
      obtain ⟨u, hu⟩ := Option.isSome_iff_exists.1 h
      exact hb.cell (World.block_lt_of_cell? w0 a hu)
    by_cases hlt : k < n
    · go_wp2_with fail
      go_loop [5, 6, 7] (fun t kk _ => ∃ c : Nat, c ≤ l.length ∧ kk = .int .i64 c ∧ t = .bool (takenBy (l.take c) k)) (fun _ kk _ => l.length - (intOf kk).toNat)
      case atStart => exact ⟨0, Nat.zero_le _, rfl, rfl⟩
      case round =>
        obtain ⟨c, hcl, rfl, rfl⟩ := hrel
        by_cases hlt2 : c < l.length
        · obtain ⟨b, o, ch, q, m, rfl, hch, hcell, hints⟩ := hv2.at_ c hlt2
          have hil := hints.le
          have hnext : takenBy (l.take (c + 1)) k = (takenBy (l.take c) k || ch.of.any (· == (k : Int))) := any_take_succ l (fun c => c.of.any (· == (k : Int))) c ch hch
          have HN := Lib.hid hnext
          clear hnext hch hv1 hv2
          generalize takenBy (l.take c) k = t0 at HN ⊢
          go_wp2_with fail
          go_loop [5, 7] (fun t j => ∃ d : Nat, d ≤ ch.of.length ∧ j = .int .i64 d ∧ t = .bool (t0 || (ch.of.take d).any (· == (k : Int)))) (fun _ j => ch.of.length - (intOf j).toNat)
          case atStart => exact ⟨0, Nat.zero_le _, rfl, by simp⟩
          case round =>
            obtain ⟨d, hd, rfl, rfl⟩ := hrel
            by_cases hlt3 : d < ch.of.length
            · obtain ⟨b2, o2, x, rfl, hx, hcx⟩ := hints.at_ d hlt3
              have hs := any_take_succ ch.of (· == (k : Int)) d x hx
              have HS := Lib.hid hs
              clear hs hx hints
              cases ht : (t0 || (ch.of.take d).any (· == (k : Int))) with
              | true =>
                have HT := Lib.hid ht
                clear ht
                go_wp2_with fail
                go_round
                case rel => exact ⟨d + 1, by omega, by go_num, by rw [HS.out, ← Bool.or_assoc, HT.out, Bool.true_or]⟩
                case measure => simp [intOf]; omega
              | false =>
                have HT := Lib.hid ht
                clear ht
                go_wp2_with fail
                go_round
                case rel => exact ⟨d + 1, by omega, by go_num, by rw [HS.out, ← Bool.or_assoc, HT.out, Bool.false_or]⟩
                case measure => simp [intOf]; omega
            · have hd3 : decide ((d : Int) < ch.of.length) = false := decide_eq_false (by omega)
              have hz : ch.of.take d = ch.of := List.take_of_length_le (by omega)
              have HZ := Lib.hid hz
              clear hz hints
              go_wp2_with fail
              go_round
              case rel => exact ⟨c + 1, by omega, by go_num, by rw [HN.out, HZ.out]⟩
              case measure => simp [intOf]; omega
        · have hz : takenBy (l.take c) k = takenBy l k := by rw [List.take_of_length_le (by omega)]
          have hsucc := freeL_succ l k
          have hle := freeL_le l k
          have hcd : decide ((c : Int) < l.length) = false := decide_eq_false (by omega)
          rw [hz]
          clear hz hv1 hv2
          cases ht : takenBy l k with
          | true =>
            rw [ht, if_pos rfl, List.append_nil] at hsucc
            have HU := Lib.hid hsucc
            clear hsucc
            go_wp2_with fail
            go_roundw
            case rel => exact ⟨k + 1, by omega, by go_num, by rw [HU.out]; exact hown, hb⟩
            case measure => simp [intOf]; omega
          | false =>
            rw [ht, if_neg (by decide)] at hsucc
            have HU := Lib.hid hsucc
            clear hsucc
            have hbs := hb.size
            go_wp2_with (at_builtin; refine wpList_append_own _ rfl _ _ 43 rfl w0.heap.size 3 i0 (.int .i64 0) 1 8 Try.underlying43 hi hz0 hz1 hz2 rfl (by decide) _ _ _ rfl (hown.alloc _) ⟨wr.heap.size, 0, none⟩ 1 1 [.int .i64 (k : Int)] rfl rfl ?c1 ?c2 ?c3 ?c4 ?c5 ?_)
            case c2 => first | rfl | (simp [Value.oneCell']; done)
            case c3 => unfold maxLen; omega
            case c4 => omega
            case c5 => first | omega | (simp; omega)
            intro v' w2 hown' hgrow _
            have hb2 : Below w0.heap.size w0 w2 := (hb.alloc hb.size _).grown hgrow (by simp; omega) (own_ge hown)
            go_wp2_with fail
            go_roundw
            case rel => exact ⟨k + 1, by omega, by go_num, by rw [HU.out, List.length_append, List.map_append]; exact hown', hb2⟩
            case measure => simp [intOf]; omega
    · have hkn : k = n := by omega
      subst hkn
      have hd0 : decide ((k : Int) < k) = false := decide_eq_false (by omega)
      clear hv1 hv2
      have hfin := ints_of_own hown (by have := freeL_le l k; omega)
      have hgr : w.grownBy wr none := ⟨hb.os.trans kv.os, hb.tape.trans kv.tape, hb.output.trans kv.output, Nat.le_trans kv.size hb.size, fun j hj _ => by
        rw [hb.block j (by rw [XS.out]; omega), kv.block j hj (by simp)]⟩
      go_wp2_with fail
      go_ret
      exact ⟨⟨_, rfl, hfin⟩, hgr⟩

end Go.Proofs.Ytjelgifijhcnnaa
