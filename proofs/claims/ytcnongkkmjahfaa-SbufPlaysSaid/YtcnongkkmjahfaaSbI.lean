/-
  Layer 13: what a statement's slices read as; the contract of Great. No conditions.
-/
import Derived.Test.YtcnongkkmjahfaaSbH
import Derived.Test.YtcnongkkmjahfaaRbM
import Derived.Test.YtcnongkkmjahfaaNuB
namespace Go.Proofs.Ytcnongkkmjahfaa
open Go.RowKit Go.ChangeShapes Go.WideShapes Go.Deep
set_option linter.unusedVariables false

theorem open_act13 {H : Type} {enc : TypeId × Value → H} {w : World} {a : Addr} {fuel : Nat} {cs : List Value} {x : DataW H × List MemPlace}
    (hc : w.cells? 0 a (Try.prog.cellsOf 38) = some cs) (ht : DataW.trod enc Try.prog w 0 (fun _ => true) true fuel 38 cs = some x) :
    ∃ c : Act12, c.fits ∧ a.spot = none ∧ ActAt w a.block a.off c := by
  have hu := Try.underlying38
  obtain ⟨v0, y0, m0, c0, t0⟩ := field_of hu (by kernel_rfl) (by kernel_rfl) hc ht 0 _ rfl
  obtain ⟨v1, y1, m1, c1, t1⟩ := field_of hu (by kernel_rfl) (by kernel_rfl) hc ht 1 _ rfl
  obtain ⟨v2, y2, m2, c2, t2⟩ := field_of hu (by kernel_rfl) (by kernel_rfl) hc ht 2 _ rfl
  obtain ⟨v3, y3, m3, c3, t3⟩ := field_of hu (by kernel_rfl) (by kernel_rfl) hc ht 3 _ rfl
  obtain ⟨v4, y4, m4, c4, t4⟩ := field_of hu (by kernel_rfl) (by kernel_rfl) hc ht 4 _ rfl
  obtain ⟨n0, e0, _, w0⟩ := DataW.trod_int Try.underlying3 t0
  obtain ⟨n1, e1, _, w1⟩ := DataW.trod_int Try.underlying26 t1
  obtain ⟨n2, e2, _⟩ := DataW.trod_bool Try.underlying4 t2
  obtain ⟨n3, e3, _, w3⟩ := DataW.trod_int Try.underlying3 t3
  obtain ⟨n4, e4, _, w4⟩ := DataW.trod_string Try.underlying9 t4
  simp only [List.cons.injEq, and_true] at e0 e1 e2 e3 e4
  subst e0 e1 e2 e3 e4
  obtain ⟨b, o, sp⟩ := a
  have hs : sp = none := by simpa [Addr.add] using World.cell?_spot c0
  subst hs
  rw [add_plain] at c0 c1 c2 c3 c4
  exact ⟨⟨n0, n1, n2, n3, n4⟩, ⟨w0, w1, w3, w4⟩, rfl, c0, c1, c2, c3, c4⟩
theorem open_acts13 {H : Type} {enc : TypeId × Value → H} {w : World} {p : Option Addr} {len cap fuel : Nat} {x : DataW H × List MemPlace}
    (h : DataW.trod enc Try.prog w 0 (fun _ => true) true fuel 32 (Value.slice p len cap).cells.toList = some x) : ∃ l, IsActs12 w p len l := by
  rcases open_slice Try.underlying32 h with ⟨hcs, _⟩ | ⟨a, len', cap', m, n, D, Pl, hcs, _, hl, hm, hmm, _, hi⟩
  · simp [Value.cells] at hcs
    obtain ⟨rfl, rfl, rfl⟩ := hcs
    exact ⟨[], rfl, Nat.zero_le _, by simp, fun h => absurd h (by omega)⟩
  · simp [Value.cells] at hcs
    obtain ⟨rfl, rfl, rfl⟩ := hcs
    have hm' : m = cap := by simpa using hmm
    have hi' : ∀ i, i < len → ∃ c : Act12, c.fits ∧ (a.add (i * 5)).spot = none ∧ ActAt w (a.add (i * 5)).block (a.add (i * 5)).off c := by
      intro i hlt
      obtain ⟨cs', hc, ht⟩ := hi i (by omega)
      have e5 : Try.prog.cellsOf 38 = 5 := by kernel_rfl
      have h5 : i * Try.prog.cellsOf 38 = i * 5 := by rw [e5]
      rw [h5] at hc
      exact open_act13 hc ht
    have hch := fun i : Fin len => hi' i.1 i.2
    obtain ⟨f, hf⟩ := Classical.axiomOfChoice hch
    refine ⟨List.ofFn f, by simp, by omega, ?_, ?_⟩
    · intro c hc
      obtain ⟨i, rfl⟩ := (List.mem_ofFn).1 hc
      exact (hf i).1
    · intro hpos
      obtain ⟨b, o, sp⟩ := a
      have h0 := (hf ⟨0, hpos⟩).2.1
      have hs : sp = none := by simpa [Addr.add] using h0
      subst hs
      refine ⟨b, o, rfl, fun i hlt => ?_⟩
      have hlt' : i < len := by simpa using hlt
      have h1 := (hf ⟨i, hlt'⟩).2.2
      rw [add_plain] at h1
      simpa using h1


set_option maxHeartbeats 1000000 in
theorem Great13_any (w : World) (p : Option Addr) (len cap : Nat) (l : List Act12) (ha : IsActs12 w p len l) :
    Calls Try.prog 15 #[.slice p len cap] w fun e w' => e = .returned (.bool (great12 l)) ∧ w = w' := by
  have hlen := ha.1
  have hmax := ha.2.1
  unfold maxLen at hmax
  have HA := Lib.hid ha
  have HL := Lib.hid hlen
  clear ha hlen
  go_enter Try.func15, Try.ntmps15
  go_wp2
  go_loop [3, 4] (fun s i => ∃ k : Nat, k ≤ len ∧ k ≤ 101 ∧ i = .int .i64 k ∧ s = .int .i64 (sumA (l.take k) : Nat)) (fun _ i => len - (intOf i).toNat)
  case atStart => exact ⟨0, Nat.zero_le _, by omega, rfl, by simp [sumA]⟩
  case round =>
    obtain ⟨k, hk, hk2, rfl, rfl⟩ := hrel
    have hs := sumA_le l k
    by_cases hlt : k < len
    · have d1 : decide ((k : Int) < (len : Int)) = true := decide_eq_true (by omega)
      by_cases hlt2 : k ≤ 100
      · have d2 : decide ((k : Int) ≤ 100) = true := decide_eq_true (by omega)
        obtain ⟨b, o, c, rfl, hck, hfit, hat⟩ := HA.out.at_ k hlt
        have hcell := hat.2.2.2.2
        have HT := Lib.hid (sumA_take hck)
        generalize sumA (l.take k) = s at hs HT ⊢
        have q1 : (0 : Int) ≤ (k : Int) := by omega
        have q2 : (k : Int) < (len : Int) := by omega
        obtain ⟨m, hm⟩ : ∃ m : Nat, m = min c.s.size 20001 := ⟨_, rfl⟩
        have e1 : min (c.s.size : Int) 20001 = (m : Int) := by omega
        have e2 : IntKind.i64.wrap ((s : Int) + m) = (s : Int) + m := IntWalk.i64_in _ (by omega)
        have e3 : IntKind.i64.wrap ((k : Int) + 1) = (k : Int) + 1 := IntWalk.i64_in _ (by omega)
        have HM := Lib.hid hm
        clear hat hfit hck hm hs
        go_wp2_with fail
        go_round
        case rel => exact ⟨k + 1, by omega, by omega, by go_num, by rw [HT.out, ← HM.out, Int.natCast_add]⟩
        case measure => simp [intOf]; omega
      · have d2 : decide ((k : Int) ≤ 100) = false := decide_eq_false (by omega)
        have d3 : decide ((100 : Int) < (len : Int)) = true := decide_eq_true (by omega)
        have G : Hid (great12 l = true) := Lib.hid (by unfold great12; rw [HL.out, decide_eq_true (by omega)]; rfl)
        clear hs
        go_wp2_with fail
        go_ret
        exact ⟨by rw [G.out]; rfl, rfl⟩
    · obtain rfl : k = len := by omega
      have d1 : decide ((k : Int) < (k : Int)) = false := by simp
      have HLL : Hid (l.take k = l) := Lib.hid (List.take_of_length_le (by rw [HL.out]; exact Nat.le_refl _))
      rw [HLL.out] at hs ⊢
      by_cases hbig : 100 < k
      · have d3 : decide ((100 : Int) < (k : Int)) = true := decide_eq_true (by omega)
        have G : Hid (great12 l = true) := Lib.hid (by unfold great12; rw [HL.out, decide_eq_true hbig]; rfl)
        clear hs
        go_wp2_with fail
        go_ret
        exact ⟨by rw [G.out]; rfl, rfl⟩
      · have d3 : decide ((100 : Int) < (k : Int)) = false := decide_eq_false (by omega)
        have G : Hid (great12 l = decide (20000 < sumA l)) := Lib.hid (by unfold great12; rw [HL.out, decide_eq_false hbig]; rfl)
        generalize sumA l = s at hs G ⊢
        by_cases hs2 : 20000 < s
        · have d4 : decide ((20000 : Int) < (s : Int)) = true := decide_eq_true (by omega)
          have G2 : Hid (great12 l = true) := Lib.hid (by rw [G.out]; exact decide_eq_true hs2)
          clear hs hs2 G
          go_wp2_with fail
          go_ret
          exact ⟨by rw [G2.out]; rfl, rfl⟩
        · have d4 : decide ((20000 : Int) < (s : Int)) = false := decide_eq_false (by omega)
          have G2 : Hid (great12 l = false) := Lib.hid (by rw [G.out]; exact decide_eq_false hs2)
          clear hs hs2 G
          go_wp2_with fail
          go_ret
          exact ⟨by rw [G2.out]; rfl, rfl⟩
def IsU8 (w : World) (p : Option Addr) (len : Nat) (l : List Int) : Prop := IsNums .u8 w p len l
theorem open_u8 {H : Type} {enc : TypeId × Value → H} {w : World} {p : Option Addr} {len cap fuel : Nat} {x : DataW H × List MemPlace} (h : DataW.trod enc Try.prog w 0 (fun _ => true) true fuel 44 (Value.slice p len cap).cells.toList = some x) : ∃ l, IsU8 w p len l :=
  open_nums Try.underlying44 Try.underlying5 (by kernel_rfl) h
theorem extract_listB (S : ByteArray) (l : List UInt8) (h : S.data.toList = l) (a b : Nat) : (S.extract a b).data.toList = (l.take b).drop a := by
  rw [ByteArray.data_extract, Array.toList_extract, h, List.extract_eq_take_drop, List.drop_take]
theorem eq_of_listsB {X Y : ByteArray} (h : X.data.toList = Y.data.toList) : (X.toList == Y.toList) = true := by
  obtain ⟨x⟩ := X
  obtain ⟨y⟩ := Y
  have : x = y := Array.ext' h
  subst this
  simp
theorem size_ofB {X : ByteArray} {l : List UInt8} (h : X.data.toList = l) : X.size = l.length := by rw [← h, Array.length_toList]; rfl
theorem list_addB {X Y : ByteArray} {l m : List UInt8} (h : X.data.toList = l) (k : Y.data.toList = m) : (X ++ Y).data.toList = l ++ m := by
  rw [ByteArray.data_append, Array.toList_append, h, k]
/-- From its own number on all that is there, but no more than is asked for, is told. -/
theorem getS_una {u : Int} (hu : 0 ≤ u ∧ u < 4294967296) (x : Int) (L : List UInt8) : getS u u x L = L.take x.toNat := by
  unfold getS ahN
  rw [show ((u - u) % 4294967296).toNat = 0 by omega, List.drop_zero]
theorem ah_moved {u : Int} (k : Nat) (hk : k < 4294967296) : ahN u ((u + k) % 4294967296) = k := by
  unfold ahN
  omega
end Go.Proofs.Ytcnongkkmjahfaa
