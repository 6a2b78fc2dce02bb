/-
  Layer 3: two rows of buffers of one shape. Conditions: at most 1000 buffers.
-/
import Derived.Test.YtdchlnffbiooaaaGreatDoorBlkG
namespace Go.Proofs.YtdchlnffbiooaaaGreatDoor
open Go.RowKit Go.Sort

/-- Are two buffers alike but for where they lie? -/
def likeB (x y : Bf) : Bool := (x.n == y.n) && (x.wr == y.wr)
def Bf.val (x : Bf) : Value := .agg #[.int .i64 x.a, .int .i64 x.n, .bool x.wr]
set_option maxHeartbeats 1000000 in
theorem sameShape_any (w : World) (x y : Bf) :
    Calls Tryz.prog 64 #[.agg #[.int .i64 x.a, .int .i64 x.n, .bool x.wr], .agg #[.int .i64 y.a, .int .i64 y.n, .bool y.wr]] w fun e w' => e = .returned (.bool (likeB x y)) ∧ w.grownBy w' none := by
  obtain ⟨xa, xn, xw⟩ := x
  obtain ⟨ya, yn, yw⟩ := y
  unfold likeB
  simp only
  have ka := (World.grownBy_alloc w (.cells #[.int .i64 xa, .int .i64 xn, .bool xw] 90) none).trans (World.grownBy_alloc _ (.cells #[.int .i64 ya, .int .i64 yn, .bool yw] 90) none)
  by_cases h : xn = yn
  · have e1 : (xn == yn) = true := beq_iff_eq.2 h
    subst h
    cases xw <;> cases yw
    all_goals
      go_enter Tryz.func64, Tryz.ntmps64
      go_wp2
      go_ret
      exact ⟨by simp, ka⟩
  · have e1 : (xn == yn) = false := beq_eq_false_iff_ne.2 h
    rw [e1, Bool.false_and]
    clear h
    go_enter Tryz.func64, Tryz.ntmps64
    go_wp2
    go_ret
    exact ⟨rfl, ka⟩

/-- Are two rows of one shape, from one on? -/
def likeL : List Bf → List Bf → Bool
  | [], [] => true
  | x :: l, y :: r => likeB x y && likeL l r
  | _, _ => false
theorem likeL_len : ∀ (l r : List Bf), l.length ≠ r.length → likeL l r = false
  | [], [], h => absurd rfl h
  | [], _ :: _, _ => rfl
  | _ :: _, [], _ => rfl
  | x :: l, y :: r, h => by
    unfold likeL
    rw [likeL_len l r (by simpa using h), Bool.and_false]
theorem likeL_at {l r : List Bf} {k : Nat} {x y : Bf} (hx : l[k]? = some x) (hy : r[k]? = some y) : likeL (l.drop k) (r.drop k) = (likeB x y && likeL (l.drop (k + 1)) (r.drop (k + 1))) := by
  have h1 := (List.getElem?_eq_some_iff.1 hx).1
  have h2 := (List.getElem?_eq_some_iff.1 hx).2
  have h3 := (List.getElem?_eq_some_iff.1 hy).1
  have h4 := (List.getElem?_eq_some_iff.1 hy).2
  rw [List.drop_eq_getElem_cons h1, List.drop_eq_getElem_cons h3, h2, h4]
  rfl

set_option maxRecDepth 100000 in
set_option maxHeartbeats 1600000 in
theorem equal_any (w : World) (v u : Value) (l r : List Bf) (hv : IsBufs w v l) (hu : IsBufs w u r) :
    Calls Tryz.prog 63 #[v, u, .func (.func 64) #[] #[]] w fun e w' => e = .returned (.bool (likeL l r)) ∧ w.grownBy w' none := by
  obtain ⟨p, cap, rfl, hle⟩ := hv.form
  obtain ⟨p2, cap2, rfl, hle2⟩ := hu.form
  by_cases hlen : l.length = r.length
  · have e1 : ((l.length : Int) != (r.length : Int)) = false := by simp [hlen]
    obtain ⟨R, hR⟩ : ∃ R, R = likeL l r := ⟨_, rfl⟩
    rw [← hR]
    have HR := Lib.hid hR
    have HV := Lib.hid hv
    have HU := Lib.hid hu
    have HLEN := Lib.hid hlen
    clear hR hv hu
    rw [hlen] at hle
    clear hle hlen
    go_enter Tryz.func63, Tryz.ntmps63
    go_wp2_with fail
    go_loopw [17] (fun iv wr => ∃ k : Nat, k ≤ r.length ∧ iv = .int .i64 k ∧ Hid (R = likeL (l.drop k) (r.drop k)) ∧ w.grownBy wr none) (fun iv _ => r.length - (intOf iv).toNat)
    case atStart => exact ⟨0, Nat.zero_le _, rfl, HR, World.grownBy.refl _ _⟩
    case round =>
      obtain ⟨k, hk, rfl, HK, kg⟩ := hrel
      by_cases hlt : k < r.length
      · have hltl : k < l.length := by rw [HLEN.out]; exact hlt
        obtain ⟨b, o, x, rfl, hx, c0, c1, c2⟩ := (HV.out.grown kg).at_ k hltl
        obtain ⟨b', o', y, rfl, hy, d0, d1, d2⟩ := (HU.out.grown kg).at_ k hlt
        have hstep := likeL_at hx hy
        rw [← HK.out] at hstep
        have HS := Lib.hid hstep
        obtain ⟨xa, xn, xw⟩ := x
        obtain ⟨ya, yn, yw⟩ := y
        simp only at c0 c1 c2 d0 d1 d2
        have ka := (kg.trans (World.grownBy_alloc wr (.cells #[.int .i64 xa, .int .i64 xn, .bool xw] 90) none)).trans (World.grownBy_alloc _ (.cells #[.int .i64 ya, .int .i64 yn, .bool yw] 90) none)
        have KA := Lib.hid ka
        have hlti : (k : Int) < (l.length : Int) := by omega
        have D0 : (wr.alloc (.cells #[.int .i64 xa, .int .i64 xn, .bool xw] 90)).cell? ⟨b', o' + k * 3, none⟩ = some (.int .i64 ya) := by rw [kept_grown (World.grownBy_alloc wr _ none) _ (by rw [d0]; rfl)]; exact d0
        have D1 : (wr.alloc (.cells #[.int .i64 xa, .int .i64 xn, .bool xw] 90)).cell? ⟨b', o' + k * 3 + 1, none⟩ = some (.int .i64 yn) := by rw [kept_grown (World.grownBy_alloc wr _ none) _ (by rw [d1]; rfl)]; exact d1
        have D2 : (wr.alloc (.cells #[.int .i64 xa, .int .i64 xn, .bool xw] 90)).cell? ⟨b', o' + k * 3 + 2, none⟩ = some (.bool yw) := by rw [kept_grown (World.grownBy_alloc wr _ none) _ (by rw [d2]; rfl)]; exact d2
        clear hstep hx hy d0 d1 d2 ka kg hltl
        go_wp2_with fail
        refine (sameShape_any _ ⟨xa, xn, xw⟩ ⟨ya, yn, yw⟩).mono ?_
        rintro e w2 ⟨rfl, k2⟩
        have K2 := Lib.hid (KA.out.trans k2)
        cases hb : likeB ⟨xa, xn, xw⟩ ⟨ya, yn, yw⟩ with
        | true =>
          have HN : Hid (R = likeL (l.drop (k + 1)) (r.drop (k + 1))) := Lib.hid (by have := HS.out; rw [hb, Bool.true_and] at this; exact this)
          clear k2 hb
          go_wp2_with fail
          go_roundw
          case rel => exact ⟨k + 1, by omega, by go_num, HN, K2.out⟩
          case measure => simp [intOf]; omega
        | false =>
          have HN : R = false := by have := HS.out; rw [hb, Bool.false_and] at this; exact this
          subst HN
          clear k2 hb
          go_wp2_with fail
          go_ret
          exact ⟨rfl, K2.out⟩
      · have hd : decide ((k : Int) < (l.length : Int)) = false := decide_eq_false (by have := HLEN.out; omega)
        have hdn : decide (k < l.length) = false := decide_eq_false (by have := HLEN.out; omega)
        have HN : R = true := by
          have a1 : l.drop k = [] := List.drop_eq_nil_of_le (by have := HLEN.out; omega)
          have a2 : r.drop k = [] := List.drop_eq_nil_of_le (by omega)
          rw [HK.out, a1, a2]
          rfl
        subst HN
        go_wp2_with fail
        go_ret
        exact ⟨rfl, kg⟩
  · have e1 : ((l.length : Int) != (r.length : Int)) = true := by simp; omega
    rw [likeL_len l r hlen]
    clear hlen hv hu
    go_enter Tryz.func63, Tryz.ntmps63
    go_wp2_with fail
    go_ret
    exact ⟨rfl, World.grownBy.refl _ _⟩

end Go.Proofs.YtdchlnffbiooaaaGreatDoor
