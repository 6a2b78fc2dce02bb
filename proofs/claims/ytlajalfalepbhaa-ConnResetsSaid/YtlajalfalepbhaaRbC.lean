/-
  Layer 12: hold, settle, Put. Conditions: as said.
-/
import Derived.Test.YtlajalfalepbhaaRbB
namespace Go.Proofs.Ytlajalfalepbhaa
open Go.RowKit
set_option linter.unusedVariables false

theorem set_two {cs : List Value} {a : Nat} (x y : Value) (h : a + 2 ≤ cs.length) : (cs.set a x).set (a + 1) y = cs.take a ++ [x, y] ++ cs.drop (a + 2) := by
  apply List.ext_getElem?
  intro j
  rw [List.append_assoc]
  by_cases h1 : j < a
  · rw [List.getElem?_set_ne (by omega), List.getElem?_set_ne (by omega), List.getElem?_append_left (by rw [List.length_take]; omega), List.getElem?_take, if_pos h1]
  · rw [List.getElem?_append_right (by rw [List.length_take]; omega), List.length_take, Nat.min_eq_left (by omega)]
    by_cases h2 : j = a
    · subst h2
      rw [List.getElem?_set_ne (by omega), List.getElem?_set_self (by omega), Nat.sub_self]
      rfl
    · by_cases h3 : j = a + 1
      · subst h3
        rw [List.getElem?_set_self (by rw [List.length_set]; omega), show a + 1 - a = 1 by omega]
        rfl
      · rw [List.getElem?_set_ne (by omega), List.getElem?_set_ne (by omega), List.getElem?_append_right (by simp; omega), List.getElem?_drop]
        congr 1
        simp
        omega
theorem Turn.setCells2 {w w' : World} {O : Nat → Prop} (h : Turn w w' O) {g : Nat} (hg : O g) (i j : Nat) (u v : Value) : Turn w ((w'.setCell ⟨g, i, none⟩ u).setCell ⟨g, j, none⟩ v) O := (h.setCell hg i u).setCell hg j v
section
variable {w w' : World} {g b n : Nat} {nx : Int} {R : List UInt8} {W : List (Option UInt8)}
/-- A byte is held. -/
theorem Rb.put (h : Rb w g b n nx R W) {j : Nat} (hj : j < W.length) (x : UInt8) :
    Rb ((w.setCell ⟨b, R.length * 2 + j * 2, none⟩ (.int .u8 (x.toNat : Int))).setCell ⟨b, R.length * 2 + j * 2 + 1, none⟩ (.bool true)) g b n nx R (W.set j (some x)) := by
  have hp := h.places
  have he := encA_length enP_len (R.map some ++ W)
  rw [hp] at he
  have hln := h.len
  refine ⟨?_, ?_, h.ne, by rw [List.length_set]; exact h.len, h.n1, h.n2, h.x0, h.x1⟩
  · rw [Below.heap_setCell _ _ _ _ (by show g ≠ b; exact fun e => h.ne e.symm), Below.heap_setCell _ _ _ _ (by show g ≠ b; exact fun e => h.ne e.symm)]
    exact h.at_
  · have e1 := set_cellsB h.row (.int .u8 (x.toNat : Int)) (i := R.length * 2 + j * 2) (by rw [List.size_toArray, he]; omega)
    have e2 := set_cellsB e1 (.bool true) (i := R.length * 2 + j * 2 + 1) (by rw [Array.size_setIfInBounds, List.size_toArray, he]; omega)
    rw [e2]
    have es : R.map some ++ W.set j (some x) = (R.map some ++ W).set (R.length + j) (some x) := by
      rw [List.set_append_right _ _ (by rw [List.length_map]; omega), List.length_map, Nat.add_sub_cancel_left]
    rw [es, encA_set enP_len _ _ _ (by rw [hp]; omega), List.setIfInBounds_toArray, List.setIfInBounds_toArray, set_two _ _ (by rw [he]; omega)]
    rw [Nat.add_mul]
    rfl
theorem Rb.lenW (h : Rb w g b n nx R W) : W.length ≤ 2048 := by have := h.len; have := h.n2; omega
end

set_option maxRecDepth 100000 in
set_option maxHeartbeats 2000000 in
theorem hold_ok {w : World} {g b n : Nat} {nx : Int} {R : List UInt8} {W : List (Option UInt8)} (h : Rb w g b n nx R W) (s : Int) (hs : 0 ≤ s ∧ s < 4294967296) (D : ByteArray) (d : List UInt8) (hD : D.data.toList = d) (hd : D.size ≤ 65536) :
    Calls Try.prog 102 #[.pointer (some ⟨g, 0, none⟩), .int .u32 s, .string D] w fun e w' => e = .returned (.tuple #[]) ∧ Rb w' g b n nx R (holdW nx s d W) ∧ Turn w w' (fun k => k = b) := by
  have hdl : d.length = D.size := by rw [← hD, Array.length_toList]; rfl
  have hv2 := h.lenW
  have HH := Lib.hid h
  have hx0 := h.x0
  have hx1 := h.x1
  clear h
  go_enter Try.func102, Try.ntmps102
  go_upto_region 2 with (go_at_call 74; refine (window_ok HH.out).mono ?_; rintro e W1 ⟨o, rfl, q1, q2⟩; have Q1 := Lib.hid q1; have Q2 := Lib.hid q2; clear q1 q2)
  obtain ⟨m, hm⟩ : ∃ m, m = D.size := ⟨_, rfl⟩
  have HM := Lib.hid hm
  have HDL := Lib.hid hdl
  have HD := Lib.hid hD
  rw [← hm] at hd ⊢
  generalize hv : W.length = v at hv2 ⊢
  have HV := Lib.hid hv
  clear hv hm hdl hD
  go_loopw [14] (fun i wr => ∃ k : Nat, k ≤ m ∧ i = .int .i64 k ∧ Hid (Rb wr g b n nx R (holdW nx s (d.take k) W)) ∧ Hid (Turn w wr (fun k => k = b))) (fun i _ => m - (intOf i).toNat)
  case atStart => exact ⟨0, Nat.zero_le _, rfl, Lib.hid (by rw [List.take_zero, holdW_nil]; exact HH.out.below Q2.out), Lib.hid (Turn.of_below Q2.out)⟩
  case round =>
    obtain ⟨k, hk, rfl, RK, TK⟩ := hrel
    by_cases hlt : k < m
    · have hkD : k < D.size := by rw [← HM.out]; exact hlt
      have hkd : d[k]? = some D[k] := by
        rw [← HD.out, Array.getElem?_toList, Array.getElem?_eq_getElem (show k < D.data.size from hkD)]
        rfl
      have q1 : (0 : Int) ≤ (k : Int) := by omega
      have q3 : decide ((k : Int) < (m : Int)) = true := decide_eq_true (by omega)
      have q4 : (k : Int) < (D.size : Int) := by omega
      have hwj : IntKind.i64.wrap ((k : Int) + 1) = (k : Int) + 1 := IntWalk.i64_in _ (by omega)
      have hw1 : IntKind.u32.wrap (k : Int) = (k : Int) := by rw [IntKind.wrap_u32]; omega
      have hw2 : IntKind.u32.wrap (s + k) = (s + k) % 4294967296 := by rw [IntKind.wrap_u32]
      have c0 := RK.out.c0
      obtain ⟨a, ha⟩ : ∃ a, ahN nx ((s + k) % 4294967296) = a := ⟨_, rfl⟩
      have ha0 := ahN_lo nx ((s + k) % 4294967296)
      rw [ha] at ha0
      have kI := Lib.hid (in_any wr ((s + k) % 4294967296) nx v)
      unfold inN at kI
      have kA := Lib.hid (ah_any wr nx ((s + k) % 4294967296))
      rw [ha] at kI kA
      have HA := Lib.hid ha
      clear ha
      obtain ⟨N, hN⟩ : ∃ N, (s + k) % 4294967296 = N := ⟨_, rfl⟩
      rw [hN] at hw2 kI kA
      have HN := Lib.hid hN
      clear hN
      by_cases hin : a < (v : Int)
      · have d1 : decide (a < (v : Int)) = true := decide_eq_true hin
        rw [d1] at kI
        obtain ⟨j, rfl⟩ := Int.eq_ofNat_of_zero_le ha0
        have hj : j < v := by omega
        have hjW : j < W.length := by rw [HV.out]; exact hj
        have hjH : j < (holdW nx s (d.take k) W).length := by rw [holdW_len]; exact hjW
        have ho : o = R.length * 2 := by
          rcases Q1.out with e | e
          · rw [e] at hjW; simp at hjW
          · exact e
        obtain ⟨x, hx⟩ : ∃ x, (holdW nx s (d.take k) W)[j]? = some x := ⟨_, List.getElem?_eq_getElem hjH⟩
        have c1 := RK.out.cellW hx (i := 1) (by omega)
        rw [← ho] at c1
        have p1 : (0 : Int) ≤ (j : Int) := by omega
        have p2 : (j : Int) < (v : Int) := by omega
        have p3 : ¬ (j : Int) < 0 := by omega
        cases x with
        | some x =>
          replace c1 : wr.cell? ⟨b, o + j * 2 + 1, none⟩ = some (.bool true) := c1
          have HX := Lib.hid (holdW_there (by omega) (by rw [HV.out]; omega) HA.out hx)
          clear hkd hx hjH ho hjW
          go_wp2_with (first | (refine kI.out.mono ?_; rintro e w1 ⟨rfl, rfl⟩) | (refine kA.out.mono ?_; rintro e w1 ⟨rfl, rfl⟩))
          go_roundw
          case rel => exact ⟨k + 1, by omega, by go_num, Lib.hid (by rw [HX.out]; exact RK.out), TK⟩
          case measure => simp [intOf]; omega
        | none =>
          replace c1 : wr.cell? ⟨b, o + j * 2 + 1, none⟩ = some (.bool false) := c1
          have c2 : (wr.cell? ⟨b, o + j * 2, none⟩) = some (.int .u8 0) := by have := RK.out.cellW hx (i := 0) (by omega); rw [← ho] at this; exact this
          have f1 := RK.out.fb (o + j * 2)
          have f2 := RK.out.fb (o + j * 2 + 1)
          have HX := Lib.hid (holdW_new (by omega) (by rw [HV.out]; omega) hkd HA.out hx)
          have R2 := Lib.hid (RK.out.put hjH D[k])
          rw [← ho] at R2
          have T2 := Lib.hid (TK.out.setCells2 rfl (o + j * 2) (o + j * 2 + 1) (.int .u8 (D[k].toNat : Int)) (.bool true))
          clear hkd hx hjH ho hjW
          go_wp2_with (first | (refine kI.out.mono ?_; rintro e w1 ⟨rfl, rfl⟩) | (refine kA.out.mono ?_; rintro e w1 ⟨rfl, rfl⟩))
          go_roundw
          case rel => exact ⟨k + 1, by omega, by go_num, Lib.hid (by rw [HX.out]; exact R2.out), T2⟩
          case measure => simp [intOf]; omega
      · have d1 : decide (a < (v : Int)) = false := decide_eq_false hin
        rw [d1] at kI
        have HX := Lib.hid (holdW_out (d := d) (s := s) (nx := nx) (W := W) (k := k) (by omega) (by rw [HV.out]; omega) (by rw [HA.out, HV.out]; exact hin))
        clear hkd
        go_wp2_with (first | (refine kI.out.mono ?_; rintro e w1 ⟨rfl, rfl⟩) | (refine kA.out.mono ?_; rintro e w1 ⟨rfl, rfl⟩))
        go_roundw
        case rel => exact ⟨k + 1, by omega, by go_num, Lib.hid (by rw [HX.out]; exact RK.out), TK⟩
        case measure => simp [intOf]; omega
    · obtain rfl : k = m := by omega
      have q3 : decide ((k : Int) < (k : Int)) = false := by simp
      have HT : Hid (d.take k = d) := Lib.hid (List.take_of_length_le (by rw [HDL.out, HM.out]; omega))
      go_wp2_with fail
      go_end0
      exact ⟨rfl, by have := RK.out; rw [HT.out] at this; exact this, TK.out⟩
end Go.Proofs.Ytlajalfalepbhaa
