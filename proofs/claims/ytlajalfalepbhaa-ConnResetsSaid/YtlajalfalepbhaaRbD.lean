/-
  Layer 12: settle, Put. Conditions: as said.
-/
import Derived.Test.YtlajalfalepbhaaRbC
namespace Go.Proofs.Ytlajalfalepbhaa
open Go.RowKit
set_option linter.unusedVariables false

section
variable {w w' : World} {g b n : Nat} {nx : Int} {R : List UInt8} {W : List (Option UInt8)}
theorem Rb.settled (h : Rb w g b n nx R W) (k : Nat) (hk : k = runW W) (r : Nat) (hr : r = R.length) (y : Int) (hy : y = (nx + k) % 4294967296) :
    Rb ((w.setCell ⟨g, 1, none⟩ (.int .i64 ((r : Int) + k))).setCell ⟨g, 0, none⟩ (.int .u32 y)) g b n y (R ++ gotW W) (W.drop k) := by
  subst hk hr hy
  have hln := h.len
  have hl := runW_le W
  refine ⟨?_, ?_, h.ne, by rw [List.length_append, gotW_len, List.length_drop]; omega, h.n1, h.n2, Int.emod_nonneg _ (by decide), Int.emod_lt_of_pos _ (by decide)⟩
  · have e1 := set_cellsB h.at_ (.int .i64 ((R.length : Int) + runW W)) (i := 1) (by show 1 < 4; omega)
    have e2 := set_cellsB e1 (.int .u32 ((nx + runW W) % 4294967296)) (i := 0) (by rw [Array.size_setIfInBounds]; show 0 < 4; omega)
    rw [e2, List.length_append, gotW_len, Int.natCast_add]
    rfl
  · rw [Below.heap_setCell _ _ _ _ (by show b ≠ g; exact h.ne), Below.heap_setCell _ _ _ _ (by show b ≠ g; exact h.ne), got_places]
    exact h.row
end
set_option maxRecDepth 100000 in
set_option maxHeartbeats 2000000 in
theorem settle_ok {w : World} {g b n : Nat} {nx : Int} {R : List UInt8} {W : List (Option UInt8)} (h : Rb w g b n nx R W) :
    Calls Try.prog 103 #[.pointer (some ⟨g, 0, none⟩)] w fun e w' => e = .returned (.int .i64 (runW W)) ∧ Rb w' g b n ((nx + runW W) % 4294967296) (R ++ gotW W) (W.drop (runW W)) ∧ Turn w w' (fun k => k = g) := by
  have hv2 := h.lenW
  have HH := Lib.hid h
  have hln := h.len
  have hn2 := h.n2
  clear h
  go_enter Try.func103, Try.ntmps103
  go_upto_region 3 with (go_at_call 74; refine (window_ok HH.out).mono ?_; rintro e W1 ⟨o, rfl, q1, q2⟩; have Q1 := Lib.hid q1; have Q2 := Lib.hid q2; clear q1 q2)
  have H1 := Lib.hid (HH.out.below Q2.out)
  have T1 : Hid (Turn w W1 (fun k => k = g)) := Lib.hid (Turn.of_below Q2.out)
  clear HH Q2
  generalize hv : W.length = v at hv2 hln ⊢
  have HV := Lib.hid hv
  clear hv
  go_loop [4] (fun i => ∃ k : Nat, k ≤ v ∧ i = .int .i64 k ∧ Hid (∀ j, j < k → ∃ x, W[j]? = some (some x))) (fun i => v - (intOf i).toNat)
  case atStart => exact ⟨0, Nat.zero_le _, rfl, Lib.hid (fun j hj => by omega)⟩
  case round =>
    obtain ⟨k, hk, rfl, HK⟩ := hrel
    have q1 : (0 : Int) ≤ (k : Int) := by omega
    have fin : ∀ (hg : W[k]? = some none ∨ W[k]? = none), Hid (runW W = k) := fun hg => runW_spec W k HK.out hg (by rw [HV.out]; exact hk)
    by_cases hlt : k < v
    · have hkl : k < W.length := by rw [HV.out]; exact hlt
      obtain ⟨x, hx⟩ : ∃ x, W[k]? = some x := ⟨_, List.getElem?_eq_getElem hkl⟩
      have ho : o = R.length * 2 := by
        rcases Q1.out with e | e
        · rw [e] at hkl; simp at hkl
        · exact e
      have c1 := H1.out.cellW hx (i := 1) (by omega)
      rw [← ho] at c1
      have q2 : (k : Int) < (v : Int) := by omega
      have q3 : decide ((k : Int) < (v : Int)) = true := decide_eq_true q2
      cases x with
      | some x =>
        replace c1 : W1.cell? ⟨b, o + k * 2 + 1, none⟩ = some (.bool true) := c1
        have hwj : IntKind.i64.wrap ((k : Int) + 1) = (k : Int) + 1 := IntWalk.i64_in _ (by omega)
        have HK2 : Hid (∀ j, j < k + 1 → ∃ x, W[j]? = some (some x)) := Lib.hid (fun j hj => by
          by_cases e : j = k
          · subst e; exact ⟨x, hx⟩
          · exact HK.out j (by omega))
        clear fin hx hkl ho
        go_wp2_with fail
        go_round
        case rel => exact ⟨k + 1, by omega, by go_num, HK2⟩
        case measure => simp [intOf]; omega
      | none =>
        replace c1 : W1.cell? ⟨b, o + k * 2 + 1, none⟩ = some (.bool false) := c1
        have HF := fin (.inl hx)
        clear fin hx hkl ho
        obtain ⟨r, hr⟩ : ∃ r, r = R.length := ⟨_, rfl⟩
        obtain ⟨y, hy⟩ : ∃ y, y = (nx + k) % 4294967296 := ⟨_, rfl⟩
        have d0 := H1.out.c0
        have d1 := H1.out.c1
        have f0 := H1.out.f 0
        have f1 := H1.out.f 1
        rw [← hr] at d1
        have w1 : IntKind.i64.wrap ((r : Int) + k) = (r : Int) + k := IntWalk.i64_in _ (by omega)
        have w2 : IntKind.u32.wrap (k : Int) = (k : Int) := by rw [IntKind.wrap_u32]; omega
        have w3 : IntKind.u32.wrap (nx + k) = y := by rw [IntKind.wrap_u32, hy]
        have HS := Lib.hid (H1.out.settled k HF.out.symm r hr y hy)
        have T2 := Lib.hid ((T1.out.setCell rfl 1 (.int .i64 ((r : Int) + k))).setCell rfl 0 (.int .u32 y))
        have HY := Lib.hid hy
        clear hr hy
        go_wp2_with fail
        go_ret
        have hy := HY.out
        subst hy
        rw [HF.out]
        exact ⟨rfl, HS.out, T2.out⟩
    · obtain rfl : k = v := by omega
      have HF := fin (.inr (List.getElem?_eq_none (by rw [HV.out]; omega)))
      have q3 : decide ((k : Int) < (k : Int)) = false := by simp
      clear fin
      obtain ⟨r, hr⟩ : ∃ r, r = R.length := ⟨_, rfl⟩
      obtain ⟨y, hy⟩ : ∃ y, y = (nx + k) % 4294967296 := ⟨_, rfl⟩
      have d0 := H1.out.c0
      have d1 := H1.out.c1
      have f0 := H1.out.f 0
      have f1 := H1.out.f 1
      rw [← hr] at d1
      have w1 : IntKind.i64.wrap ((r : Int) + k) = (r : Int) + k := IntWalk.i64_in _ (by omega)
      have w2 : IntKind.u32.wrap (k : Int) = (k : Int) := by rw [IntKind.wrap_u32]; omega
      have w3 : IntKind.u32.wrap (nx + k) = y := by rw [IntKind.wrap_u32, hy]
      have HS := Lib.hid (H1.out.settled k HF.out.symm r hr y hy)
      have T2 := Lib.hid ((T1.out.setCell rfl 1 (.int .i64 ((r : Int) + k))).setCell rfl 0 (.int .u32 y))
      have HY := Lib.hid hy
      clear hr hy
      go_wp2_with fail
      go_ret
      have hy := HY.out
      subst hy
      rw [HF.out]
      exact ⟨rfl, HS.out, T2.out⟩

theorem Turn.pair {w w' : World} {O O' : Nat → Prop} (h : Turn w w' O) (k : ∀ j, O j → O' j) : Turn w w' O' := h.mono (fun j _ => k j)
set_option maxRecDepth 100000 in
set_option maxHeartbeats 2000000 in
/-- What Put answers, and leaves. -/
theorem bput_ok {w : World} {g b n : Nat} {nx : Int} {R : List UInt8} {W : List (Option UInt8)} (h : Rb w g b n nx R W) (s : Int) (hs : 0 ≤ s ∧ s < 4294967296) (D : ByteArray) (d : List UInt8) (hD : D.data.toList.take 65536 = d) (W' : List (Option UInt8)) (hW : W' = holdW nx s d W) :
    Calls Try.prog 92 #[.pointer (some ⟨g, 0, none⟩), .int .u32 s, .string D] w fun e w' => e = .returned (.int .i64 (runW W')) ∧ Rb w' g b n ((nx + runW W') % 4294967296) (R ++ gotW W') (W'.drop (runW W')) ∧ Turn w w' (fun k => k = g ∨ k = b) := by
  obtain ⟨M, hM⟩ : ∃ M : Nat, M = min D.size 65536 := ⟨_, rfl⟩
  have e1 : min (D.size : Int) 65536 = (M : Int) := by omega
  have e2 : (M : Int) ≤ (D.size : Int) := by omega
  have e3 : (0 : Int) ≤ (M : Int) := by omega
  have hE : (D.extract 0 M).data.toList = d := by
    rw [ByteArray.data_extract, Array.toList_extract, ← hD, List.extract_eq_take_drop, List.drop_zero, Nat.sub_zero]
    by_cases hz : D.size ≤ 65536
    · rw [List.take_of_length_le (by rw [Array.length_toList]; show D.size ≤ M; omega), List.take_of_length_le (by rw [Array.length_toList]; show D.size ≤ 65536; omega)]
    · rw [show M = 65536 by omega]
  have hES : (D.extract 0 M).size ≤ 65536 := by rw [ByteArray.size_extract]; omega
  have KH := Lib.hid (hold_ok h s hs (D.extract 0 M) d hE hES)
  have HH := Lib.hid h
  rw [← hW] at KH
  clear hW hE hES hD hM h
  go_enter Try.func92, Try.ntmps92
  go_wp2_with (first | (go_at_call 72; refine (bnone_no HH.out).mono ?_; rintro e w' ⟨rfl, rfl⟩) | (refine KH.out.mono ?_; rintro e W1 ⟨rfl, q1, q2⟩; have Q1 := Lib.hid q1; have Q2 := Lib.hid q2; clear q1 q2) | (refine (settle_ok Q1.out).mono ?_; rintro e W2 ⟨rfl, q1, q2⟩; have Q3 := Lib.hid q1; have Q4 := Lib.hid q2; clear q1 q2))
  go_ret
  exact ⟨rfl, Q3.out, (Q2.out.pair (fun _ => .inr)).trans (Q4.out.pair (fun _ => .inl))⟩
end Go.Proofs.Ytlajalfalepbhaa
