/-
  MemApart: two writes that do not meet may come in either order, and a memory knows nothing of what is written to others. No conditions: any size, places and texts.
-/
import Derived.Test.YtkkiplfclanjkaaTotal
import Derived.ProofKit
import Derived.OpenShut
import Derived.ShutString
import Derived.ChangeOld
import Derived.Below
namespace Go.Proofs.Ytkkiplfclanjkaa.apart
open Go.ChangeShapes Go.WideShapes Go.ChangeAt Go.RowKit Go.Sort
open Go.ChangeMaps (open_string shut_string)
set_option linter.unusedVariables false

theorem own : ownKnob Try.prog.godebug = none := by kernel_rfl

theorem textE_len (l l' : List UInt8) (a n : Int) (h : l.length = l'.length) : textE l a n = textE l' a n := by unfold textE; rw [h]
theorem textE_writeL (l : List UInt8) (b : Int) (s : List UInt8) (a n : Int) : textE (writeL l b s) a n = textE l a n := textE_len _ _ _ _ (writeL_length l b s)
theorem textE_all (l : List UInt8) (n : Int) (h : n = l.length) : textE l 0 n = 0 := by subst h; unfold textE; rw [if_neg (by omega)]

theorem textS_all (l : List UInt8) (n : Int) (h : n = l.length) : textS l 0 n = l := by
  have e := textE_all l n h
  unfold textS
  rw [if_pos e, h]
  simp

theorem writeL_no (l : List UInt8) (a : Int) (s : List UInt8) (h : textE l a s.length ≠ 0) : writeL l a s = l := if_neg h
theorem writeL_yes (l : List UInt8) (a : Int) (s : List UInt8) (h : textE l a s.length = 0) : writeL l a s = lay l a.toNat s := if_pos h

theorem lay_get (l : List UInt8) (a : Nat) (c : List UInt8) (hc : a + c.length ≤ l.length) (i : Nat) :
    (lay l a c)[i]? = if a ≤ i ∧ i < a + c.length then c[i - a]? else l[i]? := by
  unfold lay
  have e1 : (l.take a).length = a := by rw [List.length_take]; omega
  by_cases h1 : i < a
  · rw [List.getElem?_append_left (by omega), List.getElem?_take_of_lt h1, if_neg (by omega)]
  · rw [List.getElem?_append_right (by omega), e1]
    by_cases h2 : i < a + c.length
    · rw [List.getElem?_append_left (by omega), if_pos ⟨by omega, h2⟩]
    · rw [List.getElem?_append_right (by omega), List.getElem?_drop, if_neg (by omega)]
      congr 1
      omega

theorem lay_comm (l : List UInt8) (a b : Nat) (c d : List UInt8) (hc : a + c.length ≤ l.length) (hd : b + d.length ≤ l.length) (h : a + c.length ≤ b ∨ b + d.length ≤ a) :
    lay (lay l a c) b d = lay (lay l b d) a c := by
  apply List.ext_getElem?
  intro i
  have e1 := lay_get (lay l a c) b d (by rw [lay_length _ _ _ hc]; exact hd) i
  have e2 := lay_get (lay l b d) a c (by rw [lay_length _ _ _ hd]; exact hc) i
  rw [e1, e2, lay_get l a c hc, lay_get l b d hd]
  split <;> split <;> first | rfl | omega

/-- Writes that do not meet come to the same in either order. -/
theorem write_comm (l : List UInt8) (a b : Int) (c d : List UInt8) (h : textE l a c.length ≠ 0 ∨ textE l b d.length ≠ 0 ∨ a + c.length ≤ b ∨ b + d.length ≤ a) :
    writeL (writeL l a c) b d = writeL (writeL l b d) a c := by
  by_cases ha : textE l a c.length = 0
  · by_cases hb : textE l b d.length = 0
    · rw [writeL_yes l a c ha, writeL_yes l b d hb]
      rcases textE_cases l a c.length with ⟨_, e⟩ | ⟨a1, a2, a3, _⟩
      · rw [ha] at e; cases e
      rcases textE_cases l b d.length with ⟨_, e⟩ | ⟨b1, b2, b3, _⟩
      · rw [hb] at e; cases e
      have c1 : a.toNat + c.length ≤ l.length := by omega
      have d1 : b.toNat + d.length ≤ l.length := by omega
      rw [writeL_yes _ b d (by rw [textE_len _ l _ _ (lay_length l _ c c1)]; exact hb), writeL_yes _ a c (by rw [textE_len _ l _ _ (lay_length l _ d d1)]; exact ha)]
      exact lay_comm l _ _ c d c1 d1 (by omega)
    · rw [writeL_no l b d hb, writeL_no (writeL l a c) b d (by rw [textE_writeL]; exact hb)]
  · rw [writeL_no l a c ha, writeL_no (writeL l b d) a c (by rw [textE_writeL]; exact ha)]

/-- 'string(make([]byte, n))'. -/
theorem conv_zeros (w : World) (n : Nat) :
    (convert 40 9 (.slice (some ⟨w.heap.size, 0, none⟩) n n)).run Try.prog (w.alloc (.cells (zeros n) 5)) = .ok (.string ⟨(List.replicate n (0 : UInt8)).toArray⟩) (w.alloc (.cells (zeros n) 5)) := by
  refine conv_text _ _ 0 n n (List.replicate n 0) (by simp) fun j hj => ?_
  have hj' : j < n := by simpa using hj
  constructor
  · rw [cell_of_block (heap_alloc_new w _), getElem!_pos (List.replicate n (0 : UInt8)).toArray j hj]
    simp [zeros, eb, hj']
  · have hb := heap_alloc_new w (.cells (zeros n) 5)
    simp only [World.frozen?, hb]
    simp

set_option maxRecDepth 100000 in
set_option maxHeartbeats 1000000 in
theorem early (a0 a1 a2 : Int) (a3 a4 : ByteArray) (w3 : a3.size ≤ 9223372036854775807) (w4 : a4.size ≤ 9223372036854775807) (w : World)
    (H : a0 < 1 ∨ (1 ≤ a0 ∧ 500 < a0) ∨ (1 ≤ a0 ∧ a0 ≤ 500 ∧ (300 : Int) < a3.size) ∨ (1 ≤ a0 ∧ a0 ≤ 500 ∧ (a3.size : Int) ≤ 300 ∧ (300 : Int) < a4.size)) :
    Calls Try.prog 9 #[.int .i64 a0, .int .i64 a1, .int .i64 a2, .string a3, .string a4] w fun e w' => e = .returned (.bool true) ∧ Below w.heap.size w w' := by
  rcases H with h1 | ⟨h1, h2⟩ | ⟨h1, h2, h3⟩ | ⟨h1, h2, h3, h4⟩
  all_goals
    go_enter Try.func9, Try.ntmps9
    go_wp2_with (go_at_call 16; refine (awake_any _).mono ?_; rintro e w1 ⟨rfl, b1⟩)
    go_ret
    exact ⟨rfl, b1⟩

set_option maxRecDepth 100000 in
set_option maxHeartbeats 1000000 in
theorem late (n : Nat) (a1 a2 : Int) (a3 a4 : ByteArray) (w : World) (h1 : 1 ≤ n) (h2 : n ≤ 500) (h3 : a3.size ≤ 300) (h4 : a4.size ≤ 300) :
    Calls Try.prog 9 #[.int .i64 n, .int .i64 a1, .int .i64 a2, .string a3, .string a4] w fun e w' => e = .returned (.bool true) ∧ Below w.heap.size w w' := by
  have d1 : decide ((n : Int) < 1) = false := decide_eq_false (by omega)
  have d2 : decide ((500 : Int) < n) = false := decide_eq_false (by omega)
  have d3 : decide ((300 : Int) < a3.size) = false := decide_eq_false (by omega)
  have d4 : decide ((300 : Int) < a4.size) = false := decide_eq_false (by omega)
  go_enter Try.func9, Try.ntmps9
  go_wp2_with fail
  refine (awake_any _).mono ?_
  rintro e w1 ⟨rfl, b1⟩
  go_wp2_with fail
  refine (New_ok w1 n (by omega) (by omega)).mono ?_
  rintro e w2 ⟨rfl, m2, k2⟩
  have b2 := b1.grown k2 b1.size (fun j hj => by cases hj)
  rw [Int.toNat_natCast] at m2
  have l2 := m2.lt1
  go_wp2_with fail
  refine (New_ok w2 n (by omega) (by omega)).mono ?_
  rintro e w3 ⟨rfl, m3, k3⟩
  have b3 := b2.grown k3 b2.size (fun j hj => by cases hj)
  rw [Int.toNat_natCast] at m3
  have l3 := m3.lt1
  have m2 := m2.same k3
  go_wp2_with fail
  refine (New_ok w3 n (by omega) (by omega)).mono ?_
  rintro e w4 ⟨rfl, m4, k4⟩
  have b4 := b3.grown k4 b3.size (fun j hj => by cases hj)
  rw [Int.toNat_natCast] at m4
  have m2 := m2.same k4
  have m3 := m3.same k4
  have l4 := m4.lt1
  have zl : (List.replicate n (0 : UInt8)).length ≤ 9223372036854775807 := by rw [List.length_replicate]; omega
  obtain ⟨l0, qH0⟩ : ∃ l0, l0 = List.replicate n (0 : UInt8) := ⟨_, rfl⟩
  rw [← qH0] at m2 m3 m4 zl
  have z0 : l0.length = n := by rw [qH0, List.length_replicate]
  have H0 := Lib.hid qH0
  clear qH0
  have Z0 := Lib.hid z0
  clear z0
  go_wp2_with fail
  refine (Write_all w4 _ _ _ m2 zl a1 a3 (by omega)).mono ?_
  rintro e w5 ⟨rfl, m2, k5⟩
  have b5 := b4.grown k5 b4.size (fun j hj => by injection hj with hj; have := b1.size; omega)
  have m3 := m3.kept k5 (fun e => by injection e with e; omega) (fun e => by injection e with e; omega)
  have m4 := m4.kept k5 (fun e => by injection e with e; omega) (fun e => by injection e with e; omega)
  obtain ⟨l1, qH1⟩ : ∃ l1, l1 = writeL l0 a1 a3.data.toList := ⟨_, rfl⟩
  rw [← qH1] at m2
  have z1 : l1.length = l0.length := by rw [qH1, writeL_length]
  have qE1 : ∀ a n, textE l1 a n = textE l0 a n := fun a n => textE_len _ _ _ _ z1
  have zl1 : l1.length ≤ 9223372036854775807 := by rw [z1]; exact zl
  have H1 := Lib.hid qH1
  clear qH1
  have E1 := Lib.hid qE1
  clear qE1
  have Z1 := Lib.hid z1
  clear z1
  go_wp2_with fail
  refine (Write_all w5 _ _ _ m2 zl1 a2 a4 (by omega)).mono ?_
  rintro e w6 ⟨rfl, m2, k6⟩
  have b6 := b5.grown k6 b5.size (fun j hj => by injection hj with hj; have := b1.size; omega)
  have m3 := m3.kept k6 (fun e => by injection e with e; omega) (fun e => by injection e with e; omega)
  have m4 := m4.kept k6 (fun e => by injection e with e; omega) (fun e => by injection e with e; omega)
  rw [E1.out]
  obtain ⟨l2', qH2⟩ : ∃ l2, l2 = writeL l1 a2 a4.data.toList := ⟨_, rfl⟩
  rw [← qH2] at m2
  have z2 : l2'.length = l1.length := by rw [qH2, writeL_length]
  have zl2 : l2'.length ≤ 9223372036854775807 := by rw [z2]; exact zl1
  have H2 := Lib.hid qH2
  clear qH2
  have Z2 := Lib.hid z2
  clear z2
  go_wp2_with fail
  refine (Write_all w6 _ _ _ m3 zl a2 a4 (by omega)).mono ?_
  rintro e w7 ⟨rfl, m3, k7⟩
  have b7 := b6.grown k7 b6.size (fun j hj => by injection hj with hj; have := b2.size; omega)
  have m2 := m2.kept k7 (fun e => by injection e with e; omega) (fun e => by injection e with e; omega)
  have m4 := m4.kept k7 (fun e => by injection e with e; omega) (fun e => by injection e with e; omega)
  obtain ⟨l3', qH3⟩ : ∃ l3, l3 = writeL l0 a2 a4.data.toList := ⟨_, rfl⟩
  rw [← qH3] at m3
  have z3 : l3'.length = l0.length := by rw [qH3, writeL_length]
  have qE3 : ∀ a n, textE l3' a n = textE l0 a n := fun a n => textE_len _ _ _ _ z3
  have zl3 : l3'.length ≤ 9223372036854775807 := by rw [z3]; exact zl
  have H3 := Lib.hid qH3
  clear qH3
  have E3 := Lib.hid qE3
  clear qE3
  have Z3 := Lib.hid z3
  clear z3
  go_wp2_with fail
  refine (Write_all w7 _ _ _ m3 zl3 a1 a3 (by omega)).mono ?_
  rintro e w8 ⟨rfl, m3, k8⟩
  have b8 := b7.grown k8 b7.size (fun j hj => by injection hj with hj; have := b2.size; omega)
  have m2 := m2.kept k8 (fun e => by injection e with e; omega) (fun e => by injection e with e; omega)
  have m4 := m4.kept k8 (fun e => by injection e with e; omega) (fun e => by injection e with e; omega)
  rw [E3.out]
  obtain ⟨l4', qH4⟩ : ∃ l4, l4 = writeL l3' a1 a3.data.toList := ⟨_, rfl⟩
  rw [← qH4] at m3
  have z4 : l4'.length = l3'.length := by rw [qH4, writeL_length]
  have zl4 : l4'.length ≤ 9223372036854775807 := by rw [z4]; exact zl3
  have H4 := Lib.hid qH4
  clear qH4
  have Z4 := Lib.hid z4
  clear z4
  obtain ⟨A, qHA⟩ : ∃ A, A = textE l0 a1 a3.size := ⟨_, rfl⟩
  obtain ⟨B, qHB⟩ : ∃ B, B = textE l0 a2 a4.size := ⟨_, rfl⟩
  rw [← qHA, ← qHB]
  have HA := Lib.hid qHA
  clear qHA
  have HB := Lib.hid qHB
  clear qHB
  clear b1 b2 b3 b4 b5 b6 b7 k2 k3 k4 k5 k6 k7 k8
  go_wp2_with fail
  refine (Text_all w8 _ _ _ m2 zl2 0 n (by omega)).mono ?_
  rintro e w9 ⟨rfl, rfl⟩
  rw [textS_all l2' n (by rw [Z2.out, Z1.out, Z0.out]), textE_all l2' n (by rw [Z2.out, Z1.out, Z0.out])]
  go_wp2_with fail
  refine (Text_all w8 _ _ _ m3 zl4 0 n (by omega)).mono ?_
  rintro e w9 ⟨rfl, rfl⟩
  rw [textS_all l4' n (by rw [Z4.out, Z3.out, Z0.out]), textE_all l4' n (by rw [Z4.out, Z3.out, Z0.out])]
  go_wp2_with fail
  refine (Text_all w8 _ _ _ m4 zl 0 n (by omega)).mono ?_
  rintro e w9 ⟨rfl, rfl⟩
  rw [textS_all l0 n (by rw [Z0.out]), textE_all l0 n (by rw [Z0.out])]
  have hmk := make_bytes n (by omega)
  have hcv := conv_zeros w8 n
  rw [H0.out]
  have e3 : (a3.data.toList.length : Int) = a3.size := by simp
  have e4 : (a4.data.toList.length : Int) = a4.size := by simp
  by_cases P : A ≠ 0 ∨ B ≠ 0 ∨ a1 + a3.size ≤ a2 ∨ a2 + a4.size ≤ a1
  · have q : l2' = l4' := by
      rw [H2.out, H4.out, H1.out, H3.out]
      refine write_comm l0 a1 a2 _ _ ?_
      rw [e3, e4, ← HA.out, ← HB.out]
      exact P
    subst q
    clear P e3 e4
    go_wp2_with fail
    all_goals
      go_ret
      exact ⟨rfl, b8.alloc b8.size _⟩
  · have pA : A = 0 := by omega
    have pB : B = 0 := by omega
    subst pA pB
    rcases textE_cases l0 a1 a3.size with ⟨_, e⟩ | ⟨x1, x2, x3, _⟩
    · rw [← HA.out] at e; cases e
    rcases textE_cases l0 a2 a4.size with ⟨_, e⟩ | ⟨y1, y2, y3, _⟩
    · rw [← HB.out] at e; cases e
    rw [Z0.out] at x3 y3
    have p1 : decide (a1 + (a3.size : Int) ≤ a2) = false := decide_eq_false (by omega)
    have p2 : decide (a2 + (a4.size : Int) ≤ a1) = false := decide_eq_false (by omega)
    clear P e3 e4
    go_wp2_with fail
    go_ret
    exact ⟨rfl, b8.alloc b8.size _⟩

theorem walk (a0 a1 a2 : Int) (a3 a4 : ByteArray) (w0 : (Lit.int .i64 a0).wf = true) (w1 : (Lit.int .i64 a1).wf = true) (w2 : (Lit.int .i64 a2).wf = true) (w3 : a3.size ≤ maxLen) (w4 : a4.size ≤ maxLen) (w : World) :
    Calls Try.prog 9 #[.int .i64 a0, .int .i64 a1, .int .i64 a2, .string a3, .string a4] w fun e w' => e = .returned (.bool true) ∧ Below w.heap.size w w' := by
  unfold maxLen at w3 w4
  by_cases H : a0 < 1 ∨ (1 ≤ a0 ∧ 500 < a0) ∨ (1 ≤ a0 ∧ a0 ≤ 500 ∧ (300 : Int) < a3.size) ∨ (1 ≤ a0 ∧ a0 ≤ 500 ∧ (a3.size : Int) ≤ 300 ∧ (300 : Int) < a4.size)
  · exact early a0 a1 a2 a3 a4 w3 w4 w H
  · obtain ⟨n, rfl⟩ := Int.eq_ofNat_of_zero_le (show (0 : Int) ≤ a0 by omega)
    exact late n a1 a2 a3 a4 w (by omega) (by omega) (by omega) (by omega)

set_option maxRecDepth 100000 in
theorem lifted (os : Os) (started : os.Started) (H : Type) (enc : TypeId × Value → H) :
    ReturnsInHanded {} Try.checked os 9 .any (Rows.memApartSpec.pre6 enc Try.prog Try.f9 Rows.memApartRow.domain false) (Rows.memApartSpec.post enc Try.prog Try.f9 false true false false) := by
  refine returnsInHanded_of_change (C := Try.checked) own started (by kernel_rfl) Try.func9
    (ChangeSpec.witness6 (enc := enc) (C := Try.checked) false ⟨#[], #[.int .i64 0, .int .i64 0, .int .i64 0, .string ByteArray.empty, .string ByteArray.empty], []⟩ 8 (by kernel_rfl) (by kernel_rfl) (by kernel_rfl) (by kernel_rfl)) ?_
  intro W base args ds gs before hval0 hW hcnd _
  have hval : ∀ (j : Nat) t v, Try.f9.params[j]? = some t → args[j]? = some v → Value.okWide Try.prog W .any base t v := hval0
  have hW' := hW
  obtain ⟨p, q, hA0, hV, rfl, hfz, hnd⟩ := hW
  have hA : DataW.TrodAll enc Try.prog W 0 (fun _ => true) true Try.f9.params.toList args.toList ds p := hA0
  rw [Try.params9] at hA hval
  obtain ⟨v0, vs0, d0, ds0, p0, q0, hargs, rfl, rfl, h0, r0⟩ := trodAll_cons hA
  obtain ⟨v1, vs1, d1, ds1, p1, q1, rfl, rfl, rfl, h1, r1⟩ := trodAll_cons r0
  obtain ⟨v2, vs2, d2, ds2, p2, q2, rfl, rfl, rfl, h2, r2⟩ := trodAll_cons r1
  obtain ⟨v3, vs3, d3, ds3, p3, q3, rfl, rfl, rfl, h3, r3⟩ := trodAll_cons r2
  obtain ⟨v4, vs4, d4, ds4, p4, q4, rfl, rfl, rfl, h4, r4⟩ := trodAll_cons r3
  obtain ⟨rfl, rfl, rfl⟩ := trodAll_nil r4
  obtain rfl : args = #[v0, v1, v2, v3, v4] := by cases args; simp_all
  obtain ⟨rfl, rfl⟩ := trodVars_none hV
  obtain ⟨a0, rfl, rfl, rfl, w0⟩ := open_int Try.underlying3 (hval 0 3 v0 rfl rfl) h0
  obtain ⟨a1, rfl, rfl, rfl, w1⟩ := open_int Try.underlying3 (hval 1 3 v1 rfl rfl) h1
  obtain ⟨a2, rfl, rfl, rfl, w2⟩ := open_int Try.underlying3 (hval 2 3 v2 rfl rfl) h2
  obtain ⟨a3, rfl, rfl, rfl, w3⟩ := open_string Try.underlying9 (hval 3 9 v3 rfl rfl) h3
  obtain ⟨a4, rfl, rfl, rfl, w4⟩ := open_string Try.underlying9 (hval 4 9 v4 rfl rfl) h4
  clear hA0 hval0
  refine (walk a0 a1 a2 a3 a4 w0 w1 w2 w3 w4 W).mono fun e W' ⟨he, bel⟩ => ?_
  subst he
  exact ⟨_, rfl, _, _, _, [], _, [], hW', trodAll_mk1 (shut_bool Try.underlying4 _), (trodAll_cons_mk (shut_int Try.underlying3 w0) (trodAll_cons_mk (shut_int Try.underlying3 w1) (trodAll_cons_mk (shut_int Try.underlying3 w2) (trodAll_cons_mk (shut_string Try.underlying9 w3) (trodAll_cons_mk (shut_string Try.underlying9 w4) trodAll_mk0))))), rfl, bel.frame _, fun h => by cases h⟩

/-- THE STATEMENT. -/
theorem proved : Rows.MemApartSaid :=
  OpenClaim.holds_of_wide 9 Try.f9 rfl rfl rfl rfl rfl rfl rfl ⟨rfl, rfl, rfl, rfl, rfl⟩ rfl rfl rfl rfl rfl (by kernel_rfl) Try.func9 (by kernel_rfl)
    (of_decide_eq_true (by kernel_rfl)) (by unfold Func.isWrapper; first | (rw [if_pos (by decide +kernel)]; kernel_rfl) | (rw [if_neg (by decide +kernel)]; exact ⟨rfl, rfl⟩))
    (fun os started H enc _ => lifted os started H enc)
#print axioms proved

end Go.Proofs.Ytkkiplfclanjkaa.apart
