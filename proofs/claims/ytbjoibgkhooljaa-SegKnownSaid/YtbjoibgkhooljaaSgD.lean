/-
  Layer 10: what the program reads numbers, a head's size and options as. Conditions: a text has at most 2^47 bytes.
-/
import Derived.Test.YtbjoibgkhooljaaSgB
import Derived.Test.YtbjoibgkhooljaaIpG
import Derived.Test.YtbjoibgkhooljaaIpE
namespace Go.Proofs.Ytbjoibgkhooljaa
open Go.RowKit Go.Sort
set_option linter.unusedVariables false

theorem num_rf (s : ByteArray) (k : Nat) (h : k + 4 ≤ s.size) : num (cutS s (k : Int) 4).reverse = rf s.data.toList k := by
  have hL : s.data.toList.length = s.size := list_size s
  have hc : cutS s k 4 = [s.data.toList.getD k 0, s.data.toList.getD (k + 1) 0, s.data.toList.getD (k + 2) 0, s.data.toList.getD (k + 3) 0] := by
    unfold cutS okR
    rw [if_pos (decide_eq_true (by omega))]
    show (s.data.toList.drop k).take 4 = _
    apply List.ext_getElem?
    intro t
    rw [List.getElem?_take, List.getElem?_drop]
    have h0 : k < s.data.toList.length := by omega
    have h1 : k + 1 < s.data.toList.length := by omega
    have h2 : k + 2 < s.data.toList.length := by omega
    have h3 : k + 3 < s.data.toList.length := by omega
    rcases t with _ | _ | _ | _ | t
    · simp [List.getD, List.getElem?_eq_getElem h0]
    · simp [List.getD, List.getElem?_eq_getElem h1]
    · simp [List.getD, List.getElem?_eq_getElem h2]
    · simp [List.getD, List.getElem?_eq_getElem h3]
    · simp; omega
  rw [hc]
  simp only [List.reverse_cons, List.reverse_nil, List.nil_append, List.cons_append, num, rf, bt]
  omega
theorem word10 (w : World) (s : ByteArray) (k : Int) (K : Nat) (hk : k = (K : Int)) (hs : s.size ≤ 9223372036854775807) (h : K + 2 ≤ s.size) (X : Nat) (hX : X = wd s.data.toList K) :
    Calls Try.prog 49 #[.string s, .int .i64 k] w fun e w' => e = .returned (.int .i64 (X : Int)) ∧ Below w.heap.size w w' := by
  subst hk
  have hn := num_wd s K h
  have hl := wd_lt s.data.toList K
  rw [← hX] at hn hl
  have hw : IntKind.i64.wrap (X : Int) = (X : Int) := IntWalk.i64_in _ (by omega)
  clear hl hX
  go_enter Try.func49, Try.ntmps49
  go_wp2_with fail
  refine (ReadBig_all w s K 2 hs).mono ?_
  rintro e w1 ⟨rfl, k1⟩
  rw [hn]
  go_wp2_with fail
  go_ret
  exact ⟨rfl, Below.of_none k1⟩
theorem long10 (w : World) (s : ByteArray) (k : Int) (K : Nat) (hk : k = (K : Int)) (hs : s.size ≤ 9223372036854775807) (h : K + 4 ≤ s.size) (X : Nat) (hX : X = rf s.data.toList K) :
    Calls Try.prog 50 #[.string s, .int .i64 k] w fun e w' => e = .returned (.int .u32 (X : Int)) ∧ Below w.heap.size w w' := by
  subst hk
  have hn := num_rf s K h
  have hl := rf_lt s.data.toList K
  rw [← hX] at hn hl
  have hw : IntKind.u32.wrap (X : Int) = (X : Int) := IntWalk.u32_in _ (by omega)
  clear hl hX
  go_enter Try.func50, Try.ntmps50
  go_wp2_with fail
  refine (ReadBig_all w s K 4 hs).mono ?_
  rintro e w1 ⟨rfl, k1⟩
  rw [hn]
  go_wp2_with fail
  go_ret
  exact ⟨rfl, Below.of_none k1⟩
/-- Whether a head is there, and how many bytes it has. -/
def hdE (s : ByteArray) : Int := if s.size < 20 then 7 else if unS s.data.toList < 20 then 8 else if s.size < unS s.data.toList then 7 else 0
def hdN (s : ByteArray) : Int := if hdE s = 0 then unS s.data.toList else 0
set_option maxRecDepth 100000 in
set_option maxHeartbeats 1000000 in
theorem head10 (w : World) (s : ByteArray) (hs : s.size ≤ 140737488355328) :
    Calls Try.prog 46 #[.string s] w fun e w' => e = .returned (.tuple #[.int .i64 (hdN s), .int .i64 (hdE s)]) ∧ w = w' := by
  by_cases h0 : s.size < 20
  · have e1 : hdE s = 7 := by rw [hdE, if_pos h0]
    rw [hdN, e1, if_neg (by decide)]
    have h1 : decide ((s.size : Int) < 20) = true := decide_eq_true (by omega)
    clear e1
    go_enter Try.func46, Try.ntmps46
    go_wp2_with fail
    go_ret2
    exact ⟨rfl, rfl⟩
  have h1 : decide ((s.size : Int) < 20) = false := decide_eq_false (by omega)
  have i12 : 12 < s.size := by omega
  obtain ⟨X, hX⟩ : ∃ X, X = bt s.data.toList 12 := ⟨_, rfl⟩
  have hl := bt_lt s.data.toList 12
  rw [← hX] at hl
  have HX : (s[12]'i12).toNat = X := by rw [hX]; exact bt_at s 12 i12
  obtain ⟨Y, hY⟩ : ∃ Y, Y = X / 16 := ⟨_, rfl⟩
  have s4 : (X : Int) / 16 = (Y : Int) := by omega
  have hU : unS s.data.toList = 4 * Y := by rw [unS, ← hX, ← hY]
  obtain ⟨U, hUe⟩ : ∃ U, U = unS s.data.toList := ⟨_, rfl⟩
  have w1 : IntKind.i64.wrap (Y : Int) = (Y : Int) := IntWalk.i64_in _ (by omega)
  have w2 : IntKind.i64.wrap ((Y : Int) * 4) = (U : Int) := by rw [IntWalk.i64_in _ (by omega)]; omega
  by_cases h2 : U < 20
  · have e1 : hdE s = 8 := by rw [hdE, if_neg h0, if_pos (by omega)]
    rw [hdN, e1, if_neg (by decide)]
    have h3 : decide ((U : Int) < 20) = true := decide_eq_true (by omega)
    clear e1 hU hUe hY hX hl h0
    go_enter Try.func46, Try.ntmps46
    go_wp2_with fail
    go_ret2
    exact ⟨rfl, rfl⟩
  have h3 : decide ((U : Int) < 20) = false := decide_eq_false (by omega)
  by_cases h4 : s.size < U
  · have e1 : hdE s = 7 := by rw [hdE, if_neg h0, if_neg (by omega), if_pos (by omega)]
    rw [hdN, e1, if_neg (by decide)]
    have h5 : decide ((s.size : Int) < (U : Int)) = true := decide_eq_true (by omega)
    clear e1 hU hUe hY hX hl h0
    go_enter Try.func46, Try.ntmps46
    go_wp2_with fail
    go_ret2
    exact ⟨rfl, rfl⟩
  · have e1 : hdE s = 0 := by rw [hdE, if_neg h0, if_neg (by omega), if_neg (by omega)]
    rw [hdN, e1, if_pos rfl, ← hUe]
    have h5 : decide ((s.size : Int) < (U : Int)) = false := decide_eq_false (by omega)
    clear e1 hU hUe hY hX hl h0
    go_enter Try.func46, Try.ntmps46
    go_wp2_with fail
    go_ret2
    exact ⟨rfl, rfl⟩
set_option maxRecDepth 100000 in
set_option maxHeartbeats 2000000 in
theorem option10 (w : World) (s : ByteArray) (h0 : 0 < s.size) (hs : s.size ≤ 140737488355328) (Z : Nat) (hZ : Z = szO s.data.toList) :
    Calls Try.prog 80 #[.string s] w fun e w' => e = .returned (.tuple #[.int .i64 (Z : Int), .bool (decide (Z ≠ 0))]) ∧ w = w' := by
  obtain ⟨X, hX⟩ : ∃ X, X = bt s.data.toList 0 := ⟨_, rfl⟩
  have HX : (s[0]'h0).toNat = X := by rw [hX]; exact bt_at s 0 h0
  by_cases h1 : X = 1
  · have e1 : Z = 1 := by rw [hZ, szO, ← hX, if_pos h1]
    subst e1
    have hb : ((X : Int) == 1) = true := by simp [h1]
    rw [show decide (1 ≠ 0) = true from rfl]
    clear hZ hX h1
    go_enter Try.func80, Try.ntmps80
    go_wp2_with fail
    go_ret2
    exact ⟨rfl, rfl⟩
  have hb : ((X : Int) == 1) = false := by simp; omega
  by_cases h2 : s.size ≤ 1
  · have e1 : Z = 0 := by rw [hZ, szO, ← hX, if_neg h1, list_size, if_pos h2]
    subst e1
    have hb2 : decide ((s.size : Int) ≤ 1) = true := decide_eq_true (by omega)
    rw [show decide ((0 : Nat) ≠ 0) = false from rfl]
    clear hZ hX h1
    go_enter Try.func80, Try.ntmps80
    go_wp2_with fail
    go_ret2
    exact ⟨rfl, rfl⟩
  have hb2 : decide ((s.size : Int) ≤ 1) = false := decide_eq_false (by omega)
  have i1 : 1 < s.size := by omega
  obtain ⟨Y, hY⟩ : ∃ Y, Y = bt s.data.toList 1 := ⟨_, rfl⟩
  have hl := bt_lt s.data.toList 1
  rw [← hY] at hl
  have HY : (s[1]'i1).toNat = Y := by rw [hY]; exact bt_at s 1 i1
  have w1 : IntKind.i64.wrap (Y : Int) = (Y : Int) := IntWalk.i64_in _ (by omega)
  have hz : Z = if Y < 2 ∨ s.size < Y ∨ (X = 2 ∧ Y ≠ 4) then 0 else Y := by rw [hZ, szO, ← hX, ← hY, if_neg h1, list_size, if_neg (by omega)]
  by_cases h3 : Y < 2
  · have e1 : Z = 0 := by rw [hz, if_pos (.inl h3)]
    subst e1
    have hb3 : decide ((Y : Int) < 2) = true := decide_eq_true (by omega)
    rw [show decide ((0 : Nat) ≠ 0) = false from rfl]
    clear hZ hX h1 hz hY hl h2
    go_enter Try.func80, Try.ntmps80
    go_wp2_with fail
    go_ret2
    exact ⟨rfl, rfl⟩
  have hb3 : decide ((Y : Int) < 2) = false := decide_eq_false (by omega)
  by_cases h4 : s.size < Y
  · have e1 : Z = 0 := by rw [hz, if_pos (.inr (.inl h4))]
    subst e1
    have hb4 : decide ((s.size : Int) < (Y : Int)) = true := decide_eq_true (by omega)
    rw [show decide ((0 : Nat) ≠ 0) = false from rfl]
    clear hZ hX h1 hz hY hl h2
    go_enter Try.func80, Try.ntmps80
    go_wp2_with fail
    go_ret2
    exact ⟨rfl, rfl⟩
  have hb4 : decide ((s.size : Int) < (Y : Int)) = false := decide_eq_false (by omega)
  by_cases h5 : X = 2
  · have hb5 : ((X : Int) == 2) = true := by simp [h5]
    by_cases h6 : Y = 4
    · have e1 : Z = Y := by rw [hz, if_neg (by omega)]
      have hb6 : ((Y : Int) != 4) = false := by simp [h6]
      rw [e1, show decide (Y ≠ 0) = true from decide_eq_true (by omega)]
      clear hZ hX h1 hz hY hl h2 h5 h6 e1
      go_enter Try.func80, Try.ntmps80
      go_wp2_with fail
      go_ret2
      exact ⟨rfl, rfl⟩
    · have e1 : Z = 0 := by rw [hz, if_pos (.inr (.inr ⟨h5, h6⟩))]
      subst e1
      have hb6 : ((Y : Int) != 4) = true := by simp; omega
      rw [show decide ((0 : Nat) ≠ 0) = false from rfl]
      clear hZ hX h1 hz hY hl h2 h5 h6
      go_enter Try.func80, Try.ntmps80
      go_wp2_with fail
      go_ret2
      exact ⟨rfl, rfl⟩
  · have hb5 : ((X : Int) == 2) = false := by simp; omega
    have e1 : Z = Y := by rw [hz, if_neg (by omega)]
    rw [e1, show decide (Y ≠ 0) = true from decide_eq_true (by omega)]
    clear hZ hX h1 hz hY hl h2 h5 e1
    go_enter Try.func80, Try.ntmps80
    go_wp2_with fail
    go_ret2
    exact ⟨rfl, rfl⟩

end Go.Proofs.Ytbjoibgkhooljaa
