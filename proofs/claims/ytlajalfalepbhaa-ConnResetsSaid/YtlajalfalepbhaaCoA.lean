/-
  Layer 15, mathematics: a segment with the number that is wanted; data that come in their order; the statements' own example, as values. No program is named here (but for the imports). Conditions: as said.
-/
import Derived.Test.YtlajalfalepbhaaCnZ
namespace Go.Proofs.Ytlajalfalepbhaa
open Go.RowKit
set_option linter.unusedVariables false

theorem in_take {v : Cn} {s : Sg} (h9 : v.st ≠ 9) (hc : countsV v s = true) (hr : hasF s.fl 2 = false) (hy : hasF s.fl 1 = false) (ha : hasF s.fl 4 = true) (h1 : v.st = 1 → s.ak = (v.iss + 1) % 4294967296) (hn : neverV v s.ak = false) : inV v s = takeV v s := by
  unfold inV
  rw [if_neg h9, hc, if_neg (by decide), hr, if_neg (by decide), hy, if_neg (by decide), ha, if_neg (by decide), if_neg (fun e => e.2 (h1 e.1)), hn, if_neg (by decide)]
theorem ahN_self (a : Int) : ahN a a = 0 := by unfold ahN; rw [Int.sub_self]; rfl
theorem winV_pos (v : Cn) : 1 ≤ winV v := by unfold winV; split <;> omega
theorem counts_want {v : Cn} {s : Sg} (h : s.sq = wantV v) : countsV v s = true := by
  have hw := winV_pos v
  have e : inN (wantV v) (wantV v) (winV v) = true := by unfold inN; rw [ahN_self]; exact decide_eq_true (by omega)
  unfold countsV mayN
  rw [h, e]
  split
  · rfl
  · rw [if_pos (by omega)]
/-- Data whose first j bytes are old come to a window that holds nothing. -/
theorem hold_old {nx s : Int} {j m : Nat} {d : List UInt8} (h0 : 0 ≤ nx ∧ nx < 4294967296) (hs : (s + j) % 4294967296 = nx) (hj : j ≤ d.length) (hd : d.length ≤ j + m) (hm : d.length ≤ 65536 ∧ m ≤ 65536) :
    holdW nx s d (List.replicate m none) = (d.drop j).map some ++ List.replicate (m - (d.length - j)) none := by
  apply List.ext_getElem?
  intro i
  rw [holdW_get]
  by_cases hi : i < m
  · rw [List.getElem?_replicate, if_pos hi, Option.map_some, Option.none_or]
    have e : idxN nx s i = i + j := by unfold idxN; omega
    rw [e]
    by_cases h2 : i < d.length - j
    · rw [List.getElem?_append_left (by rw [List.length_map, List.length_drop]; exact h2), List.getElem?_map, List.getElem?_drop, Nat.add_comm j i, List.getElem?_eq_getElem (by omega)]
      rfl
    · rw [List.getElem?_append_right (by rw [List.length_map, List.length_drop]; omega), List.length_map, List.length_drop, List.getElem?_replicate, if_pos (by omega), List.getElem?_eq_none (by omega)]
  · rw [List.getElem?_replicate, if_neg hi, Option.map_none, List.getElem?_eq_none]
    rw [List.length_append, List.length_map, List.length_drop, List.length_replicate]
    omega
theorem dataTo_old {v : Cn} {s : Sg} {j m : Nat} (hr : receivesV v = true) (hW : v.W = List.replicate m none) (h0 : 0 ≤ v.nx ∧ v.nx < 4294967296) (hs : (s.sq + j) % 4294967296 = v.nx) (hj : j ≤ s.da.data.toList.length) (hd : s.da.data.toList.length ≤ j + m) (hm : s.da.data.toList.length ≤ 65536 ∧ m ≤ 65536) :
    dataTo v s = { v with nx := (v.nx + ((s.da.data.toList.length - j : Nat) : Int)) % 4294967296, R := v.R ++ s.da.data.toList.drop j, W := List.replicate (m - (s.da.data.toList.length - j)) none } := by
  have e : putV v s = (s.da.data.toList.drop j).map some ++ List.replicate (m - (s.da.data.toList.length - j)) none := by
    unfold putV
    rw [hW, List.take_of_length_le hm.1]
    exact hold_old h0 hs hj hd hm
  unfold dataTo
  rw [if_pos hr, e, runW_somes, gotW_somes, List.length_drop]
  congr 1
  rw [List.drop_append, List.length_map, List.length_drop, Nat.sub_self, List.drop_zero, List.drop_eq_nil_of_le (by rw [List.length_map, List.length_drop]; exact Nat.le_refl _), List.nil_append]
/-- The chapter's first segment; the first steps behind it. -/
def exSyn : Sg := ⟨9, 10, 100, 0, 2, 1000, 100, ⟨#[]⟩⟩
def exS1 : Sg := ⟨0, 0, 101, 501, 16, 1000, 0, ⟨#[]⟩⟩
def exS2 : Sg := ⟨0, 0, 101, 501, 16, 1000, 0, ⟨#[104, 105]⟩⟩
def exN : Cn := newV exSyn 500 10 2 60 3 5
def exA : Cn := outV exN
def exB : Cn := inV exA exS1
def exC : Cn := inV exB exS2
/-- As it is. -/
def exV (st una win left : Int) (ck : CkV) (mr : Bool) (me nx told : Int) (R : List UInt8) (W : List (Option UInt8)) (sent : List Sg) : Cn := { fr := 10, dt := 9, st := st, rs := false, iss := 500, una := una, nxt := 501, top := 501, u := 501, L := [], cl := false, mss := 100, win := win, tsq := if st = 1 then 0 else 101, tak := if st = 1 then 0 else 501, nx := nx, R := R, W := W, eof := false, told := told, ck := ck, left := left, tries := 0, mt := 3, mr := mr, me := me, ma := 0, lg := 0, ml := 5, sent := sent }
theorem ex_n : exN = exV 1 500 0 10 ⟨2, 60, 10, false, 0, 0⟩ true 501 101 2048 [] (List.replicate 2048 none) [⟨10, 9, 500, 101, 18, 2048, 536, ⟨#[]⟩⟩] := by
  have h : ∀ W : List (Option UInt8), synV { baseV exSyn 500 10 2 60 3 5 with W := W } = exV 1 500 0 10 ⟨2, 60, 10, false, 0, 0⟩ true 501 101 W.length [] W [⟨10, 9, 500, 101, 18, W.length, 536, ⟨#[]⟩⟩] := fun W => by kernel_rfl
  have h2 := h (List.replicate 2048 none)
  rw [List.length_replicate] at h2
  exact h2
def exCk : CkV := measV ⟨2, 60, 10, false, 0, 0⟩ 0
theorem ex_a : exA = exV 1 500 0 10 ⟨2, 60, 10, false, 0, 0⟩ true 501 101 2048 [] (List.replicate 2048 none) [] := by unfold exA; rw [ex_n]; rfl
theorem ex_b : exB = exV 2 501 1000 0 exCk false 0 101 2048 [] (List.replicate 2048 none) [] := by
  unfold exB
  rw [ex_a]
  generalize hW : List.replicate 2048 (none : Option UInt8) = W
  rw [in_take (by show (1 : Int) ≠ 9; decide) (counts_want rfl) (by kernel_rfl) (by kernel_rfl) (by kernel_rfl) (fun _ => rfl) (by kernel_rfl)]
  have h1 : ∀ W, take4 (take3 (take2 (take1 (exV 1 500 0 10 ⟨2, 60, 10, false, 0, 0⟩ true 501 101 2048 [] W []) exS1) exS1) exS1) = exV 2 501 1000 0 exCk false 0 101 2048 [] W [] := fun W => by kernel_rfl
  unfold takeV take5
  rw [h1, dataTo_old (j := 0) (m := 2048) rfl hW.symm (by show (0 : Int) ≤ 101 ∧ (101 : Int) < 4294967296; decide) rfl (by decide) (by show 0 ≤ 2048; decide) (by show 0 ≤ 65536 ∧ 2048 ≤ 65536; decide)]
  have h2 : ∀ W, take6 (flushV (finTo (exV 2 501 1000 0 exCk false 0 101 2048 [] W []) exS1)) exS1 (finTo (exV 2 501 1000 0 exCk false 0 101 2048 [] W []) exS1).sent.length = exV 2 501 1000 0 exCk false 0 101 2048 [] W [] := fun W => by kernel_rfl
  rw [← hW]
  exact h2 _
theorem ex_c : exC = exV 2 501 1000 0 exCk false 0 103 2046 [104, 105] (List.replicate 2046 none) [⟨10, 9, 501, 103, 16, 2046, 0, ⟨#[]⟩⟩] := by
  unfold exC
  rw [ex_b]
  generalize hW : List.replicate 2048 (none : Option UInt8) = W
  rw [in_take (by show (2 : Int) ≠ 9; decide) (counts_want rfl) (by kernel_rfl) (by kernel_rfl) (by kernel_rfl) (fun e => by cases e) (by kernel_rfl)]
  have h1 : ∀ W, take4 (take3 (take2 (take1 (exV 2 501 1000 0 exCk false 0 101 2048 [] W []) exS2) exS2) exS2) = exV 2 501 1000 0 exCk false 0 101 2048 [] W [] := fun W => by kernel_rfl
  unfold takeV take5
  rw [h1, dataTo_old (j := 0) (m := 2048) rfl hW.symm (by show (0 : Int) ≤ 101 ∧ (101 : Int) < 4294967296; decide) rfl (by decide) (by show 2 ≤ 2048; decide) (by show 2 ≤ 65536 ∧ 2048 ≤ 65536; decide)]
  have h2 : ∀ W, take6 (flushV (finTo (exV 2 501 1000 0 exCk false 0 103 2048 [104, 105] W []) exS2)) exS2 (finTo (exV 2 501 1000 0 exCk false 0 103 2048 [104, 105] W []) exS2).sent.length = exV 2 501 1000 0 exCk false 0 103 W.length [104, 105] W [⟨10, 9, 501, 103, 16, W.length, 0, ⟨#[]⟩⟩] := fun W => by kernel_rfl
  have h3 := h2 (List.replicate 2046 none)
  rw [List.length_replicate] at h3
  exact h3
theorem exS_ok : exSyn.ok ∧ exS1.ok ∧ exS2.ok := by
  refine ⟨⟨?_, ?_, ?_, ?_, ?_, ?_, ?_, ?_⟩, ⟨?_, ?_, ?_, ?_, ?_, ?_, ?_, ?_⟩, ⟨?_, ?_, ?_, ?_, ?_, ?_, ?_, ?_⟩⟩ <;> decide
end Go.Proofs.Ytlajalfalepbhaa
