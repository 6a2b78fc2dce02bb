/-
  Layer 10: a segment's bytes, and what bytes are read as, as mathematics. No program is named here.
-/
import Derived.Test.YtbjoibgkhooljaaSgA
import Derived.Test.YtbjoibgkhooljaaIcM
import Derived.Test.YtbjoibgkhooljaaIpB
namespace Go.Proofs.Ytbjoibgkhooljaa
open Go.RowKit Go.Sort
set_option linter.unusedVariables false

/-- Whether a segment's numbers are so. -/
def maySg (f : Sg) : Bool := decide ((0 ≤ f.fr ∧ f.fr ≤ 65535) ∧ (0 ≤ f.dt ∧ f.dt ≤ 65535) ∧ (0 ≤ f.fl ∧ f.fl ≤ 31) ∧ (0 ≤ f.wi ∧ f.wi ≤ 65535) ∧ (0 ≤ f.ms ∧ f.ms ≤ 65535) ∧ (f.ms = 0 ∨ f.fl / 2 % 2 = 1))
theorem maySg_all {f : Sg} (h : maySg f = true) : (0 ≤ f.fr ∧ f.fr ≤ 65535) ∧ (0 ≤ f.dt ∧ f.dt ≤ 65535) ∧ (0 ≤ f.fl ∧ f.fl ≤ 31) ∧ (0 ≤ f.wi ∧ f.wi ≤ 65535) ∧ (0 ≤ f.ms ∧ f.ms ≤ 65535) ∧ (f.ms = 0 ∨ f.fl / 2 % 2 = 1) := of_decide_eq_true h
/-- How long it is. -/
def sgN (f : Sg) : Int := f.da.size + (if f.fl / 2 % 2 = 1 then 1 else 0) + (if f.fl % 2 = 1 then 1 else 0)
/-- Its options; how many bytes they are. -/
def opL (f : Sg) : List UInt8 := if f.ms = 0 then [] else [UInt8.ofNat 2] ++ [UInt8.ofNat 4] ++ two f.ms.toNat
def opN (f : Sg) : Nat := if f.ms = 0 then 0 else 4
theorem opL_length (f : Sg) : (opL f).length = opN f := by
  unfold opL opN
  split <;> rfl
theorem opN_le (f : Sg) : opN f = 0 ∨ opN f = 4 := by
  unfold opN
  split
  · exact .inl rfl
  · exact .inr rfl
def ahS (f : Sg) : List UInt8 := two f.fr.toNat ++ two f.dt.toNat ++ four f.sq.toNat ++ four f.ak.toNat ++ [UInt8.ofNat (80 + 4 * opN f)] ++ [UInt8.ofNat f.fl.toNat] ++ two f.wi.toNat
def bhS (f : Sg) : List UInt8 := two 0 ++ opL f ++ f.da.data.toList
theorem ahS_length (f : Sg) : (ahS f).length = 16 := rfl
theorem bhS_length (f : Sg) : (bhS f).length = 2 + opN f + f.da.size := by
  rw [bhS, List.length_append, List.length_append, opL_length, list_size, show (two 0).length = 2 from rfl]
/-- What the packet around a segment tells ahead of it. -/
def preL (i j : Ip4) (n : Nat) : List UInt8 := i.list ++ j.list ++ two 6 ++ two n
theorem preL_length (i j : Ip4) (n : Nat) : (preL i j n).length = 12 := rfl
def sumS (i j : Ip4) (l : List UInt8) : Nat := sumT (preL i j l.length ++ l)
theorem sumS_le (i j : Ip4) (l : List UInt8) : sumS i j l ≤ 65535 := sumT_le _
def sgK (i j : Ip4) (f : Sg) : Nat := sumS i j (ahS f ++ two 0 ++ bhS f)
theorem sgK_le (i j : Ip4) (f : Sg) : sgK i j f ≤ 65535 := sumS_le _ _ _
def sgL (i j : Ip4) (f : Sg) : List UInt8 := ahS f ++ two (sgK i j f) ++ bhS f
def sgE (f : Sg) : Int := if maySg f = false then 1 else if 546 < opN f + f.da.size then 3 else 0
def sgS (i j : Ip4) (f : Sg) : ByteArray := if sgE f = 0 then ⟨(sgL i j f).toArray⟩ else ⟨#[]⟩
theorem two_lenS (n : Nat) : (two n).length = 2 := rfl
theorem sgL_length (i j : Ip4) (f : Sg) : (sgL i j f).length = 20 + opN f + f.da.size := by
  rw [sgL, List.length_append, List.length_append, ahS_length, bhS_length, show (two (sgK i j f)).length = 2 from rfl]; omega
theorem sgE_zero {f : Sg} : sgE f = 0 ↔ (maySg f = true ∧ opN f + f.da.size ≤ 546) := by
  unfold sgE
  cases maySg f
  · simp
  · by_cases h : 546 < opN f + f.da.size
    · have : ¬ opN f + f.da.size ≤ 546 := by omega
      simp [h, this]
    · have : opN f + f.da.size ≤ 546 := by omega
      simp [h, this]
theorem sgS_list {i j : Ip4} {f : Sg} (h : sgE f = 0) : (sgS i j f).data.toList = sgL i j f := by rw [sgS, if_pos h]
theorem sgS_size {i j : Ip4} {f : Sg} (h : sgE f = 0) : (sgS i j f).size = 20 + opN f + f.da.size := by rw [← list_size, sgS_list h, sgL_length]
theorem sgL_sum (i j : Ip4) (f : Sg) : sumS i j (sgL i j f) = 0 := by
  have hn : (sgL i j f).length = (ahS f ++ two 0 ++ bhS f).length := by rw [sgL_length, List.length_append, List.length_append, ahS_length, bhS_length, two_lenS]; omega
  have h := sum_placed (preL i j (ahS f ++ two 0 ++ bhS f).length ++ ahS f) (bhS f) (by rw [List.length_append, preL_length, ahS_length])
  rw [sumS, hn, sgL]
  rw [sgK, sumS]
  generalize (ahS f ++ two 0 ++ bhS f).length = M at h ⊢
  rw [show ([0, 0] : List UInt8) = two 0 from rfl] at h
  generalize two 0 = Z at h ⊢
  generalize preL i j M = P at h ⊢
  generalize ahS f = A at h ⊢
  generalize bhS f = B at h ⊢
  simp only [List.append_assoc] at h ⊢
  exact h
/-- The number that four bytes are, from a place on. -/
def rf (l : List UInt8) (k : Nat) : Nat := 16777216 * bt l k + 65536 * bt l (k + 1) + 256 * bt l (k + 2) + bt l (k + 3)
theorem rf_lt (l : List UInt8) (k : Nat) : rf l k < 4294967296 := by
  have := bt_lt l k
  have := bt_lt l (k + 1)
  have := bt_lt l (k + 2)
  have := bt_lt l (k + 3)
  unfold rf; omega
/-- How many bytes a head has. -/
def unS (l : List UInt8) : Nat := 4 * (bt l 12 / 16)
theorem unS_le (l : List UInt8) : unS l ≤ 60 := by
  have := bt_lt l 12
  unfold unS; omega
/-- How many bytes the first option has; none, if it is not as it should be. -/
def szO (l : List UInt8) : Nat := if bt l 0 = 1 then 1 else if l.length ≤ 1 then 0 else if bt l 1 < 2 ∨ l.length < bt l 1 ∨ (bt l 0 = 2 ∧ bt l 1 ≠ 4) then 0 else bt l 1
def optR : Nat → Nat → List UInt8 → Option Nat
  | 0, m, _ => some m
  | k + 1, m, l => if l.length = 0 ∨ bt l 0 = 0 then some m else if szO l = 0 then none else optR k (if bt l 0 = 2 then wd l 2 else m) (l.drop (szO l))
def optS (s : ByteArray) : Option Nat := optR 60 0 ((s.data.toList.take (unS s.data.toList)).drop 20)
theorem szO_le (l : List UInt8) (h0 : 0 < l.length) : szO l ≤ l.length := by unfold szO; split <;> (try split) <;> (try split) <;> omega
theorem optR_lt : ∀ (k m : Nat) (l : List UInt8) (x : Nat), m < 65536 → optR k m l = some x → x < 65536
  | 0, m, l, x, hm, h => by simp only [optR, Option.some.injEq] at h; omega
  | k + 1, m, l, x, hm, h => by
    rw [optR] at h
    split at h
    · simp only [Option.some.injEq] at h; omega
    · split at h
      · cases h
      · refine optR_lt k _ _ x ?_ h
        split
        · exact wd_lt _ _
        · exact hm
def okS (s : ByteArray) : Option Int := if s.size < 20 then some 7 else if unS s.data.toList < 20 then some 8 else if s.size < unS s.data.toList then some 7 else if 566 < s.size then some 3 else none
/-- What bytes are read as; why they are not. -/
def srE (i j : Ip4) (s : ByteArray) : Int := (okS s).getD (if sumS i j s.data.toList ≠ 0 then 9 else if optS s = none then 8 else 0)
def srQ (s : ByteArray) : Sg := ⟨wd s.data.toList 0, wd s.data.toList 2, rf s.data.toList 4, rf s.data.toList 8, (bt s.data.toList 13 % 32 : Nat), wd s.data.toList 14, if (bt s.data.toList 13 / 2 % 2 = 1) then (((optS s).getD 0 : Nat) : Int) else 0, s.extract (unS s.data.toList) s.size⟩
def srP (i j : Ip4) (s : ByteArray) : Sg := if srE i j s = 0 then srQ s else sgZ
theorem okS_none {s : ByteArray} : okS s = none ↔ (20 ≤ s.size ∧ 20 ≤ unS s.data.toList ∧ unS s.data.toList ≤ s.size ∧ s.size ≤ 566) := by
  unfold okS
  split
  · simp; omega
  split
  · simp; omega
  split
  · simp; omega
  split
  · simp; omega
  · simp; omega
theorem okS_ne {s : ByteArray} {x : Int} (h : okS s = some x) : x ≠ 0 := by
  unfold okS at h
  split at h
  · injection h with h; omega
  split at h
  · injection h with h; omega
  split at h
  · injection h with h; omega
  split at h
  · injection h with h; omega
  · cases h
theorem srE_zero {i j : Ip4} {s : ByteArray} : srE i j s = 0 ↔ (okS s = none ∧ sumS i j s.data.toList = 0 ∧ optS s ≠ none) := by
  unfold srE
  cases h : okS s with
  | some x =>
    have := okS_ne h
    simp [this]
  | none =>
    by_cases h1 : sumS i j s.data.toList = 0
    · by_cases h2 : optS s = none
      · simp [h1, h2]
      · simp [h1, h2]
    · simp [h1]
theorem srQ_ok (s : ByteArray) (h : s.size ≤ maxLen) : (srQ s).ok := by
  have h0 := wd_lt s.data.toList 0
  have h1 := wd_lt s.data.toList 2
  have h2 := wd_lt s.data.toList 14
  have h3 := bt_lt s.data.toList 13
  refine ⟨wf_of _ (by omega), wf_of _ (by omega), wf_of4 _ (rf_lt _ _), wf_of4 _ (rf_lt _ _), wf_of _ (by omega), wf_of _ (by omega), ?_, ?_⟩
  · show (Lit.int .i64 (if (bt s.data.toList 13 / 2 % 2 = 1) then (((optS s).getD 0 : Nat) : Int) else 0)).wf = true
    split
    · cases hx : optS s with
      | none => exact wf_of 0 (by omega)
      | some x =>
        have : x < 65536 := optR_lt _ _ _ _ (by omega) hx
        exact wf_of x (by omega)
    · exact wf_of 0 (by omega)
  · show (s.extract _ s.size).size ≤ maxLen
    rw [ByteArray.size_extract]
    omega
theorem srP_ok (i j : Ip4) (s : ByteArray) (h : s.size ≤ maxLen) : (srP i j s).ok := by
  unfold srP
  split
  · exact srQ_ok s h
  · exact sgZ_ok
theorem u32_lt {x : Int} (h : (Lit.int .u32 x).wf = true) : 0 ≤ x ∧ x < 4294967296 := by
  simp [Lit.wf, IntKind.min, IntKind.max, IntKind.signed, IntKind.bits] at h
  omega
/-- What stands in the bytes of a segment. -/
theorem sgL_bytes (i j : Ip4) (f : Sg) : ∃ x y : UInt8, sgL i j f = UInt8.ofNat (f.fr.toNat / 256) :: UInt8.ofNat (f.fr.toNat % 256) :: UInt8.ofNat (f.dt.toNat / 256) :: UInt8.ofNat (f.dt.toNat % 256) ::
    UInt8.ofNat (f.sq.toNat / 16777216) :: UInt8.ofNat (f.sq.toNat / 65536) :: UInt8.ofNat (f.sq.toNat / 256) :: UInt8.ofNat f.sq.toNat :: UInt8.ofNat (f.ak.toNat / 16777216) :: UInt8.ofNat (f.ak.toNat / 65536) :: UInt8.ofNat (f.ak.toNat / 256) :: UInt8.ofNat f.ak.toNat ::
    UInt8.ofNat (80 + 4 * opN f) :: UInt8.ofNat f.fl.toNat :: UInt8.ofNat (f.wi.toNat / 256) :: UInt8.ofNat (f.wi.toNat % 256) :: x :: y :: UInt8.ofNat 0 :: UInt8.ofNat 0 :: (opL f ++ f.da.data.toList) := ⟨_, _, rfl⟩
theorem bt_ofs (a : Nat) : (UInt8.ofNat a).toNat = a % 256 := UInt8.toNat_ofNat'
/-- What has bytes is read from them. -/
theorem read_back10 (i j : Ip4) (f : Sg) (hf : f.ok) (h : sgE f = 0) : srE i j (sgS i j f) = 0 ∧ srQ (sgS i j f) = f := by
  obtain ⟨hm, hz⟩ := sgE_zero.1 h
  obtain ⟨⟨a0, a1⟩, ⟨b0, b1⟩, ⟨c0, c1⟩, ⟨d0, d1⟩, ⟨e0, e1⟩, g⟩ := maySg_all hm
  obtain ⟨q0, q1⟩ := u32_lt hf.2.2.1
  obtain ⟨k0, k1⟩ := u32_lt hf.2.2.2.1
  have hop := opN_le f
  have hsz := sgS_size (i := i) (j := j) h
  have hsum : sumS i j (sgS i j f).data.toList = 0 := by rw [sgS_list h]; exact sgL_sum i j f
  obtain ⟨x, y, hL⟩ := sgL_bytes i j f
  have hS := sgS_list (i := i) (j := j) h
  rw [hL] at hS
  have hun : unS (sgS i j f).data.toList = 20 + opN f := by
    rw [hS]
    show 4 * ((UInt8.ofNat (80 + 4 * opN f)).toNat / 16) = _
    rw [bt_ofs]
    omega
  have hopt : optS (sgS i j f) = some f.ms.toNat := by
    unfold optS
    rw [hun, hS]
    rw [List.drop_take]
    show optR 60 0 (List.take (20 + opN f - 20) (opL f ++ f.da.data.toList)) = _
    rw [show 20 + opN f - 20 = (opL f).length by rw [opL_length]; omega, List.take_left]
    unfold opL
    by_cases hms : f.ms = 0
    · rw [if_pos hms, hms]; rfl
    · rw [if_neg hms]
      have w2 : wd ([UInt8.ofNat 2] ++ [UInt8.ofNat 4] ++ two f.ms.toNat) 2 = f.ms.toNat := by
        show 256 * (UInt8.ofNat (f.ms.toNat / 256)).toNat + (UInt8.ofNat (f.ms.toNat % 256)).toNat = _
        rw [bt_ofs, bt_ofs]; omega
      have z4 : szO ([UInt8.ofNat 2] ++ [UInt8.ofNat 4] ++ two f.ms.toNat) = 4 := rfl
      show (if _ then _ else if szO ([UInt8.ofNat 2] ++ [UInt8.ofNat 4] ++ two f.ms.toNat) = 0 then none else optR 59 (if bt ([UInt8.ofNat 2] ++ [UInt8.ofNat 4] ++ two f.ms.toNat) 0 = 2 then wd ([UInt8.ofNat 2] ++ [UInt8.ofNat 4] ++ two f.ms.toNat) 2 else 0) (([UInt8.ofNat 2] ++ [UInt8.ofNat 4] ++ two f.ms.toNat).drop (szO ([UInt8.ofNat 2] ++ [UInt8.ofNat 4] ++ two f.ms.toNat)))) = _
      rw [z4, w2]
      rfl
  have hE : srE i j (sgS i j f) = 0 := srE_zero.2 ⟨okS_none.2 ⟨by omega, by omega, by omega, by omega⟩, hsum, by rw [hopt]; simp⟩
  refine ⟨hE, ?_⟩
  refine Sg.same ⟨?_, ?_, ?_, ?_, ?_, ?_, ?_, ?_⟩
  · show ((wd (sgS i j f).data.toList 0 : Nat) : Int) = f.fr
    rw [hS]
    show ((256 * (UInt8.ofNat (f.fr.toNat / 256)).toNat + (UInt8.ofNat (f.fr.toNat % 256)).toNat : Nat) : Int) = _
    rw [bt_ofs, bt_ofs]; omega
  · show ((wd (sgS i j f).data.toList 2 : Nat) : Int) = f.dt
    rw [hS]
    show ((256 * (UInt8.ofNat (f.dt.toNat / 256)).toNat + (UInt8.ofNat (f.dt.toNat % 256)).toNat : Nat) : Int) = _
    rw [bt_ofs, bt_ofs]; omega
  · show ((rf (sgS i j f).data.toList 4 : Nat) : Int) = f.sq
    rw [hS]
    show ((16777216 * (UInt8.ofNat (f.sq.toNat / 16777216)).toNat + 65536 * (UInt8.ofNat (f.sq.toNat / 65536)).toNat + 256 * (UInt8.ofNat (f.sq.toNat / 256)).toNat + (UInt8.ofNat f.sq.toNat).toNat : Nat) : Int) = _
    rw [bt_ofs, bt_ofs, bt_ofs, bt_ofs]; omega
  · show ((rf (sgS i j f).data.toList 8 : Nat) : Int) = f.ak
    rw [hS]
    show ((16777216 * (UInt8.ofNat (f.ak.toNat / 16777216)).toNat + 65536 * (UInt8.ofNat (f.ak.toNat / 65536)).toNat + 256 * (UInt8.ofNat (f.ak.toNat / 256)).toNat + (UInt8.ofNat f.ak.toNat).toNat : Nat) : Int) = _
    rw [bt_ofs, bt_ofs, bt_ofs, bt_ofs]; omega
  · show ((bt (sgS i j f).data.toList 13 % 32 : Nat) : Int) = f.fl
    rw [hS]
    show (((UInt8.ofNat f.fl.toNat).toNat % 32 : Nat) : Int) = _
    rw [bt_ofs]; omega
  · show ((wd (sgS i j f).data.toList 14 : Nat) : Int) = f.wi
    rw [hS]
    show ((256 * (UInt8.ofNat (f.wi.toNat / 256)).toNat + (UInt8.ofNat (f.wi.toNat % 256)).toNat : Nat) : Int) = _
    rw [bt_ofs, bt_ofs]; omega
  · show (if (bt (sgS i j f).data.toList 13 / 2 % 2 = 1) then (((optS (sgS i j f)).getD 0 : Nat) : Int) else 0) = f.ms
    rw [hopt, hS]
    show (if ((UInt8.ofNat f.fl.toNat).toNat / 2 % 2 = 1) then ((f.ms.toNat : Nat) : Int) else 0) = f.ms
    rw [bt_ofs]
    split <;> omega
  · apply same_data
    show ((sgS i j f).extract (unS (sgS i j f).data.toList) (sgS i j f).size).data.toList = _
    rw [drop_data, hun, hS, show 20 + opN f = (opL f).length + 20 by rw [opL_length]; omega]
    show List.drop (opL f).length (opL f ++ f.da.data.toList) = _
    rw [List.drop_left]
theorem read_back10P (i j : Ip4) (f : Sg) (hf : f.ok) (h : sgE f = 0) : srP i j (sgS i j f) = f := by
  obtain ⟨h1, h2⟩ := read_back10 i j f hf h
  rw [srP, if_pos h1, h2]
theorem tot_pre (i j : Ip4) (n : Nat) (l : List UInt8) : tot (preL i j n ++ l) = tot i.list + tot j.list + tot (two 6 ++ two n ++ l) := by
  unfold preL
  rw [List.append_assoc, List.append_assoc, List.append_assoc, List.append_assoc, tot_append i.list _ (show 4 % 2 = 0 from rfl), tot_append j.list _ (show 4 % 2 = 0 from rfl)]
  omega
/-- The addresses may stand the other way about. -/
theorem sumS_swap (i j : Ip4) (l : List UInt8) : sumS i j l = sumS j i l := by
  unfold sumS sumT
  rw [tot_pre, tot_pre, Nat.add_comm (tot i.list)]
theorem srE_swap (i j : Ip4) (s : ByteArray) : srE i j s = srE j i s := by unfold srE; rw [sumS_swap]
theorem srP_swap (i j : Ip4) (s : ByteArray) : srP i j s = srP j i s := by unfold srP; rw [srE_swap]
/-- A bit of the bytes that is turned is found. -/
theorem turned10 (i j : Ip4) (l : List UInt8) (k b : Nat) (h : k < l.length) (hb : b < 8) (h0 : sumS i j l = 0) : sumS i j (l.set k (l[k] ^^^ (1 <<< UInt8.ofNat b))) ≠ 0 := by
  have hl : 12 + k < (preL i j l.length ++ l).length := by rw [List.length_append, preL_length]; omega
  have hg : (preL i j l.length ++ l)[12 + k] = l[k] := by rw [List.getElem_append_right (by rw [preL_length]; omega)]; simp [preL_length]
  have e := sum_turned (preL i j l.length ++ l) (12 + k) b hl hb
  rw [hg, List.set_append_right _ _ (by rw [preL_length]; omega), preL_length, Nat.add_sub_cancel_left] at e
  unfold sumS at h0 ⊢
  rw [List.length_set]
  rw [h0] at e
  exact e
/-- A bit of an address that is turned is found. -/
theorem other10 (i j o : Ip4) (l : List UInt8) (k b : Nat) (h : k < 4) (hb : b < 8) (ho : o.list = j.list.set k ((j.list.getD k 0) ^^^ (1 <<< UInt8.ofNat b))) (h0 : sumS i j l = 0) : sumS i o l ≠ 0 := by
  have hj : j.list.length = 4 := rfl
  have hi : i.list.length = 4 := rfl
  have hl : 4 + k < (preL i j l.length ++ l).length := by rw [List.length_append, preL_length]; omega
  have hp : preL i j l.length ++ l = i.list ++ (j.list ++ (two 6 ++ two l.length ++ l)) := by unfold preL; simp only [List.append_assoc]
  have hp2 : preL i o l.length ++ l = i.list ++ (o.list ++ (two 6 ++ two l.length ++ l)) := by unfold preL; simp only [List.append_assoc]
  have e := sum_turned (preL i j l.length ++ l) (4 + k) b hl hb
  have hg : (preL i j l.length ++ l)[4 + k] = j.list.getD k 0 := by
    simp only [hp]
    rw [List.getElem_append_right (by rw [hi]; omega), List.getElem_append_left (by rw [hj, hi]; omega), List.getD_eq_getElem?_getD]
    simp only [hi, Nat.add_sub_cancel_left]
    rw [List.getElem?_eq_getElem (by rw [hj]; exact h)]
    rfl
  rw [hg] at e
  have hs : (preL i j l.length ++ l).set (4 + k) ((j.list.getD k 0) ^^^ (1 <<< UInt8.ofNat b)) = preL i o l.length ++ l := by
    rw [hp, hp2, List.set_append_right _ _ (by rw [hi]; omega), hi, Nat.add_sub_cancel_left, List.set_append_left _ _ (by rw [hj]; exact h), ← ho]
  rw [hs] at e
  unfold sumS at h0 ⊢
  rw [h0] at e
  exact e
theorem srE_sum {i j : Ip4} {s : ByteArray} (h : srE i j s = 0) (o p : Ip4) (h2 : sumS o p s.data.toList ≠ 0) : srE o p s = 9 := by
  obtain ⟨h1, _, _⟩ := srE_zero.1 h
  unfold srE
  rw [h1]
  simp [h2]

end Go.Proofs.Ytbjoibgkhooljaa
