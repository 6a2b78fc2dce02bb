/-
  Layer 3: orders; an order's head and data as the driver writes them, whether it may be, whether an answer may be. Conditions: as said at each.
-/
import Derived.Test.YtdchlnffbiooaaaGreatDoorBlkB
import Derived.Test.YtdchlnffbiooaaaGreatDoorNumber
import Derived.IntWalk
namespace Go.Proofs.YtdchlnffbiooaaaGreatDoor
open Go.RowKit Go.Sort

/-- An order. -/
structure Ord where
  kind : Int
  sec : Int
  data : ByteArray
def Ord.val (o : Ord) : Value := .agg #[.int .i64 o.kind, .int .i64 o.sec, .string o.data]

/-- What stands in an order's head. -/
def headL (s : Shp) (o : Ord) : List UInt8 := leL s.num 4 ++ leL 0 4 ++ leL (if s.sec = 1 then o.sec else 0) 8
/-- .. in its data, as the driver writes them. -/
def dataL (s : Shp) (o : Ord) : List UInt8 := if s.sec = 2 then leL o.sec 8 ++ leL 1 4 ++ leL 0 4 else o.data.data.toList
theorem leL_len (x n : Int) : (leL x n).length ≤ 8 := by
  unfold leL
  split
  · rw [le_length]; omega
  · simp
theorem len2 (x n y m : Int) : ¬ 9223372036854775807 < (leL x n).length + (leL y m).length := by
  have := leL_len x n
  have := leL_len y m
  omega
theorem len3 (x n y m z k : Int) : ¬ 9223372036854775807 < (leL x n).length + (leL y m).length + (leL z k).length := by
  have := leL_len x n
  have := leL_len y m
  have := leL_len z k
  omega
theorem cat3 (a b c : List UInt8) : (⟨a.toArray⟩ : ByteArray) ++ ⟨b.toArray⟩ ++ ⟨c.toArray⟩ = ⟨(a ++ b ++ c).toArray⟩ := by
  apply ByteArray.ext
  simp

set_option maxHeartbeats 1000000 in
theorem head_any (w : World) (s : Shp) (o : Ord) (h0 : 0 ≤ s.num) (k0 : 0 ≤ o.sec) (k1 : o.sec ≤ 9223372036854775807) :
    Calls Tryz.prog 47 #[s.val, o.val] w fun e w' => e = .returned (.string ⟨(headL s o).toArray⟩) ∧ w.grownBy w' none := by
  obtain ⟨sk, sn, sl, sb, ss⟩ := s
  obtain ⟨ok, os_, od⟩ := o
  unfold Shp.val Ord.val headL
  simp only at h0 k0 k1 ⊢
  have ka := World.grownBy_alloc w (.cells #[.int .i64 sk, .int .u64 sn, .int .i64 sl, .bool sb, .int .i64 ss] 74) none
  have kb := ka.trans (World.grownBy_alloc _ (.cells #[.int .i64 ok, .int .i64 os_, .string od] 39) none)
  have hw : IntKind.u64.wrap os_ = os_ := IntWalk.u64_in _ (by omega)
  by_cases hs : ss = 1
  · subst hs
    rw [if_pos rfl]
    have n2 := len2 sn 4 0 4
    have n3 := len3 sn 4 0 4 os_ 8
    go_enter Tryz.func47, Tryz.ntmps47
    go_wp2_with fail
    refine (Little_all _ sn 4 h0).mono ?_
    rintro e w1 ⟨rfl, k1⟩
    go_wp2_with fail
    refine (Little_all _ 0 4 (by omega)).mono ?_
    rintro e w2 ⟨rfl, k2⟩
    go_wp2_with fail
    refine (Little_all _ os_ 8 k0).mono ?_
    rintro e w3 ⟨rfl, k3⟩
    go_wp2_with fail
    exact bodyPost_ret (v := .string ⟨(leL sn 4 ++ leL 0 4 ++ leL os_ 8).toArray⟩) (by simp [results, Tryz.results47, go_sem, cat3]) rfl ⟨rfl, ((kb.trans k1).trans k2).trans k3⟩
  · have hs1 : (ss == 1) = false := beq_eq_false_iff_ne.2 hs
    rw [if_neg hs]
    clear hs
    have n2 := len2 sn 4 0 4
    have n3 := len3 sn 4 0 4 0 8
    go_enter Tryz.func47, Tryz.ntmps47
    go_wp2_with fail
    refine (Little_all _ sn 4 h0).mono ?_
    rintro e w1 ⟨rfl, k1⟩
    go_wp2_with fail
    refine (Little_all _ 0 4 (by omega)).mono ?_
    rintro e w2 ⟨rfl, k2⟩
    go_wp2_with fail
    refine (Little_all _ 0 8 (by omega)).mono ?_
    rintro e w3 ⟨rfl, k3⟩
    go_wp2_with fail
    exact bodyPost_ret (v := .string ⟨(leL sn 4 ++ leL 0 4 ++ leL 0 8).toArray⟩) (by simp [results, Tryz.results47, go_sem, cat3]) rfl ⟨rfl, ((kb.trans k1).trans k2).trans k3⟩

set_option maxHeartbeats 1000000 in
theorem data_any (w : World) (s : Shp) (o : Ord) (k0 : 0 ≤ o.sec) (k1 : o.sec ≤ 9223372036854775807) :
    Calls Tryz.prog 48 #[s.val, o.val] w fun e w' => e = .returned (.string ⟨(dataL s o).toArray⟩) ∧ w.grownBy w' none := by
  obtain ⟨sk, sn, sl, sb, ss⟩ := s
  obtain ⟨ok, os_, od⟩ := o
  unfold Shp.val Ord.val dataL
  simp only at k0 k1 ⊢
  have ka := World.grownBy_alloc w (.cells #[.int .i64 sk, .int .u64 sn, .int .i64 sl, .bool sb, .int .i64 ss] 74) none
  have kb := ka.trans (World.grownBy_alloc _ (.cells #[.int .i64 ok, .int .i64 os_, .string od] 39) none)
  have hw : IntKind.u64.wrap os_ = os_ := IntWalk.u64_in _ (by omega)
  by_cases hs : ss = 2
  · subst hs
    rw [if_pos rfl]
    have n2 := len2 os_ 8 1 4
    have n3 := len3 os_ 8 1 4 0 4
    go_enter Tryz.func48, Tryz.ntmps48
    go_wp2_with fail
    refine (Little_all _ os_ 8 k0).mono ?_
    rintro e w1 ⟨rfl, k1⟩
    go_wp2_with fail
    refine (Little_all _ 1 4 (by omega)).mono ?_
    rintro e w2 ⟨rfl, k2⟩
    go_wp2_with fail
    refine (Little_all _ 0 4 (by omega)).mono ?_
    rintro e w3 ⟨rfl, k3⟩
    go_wp2_with fail
    exact bodyPost_ret (v := .string ⟨(leL os_ 8 ++ leL 1 4 ++ leL 0 4).toArray⟩) (by simp [results, Tryz.results48, go_sem, cat3]) rfl ⟨rfl, ((kb.trans k1).trans k2).trans k3⟩
  · have hs1 : (ss != 2) = true := by simpa using hs
    rw [if_neg hs]
    clear hs
    go_enter Tryz.func48, Tryz.ntmps48
    go_wp2_with fail
    go_ret
    exact ⟨rfl, kb⟩

/-- May an order of a known kind be, of a disk of so many sectors? -/
def mayOrd (sectors : Int) (o : Ord) : Bool := decide (0 ≤ o.sec) && decide (o.sec < if o.kind = 3 then 1 else sectors) && decide ((o.data.size : Int) = if o.kind = 2 then 64 else 0)
set_option maxHeartbeats 1000000 in
theorem kmayBe_any (w : World) (b g : Nat) (base sectors limit : Int) (q u : Nat) (last now : Int) (dead : Bool) (hk : KAt w b g base sectors limit q u last now dead) (o : Ord) :
    Calls Tryz.prog 22 #[.pointer (some ⟨b, 0, none⟩), o.val] w fun e w' => e = .returned (.bool (mayOrd sectors o)) ∧ w.grownBy w' none := by
  obtain ⟨ok, os_, od⟩ := o
  unfold Ord.val
  have c2 := hk.c2
  have ka := World.grownBy_alloc w (.cells #[.int .i64 ok, .int .i64 os_, .string od] 39) none
  have hlt := lt_of_block hk
  clear hk
  obtain ⟨M, hM⟩ : ∃ M, M = mayOrd sectors ⟨ok, os_, od⟩ := ⟨_, rfl⟩
  rw [← hM]
  unfold mayOrd at hM
  simp only at hM
  have HM := Lib.hid hM
  clear hM
  by_cases h3 : ok = 3
  · subst h3
    by_cases a1 : 0 ≤ os_
    · by_cases a2 : os_ < 1
      · by_cases a3 : (od.size : Int) = 0
        · have b3 : ((od.size : Int) == 0) = true := beq_iff_eq.2 a3
          have hv : M = true := by rw [HM.out]; simp only [a1, a2, a3, show ((3 : Int) = 2) = False from by decide, decide_true, Bool.and_self, if_true, if_false]
          subst hv
          clear a3
          go_enter Tryz.func22, Tryz.ntmps22
          go_wp2_with fail
          go_ret
          exact ⟨rfl, ka⟩
        · have b3 : ((od.size : Int) == 0) = false := beq_eq_false_iff_ne.2 a3
          have hv : M = false := by rw [HM.out]; simp only [a1, a2, a3, show ((3 : Int) = 2) = False from by decide, decide_true, decide_false, Bool.and_false, if_true, if_false]
          subst hv
          clear a3
          go_enter Tryz.func22, Tryz.ntmps22
          go_wp2_with fail
          go_ret
          exact ⟨rfl, ka⟩
      · have b2 : decide (os_ < 1) = false := decide_eq_false a2
        have hv : M = false := by rw [HM.out]; simp only [a1, a2, show ((3 : Int) = 2) = False from by decide, decide_true, decide_false, Bool.and_false, Bool.false_and, if_true, if_false]
        subst hv
        clear a2
        go_enter Tryz.func22, Tryz.ntmps22
        go_wp2_with fail
        go_ret
        exact ⟨rfl, ka⟩
    · have b1 : decide (0 ≤ os_) = false := decide_eq_false a1
      have hv : M = false := by rw [HM.out]; simp only [a1, decide_false, Bool.false_and]
      subst hv
      clear a1
      go_enter Tryz.func22, Tryz.ntmps22
      go_wp2_with fail
      go_ret
      exact ⟨rfl, ka⟩
  by_cases h2 : ok = 2
  · subst h2
    by_cases a1 : 0 ≤ os_
    · by_cases a2 : os_ < sectors
      · by_cases a3 : (od.size : Int) = 64
        · have b3 : ((od.size : Int) == 64) = true := beq_iff_eq.2 a3
          have hv : M = true := by rw [HM.out]; simp only [a1, a2, a3, show ((2 : Int) = 3) = False from by decide, decide_true, Bool.and_self, if_true, if_false]
          subst hv
          clear a3
          go_enter Tryz.func22, Tryz.ntmps22
          go_wp2_with fail
          go_ret
          exact ⟨rfl, ka⟩
        · have b3 : ((od.size : Int) == 64) = false := beq_eq_false_iff_ne.2 a3
          have hv : M = false := by rw [HM.out]; simp only [a1, a2, a3, show ((2 : Int) = 3) = False from by decide, decide_true, decide_false, Bool.and_false, if_true, if_false]
          subst hv
          clear a3
          go_enter Tryz.func22, Tryz.ntmps22
          go_wp2_with fail
          go_ret
          exact ⟨rfl, ka⟩
      · have b2 : decide (os_ < sectors) = false := decide_eq_false a2
        have hv : M = false := by rw [HM.out]; simp only [a1, a2, show ((2 : Int) = 3) = False from by decide, decide_true, decide_false, Bool.and_false, Bool.false_and, if_true, if_false]
        subst hv
        clear a2
        go_enter Tryz.func22, Tryz.ntmps22
        go_wp2_with fail
        go_ret
        exact ⟨rfl, ka⟩
    · have b1 : decide (0 ≤ os_) = false := decide_eq_false a1
      have hv : M = false := by rw [HM.out]; simp only [a1, decide_false, Bool.false_and]
      subst hv
      clear a1
      go_enter Tryz.func22, Tryz.ntmps22
      go_wp2_with fail
      go_ret
      exact ⟨rfl, ka⟩
  have k3 : (ok == 3) = false := beq_eq_false_iff_ne.2 h3
  have k2 : (ok == 2) = false := beq_eq_false_iff_ne.2 h2
  by_cases a1 : 0 ≤ os_
  · by_cases a2 : os_ < sectors
    · by_cases a3 : (od.size : Int) = 0
      · have b3 : ((od.size : Int) == 0) = true := beq_iff_eq.2 a3
        have hv : M = true := by rw [HM.out]; simp only [h3, h2, a1, a2, a3, decide_true, Bool.and_self, if_false]
        subst hv
        clear a3
        go_enter Tryz.func22, Tryz.ntmps22
        go_wp2_with fail
        go_ret
        exact ⟨rfl, ka⟩
      · have b3 : ((od.size : Int) == 0) = false := beq_eq_false_iff_ne.2 a3
        have hv : M = false := by rw [HM.out]; simp only [h3, h2, a1, a2, a3, decide_true, decide_false, Bool.and_false, if_false]
        subst hv
        clear a3
        go_enter Tryz.func22, Tryz.ntmps22
        go_wp2_with fail
        go_ret
        exact ⟨rfl, ka⟩
    · have b2 : decide (os_ < sectors) = false := decide_eq_false a2
      have hv : M = false := by rw [HM.out]; simp only [h3, h2, a1, a2, decide_true, decide_false, Bool.and_false, Bool.false_and, if_false]
      subst hv
      clear a2
      go_enter Tryz.func22, Tryz.ntmps22
      go_wp2_with fail
      go_ret
      exact ⟨rfl, ka⟩
  · have b1 : decide (0 ≤ os_) = false := decide_eq_false a1
    have hv : M = false := by rw [HM.out]; simp only [a1, decide_false, Bool.false_and]
    subst hv
    clear a1
    go_enter Tryz.func22, Tryz.ntmps22
    go_wp2_with fail
    go_ret
    exact ⟨rfl, ka⟩

/-- What the device keeps of an order. -/
structure Tkn where
  read : Bool
  dat : Int
  st : Int
def Tkn.val (x : Tkn) : Value := .agg #[.bool x.read, .int .i64 x.dat, .int .i64 x.st]
/-- Has an answer the data that it must have? -/
def mayAns (x : Tkn) (ok : Bool) (d : ByteArray) : Bool := if x.read && ok then decide (d.size = 64) else d.toList.isEmpty
set_option maxHeartbeats 1000000 in
theorem rmayAnswer_any (w : World) (x : Tkn) (ok : Bool) (d : ByteArray) :
    Calls Tryz.prog 31 #[x.val, .bool ok, .string d] w fun e w' => e = .returned (.bool (mayAns x ok d)) ∧ w.grownBy w' none := by
  obtain ⟨xr, xd, xs⟩ := x
  unfold Tkn.val mayAns
  have ka := World.grownBy_alloc w (.cells #[.bool xr, .int .i64 xd, .int .i64 xs] 92) none
  by_cases h : (xr && ok) = true
  · simp only [Bool.and_eq_true] at h
    obtain ⟨rfl, rfl⟩ := h
    by_cases h64 : d.size = 64
    · have e : ((d.size : Int) == 64) = true := beq_iff_eq.2 (by omega)
      simp only [h64, Bool.and_self, if_true, decide_true]
      clear h64
      go_enter Tryz.func31, Tryz.ntmps31
      go_wp2_with fail
      go_ret
      exact ⟨rfl, ka⟩
    · have e : ((d.size : Int) == 64) = false := beq_eq_false_iff_ne.2 (by omega)
      simp only [h64, Bool.and_self, if_true, decide_false]
      clear h64
      go_enter Tryz.func31, Tryz.ntmps31
      go_wp2_with fail
      go_ret
      exact ⟨rfl, ka⟩
  · rw [if_neg h]
    cases xr with
    | true =>
      have hk : ok = false := by simpa using h
      subst hk
      clear h
      go_enter Tryz.func31, Tryz.ntmps31
      go_wp2_with fail
      go_ret
      exact ⟨rfl, ka⟩
    | false =>
      clear h
      go_enter Tryz.func31, Tryz.ntmps31
      go_wp2_with fail
      go_ret
      exact ⟨rfl, ka⟩

end Go.Proofs.YtdchlnffbiooaaaGreatDoor
