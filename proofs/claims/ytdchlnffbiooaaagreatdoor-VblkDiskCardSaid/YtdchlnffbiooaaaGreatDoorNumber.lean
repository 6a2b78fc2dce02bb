/-
  The contracts of the numbers' calls of package mem: Little, Big, ReadLittle, ReadBig, for all arguments. Condition: a text is no longer than an int can tell.
-/
import Derived.Test.YtdchlnffbiooaaaGreatDoorRev
import Derived.Lib.ConvBytes
namespace Go.Proofs.YtdchlnffbiooaaaGreatDoor
open Go.RowKit Go.Sort

/-- The bytes of a number, lowest first; none, where it may not have so many. -/
def leL (x n : Int) : List UInt8 := if 1 ≤ n ∧ n ≤ 8 then le x.toNat n.toNat else []
/-- Is there a number of n bytes in so many from a place on? -/
def okR (len : Nat) (a n : Int) : Bool := decide (1 ≤ n ∧ n ≤ 8 ∧ 0 ≤ a ∧ a + n ≤ len)
/-- The bytes from there on. -/
def cutS (s : ByteArray) (a n : Int) : List UInt8 := if okR s.size a n = true then (s.data.toList.drop a.toNat).take n.toNat else []

set_option maxHeartbeats 400000 in
theorem spread_no (w : World) (x n : Int) (h : n < 1 ∨ 8 < n) :
    Calls Tryz.prog 106 #[.int .u64 x, .int .i64 n] w fun e w' => e = .returned (.slice none 0 0) ∧ w = w' := by
  go_enter Tryz.func106, Tryz.ntmps106
  go_wp2_with (go_at_call 98; refine (mayHave_no _ _ h).mono ?_; rintro e w' ⟨rfl, rfl⟩)
  go_ret
  exact ⟨rfl, rfl⟩

theorem holds_new (w : World) (n : Nat) : Holds eb (w.alloc (.cells (zeros n) 5)) w.heap.size 0 (List.replicate n (0 : UInt8)).toArray := by
  intro j hj
  have hj' : j < n := by simpa using hj
  constructor
  · rw [cell_of_block (heap_alloc_new w _), getElem!_pos (List.replicate n (0 : UInt8)).toArray j hj]
    simp [zeros, eb, hj']
  · have hb := heap_alloc_new w (.cells (zeros n) 5)
    simp only [World.frozen?, hb]
    simp

set_option maxHeartbeats 400000 in
theorem spread_yes (w : World) (X n : Nat) (h1 : 1 ≤ n) (h2 : n ≤ 8) :
    Calls Tryz.prog 106 #[.int .u64 X, .int .i64 n] w
      fun e w' => e = .returned (.slice (some ⟨w.heap.size, 0, none⟩) n n) ∧ Holds eb w' w.heap.size 0 (le X n).toArray ∧ w.grownBy w' none ∧ w.heap.size < w'.heap.size := by
  have hmk := make_bytes n (by omega)
  have hh := holds_new w n
  have hp := holds_putRow eb (w.alloc (.cells (zeros n) 5)) w.heap.size 0 _ (le X n).toArray hh (by simp [le_length])
  have hg : w.grownBy (putRow eb (w.alloc (.cells (zeros n) 5)) w.heap.size 0 (le X n).toArray) none :=
    ⟨rfl, rfl, rfl, by simp, fun k hk _ => by
      rw [(putRow_grown _ w.heap.size 0 _).block k (by simp; omega) (by simp; omega), Below.heap_alloc w _ k hk]⟩
  have hs : w.heap.size < (putRow eb (w.alloc (.cells (zeros n) 5)) w.heap.size 0 (le X n).toArray).heap.size := by simp
  have HP := Lib.hid (And.intro hp (And.intro hg hs))
  clear hp hg hs
  go_enter Tryz.func106, Tryz.ntmps106
  go_wp2_with (go_at_call 98; refine (mayHave_yes _ _ (by omega) (by omega)).mono ?_; rintro e w' ⟨rfl, rfl⟩)
  refine (put_at _ 0 n n X _ _ (List.length_replicate) h2 hh).mono ?_
  rintro e w' ⟨rfl, rfl⟩
  go_wp2_with fail
  go_ret
  exact ⟨rfl, HP.out⟩

/-- What 'string(b)' is of a nil slice. -/
theorem conv_nil (w : World) : (convert 54 9 (.slice none 0 0)).run Tryz.prog w = .ok (.string ByteArray.empty) w :=
  run_convert_bytes_nil (P := Tryz.prog) w _ 5 Tryz.underlying54 Tryz.underlying5 0 0 _ Tryz.underlying9

theorem empty_eq : (ByteArray.empty) = ⟨(([] : List UInt8)).toArray⟩ := rfl

set_option maxHeartbeats 400000 in
theorem Little_all (w : World) (x n : Int) (hx : 0 ≤ x) :
    Calls Tryz.prog 87 #[.int .u64 x, .int .i64 n] w fun e w' => e = .returned (.string ⟨(leL x n).toArray⟩) ∧ w.grownBy w' none := by
  obtain ⟨X, rfl⟩ := Int.eq_ofNat_of_zero_le hx
  by_cases h : 1 ≤ n ∧ n ≤ 8
  · obtain ⟨n, rfl⟩ := Int.eq_ofNat_of_zero_le (show (0 : Int) ≤ n by omega)
    unfold leL
    rw [if_pos h, Int.toNat_natCast, Int.toNat_natCast]
    go_enter Tryz.func87, Tryz.ntmps87
    go_wp2_with fail
    refine (spread_yes w X n (by omega) (by omega)).mono ?_
    rintro e w1 ⟨rfl, h1, k1, _⟩
    have hq := conv_text w1 w.heap.size 0 n n _ (le_length X n) h1
    go_wp2_with fail
    go_ret
    exact ⟨rfl, k1⟩
  · unfold leL
    rw [if_neg h, ← empty_eq]
    have hq := conv_nil w
    go_enter Tryz.func87, Tryz.ntmps87
    go_wp2_with fail
    refine (spread_no w X n (by omega)).mono ?_
    rintro e w1 ⟨rfl, rfl⟩
    go_wp2_with fail
    go_ret
    exact ⟨rfl, World.grownBy.refl _ _⟩







set_option maxHeartbeats 400000 in
theorem cut_no (w : World) (s : ByteArray) (a n : Int) (hs : s.size ≤ 9223372036854775807) (h : okR s.size a n = false) :
    Calls Tryz.prog 96 #[.string s, .int .i64 a, .int .i64 n] w fun e w' => e = .returned (.tuple #[.slice none 0 0, .bool false]) ∧ w = w' := by
  have h' : ¬ (1 ≤ n ∧ n ≤ 8 ∧ 0 ≤ a ∧ a + n ≤ s.size) := of_decide_eq_false h
  clear h
  by_cases h1 : n < 1 ∨ 8 < n
  · clear h'
    go_enter Tryz.func96, Tryz.ntmps96
    go_wp2_with (go_at_call 98; refine (mayHave_no _ _ h1).mono ?_; rintro e w' ⟨rfl, rfl⟩)
    go_ret2
    exact ⟨rfl, rfl⟩
  · have h2 : a < 0 ∨ n < 0 ∨ (s.size : Int) < a + n := by omega
    clear h'
    go_enter Tryz.func96, Tryz.ntmps96
    go_wp2_with fail
    refine (mayHave_yes _ _ (by omega) (by omega)).mono ?_
    rintro e w' ⟨rfl, rfl⟩
    go_wp2_with fail
    refine (inside_no _ _ _ _ (by omega) (by omega) (by omega) h2).mono ?_
    rintro e w' ⟨rfl, rfl⟩
    go_wp2_with fail
    go_ret2
    exact ⟨rfl, rfl⟩

theorem bytes_holds (w : World) (s : ByteArray) : Holds eb (Lib.bytesWorld w 5 s) w.heap.size 0 s.data := by
  intro j hj
  have hj' : j < s.size := hj
  constructor
  · rw [Nat.zero_add, Lib.bytesWorld_cell w _ s j hj', getElem!_pos s.data j hj]
    have hq : s.data[j]? = some s.data[j] := Array.getElem?_eq_getElem hj
    simp [eb, List.getD, hq]
  · have hb := Lib.bytesWorld_at_new w 5 s
    simp only [World.frozen?, hb]
    have hz : j < (Lib.bytesCells w 5 s).size := by simp [Lib.bytesCells]; omega
    simp
    omega

theorem bytes_grown (w : World) (s : ByteArray) : w.grownBy (Lib.bytesWorld w 5 s) none :=
  ⟨rfl, rfl, rfl, by rw [Lib.bytesWorld_size]; omega, fun k hk _ => Lib.bytesWorld_at_old w _ s k hk⟩

set_option maxHeartbeats 400000 in
theorem cut_yes (w : World) (s : ByteArray) (a n : Nat) (hs : s.size ≤ 9223372036854775807) (h1 : 1 ≤ n) (h2 : n ≤ 8) (h3 : a + n ≤ s.size) :
    Calls Tryz.prog 96 #[.string s, .int .i64 a, .int .i64 n] w
      fun e w' => e = .returned (.tuple #[.slice (some ⟨w.heap.size, 0, none⟩) n (grownCap w n 0 5), .bool true]) ∧ Holds eb w' w.heap.size 0 ((s.data.toList.drop a).take n).toArray ∧ w.grownBy w' none := by
  have hz : (s.extract a (a + n)).size = n := by simp [ByteArray.size_extract]; omega
  have hr := Lib.run_convert_string_bytes (P := Tryz.prog) w 9 54 5 (s.extract a (a + n)) Tryz.underlying9 Tryz.underlying54 Tryz.underlying5
  rw [hz] at hr
  have hh := bytes_holds w (s.extract a (a + n))
  have hd : (s.extract a (a + n)).data = ((s.data.toList.drop a).take n).toArray := by
    apply Array.toList_inj.1
    rw [Lib.extract_data, show a + n - a = n from by omega]
  rw [hd] at hh
  have hg := bytes_grown w (s.extract a (a + n))
  generalize Lib.bytesWorld w 5 (s.extract a (a + n)) = w1 at hr hh hg
  have HD := Lib.hid hd
  have HZ := Lib.hid hz
  clear hd hz
  go_enter Tryz.func96, Tryz.ntmps96
  go_wp2_with fail
  refine (mayHave_yes _ _ (by omega) (by omega)).mono ?_
  rintro e w' ⟨rfl, rfl⟩
  go_wp2_with fail
  refine (inside_yes _ _ _ _ (by omega) (by omega) (by omega) (by omega)).mono ?_
  rintro e w' ⟨rfl, rfl⟩
  go_wp2_with fail
  go_ret2
  exact ⟨rfl, hh, hg⟩

theorem okR_yes {len : Nat} {a n : Int} (h : okR len a n = true) : 1 ≤ n ∧ n ≤ 8 ∧ 0 ≤ a ∧ a + n ≤ len := of_decide_eq_true h

set_option maxHeartbeats 400000 in
theorem ReadLittle_all (w : World) (s : ByteArray) (a n : Int) (hs : s.size ≤ 9223372036854775807) :
    Calls Tryz.prog 61 #[.string s, .int .i64 a, .int .i64 n] w
      fun e w' => e = .returned (.tuple #[.int .u64 (num (cutS s a n) : Int), .bool (okR s.size a n)]) ∧ w.grownBy w' none := by
  unfold cutS
  cases h : okR s.size a n with
  | false =>
    rw [if_neg (by decide), show (num [] : Int) = 0 from rfl]
    go_enter Tryz.func61, Tryz.ntmps61
    go_wp2_with fail
    refine (cut_no w s a n hs h).mono ?_
    rintro e w1 ⟨rfl, rfl⟩
    go_wp2_with fail
    refine (get_nil w).mono ?_
    rintro e w1 ⟨rfl, rfl⟩
    go_wp2_with fail
    go_ret2
    exact ⟨rfl, World.grownBy.refl _ _⟩
  | true =>
    obtain ⟨h1, h2, h3, h4⟩ := okR_yes h
    obtain ⟨a, rfl⟩ := Int.eq_ofNat_of_zero_le h3
    obtain ⟨n, rfl⟩ := Int.eq_ofNat_of_zero_le (show (0 : Int) ≤ n by omega)
    rw [if_pos rfl, Int.toNat_natCast, Int.toNat_natCast]
    clear h
    go_enter Tryz.func61, Tryz.ntmps61
    go_wp2_with fail
    refine (cut_yes w s a n hs (by omega) (by omega) (by omega)).mono ?_
    rintro e w1 ⟨rfl, hh, k1⟩
    go_wp2_with fail
    refine (get_at _ 0 n _ _ w1 (by simp; omega) (by omega) hh).mono ?_
    rintro e w2 ⟨rfl, rfl⟩
    go_wp2_with fail
    go_ret2
    exact ⟨rfl, k1⟩



end Go.Proofs.YtdchlnffbiooaaaGreatDoor
