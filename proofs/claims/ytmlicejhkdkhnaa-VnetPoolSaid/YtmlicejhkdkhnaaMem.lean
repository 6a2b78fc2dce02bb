/-
  The contracts of a memory's own calls: New, Put, Get, Text, Write, each with what it answers and what the memory's bytes are behind it. Condition: the memory is one that New made (or one that it did not make: then the call is refused).
-/
import Derived.Test.YtmlicejhkdkhnaaLoops
import Derived.Lib.BufferWrite
import Derived.Lib.SlBuf
namespace Go.Proofs.Ytmlicejhkdkhnaa
open Go.RowKit Go.Sort

section
variable {w w' : World} {g h : Nat} {l : List UInt8}

theorem Mem.ne (m : Mem w g h l) : g ≠ h := by
  rintro rfl
  have h1 := m.1
  rw [m.2] at h1
  injection h1 with h1
  injection h1 with _ h2
  exact absurd h2 (by decide)

theorem lt_of_block {b : Nat} {o : Obj} (e : w.heap[b]? = some o) : b < w.heap.size := (Array.getElem?_eq_some_iff.1 e).1
theorem Mem.lt1 (m : Mem w g h l) : g < w.heap.size := lt_of_block m.1
theorem Mem.lt2 (m : Mem w g h l) : h < w.heap.size := lt_of_block m.2

/-- A memory stays as it is where its two blocks do. -/
theorem Mem.kept {r : Option Nat} (m : Mem w g h l) (k : w.grownBy w' r) (n1 : some g ≠ r) (n2 : some h ≠ r) : Mem w' g h l :=
  ⟨by rw [k.block g m.lt1 n1]; exact m.1, by rw [k.block h m.lt2 n2]; exact m.2⟩

theorem Mem.same (m : Mem w g h l) (k : w.grownBy w' none) : Mem w' g h l := m.kept k (by simp) (by simp)

theorem Mem.holds (m : Mem w g h l) (a n : Nat) (hn : a + n ≤ l.length) : Holds eb w h a ((l.drop a).take n).toArray := by
  intro j hj
  have hj' : j < n := by simp at hj; omega
  constructor
  · rw [cell_of_block m.2]
    have h1 : a + j < l.length := by omega
    have h2 : ((l.drop a).take n).toArray[j]! = l[a + j]'h1 := by
      rw [getElem!_pos ((l.drop a).take n).toArray j hj]
      simp
    rw [h2]
    simp [eb, h1]
  · simp [World.frozen?, m.2]

theorem putCells_list (a : Nat) (c : List UInt8) (hc : a + c.length ≤ l.length) : putCells eb a c.toArray (l.map fun b => Value.int .u8 (b.toNat : Int)).toArray = ((lay l a c).map fun b => Value.int .u8 (b.toNat : Int)).toArray := by
  apply Array.ext_getElem?
  intro k
  simp only [putCells, Array.getElem?_mapIdx, List.getElem?_toArray, List.getElem?_map, List.size_toArray, lay]
  by_cases h1 : k < a
  · rw [List.getElem?_append_left (by simp; omega), List.getElem?_take_of_lt h1]
    cases l[k]? with
    | none => rfl
    | some y => rw [Option.map_some, Option.map_some, if_neg (by omega)]
  · rw [List.getElem?_append_right (by simp; omega)]
    have e1 : (l.take a).length = a := by rw [List.length_take]; omega
    rw [e1]
    by_cases h2 : k < a + c.length
    · rw [List.getElem?_append_left (by omega)]
      have h3 : k < l.length := by omega
      have h4 : k - a < c.length := by omega
      rw [List.getElem?_eq_getElem h3, List.getElem?_eq_getElem h4]
      simp only [Option.map_some]
      rw [if_pos ⟨by omega, h2⟩, getElem!_pos _ _ (by simpa using h4)]
      rfl
    · rw [List.getElem?_append_right (by omega), List.getElem?_drop, show a + c.length + (k - a - c.length) = k by omega]
      cases l[k]? with
      | none => rfl
      | some y => rw [Option.map_some, Option.map_some, if_neg (by omega)]

/-- Bytes laid into a memory. -/
theorem Mem.put (m : Mem w g h l) (a : Nat) (c : List UInt8) (hc : a + c.length ≤ l.length) : Mem (putRow eb w h a c.toArray) g h (lay l a c) := by
  have hne := m.ne
  refine ⟨?_, ?_⟩
  · simp only [putRow, mapBlock, Array.getElem?_modify]
    rw [if_neg (Ne.symm hne), lay_length _ _ _ hc]
    exact m.1
  · simp only [putRow, mapBlock, Array.getElem?_modify, if_true]
    rw [m.2, Option.map_some, onCells, putCells_list a c hc]

theorem putRow_grown (w : World) (h a : Nat) (c : Array UInt8) : w.grownBy (putRow eb w h a c) (some h) :=
  ⟨rfl, rfl, rfl, by simp, fun k _ hk => by
    have : ¬ h = k := fun e => hk (by simp [e])
    simp [putRow, mapBlock, Array.getElem?_modify, this]⟩
end

set_option maxHeartbeats 400000 in
theorem Put_none (w : World) (p : Option Addr) (hp : IsNone w p) (at_ n x : Int) :
    Calls Try.prog 28 #[.pointer p, .int .i64 at_, .int .i64 n, .int .u64 x] w fun e w' => e = .returned (.int .i64 2) ∧ w = w' := by
  go_enter Try.func28, Try.ntmps28
  go_wp2_with (go_at_call 53; refine (number_none _ _ hp _ _).mono ?_; rintro e w' ⟨rfl, rfl⟩)
  go_ret
  exact ⟨rfl, rfl⟩

set_option maxHeartbeats 400000 in
theorem Put_arg (w : World) (g h : Nat) (l : List UInt8) (m : Mem w g h l) (at_ n x : Int) (hn : n < 1 ∨ 8 < n) :
    Calls Try.prog 28 #[.pointer (some ⟨g, 0, none⟩), .int .i64 at_, .int .i64 n, .int .u64 x] w fun e w' => e = .returned (.int .i64 1) ∧ w = w' := by
  go_enter Try.func28, Try.ntmps28
  go_wp2_with (go_at_call 53; refine (number_arg _ _ _ _ m _ _ hn).mono ?_; rintro e w' ⟨rfl, rfl⟩)
  go_ret
  exact ⟨rfl, rfl⟩

set_option maxHeartbeats 400000 in
theorem Put_no (w : World) (g h : Nat) (l : List UInt8) (m : Mem w g h l) (at_ n x : Int) (hl : l.length ≤ 9223372036854775807) (hn1 : 1 ≤ n) (hn2 : n ≤ 8) (h1 : at_ < 0 ∨ n < 0 ∨ (l.length : Int) < at_ + n) :
    Calls Try.prog 28 #[.pointer (some ⟨g, 0, none⟩), .int .i64 at_, .int .i64 n, .int .u64 x] w fun e w' => e = .returned (.int .i64 13) ∧ w = w' := by
  go_enter Try.func28, Try.ntmps28
  go_wp2_with (go_at_call 53; refine (number_no _ _ _ _ m _ _ hl hn1 hn2 h1).mono ?_; rintro e w' ⟨rfl, rfl⟩)
  go_ret
  exact ⟨rfl, rfl⟩

set_option maxHeartbeats 400000 in
theorem Put_yes (w : World) (g h : Nat) (l : List UInt8) (m : Mem w g h l) (a n X : Nat) (hl : l.length ≤ 9223372036854775807) (hn1 : 1 ≤ n) (hn2 : n ≤ 8) (h1 : a + n ≤ l.length) :
    Calls Try.prog 28 #[.pointer (some ⟨g, 0, none⟩), .int .i64 a, .int .i64 n, .int .u64 X] w
      fun e w' => e = .returned (.int .i64 0) ∧ Mem w' g h (lay l a (le X n)) ∧ w.grownBy w' (some h) := by
  have hb := m.bytes
  have hm := Lib.hid (m.put a (le X n) (by rw [le_length]; exact h1))
  have hg := putRow_grown w h a (le X n).toArray
  have hh := m.holds a n h1
  have hz : ((l.drop a).take n).length = n := by simp; omega
  go_enter Try.func28, Try.ntmps28
  go_wp2_with (go_at_call 53; refine (number_yes _ _ _ _ m _ _ hl (by omega) (by omega) (by omega) (by omega)).mono ?_; rintro e w' ⟨rfl, rfl⟩)
  refine (put_at h a n _ X _ w hz hn2 hh).mono ?_
  rintro e w' ⟨rfl, rfl⟩
  go_wp2
  go_ret
  exact ⟨rfl, hm.out, hg⟩

set_option maxHeartbeats 400000 in
theorem Get_none (w : World) (p : Option Addr) (hp : IsNone w p) (at_ n : Int) :
    Calls Try.prog 80 #[.pointer p, .int .i64 at_, .int .i64 n] w fun e w' => e = .returned (.tuple #[.int .u64 0, .int .i64 2]) ∧ w = w' := by
  go_enter Try.func80, Try.ntmps80
  go_wp2_with (go_at_call 53; refine (number_none _ _ hp _ _).mono ?_; rintro e w' ⟨rfl, rfl⟩)
  go_ret2
  exact ⟨rfl, rfl⟩

set_option maxHeartbeats 400000 in
theorem Get_arg (w : World) (g h : Nat) (l : List UInt8) (m : Mem w g h l) (at_ n : Int) (hn : n < 1 ∨ 8 < n) :
    Calls Try.prog 80 #[.pointer (some ⟨g, 0, none⟩), .int .i64 at_, .int .i64 n] w fun e w' => e = .returned (.tuple #[.int .u64 0, .int .i64 1]) ∧ w = w' := by
  go_enter Try.func80, Try.ntmps80
  go_wp2_with (go_at_call 53; refine (number_arg _ _ _ _ m _ _ hn).mono ?_; rintro e w' ⟨rfl, rfl⟩)
  go_ret2
  exact ⟨rfl, rfl⟩

set_option maxHeartbeats 400000 in
theorem Get_no (w : World) (g h : Nat) (l : List UInt8) (m : Mem w g h l) (at_ n : Int) (hl : l.length ≤ 9223372036854775807) (hn1 : 1 ≤ n) (hn2 : n ≤ 8) (h1 : at_ < 0 ∨ n < 0 ∨ (l.length : Int) < at_ + n) :
    Calls Try.prog 80 #[.pointer (some ⟨g, 0, none⟩), .int .i64 at_, .int .i64 n] w fun e w' => e = .returned (.tuple #[.int .u64 0, .int .i64 13]) ∧ w = w' := by
  go_enter Try.func80, Try.ntmps80
  go_wp2_with (go_at_call 53; refine (number_no _ _ _ _ m _ _ hl hn1 hn2 h1).mono ?_; rintro e w' ⟨rfl, rfl⟩)
  go_ret2
  exact ⟨rfl, rfl⟩

set_option maxHeartbeats 400000 in
theorem Get_yes (w : World) (g h : Nat) (l : List UInt8) (m : Mem w g h l) (a n : Nat) (hl : l.length ≤ 9223372036854775807) (hn1 : 1 ≤ n) (hn2 : n ≤ 8) (h1 : a + n ≤ l.length) :
    Calls Try.prog 80 #[.pointer (some ⟨g, 0, none⟩), .int .i64 a, .int .i64 n] w
      fun e w' => e = .returned (.tuple #[.int .u64 (num ((l.drop a).take n)), .int .i64 0]) ∧ w = w' := by
  have hb := m.bytes
  have hh := m.holds a n h1
  have hz : ((l.drop a).take n).length = n := by simp; omega
  go_enter Try.func80, Try.ntmps80
  go_wp2_with (go_at_call 53; refine (number_yes _ _ _ _ m _ _ hl (by omega) (by omega) (by omega) (by omega)).mono ?_; rintro e w' ⟨rfl, rfl⟩)
  refine (get_at h a n _ _ w hz hn2 hh).mono ?_
  rintro e w' ⟨rfl, rfl⟩
  go_wp2
  go_ret2
  exact ⟨rfl, rfl⟩

set_option maxHeartbeats 400000 in
theorem Text_none (w : World) (p : Option Addr) (hp : IsNone w p) (at_ n : Int) :
    Calls Try.prog 76 #[.pointer p, .int .i64 at_, .int .i64 n] w fun e w' => e = .returned (.tuple #[.string ByteArray.empty, .int .i64 2]) ∧ w = w' := by
  go_enter Try.func76, Try.ntmps76
  go_wp2_with (go_at_call 56; refine (bytesAt_none _ _ hp _ _).mono ?_; rintro e w' ⟨rfl, rfl⟩)
  go_ret2
  exact ⟨rfl, rfl⟩

set_option maxHeartbeats 400000 in
theorem Text_no (w : World) (g h : Nat) (l : List UInt8) (m : Mem w g h l) (at_ n : Int) (hl : l.length ≤ 9223372036854775807) (hn : n ≤ 9223372036854775807) (h1 : at_ < 0 ∨ n < 0 ∨ (l.length : Int) < at_ + n) :
    Calls Try.prog 76 #[.pointer (some ⟨g, 0, none⟩), .int .i64 at_, .int .i64 n] w fun e w' => e = .returned (.tuple #[.string ByteArray.empty, .int .i64 13]) ∧ w = w' := by
  go_enter Try.func76, Try.ntmps76
  go_wp2_with (go_at_call 56; refine (bytesAt_no _ _ _ _ m _ _ hl hn h1).mono ?_; rintro e w' ⟨rfl, rfl⟩)
  go_ret2
  exact ⟨rfl, rfl⟩

/-- What 'string(b)' is of n bytes of a memory. -/
theorem conv_text (w : World) (h a n cap : Nat) (d : List UInt8) (hz : d.length = n) (hh : Holds eb w h a d.toArray) :
    (convert 66 9 (.slice (some ⟨h, a, none⟩) n cap)).run Try.prog w = .ok (.string ⟨d.toArray⟩) w := by
  subst hz
  refine run_convert_bytes_back (P := Try.prog) w _ _ 5 ⟨h, a, none⟩ cap d Try.underlying66 Try.underlying5 Try.underlying9 fun j hj => ?_
  have h1 := (hh j (by simpa using hj)).1
  have e1 : (⟨h, a, none⟩ : Addr).add j = ⟨h, a + j, none⟩ := by unfold Addr.add; split <;> simp_all
  rw [e1, h1, getElem!_pos d.toArray j (by simpa using hj)]
  rfl

set_option maxHeartbeats 400000 in
theorem Text_yes (w : World) (g h : Nat) (l : List UInt8) (m : Mem w g h l) (a n : Nat) (hl : l.length ≤ 9223372036854775807) (h1 : a + n ≤ l.length) :
    Calls Try.prog 76 #[.pointer (some ⟨g, 0, none⟩), .int .i64 a, .int .i64 n] w
      fun e w' => e = .returned (.tuple #[.string ⟨((l.drop a).take n).toArray⟩, .int .i64 0]) ∧ w = w' := by
  have hb := m.bytes
  have hh := m.holds a n h1
  have hz : ((l.drop a).take n).length = n := by simp; omega
  by_cases hc : l.length = a
  · have hn : n = 0 := by omega
    subst hn
    have hq := conv_text w h 0 0 0 [] rfl (fun j hj => absurd hj (Nat.not_lt_zero _))
    subst hc
    clear hh hz
    go_enter Try.func76, Try.ntmps76
    go_wp2_with (go_at_call 56; refine (bytesAt_yes _ _ _ _ m _ _ hl (by omega) (by omega) (by omega)).mono ?_; rintro e w' ⟨rfl, rfl⟩)
    go_ret2
    exact ⟨rfl, rfl⟩
  · have hq := conv_text w h a n (l.length - a) _ hz hh
    clear hh
    go_enter Try.func76, Try.ntmps76
    go_wp2_with (go_at_call 56; refine (bytesAt_yes _ _ _ _ m _ _ hl (by omega) (by omega) (by omega)).mono ?_; rintro e w' ⟨rfl, rfl⟩)
    go_ret2
    exact ⟨rfl, rfl⟩

set_option maxHeartbeats 400000 in
theorem Write_none (w : World) (p : Option Addr) (hp : IsNone w p) (at_ : Int) (s : ByteArray) :
    Calls Try.prog 30 #[.pointer p, .int .i64 at_, .string s] w fun e w' => e = .returned (.int .i64 2) ∧ w = w' := by
  go_enter Try.func30, Try.ntmps30
  go_wp2_with (go_at_call 56; refine (bytesAt_none _ _ hp _ _).mono ?_; rintro e w' ⟨rfl, rfl⟩)
  go_ret
  exact ⟨rfl, rfl⟩

set_option maxHeartbeats 400000 in
theorem Write_no (w : World) (g h : Nat) (l : List UInt8) (m : Mem w g h l) (at_ : Int) (s : ByteArray) (hl : l.length ≤ 9223372036854775807) (hs : s.size ≤ 9223372036854775807) (h1 : at_ < 0 ∨ (l.length : Int) < at_ + s.size) :
    Calls Try.prog 30 #[.pointer (some ⟨g, 0, none⟩), .int .i64 at_, .string s] w fun e w' => e = .returned (.int .i64 13) ∧ w = w' := by
  go_enter Try.func30, Try.ntmps30
  go_wp2_with (go_at_call 56; refine (bytesAt_no _ _ _ _ m _ _ hl (by omega) (by omega)).mono ?_; rintro e w' ⟨rfl, rfl⟩)
  go_ret
  exact ⟨rfl, rfl⟩

theorem setRow_mem {w : World} {g h : Nat} {l : List UInt8} (m : Mem w g h l) (a : Nat) (s : ByteArray) (hf : a + s.size ≤ l.length) :
    Mem (w.setRow h ((l.map fun b => Value.int .u8 (b.toNat : Int)).toArray.toList.take a ++ Lib.byteCells s.data.toList ++ (l.map fun b => Value.int .u8 (b.toNat : Int)).toArray.toList.drop (a + s.size)).toArray) g h (lay l a s.data.toList) := by
  have hlen : s.data.toList.length = s.size := by simp
  refine ⟨?_, ?_⟩
  · rw [setRow_other w h g _ m.ne, lay_length _ _ _ (by rw [hlen]; exact hf)]
    exact m.1
  · have := setRow_heap w h _ ((l.map fun b => Value.int .u8 (b.toNat : Int)).toArray.toList.take a ++ Lib.byteCells s.data.toList ++ (l.map fun b => Value.int .u8 (b.toNat : Int)).toArray.toList.drop (a + s.size)).toArray _ _ m.2
    rw [this]
    simp [lay, Lib.byteCells, hlen, List.map_take, List.map_drop]

theorem setRow_grown (w : World) (h : Nat) (cs : Array Value) : w.grownBy (w.setRow h cs) (some h) :=
  ⟨rfl, rfl, rfl, by simp [World.setRow], fun k _ hk => setRow_other w h k cs (fun e => hk (by simp [e]))⟩

theorem lay_nil (l : List UInt8) (a : Nat) : lay l a [] = l := by simp [lay]

set_option maxRecDepth 100000 in
set_option maxHeartbeats 400000 in
theorem Write_yes (w : World) (g h : Nat) (l : List UInt8) (m : Mem w g h l) (a : Nat) (s : ByteArray) (hl : l.length ≤ 9223372036854775807) (h1 : a + s.size ≤ l.length) :
    Calls Try.prog 30 #[.pointer (some ⟨g, 0, none⟩), .int .i64 a, .string s] w
      fun e w' => e = .returned (.int .i64 0) ∧ Mem w' g h (lay l a s.data.toList) ∧ w.grownBy w' (some h) := by
  have hb := m.bytes
  by_cases h0 : s.size = 0
  · have hr := fun d n c => Lib.run_copy_empty_string (P := Try.prog) w 66 9 3 5 d n c s Try.underlying66 (by kernel_rfl) h0
    have hs0 : s.data.toList = [] := List.eq_nil_of_length_eq_zero (by simpa using h0)
    have hpost : Mem w g h (lay l a s.data.toList) := by rw [hs0, lay_nil]; exact m
    have HP := Lib.hid hpost
    clear hpost hs0
    have H0 := Lib.hid h0
    clear h0
    go_enter Try.func30, Try.ntmps30
    go_wp2_with (first | (go_at_call 56; refine (bytesAt_yes _ _ _ _ m _ _ hl (by omega) (by omega) (by omega)).mono ?_; rintro e w' ⟨rfl, rfl⟩) | (refine Lib.wpList_copy_run _ rfl _ _ 66 9 rfl _ _ rfl rfl (hr _ _ _) ?_))
    all_goals
      go_ret
      exact ⟨rfl, HP.out, World.grownBy.refl w _⟩
  · have hr := Lib.run_copy_row_string (P := Try.prog) w 66 9 3 5 h a (l.length - a) (l.length - a) s _ _ Try.underlying66 (by kernel_rfl) m.2 (by omega) (by simpa using h1)
    have hm := setRow_mem m a s h1
    have hg := setRow_grown w h ((l.map fun b => Value.int .u8 (b.toNat : Int)).toArray.toList.take a ++ Lib.byteCells s.data.toList ++ (l.map fun b => Value.int .u8 (b.toNat : Int)).toArray.toList.drop (a + s.size)).toArray
    generalize (w.setRow h ((l.map fun b => Value.int .u8 (b.toNat : Int)).toArray.toList.take a ++ Lib.byteCells s.data.toList ++ (l.map fun b => Value.int .u8 (b.toNat : Int)).toArray.toList.drop (a + s.size)).toArray) = w1 at hr hm hg
    have HR := Lib.hid hr
    clear hr
    go_enter Try.func30, Try.ntmps30
    go_wp2_with (first | (go_at_call 56; refine (bytesAt_yes _ _ _ _ m _ _ hl (by omega) (by omega) (by omega)).mono ?_; rintro e w' ⟨rfl, rfl⟩) | (refine Lib.wpList_copy_run _ rfl _ _ 66 9 rfl _ _ rfl rfl HR.out ?_))
    go_ret
    exact ⟨rfl, hm, hg⟩

theorem info_byte : (Try.prog.info? 5).map (fun i => (i.zero, i.size, i.bytes)) = some (some (.int .u8 0), 1, 1) := by kernel_rfl

/-- The cells of n noughts. -/
def zeros (n : Nat) : Array Value := ((List.replicate n (0 : UInt8)).map fun b => Value.int .u8 (b.toNat : Int)).toArray
theorem made_zeros (n : Nat) : madeCells (Value.int .u8 0).cells n = zeros n := by
  apply Array.ext_getElem?
  intro k
  simp only [madeCells, zeros, List.map_replicate, Array.getElem?_map, List.getElem?_toArray, Value.cells]
  by_cases h : k < n
  · rw [Array.getElem?_eq_getElem (by simpa using h), List.getElem?_replicate, if_pos h]
    simp [Nat.mod_one]
  · rw [Array.getElem?_eq_none (by simpa using h), List.getElem?_replicate, if_neg h]
    rfl

theorem make_bytes (n : Nat) (hn : n ≤ 65536) (w : World) :
    (Instr.makeSlice 66 (.int .i64 (n : Int)) (.int .i64 (n : Int))).run Try.prog w = .ok (.slice (some ⟨w.heap.size, 0, none⟩) n n) (w.alloc (.cells (zeros n) 5)) := by
  obtain ⟨i, hi, hz, h1, h2⟩ := info_parts info_byte
  have hr := run_make (P := Try.prog) w 66 5 i (.int .u8 0) Try.underlying66 hi hz .i64 .i64 n n (by omega) (by omega) (by rw [h2]; omega) (by omega)
  rw [h1, Nat.mul_one, Int.toNat_natCast, made_zeros] at hr
  exact hr

set_option maxHeartbeats 400000 in
theorem New_no (w : World) (n : Int) (hn : n < 1 ∨ 65536 < n) :
    Calls Try.prog 8 #[.int .i64 n] w fun e w' => e = .returned (.tuple #[.pointer none, .int .i64 1]) ∧ w = w' := by
  by_cases h1 : n < 1
  · clear hn
    go_enter Try.func8, Try.ntmps8
    go_wp2
    go_ret2
    exact ⟨rfl, rfl⟩
  · have h2 : 65536 < n := by omega
    have h3 : decide (n < 1) = false := decide_eq_false h1
    clear hn h1
    go_enter Try.func8, Try.ntmps8
    go_wp2
    go_ret2
    exact ⟨rfl, rfl⟩

theorem new_mem (w : World) (n : Nat) : Mem ((w.alloc (.cells (zeros n) 5)).alloc (.cells #[.slice (some ⟨w.heap.size, 0, none⟩) n n, .pointer (some ⟨w.heap.size + 1, 0, none⟩)] 68)) (w.heap.size + 1) w.heap.size (List.replicate n 0) := by
  have e1 : (w.alloc (.cells (zeros n) 5)).heap.size = w.heap.size + 1 := by simp
  refine ⟨?_, ?_⟩
  · have h := heap_alloc_new (w.alloc (.cells (zeros n) 5)) (.cells #[.slice (some ⟨w.heap.size, 0, none⟩) n n, .pointer (some ⟨w.heap.size + 1, 0, none⟩)] 68)
    rw [e1] at h
    rw [h, List.length_replicate]
  · rw [Below.heap_alloc _ _ _ (by rw [e1]; omega), heap_alloc_new]
    rfl

theorem new_grown (w : World) (a b : Obj) : w.grownBy ((w.alloc a).alloc b) none :=
  (World.grownBy_alloc w a none).trans (World.grownBy_alloc _ b none)

set_option maxHeartbeats 400000 in
theorem New_yes (w : World) (n : Nat) (h1 : 1 ≤ n) (h2 : n ≤ 65536) :
    Calls Try.prog 8 #[.int .i64 n] w
      fun e w' => e = .returned (.tuple #[.pointer (some ⟨w.heap.size + 1, 0, none⟩), .int .i64 0]) ∧ Mem w' (w.heap.size + 1) w.heap.size (List.replicate n 0) ∧ w.grownBy w' none := by
  have hmk := make_bytes n h2
  have hd1 : decide ((n : Int) < 1) = false := decide_eq_false (by omega)
  have hd2 : decide ((65536 : Int) < n) = false := decide_eq_false (by omega)
  go_enter Try.func8, Try.ntmps8
  go_wp2
  go_ret2
  exact ⟨rfl, new_mem w n, new_grown w _ _⟩

end Go.Proofs.Ytmlicejhkdkhnaa
