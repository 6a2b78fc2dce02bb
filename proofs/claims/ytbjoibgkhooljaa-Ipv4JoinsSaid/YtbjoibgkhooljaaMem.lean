/-
  The contracts of a memory's own calls: New, Put, Get, Text, Write, each with what it answers and what the memory's bytes are behind it. Condition: the memory is one that New made (or one that it did not make: then the call is refused).
-/
import Derived.Test.YtbjoibgkhooljaaLoops
import Derived.Lib.BufferWrite
import Derived.Lib.SlBuf
namespace Go.Proofs.Ytbjoibgkhooljaa
open Go.RowKit Go.Sort

section
variable {w w' : World} {g h : Nat} {l : List UInt8}


theorem lt_of_block {b : Nat} {o : Obj} (e : w.heap[b]? = some o) : b < w.heap.size := (Array.getElem?_eq_some_iff.1 e).1




theorem putCells_list (a : Nat) (c : List UInt8) (hc : a + c.length ≤ l.length) : putCells eb a c.toArray (l.map fun b => Value.int .u8 (b.toNat : Int)).toArray = ((lay l a c).map fun b => Value.int .u8 (b.toNat : Int)).toArray := by
  apply Array.ext_getElem?
  intro k
  simp only [putCells, Array.getElem?_mapIdx, List.getElem?_toArray, List.getElem?_map, List.size_toArray, lay]
  by_cases h1 : k < a
  · rw [List.getElem?_append_left (by simp; omega), List.getElem?_take_of_lt h1]
    cases l[k]? with
    | none => rfl
    | some y => rw [Option.map_some, Option.map_some, if_neg (by omega)]
  · rw [List.getElem?_append_right (by simp; omega)]
    have e1 : (l.take a).length = a := by rw [List.length_take]; omega
    rw [e1]
    by_cases h2 : k < a + c.length
    · rw [List.getElem?_append_left (by omega)]
      have h3 : k < l.length := by omega
      have h4 : k - a < c.length := by omega
      rw [List.getElem?_eq_getElem h3, List.getElem?_eq_getElem h4]
      simp only [Option.map_some]
      rw [if_pos ⟨by omega, h2⟩, getElem!_pos _ _ (by simpa using h4)]
      rfl
    · rw [List.getElem?_append_right (by omega), List.getElem?_drop, show a + c.length + (k - a - c.length) = k by omega]
      cases l[k]? with
      | none => rfl
      | some y => rw [Option.map_some, Option.map_some, if_neg (by omega)]


theorem putRow_grown (w : World) (h a : Nat) (c : Array UInt8) : w.grownBy (putRow eb w h a c) (some h) :=
  ⟨rfl, rfl, rfl, by simp, fun k _ hk => by
    have : ¬ h = k := fun e => hk (by simp [e])
    simp [putRow, mapBlock, Array.getElem?_modify, this]⟩
end





















/-- What 'string(b)' is of n bytes of a memory. -/
theorem conv_text (w : World) (h a n cap : Nat) (d : List UInt8) (hz : d.length = n) (hh : Holds eb w h a d.toArray) :
    (convert 61 9 (.slice (some ⟨h, a, none⟩) n cap)).run Try.prog w = .ok (.string ⟨d.toArray⟩) w := by
  subst hz
  refine run_convert_bytes_back (P := Try.prog) w _ _ 5 ⟨h, a, none⟩ cap d Try.underlying61 Try.underlying5 Try.underlying9 fun j hj => ?_
  have h1 := (hh j (by simpa using hj)).1
  have e1 : (⟨h, a, none⟩ : Addr).add j = ⟨h, a + j, none⟩ := by unfold Addr.add; split <;> simp_all
  rw [e1, h1, getElem!_pos d.toArray j (by simpa using hj)]
  rfl








theorem setRow_grown (w : World) (h : Nat) (cs : Array Value) : w.grownBy (w.setRow h cs) (some h) :=
  ⟨rfl, rfl, rfl, by simp [World.setRow], fun k _ hk => setRow_other w h k cs (fun e => hk (by simp [e]))⟩

theorem lay_nil (l : List UInt8) (a : Nat) : lay l a [] = l := by simp [lay]



theorem info_byte : (Try.prog.info? 5).map (fun i => (i.zero, i.size, i.bytes)) = some (some (.int .u8 0), 1, 1) := by kernel_rfl

/-- The cells of n noughts. -/
def zeros (n : Nat) : Array Value := ((List.replicate n (0 : UInt8)).map fun b => Value.int .u8 (b.toNat : Int)).toArray
theorem made_zeros (n : Nat) : madeCells (Value.int .u8 0).cells n = zeros n := by
  apply Array.ext_getElem?
  intro k
  simp only [madeCells, zeros, List.map_replicate, Array.getElem?_map, List.getElem?_toArray, Value.cells]
  by_cases h : k < n
  · rw [Array.getElem?_eq_getElem (by simpa using h), List.getElem?_replicate, if_pos h]
    simp [Nat.mod_one]
  · rw [Array.getElem?_eq_none (by simpa using h), List.getElem?_replicate, if_neg h]
    rfl

theorem make_bytes (n : Nat) (hn : n ≤ 65536) (w : World) :
    (Instr.makeSlice 61 (.int .i64 (n : Int)) (.int .i64 (n : Int))).run Try.prog w = .ok (.slice (some ⟨w.heap.size, 0, none⟩) n n) (w.alloc (.cells (zeros n) 5)) := by
  obtain ⟨i, hi, hz, h1, h2⟩ := info_parts info_byte
  have hr := run_make (P := Try.prog) w 61 5 i (.int .u8 0) Try.underlying61 hi hz .i64 .i64 n n (by omega) (by omega) (by rw [h2]; omega) (by omega)
  rw [h1, Nat.mul_one, Int.toNat_natCast, made_zeros] at hr
  exact hr




theorem new_grown (w : World) (a b : Obj) : w.grownBy ((w.alloc a).alloc b) none :=
  (World.grownBy_alloc w a none).trans (World.grownBy_alloc _ b none)



end Go.Proofs.Ytbjoibgkhooljaa
