/-
  Layer 9: the document's own bytes of a message. Conditions: a message's numbers are numbers of their kind, its data has at most 2^47 bytes.
-/
import Derived.Test.YtbjoibgkhooljaaIcC
import Derived.Test.YtbjoibgkhooljaaIpL
import Derived.Lib.AppendStr
namespace Go.Proofs.Ytbjoibgkhooljaa
open Go.RowKit Go.Sort
set_option linter.unusedVariables false

theorem u8_of (x : Int) (h : 0 ≤ x) : IntKind.u8.wrap x = ((UInt8.ofNat x.toNat).toNat : Int) := by
  obtain ⟨n, rfl⟩ := Int.eq_ofNat_of_zero_le h
  rw [UInt8.toNat_ofNat']
  unfold IntKind.wrap
  simp [IntKind.bits, IntKind.signed]
theorem byte_nat (x : Int) (h0 : 0 ≤ x) (h1 : x ≤ 255) : x = ((UInt8.ofNat x.toNat).toNat : Int) := by rw [byte_val]; omega
theorem byte_nat2 (x : Int) (n : Nat) (h0 : 0 ≤ x) (h1 : x % 256 = ((n % 256 : Nat) : Int)) : x % 256 = ((UInt8.ofNat n).toNat : Int) := by rw [byte_val]; exact h1
def l0L (f : Ic) : List UInt8 := icA f ++ [0, 0] ++ four f.re.toNat
theorem l0_cells (f : Ic) (h : mayI f = true) (e0 : 0 ≤ f.re) (e1 : f.re < 4294967296) : [Value.int .u8 f.kd, .int .u8 f.co, .int .u8 0, .int .u8 0, .int .u8 (f.re / 16777216), .int .u8 (f.re / 65536 % 256), .int .u8 (f.re / 256 % 256), .int .u8 (f.re % 256)] = (l0L f).map eb := by
  obtain ⟨h1, h2, h3, h4⟩ := mayI_all h
  have a1 := byte_nat f.kd h1 h2
  have a2 := byte_nat f.co h3 h4
  have a3 : f.re / 16777216 = ((UInt8.ofNat (f.re.toNat / 16777216)).toNat : Int) := by rw [byte_val]; omega
  have a4 : f.re / 65536 % 256 = ((UInt8.ofNat (f.re.toNat / 65536)).toNat : Int) := by rw [byte_val]; omega
  have a5 : f.re / 256 % 256 = ((UInt8.ofNat (f.re.toNat / 256)).toNat : Int) := by rw [byte_val]; omega
  have a6 : f.re % 256 = ((UInt8.ofNat f.re.toNat).toNat : Int) := by rw [byte_val]; omega
  show _ = [eb (UInt8.ofNat f.kd.toNat), eb (UInt8.ofNat f.co.toNat), eb 0, eb 0, eb (UInt8.ofNat (f.re.toNat / 16777216)), eb (UInt8.ofNat (f.re.toNat / 65536)), eb (UInt8.ofNat (f.re.toNat / 256)), eb (UInt8.ofNat f.re.toNat)]
  rw [a3, a4, a5, a6]
  unfold eb
  rw [← a1, ← a2]
  rfl
theorem wpList_append_text {ops : Array Oper} {rest : List Oper} {o : Oper} {a : Act} {w : World} {Q : Exit → Act → World → Prop} (hg : o.guard = none) (s x : Operand)
    (hop : o.op = Op.call { callee := Callee.builtin Builtin.append, args := #[s, x], argTypes := #[61, 9] })
    (base : Nat) (v : Value) (l : List UInt8) (hs : a.eval s = v) (hown : ByRow w base v l) (d : ByteArray) (hx : a.eval x = .string d) (hl : l.length + d.size ≤ 100000) (hb : base ≤ w.heap.size)
    (hK : ∀ v' w', ByRow w' base v' (l ++ d.data.toList) → w.grownBy w' v.ownBlock → wpList Try.prog ops Q rest (a.put o.dst v') w') : wpList Try.prog ops Q (o :: rest) a w := by
  obtain ⟨i, z, h1, h2, h3, h4, h5⟩ := info_u8
  have hz : (Try.prog.info? 5).map (·.zero) = some (some (.int .u8 0)) := by kernel_rfl
  rw [h1] at hz
  have hz2 : i.zero = some (.int .u8 0) := by simpa using hz
  refine Lib.wpList_append_own_string _ hg s x 61 9 hop base 5 i Try.underlying61 Try.underlying9 h1 hz2 h3 h4 v l.length (l.map eb) hs hown d hx (by unfold maxLen; omega) (by omega) hb ?_
  intro v' w' g1 g2 _
  refine hK v' w' ?_ g2
  unfold ByRow
  rw [List.length_append, List.map_append, list_size]
  exact g1
theorem own_below {w W W' : World} {base : Nat} {v : Value} {l : List UInt8} (h : Hid (Below w.heap.size w W)) (hr : ByRow W base v l) (hb : w.heap.size ≤ base) (hg : W.grownBy W' v.ownBlock) : Hid (Below w.heap.size w W') := by
  refine Lib.hid (h.out.trans ⟨hg.os, hg.tape, hg.output, hg.size, fun k hk => hg.block k (by have := h.out.size; omega) (fun e => by have := hr.block e.symm; omega)⟩)


end Go.Proofs.Ytbjoibgkhooljaa
