/-
  Layer 6: addresses and frames that come in. No conditions.
-/
import Derived.Test.YtolegdjdppaeoaaEthG
import Derived.Test.YtolegdjdppaeoaaEthE
import Derived.ProofKit
import Derived.OpenShut
import Derived.ShutString
import Derived.ChangeOld
import Derived.Below
namespace Go.Proofs.Ytolegdjdppaeoaa
open Go.ChangeShapes Go.WideShapes Go.ChangeAt Go.RowKit
set_option linter.unusedVariables false

theorem own : ownKnob Try.prog.godebug = none := by kernel_rfl
theorem laidOut : laidOutB Try.prog = true := by kernel_rfl

section
variable {H : Type} {enc : TypeId × Value → H} {P : Program} {w : World} {base : Nat} {spare : Nat → Bool} {held : Bool}
theorem mapM_mem {α β : Type} {g : α → Option β} : ∀ {L : List α} {ys : List β}, L.mapM g = some ys → ∀ x ∈ L, ∃ y, g x = some y
  | [], _, _, _, hx => by cases hx
  | a :: L, ys, h, x, hx => by
    rw [List.mapM_cons] at h
    cases ha : g a with
    | none => simp [ha] at h
    | some y =>
      cases hL : L.mapM g with
      | none => simp [ha, hL] at h
      | some zs =>
        rcases List.mem_cons.1 hx with rfl | hx
        · exact ⟨y, ha⟩
        · exact mapM_mem hL x hx
theorem trod_arr {t e : TypeId} {n fuel : Nat} {cs : List Value} {x : DataW H × List MemPlace} (ht : P.underlying t = some (.array n e)) (h : DataW.trod enc P w base spare held fuel t cs = some x) :
    ∃ m, cs.length = P.cellsOf t ∧ ∀ i, i < n → ∃ y, DataW.trod enc P w base spare held m e ((cs.drop (i * P.cellsOf e)).take (P.cellsOf e)) = some y := by
  cases fuel with
  | zero => simp [DataW.trod] at h
  | succ m =>
    unfold DataW.trod at h
    rw [ht] at h
    have h2 : (if cs.length = P.cellsOf t then ((List.range n).mapM fun i => DataW.trod enc P w base spare held m e ((cs.drop (i * P.cellsOf e)).take (P.cellsOf e))).map fun xs => (DataW.agg (xs.map (·.1)), xs.flatMap (·.2)) else none) = some x := by
      split at h <;> simp_all
    by_cases hl : cs.length = P.cellsOf t
    · rw [if_pos hl] at h2
      obtain ⟨ys, hm, _⟩ := Option.map_eq_some_iff.1 h2
      exact ⟨m, hl, fun i hi => mapM_mem hm i (List.mem_range.2 hi)⟩
    · rw [if_neg hl] at h2
      cases h2
end

section
variable {H : Type} {enc : TypeId × Value → H} {w : World} {base : Nat} {spare : Nat → Bool} {held : Bool}
theorem byte_in {m : Nat} {v : Value} {y : DataW H × List MemPlace} (h : DataW.trod enc Try.prog w base spare held m 5 [v] = some y) : ∃ x : UInt8, v = .int .u8 (x.toNat : Int) := by
  obtain ⟨n, hn, _, hw⟩ := DataW.trod_int Try.underlying5 h
  have hb := bounds_u8 hw
  refine ⟨UInt8.ofNat n.toNat, ?_⟩
  simp only [List.cons.injEq, and_true] at hn
  rw [hn, UInt8.toNat_ofNat']
  congr 1
  omega
set_option maxRecDepth 100000 in
theorem mac_in {fuel : Nat} {cs : List Value} {x : DataW H × List MemPlace} (h : DataW.trod enc Try.prog w base spare held fuel 23 cs = some x) : ∃ m : Mac6, cs = [.int .u8 (m.a.toNat : Int), .int .u8 (m.b.toNat : Int), .int .u8 (m.c.toNat : Int), .int .u8 (m.d.toNat : Int), .int .u8 (m.e.toNat : Int), .int .u8 (m.f.toNat : Int)] := by
  obtain ⟨m, hl, hg⟩ := trod_arr Try.underlying23 h
  rw [cells_mac] at hl
  rw [cells_byte] at hg
  match cs, hl with
  | [c0, c1, c2, c3, c4, c5], _ =>
    obtain ⟨_, g0⟩ := hg 0 (by decide)
    obtain ⟨_, g1⟩ := hg 1 (by decide)
    obtain ⟨_, g2⟩ := hg 2 (by decide)
    obtain ⟨_, g3⟩ := hg 3 (by decide)
    obtain ⟨_, g4⟩ := hg 4 (by decide)
    obtain ⟨_, g5⟩ := hg 5 (by decide)
    obtain ⟨x0, rfl⟩ := byte_in (v := c0) g0
    obtain ⟨x1, rfl⟩ := byte_in (v := c1) g1
    obtain ⟨x2, rfl⟩ := byte_in (v := c2) g2
    obtain ⟨x3, rfl⟩ := byte_in (v := c3) g3
    obtain ⟨x4, rfl⟩ := byte_in (v := c4) g4
    obtain ⟨x5, rfl⟩ := byte_in (v := c5) g5
    exact ⟨⟨x0, x1, x2, x3, x4, x5⟩, rfl⟩
set_option maxRecDepth 100000 in
theorem open_mac {r : Reach} {b0 : Nat} {v : Value} {d : DataW H} {ps : List MemPlace} (hval : Value.okWide Try.prog w r b0 23 v) (hd : DataW.Trod enc Try.prog w base spare held 23 v d ps) : ∃ m : Mac6, v = .agg #[.int .u8 (m.a.toNat : Int), .int .u8 (m.b.toNat : Int), .int .u8 (m.c.toNat : Int), .int .u8 (m.d.toNat : Int), .int .u8 (m.e.toNat : Int), .int .u8 (m.f.toNat : Int)] := by
  obtain ⟨cs, rfl, _⟩ : ∃ cs, v = .agg cs ∧ cs.size = Try.prog.cellsOf 23 := by
    have := hval
    simp only [Value.okWide, Try.underlying23] at this
    obtain ⟨cs, h1, h2, _⟩ := this
    exact ⟨cs, h1, h2⟩
  obtain ⟨fuel, hf⟩ := hd
  obtain ⟨m, hm⟩ := mac_in hf
  refine ⟨m, ?_⟩
  have : cs = #[.int .u8 (m.a.toNat : Int), .int .u8 (m.b.toNat : Int), .int .u8 (m.c.toNat : Int), .int .u8 (m.d.toNat : Int), .int .u8 (m.e.toNat : Int), .int .u8 (m.f.toNat : Int)] := Array.toList_inj.1 hm
  rw [this]
end

end Go.Proofs.Ytolegdjdppaeoaa
