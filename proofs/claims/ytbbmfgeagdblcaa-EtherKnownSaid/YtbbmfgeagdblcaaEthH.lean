/-
  Layer 6: addresses and frames that come in. No conditions.
-/
import Derived.Test.YtbbmfgeagdblcaaEthG
import Derived.Test.YtbbmfgeagdblcaaEthE
import Derived.ProofKit
import Derived.OpenShut
import Derived.ShutString
import Derived.ChangeOld
import Derived.Below
namespace Go.Proofs.Ytbbmfgeagdblcaa
open Go.ChangeShapes Go.WideShapes Go.ChangeAt Go.RowKit
set_option linter.unusedVariables false

theorem own : ownKnob Try.prog.godebug = none := by kernel_rfl
theorem laidOut : laidOutB Try.prog = true := by kernel_rfl

section
variable {H : Type} {enc : TypeId × Value → H} {P : Program} {w : World} {base : Nat} {spare : Nat → Bool} {held : Bool}
theorem mapM_mem {α β : Type} {g : α → Option β} : ∀ {L : List α} {ys : List β}, L.mapM g = some ys → ∀ x ∈ L, ∃ y, g x = some y
  | [], _, _, _, hx => by cases hx
  | a :: L, ys, h, x, hx => by
    rw [List.mapM_cons] at h
    cases ha : g a with
    | none => simp [ha] at h
    | some y =>
      cases hL : L.mapM g with
      | none => simp [ha, hL] at h
      | some zs =>
        rcases List.mem_cons.1 hx with rfl | hx
        · exact ⟨y, ha⟩
        · exact mapM_mem hL x hx
theorem trod_arr {t e : TypeId} {n fuel : Nat} {cs : List Value} {x : DataW H × List MemPlace} (ht : P.underlying t = some (.array n e)) (h : DataW.trod enc P w base spare held fuel t cs = some x) :
    ∃ m, cs.length = P.cellsOf t ∧ ∀ i, i < n → ∃ y, DataW.trod enc P w base spare held m e ((cs.drop (i * P.cellsOf e)).take (P.cellsOf e)) = some y := by
  cases fuel with
  | zero => simp [DataW.trod] at h
  | succ m =>
    unfold DataW.trod at h
    rw [ht] at h
    have h2 : (if cs.length = P.cellsOf t then ((List.range n).mapM fun i => DataW.trod enc P w base spare held m e ((cs.drop (i * P.cellsOf e)).take (P.cellsOf e))).map fun xs => (DataW.agg (xs.map (·.1)), xs.flatMap (·.2)) else none) = some x := by
      split at h <;> simp_all
    by_cases hl : cs.length = P.cellsOf t
    · rw [if_pos hl] at h2
      obtain ⟨ys, hm, _⟩ := Option.map_eq_some_iff.1 h2
      exact ⟨m, hl, fun i hi => mapM_mem hm i (List.mem_range.2 hi)⟩
    · rw [if_neg hl] at h2
      cases h2
end

section
variable {H : Type} {enc : TypeId × Value → H} {w : World} {base : Nat} {spare : Nat → Bool} {held : Bool}
theorem byte_in {m : Nat} {v : Value} {y : DataW H × List MemPlace} (h : DataW.trod enc Try.prog w base spare held m 5 [v] = some y) : ∃ x : UInt8, v = .int .u8 (x.toNat : Int) := by
  obtain ⟨n, hn, _, hw⟩ := DataW.trod_int Try.underlying5 h
  have hb := bounds_u8 hw
  refine ⟨UInt8.ofNat n.toNat, ?_⟩
  simp only [List.cons.injEq, and_true] at hn
  rw [hn, UInt8.toNat_ofNat']
  congr 1
  omega
set_option maxRecDepth 100000 in
theorem mac_in {fuel : Nat} {cs : List Value} {x : DataW H × List MemPlace} (h : DataW.trod enc Try.prog w base spare held fuel 49 cs = some x) : ∃ m : Mac6, cs = [.int .u8 (m.a.toNat : Int), .int .u8 (m.b.toNat : Int), .int .u8 (m.c.toNat : Int), .int .u8 (m.d.toNat : Int), .int .u8 (m.e.toNat : Int), .int .u8 (m.f.toNat : Int)] := by
  obtain ⟨m, hl, hg⟩ := trod_arr Try.underlying49 h
  rw [cells_mac] at hl
  rw [cells_byte] at hg
  match cs, hl with
  | [c0, c1, c2, c3, c4, c5], _ =>
    obtain ⟨_, g0⟩ := hg 0 (by decide)
    obtain ⟨_, g1⟩ := hg 1 (by decide)
    obtain ⟨_, g2⟩ := hg 2 (by decide)
    obtain ⟨_, g3⟩ := hg 3 (by decide)
    obtain ⟨_, g4⟩ := hg 4 (by decide)
    obtain ⟨_, g5⟩ := hg 5 (by decide)
    obtain ⟨x0, rfl⟩ := byte_in (v := c0) g0
    obtain ⟨x1, rfl⟩ := byte_in (v := c1) g1
    obtain ⟨x2, rfl⟩ := byte_in (v := c2) g2
    obtain ⟨x3, rfl⟩ := byte_in (v := c3) g3
    obtain ⟨x4, rfl⟩ := byte_in (v := c4) g4
    obtain ⟨x5, rfl⟩ := byte_in (v := c5) g5
    exact ⟨⟨x0, x1, x2, x3, x4, x5⟩, rfl⟩
set_option maxRecDepth 100000 in
theorem open_mac {r : Reach} {b0 : Nat} {v : Value} {d : DataW H} {ps : List MemPlace} (hval : Value.okWide Try.prog w r b0 49 v) (hd : DataW.Trod enc Try.prog w base spare held 49 v d ps) : ∃ m : Mac6, v = .agg #[.int .u8 (m.a.toNat : Int), .int .u8 (m.b.toNat : Int), .int .u8 (m.c.toNat : Int), .int .u8 (m.d.toNat : Int), .int .u8 (m.e.toNat : Int), .int .u8 (m.f.toNat : Int)] := by
  obtain ⟨cs, rfl, _⟩ : ∃ cs, v = .agg cs ∧ cs.size = Try.prog.cellsOf 49 := by
    have := hval
    simp only [Value.okWide, Try.underlying49] at this
    obtain ⟨cs, h1, h2, _⟩ := this
    exact ⟨cs, h1, h2⟩
  obtain ⟨fuel, hf⟩ := hd
  obtain ⟨m, hm⟩ := mac_in hf
  refine ⟨m, ?_⟩
  have : cs = #[.int .u8 (m.a.toNat : Int), .int .u8 (m.b.toNat : Int), .int .u8 (m.c.toNat : Int), .int .u8 (m.d.toNat : Int), .int .u8 (m.e.toNat : Int), .int .u8 (m.f.toNat : Int)] := Array.toList_inj.1 hm
  rw [this]
set_option maxRecDepth 100000 in
theorem open_frame {r : Reach} {b0 : Nat} {v : Value} {d : DataW H} {ps : List MemPlace} (hval : Value.okWide Try.prog w r b0 51 v) (hd : DataW.Trod enc Try.prog w base spare held 51 v d ps) : ∃ f : Fr, v = .agg #[.int .u8 (f.to.a.toNat : Int), .int .u8 (f.to.b.toNat : Int), .int .u8 (f.to.c.toNat : Int), .int .u8 (f.to.d.toNat : Int), .int .u8 (f.to.e.toNat : Int), .int .u8 (f.to.f.toNat : Int), .int .u8 (f.fr.a.toNat : Int), .int .u8 (f.fr.b.toNat : Int), .int .u8 (f.fr.c.toNat : Int), .int .u8 (f.fr.d.toNat : Int), .int .u8 (f.fr.e.toNat : Int), .int .u8 (f.fr.f.toNat : Int), .int .i64 f.ty, .string f.da] ∧ f.ok := by
  obtain ⟨cs, rfl, hsz⟩ := okWide_struct Try.underlying51 hval
  rw [cells_fr] at hsz
  obtain ⟨fuel, hf⟩ := hd
  obtain ⟨xs, n, _, _, hl, hlen, hg⟩ := DataW.trod_struct Try.underlying51 hf
  have hx : ∀ i, i < 4 → ∃ y, xs[i]? = some y := fun i hi => ⟨xs[i]'(by rw [hlen]; exact hi), List.getElem?_eq_getElem _⟩
  obtain ⟨y0, e0⟩ := hx 0 (by decide)
  obtain ⟨y1, e1⟩ := hx 1 (by decide)
  obtain ⟨y2, e2⟩ := hx 2 (by decide)
  obtain ⟨y3, e3⟩ := hx 3 (by decide)
  have g0 : DataW.trod enc Try.prog w base spare held n 49 (((Value.agg cs).cells.toList.drop 0).take (Try.prog.cellsOf 49)) = some y0 := (hg 0 _ rfl).trans e0
  have g1 : DataW.trod enc Try.prog w base spare held n 49 (((Value.agg cs).cells.toList.drop 6).take (Try.prog.cellsOf 49)) = some y1 := (hg 1 _ rfl).trans e1
  have g2 : DataW.trod enc Try.prog w base spare held n 3 (((Value.agg cs).cells.toList.drop 12).take (Try.prog.cellsOf 3)) = some y2 := (hg 2 _ rfl).trans e2
  have g3 : DataW.trod enc Try.prog w base spare held n 9 (((Value.agg cs).cells.toList.drop 13).take (Try.prog.cellsOf 9)) = some y3 := (hg 3 _ rfl).trans e3
  obtain ⟨l⟩ := cs
  match l, hsz with
  | [c0, c1, c2, c3, c4, c5, c6, c7, c8, c9, c10, c11, c12, c13], _ =>
    rw [cells_mac] at g0 g1
    rw [cells_int] at g2
    rw [cells_str] at g3
    obtain ⟨m0, h0⟩ := mac_in (cs := [c0, c1, c2, c3, c4, c5]) g0
    obtain ⟨m1, h1⟩ := mac_in (cs := [c6, c7, c8, c9, c10, c11]) g1
    obtain ⟨y, h2, _, hw⟩ := DataW.trod_int (cs := [c12]) Try.underlying3 g2
    obtain ⟨s, h3, _, hs⟩ := DataW.trod_string (cs := [c13]) Try.underlying9 g3
    simp only [List.cons.injEq, and_true] at h0 h1 h2 h3
    obtain ⟨rfl, rfl, rfl, rfl, rfl, rfl⟩ := h0
    obtain ⟨rfl, rfl, rfl, rfl, rfl, rfl⟩ := h1
    subst h2
    subst h3
    exact ⟨⟨m0, m1, y, s⟩, rfl, hw, hs⟩
end

end Go.Proofs.Ytbbmfgeagdblcaa
