/-
  Layer 12: a buffer that was made behind a world that stays as it was: a contract a call; awake. Conditions: as said.
-/
import Derived.Test.YtlajalfalepbhaaRbF
namespace Go.Proofs.Ytlajalfalepbhaa
open Go.RowKit
set_option linter.unusedVariables false

theorem below_turn {w w1 w2 : World} {B : Nat} {O : Nat → Prop} (h : Below B w w1) (t : Turn w1 w2 O) (hB : B ≤ w1.heap.size) (ho : ∀ k, O k → B ≤ k) : Below B w w2 :=
  h.trans ⟨t.os, t.tape, t.output, t.size, fun k hk => t.block k (by omega) (fun e => by have := ho k e; omega)⟩
/-- A buffer that was made behind the world w. -/
structure RbS (w w1 : World) (g b n : Nat) (nx : Int) (R : List UInt8) (W : List (Option UInt8)) : Prop where
  rb : Rb w1 g b n nx R W
  bl : Below w.heap.size w w1
  g0 : w.heap.size ≤ g
  b0 : w.heap.size ≤ b
section
variable {w w1 w2 : World} {g b n : Nat} {nx : Int} {R R' : List UInt8} {W W' : List (Option UInt8)}
theorem RbS.step (h : RbS w w1 g b n nx R W) {nx' : Int} (k : Rb w2 g b n nx' R' W') (t : Turn w1 w2 (fun k => k = g ∨ k = b)) : RbS w w2 g b n nx' R' W' :=
  ⟨k, below_turn h.bl t h.bl.size (fun k hk => hk.elim (fun e => by rw [e]; exact h.g0) (fun e => by rw [e]; exact h.b0)), h.g0, h.b0⟩
theorem RbS.grow (h : RbS w w1 g b n nx R W) (k : Below w1.heap.size w1 w2) : RbS w w2 g b n nx R W :=
  ⟨h.rb.below k, h.bl.trans (k.mono h.bl.size), h.g0, h.b0⟩
theorem sNew (w : World) (nx : Int) (n : Nat) (h1 : 1 ≤ n) (h2 : n ≤ 2048) (x0 : 0 ≤ nx) (x1 : nx < 4294967296) :
    Calls Try.prog 34 #[.int .u32 nx, .int .i64 n] w fun e w' => ∃ g b, e = .returned (.tuple #[.pointer (some ⟨g, 0, none⟩), .int .i64 0]) ∧ RbS w w' g b n nx [] (List.replicate n none) :=
  (bnew_ok w nx n h1 h2 x0 x1).mono fun e w' ⟨h3, h4, h5⟩ => ⟨_, _, h3, h4, h5, by omega, Nat.le_refl _⟩
theorem sPut (h : RbS w w1 g b n nx R W) (s : Int) (hs : 0 ≤ s ∧ s < 4294967296) (D : ByteArray) (d : List UInt8) (hD : D.data.toList.take 65536 = d) (W' : List (Option UInt8)) (hW : W' = holdW nx s d W)
    (k : Nat) (hk : runW W' = k) (nx' : Int) (hn : nx' = (nx + k) % 4294967296) (R' : List UInt8) (hR : R' = R ++ gotW W') (V : List (Option UInt8)) (hV : V = W'.drop k) :
    Calls Try.prog 92 #[.pointer (some ⟨g, 0, none⟩), .int .u32 s, .string D] w1 fun e w' => e = .returned (.int .i64 k) ∧ RbS w w' g b n nx' R' V :=
  (bput_ok h.rb s hs D d hD W' hW).mono fun e w' ⟨h3, h4, h5⟩ => by
    subst hk hn hR hV
    exact ⟨h3, h.step h4 h5⟩
theorem sRead (h : RbS w w1 g b n nx R W) (x : Int) (K : Nat) (hK : (K : Int) = max 0 (min x R.length)) (S : ByteArray) (hS : S = ⟨(R.take K).toArray⟩) (R' : List UInt8) (hR : R' = R.drop K) (V : List (Option UInt8)) (hV : V = W ++ List.replicate K none) :
    Calls Try.prog 47 #[.pointer (some ⟨g, 0, none⟩), .int .i64 x] w1 fun e w' => e = .returned (.string S) ∧ RbS w w' g b n nx R' V :=
  (bread_ok h.rb x K hK).mono fun e w' ⟨h3, h4, h5⟩ => by
    subst hS hR hV
    exact ⟨h3, h.step h4 h5⟩
theorem sReady (h : RbS w w1 g b n nx R W) (k : Int) (hk : k = R.length) :
    Calls Try.prog 54 #[.pointer (some ⟨g, 0, none⟩)] w1 fun e w' => e = .returned (.int .i64 k) ∧ w' = w1 :=
  (bready_ok h.rb).mono fun e w' ⟨h3, h4⟩ => ⟨by rw [hk]; exact h3, h4.symm⟩
theorem sNext (h : RbS w w1 g b n nx R W) (k : Int) (hk : k = nx) :
    Calls Try.prog 85 #[.pointer (some ⟨g, 0, none⟩)] w1 fun e w' => e = .returned (.int .u32 k) ∧ w' = w1 :=
  (bnext_ok h.rb).mono fun e w' ⟨h3, h4⟩ => ⟨by rw [hk]; exact h3, h4.symm⟩
theorem sWindow (h : RbS w w1 g b n nx R W) (k : Int) (hk : k = W.length) :
    Calls Try.prog 49 #[.pointer (some ⟨g, 0, none⟩)] w1 fun e w' => e = .returned (.int .i64 k) ∧ RbS w w' g b n nx R W :=
  (bwindow_ok h.rb).mono fun e w' ⟨h3, h4⟩ => ⟨by rw [hk]; exact h3, h.grow h4⟩
end
end Go.Proofs.Ytlajalfalepbhaa
