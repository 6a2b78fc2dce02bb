/-
  Layer 13: a buffer that was made behind a world that stays as it was: a contract a call; awake. Conditions: as said.
-/
import Derived.Test.YtlajalfalepbhaaSbC
namespace Go.Proofs.Ytlajalfalepbhaa
open Go.RowKit
set_option linter.unusedVariables false

/-- A buffer that was made behind the world w. -/
structure SbS (w w1 : World) (g b n : Nat) (u : Int) (L : List UInt8) : Prop where
  sb : Sb w1 g b n u L
  bl : Below w.heap.size w w1
  g0 : w.heap.size ≤ g
  b0 : w.heap.size ≤ b
section
variable {w w1 w2 : World} {g b n : Nat} {u u' : Int} {L L' : List UInt8}
theorem SbS.step (h : SbS w w1 g b n u L) (k : Sb w2 g b n u' L') (t : Turn w1 w2 (fun k => k = g ∨ k = b)) : SbS w w2 g b n u' L' :=
  ⟨k, below_turn h.bl t h.bl.size (fun k hk => hk.elim (fun e => by rw [e]; exact h.g0) (fun e => by rw [e]; exact h.b0)), h.g0, h.b0⟩
theorem SbS.grow (h : SbS w w1 g b n u L) (k : Below w1.heap.size w1 w2) : SbS w w2 g b n u L :=
  ⟨h.sb.below k, h.bl.trans (k.mono h.bl.size), h.g0, h.b0⟩
theorem tNew (w : World) (u : Int) (n : Nat) (h1 : 1 ≤ n) (h2 : n ≤ 2048) (x0 : 0 ≤ u) (x1 : u < 4294967296) :
    Calls Try.prog 35 #[.int .u32 u, .int .i64 n] w fun e w' => ∃ g b, e = .returned (.tuple #[.pointer (some ⟨g, 0, none⟩), .int .i64 0]) ∧ SbS w w' g b n u [] :=
  (snew_ok w u n h1 h2 x0 x1).mono fun e w' ⟨h3, h4, h5⟩ => ⟨_, _, h3, h4, h5, by omega, Nat.le_refl _⟩
theorem tWrite (h : SbS w w1 g b n u L) (D : ByteArray) (k : Nat) (hk : k = min D.size (n - L.length)) (d : List UInt8) (hd : d = D.data.toList.take k) (L' : List UInt8) (hL : L' = L ++ d) :
    Calls Try.prog 51 #[.pointer (some ⟨g, 0, none⟩), .string D] w1 fun e w' => e = .returned (.int .i64 k) ∧ SbS w w' g b n u L' :=
  (sawrite_ok h.sb D k hk d hd).mono fun e w' ⟨h3, h4, h5⟩ => by
    subst hL
    exact ⟨h3, h.step h4 h5⟩
theorem tAck (h : SbS w w1 g b n u L) (x : Int) (hx : 0 ≤ x ∧ x < 4294967296) (K : Nat) (hK : (K : Int) = if ahN u x ≤ L.length then ahN u x else 0) (u' : Int) (hu : u' = (u + K) % 4294967296) (L' : List UInt8) (hL : L' = L.drop K) :
    Calls Try.prog 87 #[.pointer (some ⟨g, 0, none⟩), .int .u32 x] w1 fun e w' => e = .returned (.int .i64 K) ∧ SbS w w' g b n u' L' :=
  (sack_ok h.sb x hx K hK u' hu).mono fun e w' ⟨h3, h4, h5⟩ => by
    subst hL
    exact ⟨h3, h.step h4 h5⟩
theorem tGet (h : SbS w w1 g b n u L) (s x : Int) (hx : x ≤ 9223372036854775807) (S : ByteArray) (hS : S = ⟨(getS u s x L).toArray⟩) :
    Calls Try.prog 94 #[.pointer (some ⟨g, 0, none⟩), .int .u32 s, .int .i64 x] w1 fun e w' => e = .returned (.string S) ∧ SbS w w' g b n u L :=
  (sget_ok h.sb s x hx).mono fun e w' ⟨h3, h4⟩ => ⟨by rw [hS]; exact h3, h.grow h4⟩
theorem tUna (h : SbS w w1 g b n u L) :
    Calls Try.prog 89 #[.pointer (some ⟨g, 0, none⟩)] w1 fun e w' => e = .returned (.int .u32 u) ∧ w' = w1 :=
  (sauna_ok h.sb).mono fun e w' ⟨h3, h4⟩ => ⟨h3, h4.symm⟩
theorem tEnd (h : SbS w w1 g b n u L) (x : Int) (hx : x = (u + L.length) % 4294967296) :
    Calls Try.prog 68 #[.pointer (some ⟨g, 0, none⟩)] w1 fun e w' => e = .returned (.int .u32 x) ∧ w' = w1 :=
  (saend_ok h.sb x hx).mono fun e w' ⟨h3, h4⟩ => ⟨h3, h4.symm⟩
theorem tLen (h : SbS w w1 g b n u L) (k : Nat) (hk : k = L.length) :
    Calls Try.prog 90 #[.pointer (some ⟨g, 0, none⟩)] w1 fun e w' => e = .returned (.int .i64 k) ∧ w' = w1 :=
  (salen_ok h.sb).mono fun e w' ⟨h3, h4⟩ => ⟨by rw [hk]; exact h3, h4.symm⟩
theorem tRoom (h : SbS w w1 g b n u L) (k : Nat) (hk : L.length + k = n) :
    Calls Try.prog 57 #[.pointer (some ⟨g, 0, none⟩)] w1 fun e w' => e = .returned (.int .i64 k) ∧ SbS w w' g b n u L :=
  (saroom_ok h.sb k hk).mono fun e w' ⟨h3, h4⟩ => ⟨h3, h.grow h4⟩
end
end Go.Proofs.Ytlajalfalepbhaa
