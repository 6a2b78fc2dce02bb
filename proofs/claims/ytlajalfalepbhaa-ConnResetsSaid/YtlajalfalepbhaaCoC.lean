/-
  Layer 15, mathematics: the chapter's example, step by step, as values. No program is named here (but for the imports). No conditions.
-/
import Derived.Test.YtlajalfalepbhaaCoB
namespace Go.Proofs.Ytlajalfalepbhaa
open Go.RowKit
set_option linter.unusedVariables false

def kR (st una nxt top u : Int) (L : List UInt8) (cl : Bool) (win tsq tak nx : Int) (R : List UInt8) (W : List (Option UInt8)) (eof : Bool) (told : Int) (ck : CkV) (left : Int) (mr : Bool) (me lg : Int) (sent : List Sg) : Cn :=
  { fr := 10, dt := 9, st := st, rs := false, iss := 500, una := una, nxt := nxt, top := top, u := u, L := L, cl := cl, mss := 100, win := win, tsq := tsq, tak := tak, nx := nx, R := R, W := W, eof := eof, told := told, ck := ck, left := left, tries := 0, mt := 3, mr := mr, me := me, ma := 0, lg := lg, ml := 5, sent := sent }
def W48 : List (Option UInt8) := List.replicate 2048 none
def kS2 : Sg := ⟨0, 0, 101, 501, 16, 1000, 0, ⟨#[104, 105]⟩⟩
def kS6 : Sg := ⟨0, 0, 103, 504, 17, 0, 0, ⟨#[]⟩⟩
def kk2 : Cn := inV exA kS2
def kk3 : Cn := readV kk2 9
def kk4 : Cn := writeV (outV kk3) ⟨#[111, 107]⟩
def kk5 : Cn := closeV (outV kk4)
def kk6 : Cn := inV (outV kk5) kS6
def kk7 (n : Nat) : Cn := Nat.rec (outV kk6) (fun _ v => tickV v) n
theorem kk2_eq : kk2 = kR 2 501 501 501 501 [] false 1000 101 501 103 [104, 105] (List.replicate 2046 none) false 2046 exCk 0 false 0 0 [⟨10, 9, 501, 103, 16, 2046, 0, ⟨#[]⟩⟩] := by
  unfold kk2
  rw [ex_a]
  generalize hW : List.replicate 2048 (none : Option UInt8) = W
  rw [in_take (by show (1 : Int) ≠ 9; decide) (counts_want rfl) (by kernel_rfl) (by kernel_rfl) (by kernel_rfl) (fun _ => rfl) (by kernel_rfl)]
  have h1 : ∀ W, take4 (take3 (take2 (take1 (exV 1 500 0 10 ⟨2, 60, 10, false, 0, 0⟩ true 501 101 2048 [] W []) kS2) kS2) kS2) = kR 2 501 501 501 501 [] false 1000 101 501 101 [] W false 2048 exCk 0 false 0 0 [] := fun W => by kernel_rfl
  unfold takeV take5
  rw [h1, dataTo_old (j := 0) (m := 2048) rfl hW.symm (by show (0 : Int) ≤ 101 ∧ (101 : Int) < 4294967296; decide) rfl (by decide) (by show 2 ≤ 2048; decide) (by show 2 ≤ 65536 ∧ 2048 ≤ 65536; decide)]
  have h2 : ∀ W, take6 (flushV (finTo (kR 2 501 501 501 501 [] false 1000 101 501 103 [104, 105] W false 2048 exCk 0 false 0 0 []) kS2)) kS2 (finTo (kR 2 501 501 501 501 [] false 1000 101 501 103 [104, 105] W false 2048 exCk 0 false 0 0 []) kS2).sent.length = kR 2 501 501 501 501 [] false 1000 101 501 103 [104, 105] W false W.length exCk 0 false 0 0 [⟨10, 9, 501, 103, 16, W.length, 0, ⟨#[]⟩⟩] := fun W => by kernel_rfl
  have h3 := h2 (List.replicate 2046 none)
  rw [List.length_replicate] at h3
  exact h3
theorem kk3_eq : kk3 = kR 2 501 501 501 501 [] false 1000 101 501 103 [] W48 false 2046 exCk 0 false 0 0 [⟨10, 9, 501, 103, 16, 2046, 0, ⟨#[]⟩⟩] := by
  unfold kk3 readV
  rw [kk2_eq]
  have h1 : ∀ W, readV1 (kR 2 501 501 501 501 [] false 1000 101 501 103 [104, 105] W false 2046 exCk 0 false 0 0 [⟨10, 9, 501, 103, 16, 2046, 0, ⟨#[]⟩⟩]) 9 = kR 2 501 501 501 501 [] false 1000 101 501 103 [] (W ++ List.replicate 2 none) false 2046 exCk 0 false 0 0 [⟨10, 9, 501, 103, 16, 2046, 0, ⟨#[]⟩⟩] := fun W => by kernel_rfl
  rw [h1, List.replicate_append_replicate]
  have h2 : ∀ W, readV2 (kR 2 501 501 501 501 [] false 1000 101 501 103 [] W false 2046 exCk 0 false 0 0 [⟨10, 9, 501, 103, 16, 2046, 0, ⟨#[]⟩⟩]) = kR 2 501 501 501 501 [] false 1000 101 501 103 [] W false 2046 exCk 0 false 0 0 [⟨10, 9, 501, 103, 16, 2046, 0, ⟨#[]⟩⟩] := fun W => by kernel_rfl
  exact h2 _
theorem kk4_eq : kk4 = kR 2 501 503 503 501 [111, 107] false 1000 101 501 103 [] W48 false 2048 exCk exCk.t true 503 0 [⟨10, 9, 501, 103, 24, 2048, 0, ⟨#[111, 107]⟩⟩] := by
  unfold kk4
  rw [kk3_eq]
  have h : ∀ W : List (Option UInt8), writeV (outV (kR 2 501 501 501 501 [] false 1000 101 501 103 [] W false 2046 exCk 0 false 0 0 [⟨10, 9, 501, 103, 16, 2046, 0, ⟨#[]⟩⟩])) ⟨#[111, 107]⟩ = kR 2 501 503 503 501 [111, 107] false 1000 101 501 103 [] W false W.length exCk exCk.t true 503 0 [⟨10, 9, 501, 103, 24, W.length, 0, ⟨#[111, 107]⟩⟩] := fun W => by kernel_rfl
  have h3 := h W48
  rw [show W48.length = 2048 from List.length_replicate] at h3
  exact h3
theorem kk5_eq : kk5 = kR 3 501 504 504 501 [111, 107] true 1000 101 501 103 [] W48 false 2048 exCk exCk.t true 503 0 [⟨10, 9, 503, 103, 17, 2048, 0, ⟨#[]⟩⟩] := by
  unfold kk5
  rw [kk4_eq]
  have h : ∀ W : List (Option UInt8), closeV (outV (kR 2 501 503 503 501 [111, 107] false 1000 101 501 103 [] W false 2048 exCk exCk.t true 503 0 [⟨10, 9, 501, 103, 24, 2048, 0, ⟨#[111, 107]⟩⟩])) = kR 3 501 504 504 501 [111, 107] true 1000 101 501 103 [] W false W.length exCk exCk.t true 503 0 [⟨10, 9, 503, 103, 17, W.length, 0, ⟨#[]⟩⟩] := fun W => by kernel_rfl
  have h3 := h W48
  rw [show W48.length = 2048 from List.length_replicate] at h3
  exact h3
theorem kk6_eq : kk6 = kR 6 504 504 504 503 [] true 0 103 504 103 [] W48 true 2048 (measV exCk 0) 0 false 0 5 [⟨10, 9, 504, 104, 16, 2048, 0, ⟨#[]⟩⟩] := by
  unfold kk6
  rw [kk5_eq, in_take (by show (3 : Int) ≠ 9; decide) (counts_want rfl) (by kernel_rfl) (by kernel_rfl) (by kernel_rfl) (fun e => by cases e) (by kernel_rfl)]
  have h1 : ∀ W, take4 (take3 (take2 (take1 (outV (kR 3 501 504 504 501 [111, 107] true 1000 101 501 103 [] W false 2048 exCk exCk.t true 503 0 [⟨10, 9, 503, 103, 17, 2048, 0, ⟨#[]⟩⟩])) kS6) kS6) kS6) = kR 4 504 504 504 503 [] true 0 103 504 103 [] W false 2048 (measV exCk 0) 0 false 0 0 [] := fun W => by kernel_rfl
  unfold takeV take5
  rw [h1, dataTo_old (j := 0) (m := 2048) rfl rfl (by show (0 : Int) ≤ 103 ∧ (103 : Int) < 4294967296; decide) rfl (by decide) (by show 0 ≤ 2048; decide) (by show 0 ≤ 65536 ∧ 2048 ≤ 65536; decide)]
  have h2 : ∀ W : List (Option UInt8), take6 (flushV (finTo (kR 4 504 504 504 503 [] true 0 103 504 103 [] W false 2048 (measV exCk 0) 0 false 0 0 []) kS6)) kS6 (finTo (kR 4 504 504 504 503 [] true 0 103 504 103 [] W false 2048 (measV exCk 0) 0 false 0 0 []) kS6).sent.length = kR 6 504 504 504 503 [] true 0 103 504 103 [] W true W.length (measV exCk 0) 0 false 0 5 [⟨10, 9, 504, 104, 16, W.length, 0, ⟨#[]⟩⟩] := fun W => by kernel_rfl
  have h3 := h2 W48
  rw [show W48.length = 2048 from List.length_replicate] at h3
  exact h3
theorem kk7_eq (n : Nat) (h : n ≤ 4) : kk7 n = kR 6 504 504 504 503 [] true 0 103 504 103 [] W48 true 2048 (measV exCk 0) 0 false 0 (5 - n) [] := by
  have h0 : kk7 0 = kR 6 504 504 504 503 [] true 0 103 504 103 [] W48 true 2048 (measV exCk 0) 0 false 0 5 [] := by
    show outV kk6 = _
    rw [kk6_eq]
    rfl
  have hs : ∀ n, kk7 (n + 1) = tickV (kk7 n) := fun _ => rfl
  have ht : ∀ (W : List (Option UInt8)) (j : Int), j = 5 ∨ j = 4 ∨ j = 3 ∨ j = 2 → tickV (kR 6 504 504 504 503 [] true 0 103 504 103 [] W true 2048 (measV exCk 0) 0 false 0 j []) = kR 6 504 504 504 503 [] true 0 103 504 103 [] W true 2048 (measV exCk 0) 0 false 0 (j - 1) [] := by
    rintro W j (rfl | rfl | rfl | rfl) <;> kernel_rfl
  match n, h with
  | 0, _ => exact h0
  | 1, _ => rw [hs, h0, ht _ _ (by decide)]; rfl
  | 2, _ => rw [hs, hs, h0, ht _ _ (by decide), ht _ _ (by decide)]; rfl
  | 3, _ => rw [hs, hs, hs, h0, ht _ _ (by decide), ht _ _ (by decide), ht _ _ (by decide)]; rfl
  | 4, _ => rw [hs, hs, hs, hs, h0, ht _ _ (by decide), ht _ _ (by decide), ht _ _ (by decide), ht _ _ (by decide)]; rfl
theorem kk8_eq : tickV (kk7 4) = kR 9 504 504 504 503 [] true 0 103 504 103 [] W48 true 2048 (measV exCk 0) 0 false 0 0 [] := by
  rw [kk7_eq 4 (by decide)]
  have h : ∀ W, tickV (kR 6 504 504 504 503 [] true 0 103 504 103 [] W true 2048 (measV exCk 0) 0 false 0 1 []) = kR 9 504 504 504 503 [] true 0 103 504 103 [] W true 2048 (measV exCk 0) 0 false 0 0 [] := fun W => by kernel_rfl
  exact h _
theorem kS_ok : kS2.ok ∧ kS6.ok := by
  refine ⟨⟨?_, ?_, ?_, ?_, ?_, ?_, ?_, ?_⟩, ⟨?_, ?_, ?_, ?_, ?_, ?_, ?_, ?_⟩⟩ <;> decide
end Go.Proofs.Ytlajalfalepbhaa
