/-
  Layer 15, mathematics: how one begins that nobody answers. No program is named here (but for the imports). Conditions: as said.
-/
import Derived.Test.YtlajalfalepbhaaCoD
namespace Go.Proofs.Ytlajalfalepbhaa
open Go.RowKit
set_option linter.unusedVariables false

def slN (f l m t : Int) : Cn := newV exSyn 500 f l m t 3
def slC (f l m : Int) : CkV := ⟨l, m, f, false, 0, 0⟩
def slS (win : Int) : Sg := ⟨0, 0, 101, 501, 16, win, 0, ⟨#[]⟩⟩
theorem sl_a (f l m t : Int) : outV (slN f l m t) = sV 1 500 501 501 [] 0 0 0 W48.length (slC f l m) f 0 t true 501 0 [] := by rfl
theorem slA (f l m t : Int) : SA t (outV (slN f l m t)) (slC f l m) f 0 := ⟨_, _, _, _, sl_a f l m t⟩
theorem sl_b (f l m t win : Int) (h : win = 1000 ∨ win = 0) : inV (outV (slN f l m t)) (slS win) = sV 2 501 501 501 [] win 101 501 W48.length (measV (slC f l m) 0) 0 0 t false 0 0 [] := by
  rw [sl_a]
  have hn : ∀ tl : Int, neverV (sV 1 500 501 501 [] 0 0 0 tl (slC f l m) f 0 t true 501 0 []) 501 = false := fun tl => by
    show (!lessN 501 500 && lessN 501 501) = false
    decide
  have h9 : ∀ tl : Int, (sV 1 500 501 501 [] 0 0 0 tl (slC f l m) f 0 t true 501 0 []).st ≠ 9 := fun tl => by
    show (1 : Int) ≠ 9
    decide
  have ht := in_take (v := sV 1 500 501 501 [] 0 0 0 W48.length (slC f l m) f 0 t true 501 0 []) (s := slS win) (h9 _) (counts_want rfl) (show hasF 16 2 = false by decide) (show hasF 16 1 = false by decide) (show hasF 16 4 = true by decide) (fun _ => rfl) (hn _)
  rw [ht]
  have h1 : ∀ W : List (Option UInt8), ∀ tl : Int, take4 (take3 (take2 (take1 { sV 1 500 501 501 [] 0 0 0 tl (slC f l m) f 0 t true 501 0 [] with W := W } (slS win)) (slS win)) (slS win)) = { sV 2 501 501 501 [] win 101 501 tl (measV (slC f l m) 0) 0 0 t false 0 0 [] with W := W } := fun W tl => by
    rcases h with rfl | rfl <;> rfl
  have h1' := h1 W48 W48.length
  unfold takeV take5
  rw [show take4 (take3 (take2 (take1 (sV 1 500 501 501 [] 0 0 0 W48.length (slC f l m) f 0 t true 501 0 []) (slS win)) (slS win)) (slS win)) = sV 2 501 501 501 [] win 101 501 W48.length (measV (slC f l m) 0) 0 0 t false 0 0 [] from h1']
  rw [dataTo_old (j := 0) (m := 2048) rfl rfl (by show (0 : Int) ≤ 101 ∧ (101 : Int) < 4294967296; decide) rfl (by show 0 ≤ 0; decide) (by show 0 ≤ 2048; decide) (by show 0 ≤ 65536 ∧ 2048 ≤ 65536; decide)]
  have h2 : ∀ W : List (Option UInt8), ∀ tl : Int, take6 (flushV (finTo { sV 2 501 501 501 [] win 101 501 tl (measV (slC f l m) 0) 0 0 t false 0 0 [] with W := W } (slS win))) (slS win) (finTo { sV 2 501 501 501 [] win 101 501 tl (measV (slC f l m) 0) 0 0 t false 0 0 [] with W := W } (slS win)).sent.length = { sV 2 501 501 501 [] win 101 501 tl (measV (slC f l m) 0) 0 0 t false 0 0 [] with W := W } := fun W tl => by
    rcases h with rfl | rfl <;> rfl
  exact h2 W48 W48.length
theorem sl_write (f l m t win : Int) (D : ByteArray) (hz : D.size ≤ 100) : writeN (sV 2 501 501 501 [] win 101 501 W48.length (measV (slC f l m) 0) 0 0 t false 0 0 []) D = D.size := by
  show min D.size (2048 - 0) = D.size
  omega
theorem sl_L (D : ByteArray) (hz : D.size ≤ 100) : ([] : List UInt8) ++ D.data.toList.take (min D.size (2048 - 0)) = D.data.toList := by
  rw [List.nil_append, List.take_of_length_le]
  rw [Array.length_toList]
  show D.size ≤ _
  omega
theorem sl_c (f l m t : Int) (D : ByteArray) (h0 : 1 ≤ D.size) (hz : D.size ≤ 100) : writeV (sV 2 501 501 501 [] 0 101 501 W48.length (measV (slC f l m) 0) 0 0 t false 0 0 []) D = sV 2 501 501 501 D.data.toList 0 101 501 W48.length (measV (slC f l m) 0) (measV (slC f l m) 0).t 0 t false 0 0 [] := by
  show flushV { sV 2 501 501 501 [] 0 101 501 W48.length (measV (slC f l m) 0) 0 0 t false 0 0 [] with L := [] ++ D.data.toList.take (min D.size (2048 - 0)) } = _
  rw [sl_L D hz]
  have hL : 1 ≤ D.data.toList.length := by rw [Array.length_toList]; exact h0
  generalize D.data.toList = L at hL
  show flushW (flushF (flushL (L.length + 1) (sV 2 501 501 501 L 0 101 501 W48.length (measV (slC f l m) 0) 0 0 t false 0 0 []))) = _
  have hr : roomV (sV 2 501 501 501 L 0 101 501 W48.length (measV (slC f l m) 0) 0 0 t false 0 0 []) = 0 := rfl
  rw [flushL_done _ _ (by rw [hr]; exact fun e => absurd e.1 (by decide))]
  unfold flushF
  rw [hr, if_neg (by decide)]
  unfold flushW
  have hw : waitsV (sV 2 501 501 501 L 0 101 501 W48.length (measV (slC f l m) 0) 0 0 t false 0 0 []) = true := by
    cases L with
    | nil => exact absurd hL (by decide)
    | cons a L => rfl
  rw [if_pos ⟨rfl, hw, rfl⟩]
  rfl
theorem sl_d (f l m t : Int) (D : ByteArray) (h0 : 1 ≤ D.size) (hz : D.size ≤ 100) (hc : (measV (slC f l m) 0).ok) : ∃ x, writeV (sV 2 501 501 501 [] 1000 101 501 W48.length (measV (slC f l m) 0) 0 0 t false 0 0 []) D = sV 2 501 (501 + D.data.toList.length) (501 + D.data.toList.length) D.data.toList 1000 101 501 W48.length (measV (slC f l m) 0) (measV (slC f l m) 0).t 0 t true (501 + D.data.toList.length) 0 [x] := by
  refine ⟨⟨10, 9, 501, 101, 24, W48.length, 0, ⟨D.data.toList.toArray⟩⟩, ?_⟩
  show flushV { sV 2 501 501 501 [] 1000 101 501 W48.length (measV (slC f l m) 0) 0 0 t false 0 0 [] with L := [] ++ D.data.toList.take (min D.size (2048 - 0)) } = _
  rw [sl_L D hz]
  have hL : 1 ≤ D.data.toList.length := by rw [Array.length_toList]; exact h0
  have hL2 : D.data.toList.length ≤ 100 := by rw [Array.length_toList]; exact hz
  generalize D.data.toList = L at hL hL2
  show flushW (flushF (flushL (L.length + 1) (sV 2 501 501 501 L 1000 101 501 W48.length (measV (slC f l m) 0) 0 0 t false 0 0 []))) = _
  generalize hck : measV (slC f l m) 0 = ck at hc
  have hr : roomV (sV 2 501 501 501 L 1000 101 501 W48.length ck 0 0 t false 0 0 []) = 1000 := rfl
  have hn : L ≠ [] := fun e => by rw [e] at hL; exact absurd hL (by decide)
  have hd : dataV (sV 2 501 501 501 L 1000 101 501 W48.length ck 0 0 t false 0 0 []) 1000 = L := by
    show (L.drop (ahN 501 501).toNat).take (min 1000 100 : Int).toNat = L
    rw [ahN_self]
    show (L.drop 0).take 100 = L
    rw [List.drop_zero, List.take_of_length_le hL2]
  have hs : sendDataV (sV 2 501 501 501 L 1000 101 501 W48.length ck 0 0 t false 0 0 []) 1000 = sV 2 501 (501 + L.length) (501 + L.length) L 1000 101 501 W48.length ck ck.t 0 t true (501 + L.length) 0 [⟨10, 9, 501, 101, 24, W48.length, 0, ⟨L.toArray⟩⟩] := by
    unfold sendDataV
    rw [hd, if_neg hn]
    show moveOn3 (moveOn2 (sV 2 501 ((501 + L.length) % 4294967296) 501 L 1000 101 501 W48.length ck 0 0 t false 0 0 [⟨10, 9, 501, 101, 24, W48.length, 0, ⟨L.toArray⟩⟩])) = _
    rw [show (501 + (L.length : Int)) % 4294967296 = 501 + L.length by omega]
    have hl : lessN 501 (501 + (L.length : Int)) = true := by
      unfold lessN ahN
      rw [decide_eq_true (by omega), decide_eq_true (by omega)]
      rfl
    have h5 : moveOn2 (sV 2 501 (501 + L.length) 501 L 1000 101 501 W48.length ck 0 0 t false 0 0 [⟨10, 9, 501, 101, 24, W48.length, 0, ⟨L.toArray⟩⟩]) = sV 2 501 (501 + L.length) (501 + L.length) L 1000 101 501 W48.length ck 0 0 t true (501 + L.length) 0 [⟨10, 9, 501, 101, 24, W48.length, 0, ⟨L.toArray⟩⟩] := by
      unfold moveOn2
      exact if_pos hl
    rw [h5]
    rfl
  rw [flushL_more _ _ (by rw [hr]; decide) (by rw [hr, hd]; exact hn), hr, hs]
  have hd2 : ∀ n, dataV (sV 2 501 (501 + L.length) (501 + L.length) L 1000 101 501 W48.length ck ck.t 0 t true (501 + L.length) 0 [⟨10, 9, 501, 101, 24, W48.length, 0, ⟨L.toArray⟩⟩]) n = [] := fun n => by
    show (L.drop (ahN 501 (501 + L.length)).toNat).take _ = []
    rw [List.drop_eq_nil_of_le (by unfold ahN; omega), List.take_nil]
  rw [flushL_done _ _ (fun e => e.2 (hd2 _))]
  have hf : flushF (sV 2 501 (501 + L.length) (501 + L.length) L 1000 101 501 W48.length ck ck.t 0 t true (501 + L.length) 0 [⟨10, 9, 501, 101, 24, W48.length, 0, ⟨L.toArray⟩⟩]) = sV 2 501 (501 + L.length) (501 + L.length) L 1000 101 501 W48.length ck ck.t 0 t true (501 + L.length) 0 [⟨10, 9, 501, 101, 24, W48.length, 0, ⟨L.toArray⟩⟩] := by
    unfold flushF
    split
    · rfl
    · rfl
  rw [hf]
  unfold flushW
  rw [if_neg (by rintro ⟨e, _⟩; have e : 501 + (L.length : Int) = 501 := e; omega)]
end Go.Proofs.Ytlajalfalepbhaa
