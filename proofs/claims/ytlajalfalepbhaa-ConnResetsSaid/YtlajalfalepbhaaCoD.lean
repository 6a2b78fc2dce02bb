/-
  Layer 15, mathematics: one that nobody answers: what a tick makes of it while it waits, as it sends again, as it gives up. No program is named here (but for the imports). Conditions: as said.
-/
import Derived.Test.YtlajalfalepbhaaCoC
namespace Go.Proofs.Ytlajalfalepbhaa
open Go.RowKit
set_option linter.unusedVariables false

theorem wrap_in {x : Int} (h0 : -1000000000 ≤ x) (h1 : x ≤ 1000000000) : IntKind.i64.wrap x = x := IntWalk.i64_in _ (by omega)
theorem tick_q {v : Cn} (h9 : v.st ≠ 9) (h6 : v.st ≠ 6) (h2 : 2 ≤ v.left) (h3 : v.left ≤ 1000000) : tickV v = { tick1 v with left := v.left - 1 } := by
  have e1 : (tick1 v).st = v.st := by unfold tick1; split <;> rfl
  have e2 : (tick1 v).left = v.left := by unfold tick1; split <;> rfl
  unfold tickV tick3 tick2
  rw [if_neg h9, if_neg (by rw [e1]; exact h6), if_neg (by rw [e2]; omega), e2, wrap_in (by omega) (by omega), if_neg (by omega)]
theorem tick_r {v : Cn} (h9 : v.st ≠ 9) (h6 : v.st ≠ 6) (h1 : v.left = 1) : tickV v = ranOutV { tick1 v with left := 0 } := by
  have e1 : (tick1 v).st = v.st := by unfold tick1; split <;> rfl
  have e2 : (tick1 v).left = v.left := by unfold tick1; split <;> rfl
  unfold tickV tick3 tick2
  rw [if_neg h9, if_neg (by rw [e1]; exact h6), if_neg (by rw [e2]; omega), e2, h1, if_pos (by decide)]
/-- A connection that hears nothing. -/
def sV (st una nxt top : Int) (L : List UInt8) (win tsq tak : Int) (told : Int) (ck : CkV) (left tries mt : Int) (mr : Bool) (me ma : Int) (sent : List Sg) : Cn :=
  { fr := 10, dt := 9, st := st, rs := false, iss := 500, una := una, nxt := nxt, top := top, u := 501, L := L, cl := false, mss := 100, win := win, tsq := tsq, tak := tak, nx := 101, R := [], W := W48, eof := false, told := told, ck := ck, left := left, tries := tries, mt := mt, mr := mr, me := me, ma := ma, lg := 0, ml := 3, sent := sent }
/-- Not open yet; open, with a text that was sent; open, with one for which there is no window. -/
def SA (mt : Int) (v : Cn) (c : CkV) (r tr : Int) : Prop := ∃ told mr me ma, v = sV 1 500 501 501 [] 0 0 0 told c r tr mt mr me ma []
def SB (L : List UInt8) (mt : Int) (v : Cn) (c : CkV) (r tr : Int) : Prop := ∃ told mr me ma, v = sV 2 501 (501 + L.length) (501 + L.length) L 1000 101 501 told c r tr mt mr me ma []
def SC (L : List UInt8) (mt : Int) (v : Cn) (c : CkV) (r tr : Int) : Prop := tr = 0 ∧ ∃ told mr me ma, v = sV 2 501 501 501 L 0 101 501 told c r tr mt mr me ma []
/-- What is asked of such states: fv: it asks for ever. -/
structure Sys (fv : Bool) (mt : Int) (S : Cn → CkV → Int → Int → Prop) : Prop where
  st : ∀ v c r tr, S v c r tr → v.st ≠ 9 ∧ v.sent = [] ∧ v.rs = false ∧ (fv = true → v.st = 2)
  q : ∀ v c r tr, S v c r tr → 2 ≤ r → r ≤ 1000000 → S (tickV v) c (r - 1) tr
  o : ∀ v c tr, S v c 1 tr → c.ok → 0 ≤ tr → tr ≤ 100 → (tr < mt ∨ fv = true) → ∃ x, (tickV v).sent = [x] ∧ x.fl / 4 % 2 ≠ 1 ∧ S (outV (tickV v)) (backV c) (backV c).t (if fv then tr else tr + 1) ∧ (tickV v).st ≠ 9
  e : ∀ v c tr, S v c 1 tr → tr = mt → 0 ≤ tr → tr ≤ 100 → fv = false → (tickV v).st = 9 ∧ (tickV v).rs = true ∧ ((tickV v).sent = [] ∨ ∃ x, (tickV v).sent = [x] ∧ x.fl / 4 % 2 = 1)
theorem tick1_s (st una nxt top : Int) (L : List UInt8) (win tsq tak told : Int) (ck : CkV) (left tries mt : Int) (mr : Bool) (me ma : Int) (sent : List Sg) : ∃ ma', tick1 (sV st una nxt top L win tsq tak told ck left tries mt mr me ma sent) = sV st una nxt top L win tsq tak told ck left tries mt mr me ma' sent := by
  cases mr
  · exact ⟨ma, rfl⟩
  · exact ⟨IntKind.i64.wrap (ma + 1), rfl⟩
theorem back_pos {c : CkV} (h : c.ok) : 1 ≤ (backV c).t := by
  have := h.back.l1
  have := h.back.lt
  omega
theorem sysA (mt : Int) : Sys false mt (SA mt) := by
  refine ⟨?_, ?_, ?_, ?_⟩
  · rintro v c r tr ⟨told, mr, me, ma, rfl⟩
    exact ⟨by show (1 : Int) ≠ 9; decide, rfl, rfl, fun e => by cases e⟩
  · rintro v c r tr ⟨told, mr, me, ma, rfl⟩ h1 h2
    obtain ⟨ma', e⟩ := tick1_s 1 500 501 501 [] 0 0 0 told c r tr mt mr me ma []
    rw [tick_q (by show (1 : Int) ≠ 9; decide) (by show (1 : Int) ≠ 6; decide) h1 h2, e]
    exact ⟨told, mr, me, ma', rfl⟩
  · rintro v c tr ⟨told, mr, me, ma, rfl⟩ hc h0 h1 h2
    obtain ⟨ma', e⟩ := tick1_s 1 500 501 501 [] 0 0 0 told c 1 tr mt mr me ma []
    have hlt : tr < mt := h2.resolve_right (by decide)
    rw [tick_r (by show (1 : Int) ≠ 9; decide) (by show (1 : Int) ≠ 6; decide) rfl, e]
    have hw : IntKind.i64.wrap (tr + 1) = tr + 1 := wrap_in (by omega) (by omega)
    have hr : ranOutV { sV 1 500 501 501 [] 0 0 0 told c 1 tr mt mr me ma' [] with left := 0 } = sV 1 500 501 501 [] 0 0 0 W48.length (backV c) (backV c).t (tr + 1) mt false 0 0 [⟨10, 9, 500, 101, 18, W48.length, 536, ⟨#[]⟩⟩] := by
      show againSynV _ = _
      unfold againSynV
      rw [if_neg (by show ¬ mt < IntKind.i64.wrap (tr + 1); omega)]
      show synV (longerV (noMeas { sV 1 500 501 501 [] 0 0 0 told c 0 tr mt mr me ma' [] with tries := IntKind.i64.wrap (tr + 1) })) = _
      rw [hw]
      rfl
    rw [hr]
    exact ⟨_, rfl, by decide, ⟨W48.length, false, 0, 0, rfl⟩, by show (1 : Int) ≠ 9; decide⟩
  · rintro v c tr ⟨told, mr, me, ma, rfl⟩ hm h0 h1 _
    obtain ⟨ma', e⟩ := tick1_s 1 500 501 501 [] 0 0 0 told c 1 tr mt mr me ma []
    rw [tick_r (by show (1 : Int) ≠ 9; decide) (by show (1 : Int) ≠ 6; decide) rfl, e]
    have hw : IntKind.i64.wrap (tr + 1) = tr + 1 := wrap_in (by omega) (by omega)
    have hr : ranOutV { sV 1 500 501 501 [] 0 0 0 told c 1 tr mt mr me ma' [] with left := 0 } = giveUpV (triesV { sV 1 500 501 501 [] 0 0 0 told c 1 tr mt mr me ma' [] with left := 0 }) := by
      show againSynV _ = _
      unfold againSynV
      rw [if_pos (by show mt < IntKind.i64.wrap (tr + 1); omega)]
    rw [hr]
    exact ⟨rfl, rfl, .inl rfl⟩
theorem sysC (L : List UInt8) (mt : Int) : Sys true mt (SC L mt) := by
  refine ⟨?_, ?_, ?_, ?_⟩
  · rintro v c r tr ⟨rfl, told, mr, me, ma, rfl⟩
    exact ⟨by show (2 : Int) ≠ 9; decide, rfl, rfl, fun _ => rfl⟩
  · rintro v c r tr ⟨rfl, told, mr, me, ma, rfl⟩ h1 h2
    obtain ⟨ma', e⟩ := tick1_s 2 501 501 501 L 0 101 501 told c r 0 mt mr me ma []
    rw [tick_q (by show (2 : Int) ≠ 9; decide) (by show (2 : Int) ≠ 6; decide) h1 h2, e]
    exact ⟨rfl, told, mr, me, ma', rfl⟩
  · rintro v c tr ⟨rfl, told, mr, me, ma, rfl⟩ hc h0 h1 h2
    obtain ⟨ma', e⟩ := tick1_s 2 501 501 501 L 0 101 501 told c 1 0 mt mr me ma []
    rw [tick_r (by show (2 : Int) ≠ 9; decide) (by show (2 : Int) ≠ 6; decide) rfl, e]
    have hr : ranOutV { sV 2 501 501 501 L 0 101 501 told c 1 0 mt mr me ma' [] with left := 0 } = sV 2 501 501 501 L 0 101 501 W48.length (backV c) (backV c).t 0 mt mr me ma' [⟨10, 9, 500, 101, 16, W48.length, 0, ⟨#[]⟩⟩] := rfl
    rw [hr]
    exact ⟨_, rfl, by decide, ⟨rfl, W48.length, mr, me, ma', rfl⟩, by show (2 : Int) ≠ 9; decide⟩
  · rintro v c tr _ _ _ _ h
    cases h
theorem sysB (L : List UInt8) (h1 : 1 ≤ L.length) (h2 : L.length ≤ 100) (mt : Int) : Sys false mt (SB L mt) := by
  refine ⟨?_, ?_, ?_, ?_⟩
  · rintro v c r tr ⟨told, mr, me, ma, rfl⟩
    exact ⟨by show (2 : Int) ≠ 9; decide, rfl, rfl, fun e => by cases e⟩
  · rintro v c r tr ⟨told, mr, me, ma, rfl⟩ h1 h2
    obtain ⟨ma', e⟩ := tick1_s 2 501 (501 + L.length) (501 + L.length) L 1000 101 501 told c r tr mt mr me ma []
    rw [tick_q (by show (2 : Int) ≠ 9; decide) (by show (2 : Int) ≠ 6; decide) h1 h2, e]
    exact ⟨told, mr, me, ma', rfl⟩
  · rintro v c tr ⟨told, mr, me, ma, rfl⟩ hc h0 h3 h4
    obtain ⟨ma', e⟩ := tick1_s 2 501 (501 + L.length) (501 + L.length) L 1000 101 501 told c 1 tr mt mr me ma []
    have hlt : tr < mt := h4.resolve_right (by decide)
    rw [tick_r (by show (2 : Int) ≠ 9; decide) (by show (2 : Int) ≠ 6; decide) rfl, e]
    have hw : IntKind.i64.wrap (tr + 1) = tr + 1 := wrap_in (by omega) (by omega)
    have hd : dataV (sV 2 501 501 (501 + L.length) L 1000 101 501 told (backV c) (backV c).t (tr + 1) mt false 0 0 []) 1000 = L := by
      show (L.drop (ahN 501 501).toNat).take (min 1000 100 : Int).toNat = L
      rw [ahN_self]
      show (L.drop 0).take 100 = L
      rw [List.drop_zero, List.take_of_length_le h2]
    have hn : L ≠ [] := fun e => by rw [e] at h1; exact absurd h1 (by decide)
    have hr : ranOutV { sV 2 501 (501 + L.length) (501 + L.length) L 1000 101 501 told c 1 tr mt mr me ma' [] with left := 0 } = sV 2 501 (501 + L.length) (501 + L.length) L 1000 101 501 W48.length (backV c) (backV c).t (tr + 1) mt false 0 0 [⟨10, 9, 501, 101, 24, W48.length, 0, ⟨L.toArray⟩⟩] := by
      unfold ranOutV
      rw [if_neg (by show (2 : Int) ≠ 1; decide), if_neg (by rintro ⟨a, _⟩; have a : (501 : Int) + L.length = 501 := a; omega)]
      have e1 : again1 { sV 2 501 (501 + L.length) (501 + L.length) L 1000 101 501 told c 1 tr mt mr me ma' [] with left := 0 } = triesV { sV 2 501 (501 + L.length) (501 + L.length) L 1000 101 501 told c 1 tr mt mr me ma' [] with left := 0 } := if_neg (by show ¬ (1000 : Int) = 0; decide)
      unfold againV
      rw [e1, if_neg (by show ¬ mt < IntKind.i64.wrap (tr + 1); omega), if_neg (by show ¬ (1000 : Int) = 0; decide)]
      show again3 (again2 { sV 2 501 (501 + L.length) (501 + L.length) L 1000 101 501 told c 0 tr mt mr me ma' [] with tries := IntKind.i64.wrap (tr + 1) }) 1000 = _
      rw [hw]
      show again3 (sV 2 501 501 (501 + L.length) L 1000 101 501 told (backV c) (backV c).t (tr + 1) mt false 0 0 []) 1000 = _
      unfold again3 sendDataV
      rw [hd, if_neg hn, if_neg hn]
      show moveOn3 (moveOn2 (sV 2 501 ((501 + L.length) % 4294967296) (501 + L.length) L 1000 101 501 W48.length (backV c) (backV c).t (tr + 1) mt false 0 0 [⟨10, 9, 501, 101, 24, W48.length, 0, ⟨L.toArray⟩⟩])) = _
      rw [show (501 + (L.length : Int)) % 4294967296 = 501 + L.length by omega]
      have hl : lessN (501 + (L.length : Int)) (501 + L.length) = false := by unfold lessN; rw [ahN_self]; rfl
      have h5 : moveOn2 (sV 2 501 (501 + L.length) (501 + L.length) L 1000 101 501 W48.length (backV c) (backV c).t (tr + 1) mt false 0 0 [⟨10, 9, 501, 101, 24, W48.length, 0, ⟨L.toArray⟩⟩]) = sV 2 501 (501 + L.length) (501 + L.length) L 1000 101 501 W48.length (backV c) (backV c).t (tr + 1) mt false 0 0 [⟨10, 9, 501, 101, 24, W48.length, 0, ⟨L.toArray⟩⟩] := by
        unfold moveOn2
        exact if_neg (by show ¬ lessN (501 + (L.length : Int)) (501 + L.length) = true; rw [hl]; decide)
      rw [h5]
      unfold moveOn3
      exact if_neg (by show ¬ (backV c).t = 0; have := back_pos hc; omega)
    rw [hr]
    exact ⟨_, rfl, by show (24 : Int) / 4 % 2 ≠ 1; decide, ⟨W48.length, false, 0, 0, rfl⟩, by show (2 : Int) ≠ 9; decide⟩
  · rintro v c tr ⟨told, mr, me, ma, rfl⟩ hm h0 h3 _
    obtain ⟨ma', e⟩ := tick1_s 2 501 (501 + L.length) (501 + L.length) L 1000 101 501 told c 1 tr mt mr me ma []
    rw [tick_r (by show (2 : Int) ≠ 9; decide) (by show (2 : Int) ≠ 6; decide) rfl, e]
    have hw : IntKind.i64.wrap (tr + 1) = tr + 1 := wrap_in (by omega) (by omega)
    have hr : ranOutV { sV 2 501 (501 + L.length) (501 + L.length) L 1000 101 501 told c 1 tr mt mr me ma' [] with left := 0 } = giveUpV (rstV (triesV { sV 2 501 (501 + L.length) (501 + L.length) L 1000 101 501 told c 1 tr mt mr me ma' [] with left := 0 })) := by
      unfold ranOutV
      rw [if_neg (by show (2 : Int) ≠ 1; decide), if_neg (by rintro ⟨a, _⟩; have a : (501 : Int) + L.length = 501 := a; omega)]
      have e1 : again1 { sV 2 501 (501 + L.length) (501 + L.length) L 1000 101 501 told c 1 tr mt mr me ma' [] with left := 0 } = triesV { sV 2 501 (501 + L.length) (501 + L.length) L 1000 101 501 told c 1 tr mt mr me ma' [] with left := 0 } := if_neg (by show ¬ (1000 : Int) = 0; decide)
      unfold againV
      rw [e1, if_pos (by show mt < IntKind.i64.wrap (tr + 1); omega)]
    rw [hr]
    exact ⟨rfl, rfl, .inr ⟨_, rfl, by show (20 : Int) / 4 % 2 = 1; decide⟩⟩
end Go.Proofs.Ytlajalfalepbhaa
