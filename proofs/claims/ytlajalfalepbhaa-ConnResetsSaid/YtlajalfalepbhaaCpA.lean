/-
  Layer 15: acts that come in; the contracts of Great and ticks. No conditions.
-/
import Derived.Test.YtlajalfalepbhaaCoF
import Derived.ProofKit
import Derived.Deep.Slices
import Derived.Deep.Fields
import Derived.ChangeSame
import Derived.BigQuiet
namespace Go.Proofs.Ytlajalfalepbhaa
open Go.RowKit
set_option linter.unusedVariables false

/-- What a part keeps. -/
structure Sk (v v' : Cn) : Prop where
  nx : v'.nx = v.nx
  W : v'.W = v.W
  rs : v'.rs = v.rs
theorem Sk.refl (v : Cn) : Sk v v := ⟨rfl, rfl, rfl⟩
theorem Sk.trans {a b c : Cn} (h : Sk a b) (k : Sk b c) : Sk a c := ⟨k.nx.trans h.nx, k.W.trans h.W, k.rs.trans h.rs⟩
theorem Goes.sk {v v' : Cn} (h : Goes v v') : Sk v v' := ⟨h.nx, h.W, h.rs⟩
def Rk (v : Cn) : Prop := v.rs = true → v.st = 9
/-- What a call keeps. -/
structure St (v v' : Cn) : Prop where
  rk : Rk v → Rk v'
  nx : v'.nx = v.nx ∨ ∃ d : Nat, d ≤ v.W.length ∧ v'.nx = (v.nx + d) % 4294967296
  ln : v.L.length ≤ 2048 → v'.sent.length ≤ v.sent.length + 2060
theorem St.refl (v : Cn) : St v v := ⟨fun h => h, .inl rfl, fun _ => Nat.le_add_right _ _⟩
theorem send_n (v : Cn) (s : Sg) (fl : Int) : (sendV v s fl).sent.length = v.sent.length + 1 := by
  show (v.sent ++ [_]).length = _
  rw [List.length_append]
  rfl
theorem st_ack (v : Cn) : St v (ackV v) := ⟨fun h => h, .inl rfl, fun _ => by unfold ackV; rw [send_n]; omega⟩
theorem st_refuse (v : Cn) (s : Sg) : St v (refuseV v s) := ⟨fun h => h, .inl rfl, fun _ => by
  show (v.sent ++ [_]).length ≤ _
  rw [List.length_append]
  show v.sent.length + 1 ≤ _
  omega⟩
theorem rs_no {v : Cn} (h : Rk v) (h9 : v.st ≠ 9) : v.rs = false := by
  cases e : v.rs
  · rfl
  · exact absurd (h e) h9
/-- A segment that counts. -/
theorem sk_take1 (v : Cn) (s : Sg) : Sk v (take1 v s) := by unfold take1 openV; split <;> exact ⟨rfl, rfl, rfl⟩
theorem sk_una (v : Cn) (a : Int) : Sk v (unaV v a) := by
  have h1 : Sk v (una1 v a) := ⟨rfl, rfl, rfl⟩
  have h2 : ∀ v, Sk v (una2 v) := fun v => by unfold una2; split <;> exact ⟨rfl, rfl, rfl⟩
  have h3 : ∀ v, Sk v (una3 v) := fun v => by unfold una3; split <;> exact ⟨rfl, rfl, rfl⟩
  have h4 : ∀ v, Sk v (una4 v) := fun v => ⟨rfl, rfl, rfl⟩
  exact h1.trans ((h2 _).trans ((h3 _).trans (h4 _)))
theorem sk_take2 (v : Cn) (s : Sg) : Sk v (take2 v s) := by
  unfold take2
  split
  · exact sk_una _ _
  · exact Sk.refl _
theorem sk_take3 (v : Cn) (s : Sg) : Sk v (take3 v s) := by unfold take3 winTo; split <;> exact ⟨rfl, rfl, rfl⟩
theorem sk_take4 (v : Cn) : Sk v (take4 v) := by
  unfold take4 finAcked lingerV
  split
  · split
    · exact ⟨rfl, rfl, rfl⟩
    · split
      · exact ⟨rfl, rfl, rfl⟩
      · split <;> exact ⟨rfl, rfl, rfl⟩
  · exact Sk.refl _
theorem sk_finHere (v : Cn) : Sk v (finHere v) := by
  unfold finHere lingerV
  split
  · exact ⟨rfl, rfl, rfl⟩
  · split
    · exact ⟨rfl, rfl, rfl⟩
    · split <;> exact ⟨rfl, rfl, rfl⟩
theorem sk_finTo (v : Cn) (s : Sg) : Sk v (finTo v s) := by
  have h1 : Sk v (finTo1 v s) := by
    unfold finTo1
    split
    · exact sk_finHere _
    · exact Sk.refl _
  have h2 : ∀ v, Sk v (finTo2 v) := fun v => by unfold finTo2; split <;> exact ⟨rfl, rfl, rfl⟩
  unfold finTo
  split
  · exact h1.trans (h2 _)
  · exact Sk.refl _
theorem nx_data (v : Cn) (s : Sg) : ((dataTo v s).nx = v.nx ∨ ∃ d : Nat, d ≤ v.W.length ∧ (dataTo v s).nx = (v.nx + d) % 4294967296) ∧ (dataTo v s).rs = v.rs := by
  unfold dataTo
  split
  · refine ⟨.inr ⟨runW (putV v s), ?_, rfl⟩, rfl⟩
    have h := runW_le (putV v s)
    unfold putV at h ⊢
    rw [holdW_len] at h
    exact h
  · exact ⟨.inl rfl, rfl⟩
theorem st_take {v : Cn} (s : Sg) (h9 : v.st ≠ 9) : St v (takeV v s) := by
  have k4 : Sk v (take4 (take3 (take2 (take1 v s) s) s)) := (sk_take1 v s).trans ((sk_take2 _ s).trans ((sk_take3 _ s).trans (sk_take4 _)))
  obtain ⟨d1, d2⟩ := nx_data (take4 (take3 (take2 (take1 v s) s) s)) s
  rw [k4.nx, k4.W] at d1
  rw [k4.rs] at d2
  have k5 := sk_finTo (dataTo (take4 (take3 (take2 (take1 v s) s) s)) s) s
  have k6 := (goes_flush (take5 v s)).sk
  have e6 : Sk (flushV (take5 v s)) (takeV v s) := by
    unfold takeV take6
    split
    · exact ⟨rfl, rfl, rfl⟩
    · exact Sk.refl _
  have e5 : (take5 v s).nx = (dataTo (take4 (take3 (take2 (take1 v s) s) s)) s).nx := k5.nx
  have r5 : (take5 v s).rs = v.rs := k5.rs.trans d2
  refine ⟨fun h => ?_, ?_, fun hl => ?_⟩
  · have e : (takeV v s).rs = false := by rw [e6.rs, k6.rs, r5]; exact rs_no h h9
    intro h2
    rw [e] at h2
    cases h2
  · rw [e6.nx, k6.nx, e5]
    exact d1
  · obtain ⟨a, b⟩ := take5_sent v s
    have c := flush_len (take5 v s)
    rw [a] at c
    have d : (takeV v s).sent.length ≤ (flushV (take5 v s)).sent.length + 1 := by
      unfold takeV take6
      split
      · unfold ackV
        rw [send_n]
        exact Nat.le_refl _
      · omega
    omega
theorem st_in (v : Cn) (s : Sg) : St v (inV v s) := by
  unfold inV
  split
  · exact St.refl _
  · rename_i h9
    split
    · split
      · exact St.refl _
      · exact st_ack _
    · split
      · unfold takeRstV
        split
        · exact ⟨fun _ _ => rfl, .inl rfl, fun _ => Nat.le_add_right _ _⟩
        · exact st_ack _
      · split
        · exact st_ack _
        · split
          · exact St.refl _
          · split
            · exact st_refuse _ _
            · split
              · exact st_ack _
              · exact st_take s h9
/-- A tick. -/
structure Tk (v v' : Cn) : Prop where
  nx : v'.nx = v.nx
  rk : Rk v → Rk v'
  ln : v'.sent.length ≤ v.sent.length + 1
theorem tk_same {v v' : Cn} (h1 : v'.nx = v.nx) (h2 : v'.rs = v.rs) (h3 : v'.st = v.st) (h4 : v'.sent.length ≤ v.sent.length + 1) : Tk v v' := ⟨h1, fun h e => by rw [h3]; exact h (h2 ▸ e), h4⟩
theorem data_n (v : Cn) (n : Int) : (sendDataV v n).sent.length ≤ v.sent.length + 1 := by
  unfold sendDataV
  split
  · omega
  · rw [on_sent, send_n]
    exact Nat.le_refl _
theorem tk_ran (v : Cn) : Tk v (ranOutV v) := by
  unfold ranOutV
  split
  · unfold againSynV
    split
    · exact ⟨rfl, fun _ _ => rfl, Nat.le_add_right _ _⟩
    · have e : (longerV (noMeas (triesV v))).nx = v.nx ∧ (longerV (noMeas (triesV v))).rs = v.rs ∧ (longerV (noMeas (triesV v))).st = v.st ∧ (longerV (noMeas (triesV v))).sent = v.sent := ⟨rfl, rfl, rfl, rfl⟩
      generalize longerV (noMeas (triesV v)) = x at e
      exact tk_same (show (synV x).nx = v.nx from e.1) (show (synV x).rs = v.rs from e.2.1) (show (synV x).st = v.st from e.2.2.1) (by unfold synV; rw [send_n, e.2.2.2]; exact Nat.le_refl _)
  · split
    · have e : (longerV v).nx = v.nx ∧ (longerV v).rs = v.rs ∧ (longerV v).st = v.st ∧ (longerV v).sent = v.sent := ⟨rfl, rfl, rfl, rfl⟩
      generalize longerV v = x at e
      exact tk_same (show (probeV x).nx = v.nx from e.1) (show (probeV x).rs = v.rs from e.2.1) (show (probeV x).st = v.st from e.2.2.1) (by unfold probeV; rw [send_n, e.2.2.2]; exact Nat.le_refl _)
    · have a1 : (again1 v).nx = v.nx ∧ (again1 v).rs = v.rs ∧ (again1 v).st = v.st ∧ (again1 v).sent = v.sent := by unfold again1 triesV; split <;> exact ⟨rfl, rfl, rfl, rfl⟩
      unfold againV
      split
      · refine ⟨a1.1, fun _ _ => rfl, ?_⟩
        show (rstV (again1 v)).sent.length ≤ _
        unfold rstV
        rw [send_n, a1.2.2.2]
        exact Nat.le_refl _
      · generalize (if v.win = 0 then (1 : Int) else v.win) = n
        unfold again3
        split
        · have g := goes_fin (again2 (again1 v))
          have l := fin_len (again2 (again1 v))
          exact tk_same (g.nx.trans a1.1) (g.rs.trans a1.2.1) (g.st.trans a1.2.2.1) (by
            have e : (again2 (again1 v)).sent = v.sent := a1.2.2.2
            rw [e] at l
            exact l)
        · have g := goes_data (again2 (again1 v)) n
          have l := data_n (again2 (again1 v)) n
          exact tk_same (g.nx.trans a1.1) (g.rs.trans a1.2.1) (g.st.trans a1.2.2.1) (by
            have e : (again2 (again1 v)).sent = v.sent := a1.2.2.2
            rw [e] at l
            exact l)
theorem tk_two (v : Cn) : Tk v (tick2 v) := by
  unfold tick2
  split
  · exact tk_same rfl rfl rfl (Nat.le_add_right _ _)
  · split
    · have h := tk_ran { v with left := 0 }
      exact ⟨h.nx, fun k => h.rk k, h.ln⟩
    · exact tk_same rfl rfl rfl (Nat.le_add_right _ _)
theorem tk_tick (v : Cn) : Tk v (tickV v) := by
  unfold tickV
  split
  · exact tk_same rfl rfl rfl (Nat.le_add_right _ _)
  · have e1 : (tick1 v).nx = v.nx ∧ (tick1 v).rs = v.rs ∧ (tick1 v).st = v.st ∧ (tick1 v).sent = v.sent := by unfold tick1; split <;> exact ⟨rfl, rfl, rfl, rfl⟩
    have h3 : Tk (tick1 v) (tick3 (tick1 v)) := by
      unfold tick3
      split
      · split
        · exact ⟨rfl, fun _ _ => rfl, Nat.le_add_right _ _⟩
        · have h := tk_two { tick1 v with lg := IntKind.i64.wrap ((tick1 v).lg - 1) }
          exact ⟨h.nx, fun k => h.rk k, h.ln⟩
      · exact tk_two _
    exact ⟨h3.nx.trans e1.1, fun k => h3.rk (fun e => by rw [e1.2.2.1]; exact k (e1.2.1 ▸ e)), by have := h3.ln; rw [e1.2.2.2] at this; exact this⟩
theorem Tk.st {v v' : Cn} (h : Tk v v') : St v v' := ⟨h.rk, .inl h.nx, fun _ => by have := h.ln; omega⟩
/-- The user's calls. -/
theorem st_write (v : Cn) (D : ByteArray) : St v (writeV v D) := by
  unfold writeV
  split
  · have g := goes_flush { v with L := v.L ++ D.data.toList.take (min D.size (2048 - v.L.length)) }
    have l := flush_len { v with L := v.L ++ D.data.toList.take (min D.size (2048 - v.L.length)) }
    refine ⟨fun h e => ?_, .inl g.nx, fun hl => ?_⟩
    · rw [g.st]
      exact h (g.rs ▸ e)
    · have e : (v.L ++ D.data.toList.take (min D.size (2048 - v.L.length))).length ≤ 2048 := by
        rw [List.length_append, List.length_take]
        omega
      have l : (flushV { v with L := v.L ++ D.data.toList.take (min D.size (2048 - v.L.length)) }).sent.length ≤ v.sent.length + ((v.L ++ D.data.toList.take (min D.size (2048 - v.L.length))).length + 2) := l
      omega
  · exact St.refl _
theorem st_read (v : Cn) (n : Int) : St v (readV v n) := by
  unfold readV readV2
  split
  · exact ⟨fun h => h, .inl rfl, fun _ => by unfold ackV; rw [send_n]; show v.sent.length + 1 ≤ _; omega⟩
  · exact ⟨fun h => h, .inl rfl, fun _ => Nat.le_add_right _ _⟩
theorem st_close (v : Cn) : St v (closeV v) := by
  unfold closeV
  split
  · rename_i ht
    have g := goes_flush (close1 v)
    have l := flush_len (close1 v)
    refine ⟨fun h e => ?_, .inl g.nx, fun hl => ?_⟩
    · have e2 : v.rs = true := (show (close1 v).rs = v.rs from rfl) ▸ (g.rs ▸ e)
      have h9 := h e2
      unfold takesV at ht
      rw [h9] at ht
      exact absurd ht (by
        cases v.cl <;> decide)
    · have l : (flushV (close1 v)).sent.length ≤ v.sent.length + (v.L.length + 2) := l
      omega
  · exact St.refl _
/-- How far it may be: B: how far what is wanted has gone; M: how much was sent. -/
structure Fa (B : Int) (M : Nat) (v : Cn) : Prop where
  rk : Rk v
  n0 : 101 ≤ v.nx
  n1 : v.nx ≤ B
  ln : v.sent.length ≤ M
theorem Fa.step {B : Int} {M : Nat} {v v' : Cn} (h : Fa B M v) (k : St v v') (hL : v.L.length ≤ 2048) (hW : v.W.length ≤ 2048) (hB : B ≤ 1000000) : Fa (B + 2048) (M + 2060) v' := by
  have a := h.n0
  have b := h.n1
  have c := h.ln
  have l := k.ln hL
  rcases k.nx with e | ⟨d, hd, e⟩
  · exact ⟨k.rk h.rk, by omega, by omega, by omega⟩
  · exact ⟨k.rk h.rk, by omega, by omega, by omega⟩
theorem Fa.tick {B : Int} {M : Nat} {v : Cn} (h : Fa B M v) : Fa B (M + 1) (tickV v) := by
  have t := tk_tick v
  have := h.ln
  have := t.ln
  exact ⟨t.rk h.rk, by rw [t.nx]; exact h.n0, by rw [t.nx]; exact h.n1, by omega⟩
theorem Fa.mono {B B' : Int} {M M' : Nat} {v : Cn} (h : Fa B M v) (hb : B ≤ B') (hm : M ≤ M') : Fa B' M' v := ⟨h.rk, h.n0, by have := h.n1; omega, by have := h.ln; omega⟩
/-- What is asked behind the acts. -/
def far1 : Sg := ⟨0, 0, 2147483648, 0, 0, 0, 0, ⟨#[]⟩⟩
def rstS (x : Int) : Sg := ⟨0, 0, x, 0, 4, 0, 0, ⟨#[]⟩⟩
theorem want_in {B : Int} {M : Nat} {v : Cn} (h : Fa B M v) (hB : B ≤ 1000000) : 101 ≤ wantV v ∧ wantV v ≤ 1000001 := by
  have := h.n0
  have := h.n1
  unfold wantV
  split <;> omega
theorem far_in {B : Int} {M : Nat} {v : Cn} (h : Fa B M v) (hB : B ≤ 1000000) (hW : v.W.length ≤ 2048) (h9 : v.st ≠ 9) : inV v far1 = ackV v := by
  have hw := want_in h hB
  have hc : countsV v far1 = false := by
    unfold countsV mayN
    rw [if_neg (by show ¬ (0 : Int) < 0; decide), if_pos (by have := winV_pos v; omega)]
    unfold inN ahN winV
    refine decide_eq_false ?_
    show ¬ (2147483648 - wantV v) % 4294967296 < _
    split <;> omega
  unfold inV
  rw [if_neg h9, if_pos hc, if_neg (by show ¬ hasF 0 2 = true; decide)]
theorem counts_rst {v : Cn} (hw : 0 ≤ wantV v ∧ wantV v < 4294967296) {d : Int} (hd : 0 ≤ d ∧ d < 4294967296) : countsV v (rstS ((wantV v + d) % 4294967296)) = decide (d < winV v) := by
  unfold countsV mayN
  rw [if_neg (by show ¬ (0 : Int) < 0; decide), if_pos (by have := winV_pos v; omega)]
  unfold inN ahN
  show decide (((wantV v + d) % 4294967296 - wantV v) % 4294967296 < winV v) = _
  rw [show ((wantV v + d) % 4294967296 - wantV v) % 4294967296 = d by omega]
theorem rst_far {v : Cn} (hw : 0 ≤ wantV v ∧ wantV v < 4294967296) {d : Int} (h0 : 0 < d) (h1 : d < 4294967296) (h9 : v.st ≠ 9) : inV v (rstS ((wantV v + d) % 4294967296)) = if d < winV v then ackV v else v := by
  have hc := counts_rst hw (d := d) ⟨by omega, h1⟩
  unfold inV
  rw [if_neg h9, hc]
  by_cases h : d < winV v
  · rw [if_pos h, decide_eq_true h, if_neg (by decide), if_pos (by show hasF 4 2 = true; decide)]
    unfold takeRstV
    rw [if_neg (by show ¬ (wantV v + d) % 4294967296 = wantV v; omega)]
  · rw [if_neg h, decide_eq_false h, if_pos rfl, if_pos (by show hasF 4 2 = true; decide)]
theorem rst_here {v : Cn} (hw : 0 ≤ wantV v ∧ wantV v < 4294967296) (h9 : v.st ≠ 9) : inV v (rstS (wantV v)) = { v with st := 9, rs := true } := by
  have hc := counts_rst hw (d := 0) ⟨by omega, by omega⟩
  rw [show (wantV v + 0) % 4294967296 = wantV v by omega, decide_eq_true (by have := winV_pos v; omega)] at hc
  unfold inV
  rw [if_neg h9, hc, if_neg (by decide), if_pos (by show hasF 4 2 = true; decide)]
  exact if_pos rfl
end Go.Proofs.Ytlajalfalepbhaa

namespace Go.Proofs.Ytlajalfalepbhaa
open Go.RowKit Go.ChangeShapes Go.WideShapes Go.Deep
set_option linter.unusedVariables false

/-- An act: what is done, a segment, whether it is near, a number, data. -/
structure Act15 where
  d : Int
  s : Sg
  k : Bool
  n : Int
  t : ByteArray
def act15C (d : Int) (s : Sg) (k : Bool) (n : Int) (t : ByteArray) : Array Value := #[.int .i64 d, .int .i64 s.fr, .int .i64 s.dt, .int .u32 s.sq, .int .u32 s.ak, .int .i64 s.fl, .int .i64 s.wi, .int .i64 s.ms, .string s.da, .bool k, .int .i64 n, .string t]
def Act15.cells (c : Act15) : List Value := (act15C c.d c.s c.k c.n c.t).toList
def Act15.fits (c : Act15) : Prop := (Lit.int .i64 c.d).wf = true ∧ c.s.ok ∧ (Lit.int .i64 c.n).wf = true ∧ c.t.size ≤ maxLen
def IsActs15 (w : World) (p : Option Addr) (len : Nat) (l : List Act15) : Prop :=
  l.length = len ∧ len ≤ maxLen ∧ (∀ c ∈ l, c.fits) ∧ (0 < len → ∃ b o, p = some ⟨b, o, none⟩ ∧ ∀ (i : Nat) (h : i < l.length), w.rangeAt b (o + i * 12) l[i].cells)
theorem IsActs15.below {w w' : World} {p : Option Addr} {len : Nat} {l : List Act15} (h : IsActs15 w p len l) (t : Below w.heap.size w w') : IsActs15 w' p len l := by
  obtain ⟨h1, h2, h3, h4⟩ := h
  refine ⟨h1, h2, h3, fun hp => ?_⟩
  obtain ⟨b, o, e, hc⟩ := h4 hp
  refine ⟨b, o, e, fun i hi j u hu => ?_⟩
  have hb : b < w.heap.size := World.block_lt_of_cell? w _ (hc i hi 0 _ rfl)
  exact (t.cell (p := ⟨b, o + i * 12 + j, none⟩) hb).trans (hc i hi j u hu)
theorem IsActs15.at_ {w : World} {p : Option Addr} {len : Nat} {l : List Act15} (h : IsActs15 w p len l) (i : Nat) (hi : i < len) :
    ∃ b o c, p = some ⟨b, o, none⟩ ∧ l[i]? = some c ∧ b < w.heap.size ∧ c.fits ∧ w.rangeAt b (o + i * 12) c.cells := by
  obtain ⟨h1, h2, h3, h4⟩ := h
  obtain ⟨b, o, e, hc⟩ := h4 (by omega)
  have hi' : i < l.length := by omega
  exact ⟨b, o, l[i], e, List.getElem?_eq_getElem hi', World.block_lt_of_cell? w _ (hc i hi' 0 _ rfl), h3 _ (List.getElem_mem _), hc i hi'⟩
theorem add_plain15 (b o i : Nat) : (⟨b, o, none⟩ : Addr).add i = ⟨b, o + i, none⟩ := by
  unfold Addr.add
  by_cases hi : i = 0 <;> simp [hi]
theorem cells_act15 : Try.prog.cellsOf 64 = 12 := by kernel_rfl
set_option maxRecDepth 100000 in
theorem open_act15 {H : Type} {enc : TypeId × Value → H} {w : World} {a : Addr} {fuel : Nat} {cs : List Value} {x : DataW H × List MemPlace}
    (hc : w.cells? 0 a (Try.prog.cellsOf 64) = some cs) (ht : DataW.trod enc Try.prog w 0 (fun _ => true) true fuel 64 cs = some x) :
    ∃ c : Act15, c.fits ∧ a.spot = none ∧ w.rangeAt a.block a.off c.cells := by
  obtain ⟨xs, n, _, _, hl, hlen, hg⟩ := DataW.trod_struct Try.underlying64 ht
  have hx : ∀ i, i < 5 → ∃ y, xs[i]? = some y := fun i hi => ⟨xs[i]'(by rw [hlen]; exact hi), List.getElem?_eq_getElem _⟩
  obtain ⟨y0, e0⟩ := hx 0 (by decide)
  obtain ⟨y1, e1⟩ := hx 1 (by decide)
  obtain ⟨y2, e2⟩ := hx 2 (by decide)
  obtain ⟨y3, e3⟩ := hx 3 (by decide)
  obtain ⟨y4, e4⟩ := hx 4 (by decide)
  have g0 : DataW.trod enc Try.prog w 0 (fun _ => true) true n 3 ((cs.drop 0).take (Try.prog.cellsOf 3)) = some y0 := (hg 0 _ rfl).trans e0
  have g1 : DataW.trod enc Try.prog w 0 (fun _ => true) true n 28 ((cs.drop 1).take (Try.prog.cellsOf 28)) = some y1 := (hg 1 _ rfl).trans e1
  have g2 : DataW.trod enc Try.prog w 0 (fun _ => true) true n 4 ((cs.drop 9).take (Try.prog.cellsOf 4)) = some y2 := (hg 2 _ rfl).trans e2
  have g3 : DataW.trod enc Try.prog w 0 (fun _ => true) true n 3 ((cs.drop 10).take (Try.prog.cellsOf 3)) = some y3 := (hg 3 _ rfl).trans e3
  have g4 : DataW.trod enc Try.prog w 0 (fun _ => true) true n 9 ((cs.drop 11).take (Try.prog.cellsOf 9)) = some y4 := (hg 4 _ rfl).trans e4
  rw [show Try.prog.cellsOf 3 = 1 by kernel_rfl] at g0 g3
  rw [cells_sg] at g1
  rw [show Try.prog.cellsOf 4 = 1 by kernel_rfl] at g2
  rw [show Try.prog.cellsOf 9 = 1 by kernel_rfl] at g4
  obtain ⟨hcl, _, hcell⟩ := World.cells?_some hc
  rw [cells_act15] at hcell
  have hsz : cs.length = 12 := by
    have := cells_act15
    omega
  match cs, hsz with
  | [c0, c1, c2, c3, c4, c5, c6, c7, c8, c9, c10, c11], _ =>
    obtain ⟨z0, h0, _, w0⟩ := DataW.trod_int (cs := [c0]) Try.underlying3 g0
    obtain ⟨f, h1, w1⟩ := seg_in (cs := [c1, c2, c3, c4, c5, c6, c7, c8]) rfl g1
    obtain ⟨z2, h2, _⟩ := DataW.trod_bool (cs := [c9]) Try.underlying4 g2
    obtain ⟨z3, h3, _, w3⟩ := DataW.trod_int (cs := [c10]) Try.underlying3 g3
    obtain ⟨z4, h4, _, w4⟩ := DataW.trod_string (cs := [c11]) Try.underlying9 g4
    have h1 : [c1, c2, c3, c4, c5, c6, c7, c8] = [.int .i64 f.fr, .int .i64 f.dt, .int .u32 f.sq, .int .u32 f.ak, .int .i64 f.fl, .int .i64 f.wi, .int .i64 f.ms, .string f.da] := h1
    simp only [List.cons.injEq, and_true] at h0 h1 h2 h3 h4
    obtain ⟨i1, i2, i3, i4, i5, i6, i7, i8⟩ := h1
    subst h0 i1 i2 i3 i4 i5 i6 i7 i8 h2 h3 h4
    obtain ⟨b, o, sp⟩ := a
    have c0 := hcell 0 (by decide)
    have hs : sp = none := by simpa [Addr.add] using World.cell?_spot c0
    subst hs
    refine ⟨⟨z0, f, z2, z3, z4⟩, ⟨w0, w1, w3, w4⟩, rfl, fun j u hu => ?_⟩
    have hj : j < 12 := (List.getElem?_eq_some_iff.1 hu).1
    have := hcell j hj
    rw [add_plain15] at this
    rw [this]
    exact hu
theorem open_acts15 {H : Type} {enc : TypeId × Value → H} {w : World} {p : Option Addr} {len cap fuel : Nat} {x : DataW H × List MemPlace}
    (h : DataW.trod enc Try.prog w 0 (fun _ => true) true fuel 61 (Value.slice p len cap).cells.toList = some x) : ∃ l, IsActs15 w p len l := by
  rcases open_slice Try.underlying61 h with ⟨hcs, _⟩ | ⟨a, len', cap', m, n, D, Pl, hcs, _, hl, hm, hmm, _, hi⟩
  · simp [Value.cells] at hcs
    obtain ⟨rfl, rfl, rfl⟩ := hcs
    exact ⟨[], rfl, Nat.zero_le _, by simp, fun h => absurd h (by omega)⟩
  · simp [Value.cells] at hcs
    obtain ⟨rfl, rfl, rfl⟩ := hcs
    have hm' : m = cap := by simpa using hmm
    have hi' : ∀ i, i < len → ∃ c : Act15, c.fits ∧ (a.add (i * 12)).spot = none ∧ w.rangeAt (a.add (i * 12)).block (a.add (i * 12)).off c.cells := by
      intro i hlt
      obtain ⟨cs', hc, ht⟩ := hi i (by omega)
      have h5 : i * Try.prog.cellsOf 64 = i * 12 := by rw [cells_act15]
      rw [h5] at hc
      exact open_act15 hc ht
    have hch := fun i : Fin len => hi' i.1 i.2
    obtain ⟨f, hf⟩ := Classical.axiomOfChoice hch
    refine ⟨List.ofFn f, by simp, by omega, ?_, ?_⟩
    · intro c hc
      obtain ⟨i, rfl⟩ := (List.mem_ofFn).1 hc
      exact (hf i).1
    · intro hpos
      obtain ⟨b, o, sp⟩ := a
      have h0 := (hf ⟨0, hpos⟩).2.1
      have hs : sp = none := by simpa [Addr.add] using h0
      subst hs
      refine ⟨b, o, rfl, fun i hlt => ?_⟩
      have hlt' : i < len := by simpa using hlt
      have h1 := (hf ⟨i, hlt'⟩).2.2
      rw [add_plain15] at h1
      simpa using h1
/-- How much they bring; what Great answers. -/
def sum15 : List Act15 → Nat
  | [] => 0
  | c :: l => min c.s.da.size 30001 + min c.t.size 30001 + sum15 l
theorem sum15_add : ∀ (a b : List Act15), sum15 (a ++ b) = sum15 a + sum15 b
  | [], b => by show sum15 b = 0 + sum15 b; omega
  | c :: a, b => by
    show min c.s.da.size 30001 + min c.t.size 30001 + sum15 (a ++ b) = min c.s.da.size 30001 + min c.t.size 30001 + sum15 a + sum15 b
    rw [sum15_add a b]
    omega
theorem sum15_take {l : List Act15} {k : Nat} {c : Act15} (h : l[k]? = some c) : sum15 (l.take (k + 1)) = sum15 (l.take k) + (min c.s.da.size 30001 + min c.t.size 30001) := by
  rw [List.take_add_one, h, sum15_add]
  rfl
theorem sum15_le : ∀ (l : List Act15) (k : Nat), sum15 (l.take k) ≤ k * 60002
  | [], k => by rw [List.take_nil]; exact Nat.zero_le _
  | c :: l, 0 => Nat.zero_le _
  | c :: l, k + 1 => by
    show min c.s.da.size 30001 + min c.t.size 30001 + sum15 (l.take k) ≤ _
    have := sum15_le l k
    omega
theorem sum15_one : ∀ {l : List Act15} {c : Act15}, c ∈ l → min c.s.da.size 30001 + min c.t.size 30001 ≤ sum15 l
  | d :: l, c, h => by
    show _ ≤ min d.s.da.size 30001 + min d.t.size 30001 + sum15 l
    rcases List.mem_cons.1 h with rfl | h
    · omega
    · have := sum15_one h
      omega
def great15 (l : List Act15) : Bool := decide (100 < l.length) || decide (30000 < sum15 l)
theorem great15_no {l : List Act15} (h : great15 l = false) : l.length ≤ 100 ∧ ∀ c ∈ l, c.s.da.size ≤ 30000 ∧ c.t.size ≤ 30000 := by
  unfold great15 at h
  simp only [Bool.or_eq_false_iff, decide_eq_false_iff_not] at h
  refine ⟨by omega, fun c hc => ?_⟩
  have := sum15_one hc
  omega
set_option maxHeartbeats 1000000 in
theorem Great15_any (w : World) (p : Option Addr) (len cap : Nat) (l : List Act15) (ha : IsActs15 w p len l) :
    Calls Try.prog 29 #[.slice p len cap] w fun e w' => e = .returned (.bool (great15 l)) ∧ Below w.heap.size w w' := by
  have hlen := ha.1
  have hmax := ha.2.1
  unfold maxLen at hmax
  have HA := Lib.hid ha
  have HL := Lib.hid hlen
  clear ha hlen
  go_enter Try.func29, Try.ntmps29
  go_wp2
  go_loopw [3, 4] (fun s i wr => ∃ k : Nat, k ≤ len ∧ k ≤ 101 ∧ i = .int .i64 k ∧ s = .int .i64 (sum15 (l.take k) : Nat) ∧ Hid (Below w.heap.size w wr)) (fun _ i _ => len - (intOf i).toNat)
  case atStart => exact ⟨0, Nat.zero_le _, by omega, rfl, by simp [sum15], Lib.hid (Below.refl _ _)⟩
  case round =>
    obtain ⟨k, hk, hk2, rfl, rfl, BW⟩ := hrel
    have hs := sum15_le l k
    by_cases hlt : k < len
    · have d1 : decide ((k : Int) < (len : Int)) = true := decide_eq_true (by omega)
      by_cases hlt2 : k ≤ 100
      · have d2 : decide ((k : Int) ≤ 100) = true := decide_eq_true (by omega)
        obtain ⟨b, o, c, rfl, hck, hb, hfit, hat⟩ := (HA.out.below BW.out).at_ k hlt
        have hc8 : wr.cell? ⟨b, o + k * 12 + 8, none⟩ = some (.string c.s.da) := hat 8 _ rfl
        have hc11 : wr.cell? ⟨b, o + k * 12 + 11, none⟩ = some (.string c.t) := hat 11 _ rfl
        have HT := Lib.hid (sum15_take hck)
        generalize sum15 (l.take k) = s at hs HT ⊢
        have q1 : (0 : Int) ≤ (k : Int) := by omega
        have q2 : (k : Int) < (len : Int) := by omega
        obtain ⟨m, hm⟩ : ∃ m : Nat, m = min c.s.da.size 30001 := ⟨_, rfl⟩
        obtain ⟨m2, hm2⟩ : ∃ m2 : Nat, m2 = min c.t.size 30001 := ⟨_, rfl⟩
        have e1 : min (c.s.da.size : Int) 30001 = (m : Int) := by omega
        have e12 : min (c.t.size : Int) 30001 = (m2 : Int) := by omega
        have e2 : IntKind.i64.wrap ((s : Int) + m) = (s : Int) + m := IntWalk.i64_in _ (by omega)
        have e22 : IntKind.i64.wrap ((s : Int) + m + m2) = (s : Int) + m + m2 := IntWalk.i64_in _ (by omega)
        have e3 : IntKind.i64.wrap ((k : Int) + 1) = (k : Int) + 1 := IntWalk.i64_in _ (by omega)
        have HM := Lib.hid hm
        have HM2 := Lib.hid hm2
        clear hat hfit hck hm hm2 hs hb
        go_upto_region 5 with fail
        go_quiet (fail)
        go_wp2_with fail
        go_roundw
        case rel => exact ⟨k + 1, by omega, by omega, by go_num, by rw [HT.out, ← HM.out, ← HM2.out, Int.natCast_add, Int.natCast_add, Int.add_assoc], Lib.hid (below_drewN BW.out _)⟩
        case measure => simp [intOf]; omega
      · have d2 : decide ((k : Int) ≤ 100) = false := decide_eq_false (by omega)
        have d3 : decide ((100 : Int) < (len : Int)) = true := decide_eq_true (by omega)
        have G : Hid (great15 l = true) := Lib.hid (by unfold great15; rw [HL.out, decide_eq_true (by omega)]; rfl)
        clear hs
        go_wp2_with fail
        go_ret
        exact ⟨by rw [G.out]; rfl, BW.out⟩
    · obtain rfl : k = len := by omega
      have d1 : decide ((k : Int) < (k : Int)) = false := by simp
      have HLL : Hid (l.take k = l) := Lib.hid (List.take_of_length_le (by rw [HL.out]; exact Nat.le_refl _))
      rw [HLL.out] at hs ⊢
      by_cases hbig : 100 < k
      · have d3 : decide ((100 : Int) < (k : Int)) = true := decide_eq_true (by omega)
        have G : Hid (great15 l = true) := Lib.hid (by unfold great15; rw [HL.out, decide_eq_true hbig]; rfl)
        clear hs
        go_wp2_with fail
        go_ret
        exact ⟨by rw [G.out]; rfl, BW.out⟩
      · have d3 : decide ((100 : Int) < (k : Int)) = false := decide_eq_false (by omega)
        have G : Hid (great15 l = decide (30000 < sum15 l)) := Lib.hid (by unfold great15; rw [HL.out, decide_eq_false hbig]; rfl)
        generalize sum15 l = s at hs G ⊢
        by_cases hs2 : 30000 < s
        · have d4 : decide ((30000 : Int) < (s : Int)) = true := decide_eq_true (by omega)
          have G2 : Hid (great15 l = true) := Lib.hid (by rw [G.out]; exact decide_eq_true hs2)
          clear hs hs2 G
          go_wp2_with fail
          go_ret
          exact ⟨by rw [G2.out]; rfl, BW.out⟩
        · have d4 : decide ((30000 : Int) < (s : Int)) = false := decide_eq_false (by omega)
          have G2 : Hid (great15 l = false) := Lib.hid (by rw [G.out]; exact decide_eq_false hs2)
          clear hs hs2 G
          go_wp2_with fail
          go_ret
          exact ⟨by rw [G2.out]; rfl, BW.out⟩
theorem ticks_any (w : World) (n : Int) :
    Calls Try.prog 30 #[.int .i64 n] w fun e w' => ∃ k : Nat, k ≤ 199 ∧ e = .returned (.int .i64 k) ∧ w' = w := by
  have r1 : -199 ≤ n.tmod 200 ∧ n.tmod 200 ≤ 199 := by
    have := Int.tmod_lt_of_pos n (b := 200) (by decide)
    have := Int.lt_tmod_of_pos n (b := 200) (by decide)
    omega
  have e1 : IntKind.i64.wrap (n.tmod 200) = n.tmod 200 := IntWalk.i64_in _ (by omega)
  by_cases h : n.tmod 200 < 0
  · have d1 : decide (n.tmod 200 < 0) = true := decide_eq_true h
    have e2 : wrap64 (-n.tmod 200) = -n.tmod 200 := by unfold wrap64; omega
    have R1 := Lib.hid (And.intro r1 h)
    clear r1 h
    go_enter Try.func30, Try.ntmps30
    go_wp2_with fail
    go_ret
    exact ⟨(-n.tmod 200).toNat, by have := R1.out; omega, by have := R1.out; show Ending.returned (.int .i64 (wrap64 (-n.tmod 200))) = _; rw [e2, Int.toNat_of_nonneg (by omega)], rfl⟩
  · have d1 : decide (n.tmod 200 < 0) = false := decide_eq_false h
    have R1 := Lib.hid (And.intro r1 h)
    clear r1 h
    go_enter Try.func30, Try.ntmps30
    go_wp2_with fail
    go_ret
    exact ⟨(n.tmod 200).toNat, by have := R1.out; omega, by have := R1.out; rw [Int.toNat_of_nonneg (by omega)]; rfl, rfl⟩
end Go.Proofs.Ytlajalfalepbhaa
