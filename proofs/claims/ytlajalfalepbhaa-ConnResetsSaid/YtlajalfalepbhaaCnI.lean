/-
  Layer 15: all goes for which there is room: flush. Conditions: as said.
-/
import Derived.Test.YtlajalfalepbhaaCnH
import Derived.Deep.CutBlock
import Derived.Deep.CutRange
namespace Go.Proofs.Ytlajalfalepbhaa
open Go.RowKit
set_option linter.unusedVariables false

/-- What stays as things go. -/
structure Goes (v v' : Cn) : Prop where
  fr : v'.fr = v.fr
  dt : v'.dt = v.dt
  st : v'.st = v.st
  rs : v'.rs = v.rs
  iss : v'.iss = v.iss
  una : v'.una = v.una
  u : v'.u = v.u
  L : v'.L = v.L
  cl : v'.cl = v.cl
  mss : v'.mss = v.mss
  win : v'.win = v.win
  tsq : v'.tsq = v.tsq
  tak : v'.tak = v.tak
  nx : v'.nx = v.nx
  R : v'.R = v.R
  W : v'.W = v.W
  eof : v'.eof = v.eof
  ck : v'.ck = v.ck
  tries : v'.tries = v.tries
  mt : v'.mt = v.mt
  lg : v'.lg = v.lg
  ml : v'.ml = v.ml
theorem Goes.refl (v : Cn) : Goes v v := ⟨rfl, rfl, rfl, rfl, rfl, rfl, rfl, rfl, rfl, rfl, rfl, rfl, rfl, rfl, rfl, rfl, rfl, rfl, rfl, rfl, rfl, rfl⟩
theorem Goes.trans {a b c : Cn} (h : Goes a b) (k : Goes b c) : Goes a c :=
  ⟨k.fr.trans h.fr, k.dt.trans h.dt, k.st.trans h.st, k.rs.trans h.rs, k.iss.trans h.iss, k.una.trans h.una, k.u.trans h.u, k.L.trans h.L, k.cl.trans h.cl, k.mss.trans h.mss, k.win.trans h.win, k.tsq.trans h.tsq, k.tak.trans h.tak, k.nx.trans h.nx, k.R.trans h.R, k.W.trans h.W, k.eof.trans h.eof, k.ck.trans h.ck, k.tries.trans h.tries, k.mt.trans h.mt, k.lg.trans h.lg, k.ml.trans h.ml⟩
theorem goes_send (v : Cn) (s : Sg) (fl : Int) : Goes v (sendV v s fl) := ⟨rfl, rfl, rfl, rfl, rfl, rfl, rfl, rfl, rfl, rfl, rfl, rfl, rfl, rfl, rfl, rfl, rfl, rfl, rfl, rfl, rfl, rfl⟩
theorem goes_on1 (v : Cn) (n : Int) : Goes v (moveOn1 v n) := ⟨rfl, rfl, rfl, rfl, rfl, rfl, rfl, rfl, rfl, rfl, rfl, rfl, rfl, rfl, rfl, rfl, rfl, rfl, rfl, rfl, rfl, rfl⟩
theorem goes_on2 (v : Cn) : Goes v (moveOn2 v) := by
  unfold moveOn2
  split
  · split <;> exact ⟨rfl, rfl, rfl, rfl, rfl, rfl, rfl, rfl, rfl, rfl, rfl, rfl, rfl, rfl, rfl, rfl, rfl, rfl, rfl, rfl, rfl, rfl⟩
  · exact Goes.refl _
theorem goes_on3 (v : Cn) : Goes v (moveOn3 v) := by
  unfold moveOn3
  split
  · exact ⟨rfl, rfl, rfl, rfl, rfl, rfl, rfl, rfl, rfl, rfl, rfl, rfl, rfl, rfl, rfl, rfl, rfl, rfl, rfl, rfl, rfl, rfl⟩
  · exact Goes.refl _
theorem goes_on (v : Cn) (n : Int) : Goes v (moveOnV v n) := (goes_on1 v n).trans ((goes_on2 _).trans (goes_on3 _))
theorem on3_nxt (v : Cn) : (moveOn3 v).nxt = v.nxt := by unfold moveOn3; split <;> rfl
theorem on2_nxt (v : Cn) : (moveOn2 v).nxt = v.nxt := by unfold moveOn2; split; (split <;> rfl); rfl
theorem on_nxt (v : Cn) (n : Int) : (moveOnV v n).nxt = (v.nxt + n) % 4294967296 := by unfold moveOnV; rw [on3_nxt, on2_nxt]; rfl
theorem on3_sent (v : Cn) : (moveOn3 v).sent = v.sent := by unfold moveOn3; split <;> rfl
theorem on2_sent (v : Cn) : (moveOn2 v).sent = v.sent := by unfold moveOn2; split; (split <;> rfl); rfl
theorem on_sent (v : Cn) (n : Int) : (moveOnV v n).sent = v.sent := by unfold moveOnV; rw [on3_sent, on2_sent]; rfl
theorem on3_told (v : Cn) : (moveOn3 v).told = v.told := by unfold moveOn3; split <;> rfl
theorem on2_told (v : Cn) : (moveOn2 v).told = v.told := by unfold moveOn2; split; (split <;> rfl); rfl
theorem on_told (v : Cn) (n : Int) : (moveOnV v n).told = v.told := by unfold moveOnV; rw [on3_told, on2_told]; rfl
theorem goes_data (v : Cn) (n : Int) : Goes v (sendDataV v n) := by
  unfold sendDataV
  split
  · exact Goes.refl _
  · exact (goes_send _ _ _).trans (goes_on _ _)
theorem goes_fin (v : Cn) : Goes v (sendFinV v) := by
  unfold sendFinV
  split
  · exact (goes_send _ _ _).trans (goes_on _ _)
  · exact Goes.refl _
theorem goes_flushL : ∀ (k : Nat) (v : Cn), Goes v (flushL k v)
  | 0, v => Goes.refl _
  | k + 1, v => by
    unfold flushL
    split
    · split
      · exact Goes.refl _
      · exact (goes_data _ _).trans (goes_flushL k _)
    · exact Goes.refl _
theorem goes_flushF (v : Cn) : Goes v (flushF v) := by
  unfold flushF
  split
  · exact goes_fin _
  · exact Goes.refl _
theorem goes_flushW (v : Cn) : Goes v (flushW v) := by
  unfold flushW
  split
  · exact ⟨rfl, rfl, rfl, rfl, rfl, rfl, rfl, rfl, rfl, rfl, rfl, rfl, rfl, rfl, rfl, rfl, rfl, rfl, rfl, rfl, rfl, rfl⟩
  · exact Goes.refl _
theorem goes_flush (v : Cn) : Goes v (flushV v) := by
  unfold flushV
  split
  · exact (goes_flushL _ _).trans ((goes_flushF _).trans (goes_flushW _))
  · exact Goes.refl _
/-- How much is left to go. -/
def fuV (v : Cn) : Nat := v.L.length - (ahN v.u v.nxt).toNat
theorem data_len {v : Cn} {n : Int} (hn : 0 < n) (hm : 1 ≤ v.mss) (h : dataV v n ≠ []) : (ahN v.u v.nxt).toNat < v.L.length ∧ 1 ≤ (dataV v n).length ∧ (ahN v.u v.nxt).toNat + (dataV v n).length ≤ v.L.length := by
  unfold dataV getS at h ⊢
  rw [List.length_take, List.length_drop]
  have h1 : ((v.L.drop (ahN v.u v.nxt).toNat).take (min n v.mss).toNat).length ≠ 0 := fun e => h (List.length_eq_zero_iff.1 e)
  rw [List.length_take, List.length_drop] at h1
  omega
theorem data_fu {v : Cn} {n : Int} (hn : 0 < n) (hm : 1 ≤ v.mss) (hl : v.L.length ≤ 2048) (h : dataV v n ≠ []) : fuV (sendDataV v n) + (dataV v n).length = fuV v ∧ 1 ≤ (dataV v n).length ∧ (sendDataV v n).sent.length = v.sent.length + 1 := by
  obtain ⟨a, b, c⟩ := data_len hn hm h
  have g := goes_data v n
  unfold fuV
  rw [g.L, g.u]
  unfold sendDataV
  rw [if_neg h, on_nxt, on_sent]
  refine ⟨?_, b, by show (v.sent ++ [_]).length = _; rw [List.length_append]; rfl⟩
  have e : (sendV v (segOf v.nxt 8 0 ⟨(dataV v n).toArray⟩) 24).nxt = v.nxt := rfl
  rw [e]
  generalize (dataV v n).length = k at *
  have a0 := ahN_lo v.u v.nxt
  have e2 : ahN v.u ((v.nxt + (k : Int)) % 4294967296) = ahN v.u v.nxt + k := by
    unfold ahN at *
    omega
  rw [e2]
  omega
theorem flushL_len : ∀ (k : Nat) (v : Cn), (flushL k v).sent.length ≤ v.sent.length + k
  | 0, v => Nat.le_refl _
  | k + 1, v => by
    unfold flushL
    split
    · split
      · omega
      · rename_i h1 h2
        have := flushL_len k (sendDataV v (roomV v))
        have e : (sendDataV v (roomV v)).sent.length = v.sent.length + 1 := by
          unfold sendDataV
          rw [if_neg h2, on_sent]
          show (v.sent ++ [_]).length = _
          rw [List.length_append]; rfl
        omega
    · omega
theorem fin_len (v : Cn) : (sendFinV v).sent.length ≤ v.sent.length + 1 := by
  unfold sendFinV
  split
  · rw [on_sent]
    show (v.sent ++ [_]).length ≤ _
    rw [List.length_append]
    exact Nat.le_refl _
  · omega
theorem flushF_len (v : Cn) : (flushF v).sent.length ≤ v.sent.length + 1 := by
  unfold flushF
  split
  · exact fin_len v
  · omega
theorem flushW_sent (v : Cn) : (flushW v).sent = v.sent := by unfold flushW; split <;> rfl
theorem flush_len (v : Cn) : (flushV v).sent.length ≤ v.sent.length + (v.L.length + 2) := by
  unfold flushV
  split
  · rw [flushW_sent]
    have h1 := flushF_len (flushL (v.L.length + 1) v)
    have h2 := flushL_len (v.L.length + 1) v
    omega
  · omega
end Go.Proofs.Ytlajalfalepbhaa
