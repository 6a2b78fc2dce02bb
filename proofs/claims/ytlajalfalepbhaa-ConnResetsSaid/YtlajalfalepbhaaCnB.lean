/-
  Layer 15: what a connection's calls make of it, as functions; its parts' calls at the whole. Conditions: as said.
-/
import Derived.Test.YtlajalfalepbhaaCnA
namespace Go.Proofs.Ytlajalfalepbhaa
open Go.RowKit
set_option linter.unusedVariables false

/-- The number that is waited for; a segment as it goes; what is sent. -/
def wantV (v : Cn) : Int := if v.eof then (v.nx + 1) % 4294967296 else v.nx
def sgTo (v : Cn) (s : Sg) (fl : Int) : Sg := ⟨v.fr, v.dt, s.sq, wantV v, fl, v.W.length, s.ms, s.da⟩
def sendV (v : Cn) (s : Sg) (fl : Int) : Cn := { v with told := v.W.length, sent := v.sent ++ [sgTo v s fl] }
def segOf (sq fl ms : Int) (da : ByteArray) : Sg := ⟨0, 0, sq, 0, fl, 0, ms, da⟩
def ackV (v : Cn) : Cn := sendV v (segOf v.nxt 0 0 ⟨#[]⟩) 16
def synV (v : Cn) : Cn := sendV v (segOf v.iss 2 536 ⟨#[]⟩) 18
def probeV (v : Cn) : Cn := sendV v (segOf ((v.una - 1) % 4294967296) 0 0 ⟨#[]⟩) 16
def rstV (v : Cn) : Cn := sendV v (segOf v.top 4 0 ⟨#[]⟩) 20
def refuseV (v : Cn) (s : Sg) : Cn := { v with sent := v.sent ++ [⟨v.fr, v.dt, s.ak, 0, 4, 0, 0, ⟨#[]⟩⟩] }
/-- Room, data, what is next. -/
def roomV (v : Cn) : Int := max 0 v.win - ahN v.una v.nxt
def endV (v : Cn) : Int := (v.u + v.L.length) % 4294967296
def dataV (v : Cn) (n : Int) : List UInt8 := getS v.u v.nxt (min n v.mss) v.L
def finNextV (v : Cn) : Bool := v.cl && v.nxt == endV v
def waitsV (v : Cn) : Bool := !(getS v.u v.nxt 1 v.L).isEmpty || finNextV v
def moveOn1 (v : Cn) (n : Int) : Cn := { v with nxt := (v.nxt + n) % 4294967296 }
def moveOn2 (v : Cn) : Cn := if lessN v.top v.nxt then (if v.mr then { v with top := v.nxt } else { v with top := v.nxt, mr := true, me := v.nxt, ma := 0 }) else v
def moveOn3 (v : Cn) : Cn := if v.left = 0 then { v with left := v.ck.t } else v
def moveOnV (v : Cn) (n : Int) : Cn := moveOn3 (moveOn2 (moveOn1 v n))
def sendDataV (v : Cn) (n : Int) : Cn := if dataV v n = [] then v else moveOnV (sendV v (segOf v.nxt 8 0 ⟨(dataV v n).toArray⟩) 24) (dataV v n).length
def sendFinV (v : Cn) : Cn := if finNextV v then moveOnV (sendV v (segOf v.nxt 1 0 ⟨#[]⟩) 17) 1 else v
/-- All for which there is room, but the Fin. -/
def flushL : Nat → Cn → Cn
  | 0, v => v
  | k + 1, v => if 0 < roomV v then (if dataV v (roomV v) = [] then v else flushL k (sendDataV v (roomV v))) else v
def flushW (v : Cn) : Cn := if v.nxt = v.una ∧ waitsV v = true ∧ v.left = 0 then { v with left := v.ck.t } else v
def flushF (v : Cn) : Cn := if 0 < roomV v then sendFinV v else v
def flushes (st : Int) : Bool := decide (st = 2) || decide (st = 3) || decide (st = 5) || decide (st = 7) || decide (st = 8)
def flushV (v : Cn) : Cn := if flushes v.st then flushW (flushF (flushL (v.L.length + 1) v)) else v
/-- Whether a flag is set; how long a segment is; whether it may count. -/
def hasF (x : Int) (k : Nat) : Bool := decide (x / ((2 ^ k : Nat) : Int) % 2 = 1)
def sgN (f : Sg) : Int := f.da.size + (if f.fl / 2 % 2 = 1 then 1 else 0) + (if f.fl % 2 = 1 then 1 else 0)
def winV (v : Cn) : Int := if v.W.length = 0 then 1 else v.W.length
def countsV (v : Cn) (s : Sg) : Bool := mayN s.sq (sgN s) (wantV v) (winV v)
def neverV (v : Cn) (a : Int) : Bool := !lessN a v.una && lessN v.top a
/-- A segment that counts. -/
def openV (v : Cn) (s : Sg) : Cn := { v with st := if v.cl then 3 else 2, win := s.wi, tsq := s.sq, tak := s.ak }
def ackTo (v : Cn) (a : Int) : Nat := if ahN v.u (if lessN (endV v) a then endV v else a) ≤ v.L.length then (ahN v.u (if lessN (endV v) a then endV v else a)).toNat else 0
def una1 (v : Cn) (a : Int) : Cn := { v with una := a, u := (v.u + ackTo v a) % 4294967296, L := v.L.drop (ackTo v a) }
def una2 (v : Cn) : Cn := if lessN v.nxt v.una then { v with nxt := v.una } else v
def una3 (v : Cn) : Cn := if v.mr && !lessN v.una v.me then { v with ck := measV v.ck v.ma, mr := false, me := 0, ma := 0 } else v
def una4 (v : Cn) : Cn := { v with tries := 0, left := if v.una = v.top then 0 else v.ck.t }
def unaV (v : Cn) (a : Int) : Cn := una4 (una3 (una2 (una1 v a)))
def tellsV (v : Cn) (s : Sg) : Bool := !lessN s.ak v.una && (lessN v.tsq s.sq || (decide (s.sq = v.tsq) && !lessN s.ak v.tak))
def winTo (v : Cn) (s : Sg) : Cn := { v with left := if v.win = 0 ∧ s.wi ≠ 0 ∧ v.nxt = v.una then 0 else v.left, win := s.wi, tsq := s.sq, tak := s.ak }
def lingerV (v : Cn) : Cn := { v with st := 6, lg := v.ml }
def finAcked (v : Cn) : Cn := if v.st = 3 then { v with st := 4 } else if v.st = 5 then lingerV v else if v.st = 8 then { v with st := 9 } else v
def receivesV (v : Cn) : Bool := decide (v.st = 2) || decide (v.st = 3) || decide (v.st = 4)
def putV (v : Cn) (s : Sg) : List (Option UInt8) := holdW v.nx s.sq (s.da.data.toList.take 65536) v.W
def dataTo (v : Cn) (s : Sg) : Cn := if receivesV v then { v with nx := (v.nx + runW (putV v s)) % 4294967296, R := v.R ++ gotW (putV v s), W := (putV v s).drop (runW (putV v s)) } else v
def finHere (v : Cn) : Cn := if v.st = 2 then { v with eof := true, st := 7 } else if v.st = 3 then { v with eof := true, st := 5 } else if v.st = 4 then lingerV { v with eof := true } else { v with eof := true }
def finTo1 (v : Cn) (s : Sg) : Cn := if !v.eof && decide ((s.sq + s.da.size) % 4294967296 = v.nx) then finHere v else v
def finTo2 (v : Cn) : Cn := if v.st = 6 then { v with lg := v.ml } else v
def finTo (v : Cn) (s : Sg) : Cn := if hasF s.fl 0 then finTo2 (finTo1 v s) else v
def take1 (v : Cn) (s : Sg) : Cn := if v.st = 1 then openV v s else v
def take2 (v : Cn) (s : Sg) : Cn := if lessN v.una s.ak then unaV v s.ak else v
def take3 (v : Cn) (s : Sg) : Cn := if tellsV v s then winTo v s else v
def take4 (v : Cn) : Cn := if v.cl && decide (v.una = (endV v + 1) % 4294967296) then finAcked v else v
def take5 (v : Cn) (s : Sg) : Cn := finTo (dataTo (take4 (take3 (take2 (take1 v s) s) s)) s) s
def take6 (v : Cn) (s : Sg) (n : Nat) : Cn := if decide (0 < sgN s) && decide (v.sent.length = n) then ackV v else v
def takeV (v : Cn) (s : Sg) : Cn := take6 (flushV (take5 v s)) s (take5 v s).sent.length
def takeRstV (v : Cn) (s : Sg) : Cn := if s.sq = wantV v then { v with st := 9, rs := true } else ackV v
def inV (v : Cn) (s : Sg) : Cn :=
  if v.st = 9 then v
  else if countsV v s = false then (if hasF s.fl 2 then v else ackV v)
  else if hasF s.fl 2 then takeRstV v s
  else if hasF s.fl 1 then ackV v
  else if hasF s.fl 4 = false then v
  else if v.st = 1 ∧ s.ak ≠ (v.iss + 1) % 4294967296 then refuseV v s
  else if neverV v s.ak then ackV v
  else takeV v s
/-- The timer. -/
def longerV (v : Cn) : Cn := { v with ck := backV v.ck, left := (backV v.ck).t }
def triesV (v : Cn) : Cn := { v with tries := IntKind.i64.wrap (v.tries + 1) }
def giveUpV (v : Cn) : Cn := { v with st := 9, rs := true }
def noMeas (v : Cn) : Cn := { v with mr := false, me := 0, ma := 0 }
def againSynV (v : Cn) : Cn := if v.mt < (triesV v).tries then giveUpV (triesV v) else synV (longerV (noMeas (triesV v)))
def again1 (v : Cn) : Cn := if v.win = 0 then v else triesV v
def again2 (v : Cn) : Cn := { longerV (noMeas v) with nxt := v.una }
def again3 (v : Cn) (n : Int) : Cn := if dataV v n = [] then sendFinV v else sendDataV v n
def againV (v : Cn) : Cn := if v.mt < (again1 v).tries then giveUpV (rstV (again1 v)) else again3 (again2 (again1 v)) (if v.win = 0 then 1 else v.win)
def ranOutV (v : Cn) : Cn := if v.st = 1 then againSynV v else if v.nxt = v.una ∧ v.top = v.una then probeV (longerV v) else againV v
def tick1 (v : Cn) : Cn := if v.mr then { v with ma := IntKind.i64.wrap (v.ma + 1) } else v
def tick2 (v : Cn) : Cn := if v.left = 0 then v else if IntKind.i64.wrap (v.left - 1) = 0 then ranOutV { v with left := 0 } else { v with left := IntKind.i64.wrap (v.left - 1) }
def tick3 (v : Cn) : Cn := if v.st = 6 then (if IntKind.i64.wrap (v.lg - 1) = 0 then { v with lg := 0, st := 9 } else tick2 { v with lg := IntKind.i64.wrap (v.lg - 1) }) else tick2 v
def tickV (v : Cn) : Cn := if v.st = 9 then v else tick3 (tick1 v)
/-- Its user's calls. -/
def takesV (v : Cn) : Bool := (decide (v.st = 1) || decide (v.st = 2) || decide (v.st = 7)) && !v.cl
def writeN (v : Cn) (D : ByteArray) : Nat := if takesV v then min D.size (2048 - v.L.length) else 0
def writeV (v : Cn) (D : ByteArray) : Cn := if takesV v then flushV { v with L := v.L ++ D.data.toList.take (min D.size (2048 - v.L.length)) } else v
def readN (v : Cn) (n : Int) : Nat := (max 0 (min n v.R.length)).toNat
def readV1 (v : Cn) (n : Int) : Cn := { v with R := v.R.drop (readN v n), W := v.W ++ List.replicate (readN v n) none }
def readV2 (v : Cn) : Cn := if receivesV v && decide (v.told < 536) && decide (536 ≤ v.W.length) then ackV v else v
def readV (v : Cn) (n : Int) : Cn := readV2 (readV1 v n)
def close1 (v : Cn) : Cn := { v with cl := true, st := if v.st = 2 then 3 else if v.st = 7 then 8 else v.st }
def closeV (v : Cn) : Cn := if takesV v then flushV (close1 v) else v
def abortV (v : Cn) : Cn := if v.st = 9 then v else { rstV v with st := 9 }
def probesV (v : Cn) : Cn := if v.st = 1 ∨ v.st = 6 ∨ v.st = 9 then v else probeV v
def outV (v : Cn) : Cn := { v with sent := [] }

/-- The world has but drawn. -/
def Dr (w w' : World) : Prop := ∃ k, w' = w.drewN k
theorem drN (w : World) (k : Nat) : Dr w (w.drewN k) := ⟨k, rfl⟩
theorem Dr.refl (w : World) : Dr w w := ⟨0, rfl⟩
theorem Dr.trans {a b c : World} (h : Dr a b) (k : Dr b c) : Dr a c := by
  obtain ⟨m, rfl⟩ := h
  obtain ⟨n, rfl⟩ := k
  exact ⟨_, World.drewN_drewN _ _ _⟩
theorem Dr.below {w w' : World} (h : Dr w w') : Below w.heap.size w w' := by
  obtain ⟨n, rfl⟩ := h
  exact below_drewN (Below.refl _ _) _
/-- A call that only reads, among a region's operations. -/
theorem Calls.quietDr {f : FuncId} {args : Array Value} {w : World} {n : Nat} {r : Value} (h : Calls Try.prog f args (w.drewN n) fun e w' => e = .returned r ∧ Dr (w.drewN n) w') : Calls Try.prog f args (w.drewN n) fun e w' => e = .returned r ∧ ∃ m, w' = w.drewN m :=
  h.mono fun _ _ ⟨he, m, hm⟩ => ⟨he, n + m, by rw [hm, World.drewN_drewN]⟩
section
variable {w0 w w' : World} {fx : List (Nat × Obj)} {q : Bq} {v v' : Cn}
theorem CB.pOut (h : CB w0 fx q v w) : Sb w q.g q.b 2048 v.u v.L := by
  obtain ⟨sl, m, _⟩ := h.ex
  exact m.out
theorem CB.pIn (h : CB w0 fx q v w) : Rb w q.h q.d 2048 v.nx v.R v.W := by
  obtain ⟨sl, m, _⟩ := h.ex
  exact m.inn
theorem CB.pCk (h : CB w0 fx q v w) : CkAt w q.k v.ck := by
  obtain ⟨sl, m, _⟩ := h.ex
  exact m.ck
/-- Calls that only read. -/
theorem CB.rUna (h : CB w0 fx q v w) : Calls Try.prog 89 #[.pointer (some ⟨q.g, 0, none⟩)] w fun e w' => e = .returned (.int .u32 v.u) ∧ w' = w :=
  (sauna_ok h.pOut).mono fun e w' ⟨a, b⟩ => ⟨a, b.symm⟩
theorem CB.rEnd (h : CB w0 fx q v w) : Calls Try.prog 68 #[.pointer (some ⟨q.g, 0, none⟩)] w fun e w' => e = .returned (.int .u32 (endV v)) ∧ w' = w :=
  (saend_ok h.pOut _ rfl).mono fun e w' ⟨a, b⟩ => ⟨a, b.symm⟩
theorem CB.rNext (h : CB w0 fx q v w) : Calls Try.prog 85 #[.pointer (some ⟨q.h, 0, none⟩)] w fun e w' => e = .returned (.int .u32 v.nx) ∧ w' = w :=
  (bnext_ok h.pIn).mono fun e w' ⟨a, b⟩ => ⟨a, b.symm⟩
theorem CB.rReady (h : CB w0 fx q v w) : Calls Try.prog 54 #[.pointer (some ⟨q.h, 0, none⟩)] w fun e w' => e = .returned (.int .i64 v.R.length) ∧ w' = w :=
  (bready_ok h.pIn).mono fun e w' ⟨a, b⟩ => ⟨a, b.symm⟩
theorem CB.rWait (h : CB w0 fx q v w) : Calls Try.prog 37 #[.pointer (some ⟨q.k, 0, none⟩)] w fun e w' => e = .returned (.int .i64 v.ck.t) ∧ w' = w :=
  (ckwait_ok h.pCk).mono fun e w' ⟨a, b⟩ => ⟨a, b.symm⟩
theorem CB.wlen (h : CB w0 fx q v w) : v.R.length + v.W.length = 2048 := h.pIn.len
theorem CB.llen (h : CB w0 fx q v w) : v.L.length ≤ 2048 := h.pOut.le
set_option maxHeartbeats 400000 in
theorem window_q {w : World} {g b n : Nat} {nx : Int} {R : List UInt8} {W : List (Option UInt8)} (h : Rb w g b n nx R W) :
    Calls Try.prog 74 #[.pointer (some ⟨g, 0, none⟩)] w fun e w' => ∃ o : Nat, e = .returned (.slice (some ⟨b, o, none⟩) W.length W.length) ∧ Dr w w' := by
  have c1 := h.c1
  have c2 := h.c2
  have hl := h.len
  have hn := h.n2
  generalize hr : R.length = r at c1 hl ⊢
  generalize hv : W.length = v at hl ⊢
  clear h
  go_enter Try.func74, Try.ntmps74
  go_wp2_with fail
  go_quiet (fail)
  go_wp2_with fail
  · go_ret
    have hv0 : v = 0 := by omega
    subst hv0
    exact ⟨⟨0, rfl⟩, drN _ _⟩
  · go_ret
    have e : n - r = v := by omega
    rw [e]
    exact ⟨⟨r * 2, rfl⟩, drN _ _⟩
set_option maxHeartbeats 400000 in
theorem bwindow_q {w : World} {g b n : Nat} {nx : Int} {R : List UInt8} {W : List (Option UInt8)} (h : Rb w g b n nx R W) :
    Calls Try.prog 49 #[.pointer (some ⟨g, 0, none⟩)] w fun e w' => e = .returned (.int .i64 W.length) ∧ Dr w w' := by
  have HH := Lib.hid h
  clear h
  go_enter Try.func49, Try.ntmps49
  go_wp2_with (first | (go_at_call 72; refine (bnone_no HH.out).mono ?_; rintro e w' ⟨rfl, rfl⟩) | (go_at_call 74; refine (window_q HH.out).mono ?_; rintro e w' ⟨o, rfl, q1⟩; have Q1 := Lib.hid q1; clear q1))
  go_ret
  exact ⟨rfl, Q1.out⟩
theorem CB.rWindow (h : CB w0 fx q v w) : Calls Try.prog 49 #[.pointer (some ⟨q.h, 0, none⟩)] w fun e w' => e = .returned (.int .i64 v.W.length) ∧ Dr w w' := bwindow_q h.pIn
set_option maxRecDepth 100000 in
set_option maxHeartbeats 1000000 in
theorem sget_q {w : World} {g b n : Nat} {u : Int} {L : List UInt8} (h : Sb w g b n u L) (s x : Int) (hx : x ≤ 9223372036854775807) :
    Calls Try.prog 94 #[.pointer (some ⟨g, 0, none⟩), .int .u32 s, .int .i64 x] w fun e w' => e = .returned (.string ⟨(getS u s x L).toArray⟩) ∧ Dr w w' := by
  have hn2 := h.n2
  have hle := h.le
  have c0 := h.c0
  have c2 := h.c2
  have HH := Lib.hid h
  have ha0 := ahN_lo u s
  by_cases h1 : x < 1
  · have d1 : decide (x < (1 : Int)) = true := decide_eq_true h1
    have HE : Hid (getS u s x L = []) := Lib.hid (by unfold getS; rw [show x.toNat = 0 by omega, List.take_zero])
    clear h h1 hx ha0
    go_enter Try.func94, Try.ntmps94
    go_wp2_with fail
    go_quiet (first | (go_at_call 75; exact Calls.quiet_of_same (snone_dr HH.out _)))
    go_wp2_with fail
    go_ret
    exact ⟨by rw [HE.out]; rfl, drN _ _⟩
  have d1 : decide (x < (1 : Int)) = false := decide_eq_false h1
  obtain ⟨a, ha⟩ : ∃ a, ahN u s = a := ⟨_, rfl⟩
  have kI := Lib.hid (fun wr => in_any wr s u L.length)
  have kA := Lib.hid (fun wr => ah_any wr u s)
  unfold inN at kI
  rw [ha] at kI kA ha0
  have HA := Lib.hid ha
  clear ha
  by_cases h2 : a < (L.length : Int)
  · have d2 : decide (a < (L.length : Int)) = true := decide_eq_true h2
    rw [d2] at kI
    obtain ⟨j, rfl⟩ := Int.eq_ofNat_of_zero_le ha0
    have hj : j < L.length := by omega
    obtain ⟨K, hK⟩ : ∃ K : Nat, (K : Int) = min x ((L.length - j : Nat) : Int) := ⟨(min x ((L.length - j : Nat) : Int)).toNat, by omega⟩
    have HE : Hid (getS u s x L = (L.drop j).take K) := Lib.hid (by
      unfold getS
      rw [HA.out, Int.toNat_natCast]
      by_cases hq : x.toNat ≤ L.length - j
      · rw [show K = x.toNat by omega]
      · rw [List.take_of_length_le (by rw [List.length_drop]; omega), List.take_of_length_le (by rw [List.length_drop]; omega)])
    have HCL : Hid (((L.drop j).take K).length = K) := Lib.hid (by rw [List.length_take, List.length_drop]; omega)
    have HC : Hid (∀ wr, Sb wr g b n u L → ∀ i x, ((L.drop j).take K)[i]? = some x → wr.cell? ⟨b, j + i, none⟩ = some (ebS x)) := Lib.hid (fun wr hr i x hi => by
      rw [List.getElem?_take] at hi
      split at hi
      · rw [List.getElem?_drop] at hi
        rw [cell_of_block hr.row, List.getElem?_toArray]
        exact padB_at hi
      · cases hi)
    have n1 : ¬ n = j := by omega
    have e1 : min x ((L.length - j : Nat) : Int) = (K : Int) := hK.symm
    have e2 : (0 : Int) ≤ (j : Int) := by omega
    have e3 : (j : Int) ≤ (L.length : Int) := by omega
    have e4 : (0 : Int) ≤ (K : Int) := by omega
    have e5 : (K : Int) ≤ ((n - j : Nat) : Int) := by omega
    clear h h1 hx h2 hj hK
    go_enter Try.func94, Try.ntmps94
    go_wp2_with fail
    go_quiet (first | (go_at_call 75; exact Calls.quiet_of_same (snone_dr HH.out _)) | (go_at_call 83; exact Calls.quiet_of_same (kI.out _)))
    have BL : Hid (Below w.heap.size w (w.drewN nq)) := Lib.hid (below_drewN (Below.refl _ _) _)
    have KK : Hid (∀ m, Dr w ((w.drewN nq).drewN m)) := Lib.hid (fun m => ⟨_, World.drewN_drewN _ _ _⟩)
    generalize w.drewN nq = w1 at BL KK ⊢
    have H1 := Lib.hid (HH.out.below BL.out)
    clear c0 c2
    have c0 := H1.out.c0
    have c2 := H1.out.c2
    have cv := fun k => conv_bytesO (w1.drewN k) b j (n - j) ((L.drop j).take K) K HCL.out (fun i x hi => HC.out w1 H1.out i x hi)
    go_wp2_with fail
    go_quiet (first | (go_at_call 86; exact Calls.quiet_of_same (kA.out _)))
    go_wp2_with fail
    go_ret
    exact ⟨by rw [HE.out]; rfl, KK.out _⟩
  · have d2 : decide (a < (L.length : Int)) = false := decide_eq_false h2
    rw [d2] at kI
    have HE : Hid (getS u s x L = []) := Lib.hid (by unfold getS; rw [HA.out, List.drop_eq_nil_of_le (by omega), List.take_nil])
    clear h h1 hx h2 ha0
    go_enter Try.func94, Try.ntmps94
    go_wp2_with fail
    go_quiet (first | (go_at_call 75; exact Calls.quiet_of_same (snone_dr HH.out _)) | (go_at_call 83; exact Calls.quiet_of_same (kI.out _)))
    go_wp2_with fail
    go_ret
    exact ⟨by rw [HE.out]; rfl, drN _ _⟩
theorem CB.rGet (h : CB w0 fx q v w) (s x : Int) (hx : x ≤ 9223372036854775807) : Calls Try.prog 94 #[.pointer (some ⟨q.g, 0, none⟩), .int .u32 s, .int .i64 x] w fun e w' => e = .returned (.string ⟨(getS v.u s x v.L).toArray⟩) ∧ Dr w w' := sget_q h.pOut s x hx
/-- Calls that turn a part. -/
theorem CB.oWrite (h : CB w0 fx q v w) (D : ByteArray) : Calls Try.prog 51 #[.pointer (some ⟨q.g, 0, none⟩), .string D] w fun e w' => e = .returned (.int .i64 (min D.size (2048 - v.L.length) : Nat)) ∧ CB w0 fx q { v with L := v.L ++ D.data.toList.take (min D.size (2048 - v.L.length)) } w' :=
  (sawrite_ok h.pOut D _ rfl _ rfl).mono fun e w' ⟨a, b, t⟩ => ⟨a, h.outTo b t⟩
theorem CB.oAck (h : CB w0 fx q v w) (x : Int) (hx : 0 ≤ x ∧ x < 4294967296) (K : Nat) (hK : K = if ahN v.u x ≤ v.L.length then (ahN v.u x).toNat else 0) : Calls Try.prog 87 #[.pointer (some ⟨q.g, 0, none⟩), .int .u32 x] w fun e w' => e = .returned (.int .i64 K) ∧ CB w0 fx q { v with u := (v.u + K) % 4294967296, L := v.L.drop K } w' :=
  (sack_ok h.pOut x hx K (by rw [hK]; have := ahN_lo v.u x; split <;> omega) _ rfl).mono fun e w' ⟨a, b, t⟩ => ⟨a, h.outTo b t⟩
theorem CB.iPut (h : CB w0 fx q v w) (s : Int) (hs : 0 ≤ s ∧ s < 4294967296) (D : ByteArray) (W' : List (Option UInt8)) (hW : W' = holdW v.nx s (D.data.toList.take 65536) v.W) : Calls Try.prog 92 #[.pointer (some ⟨q.h, 0, none⟩), .int .u32 s, .string D] w fun e w' => e = .returned (.int .i64 (runW W')) ∧ CB w0 fx q { v with nx := (v.nx + runW W') % 4294967296, R := v.R ++ gotW W', W := W'.drop (runW W') } w' :=
  (bput_ok h.pIn s hs D _ rfl W' hW).mono fun e w' ⟨a, b, t⟩ => ⟨a, h.innTo b t⟩
theorem CB.iRead (h : CB w0 fx q v w) (n : Int) : Calls Try.prog 47 #[.pointer (some ⟨q.h, 0, none⟩), .int .i64 n] w fun e w' => e = .returned (.string ⟨(v.R.take (readN v n)).toArray⟩) ∧ CB w0 fx q (readV1 v n) w' :=
  (bread_ok h.pIn n (readN v n) (by unfold readN; omega)).mono fun e w' ⟨a, b, t⟩ => ⟨a, h.innTo b t⟩
theorem CB.kBack (h : CB w0 fx q v w) : Calls Try.prog 98 #[.pointer (some ⟨q.k, 0, none⟩)] w fun e w' => e = .returned (.tuple #[]) ∧ CB w0 fx q { v with ck := backV v.ck } w' :=
  (ckback_ok h.pCk ⟨Int.le_trans h.ok.ck.l1 h.ok.ck.lt, Int.le_trans h.ok.ck.tm h.ok.ck.m2⟩ _ rfl).mono fun e w' ⟨a, b, t⟩ => ⟨a, h.ckTo b h.ok.ck.back t⟩
theorem CB.kMeas (h : CB w0 fx q v w) (r : Int) : Calls Try.prog 88 #[.pointer (some ⟨q.k, 0, none⟩), .int .i64 r] w fun e w' => e = .returned (.tuple #[]) ∧ CB w0 fx q { v with ck := measV v.ck r } w' :=
  (ckmeas_ok h.pCk h.ok.ck r).mono fun e w' ⟨a, b, t⟩ => ⟨a, h.ckTo b (h.ok.ck.meas r) t⟩
end
end Go.Proofs.Ytlajalfalepbhaa
