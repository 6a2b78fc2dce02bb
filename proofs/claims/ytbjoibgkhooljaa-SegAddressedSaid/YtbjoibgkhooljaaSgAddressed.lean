/-
  SegAddressed: a segment that comes between addresses of which one differs in one bit is found. Conditions: more than 2000 bytes of data are not asked about, as the statement says.
-/
import Derived.Test.YtbjoibgkhooljaaSgI
import Derived.Test.YtbjoibgkhooljaaIpL
import Derived.Test.YtbjoibgkhooljaaIpO
import Derived.ProofKit
import Derived.OpenShut
import Derived.ShutString
import Derived.ChangeOld
import Derived.Below
namespace Go.Proofs.Ytbjoibgkhooljaa.sga
open Go.ChangeShapes Go.WideShapes Go.ChangeAt Go.RowKit
open Go.ChangeMaps (open_string shut_string)
open Go.Sort (Holds)
set_option linter.unusedVariables false

theorem holds_setS {w : World} {n : Nat} {cs : Array Value} {t : TypeId} {fz : Nat × Nat} {l : List UInt8} (h : w.heap[n]? = some (.cells cs t fz)) (hh : Holds eb w n 0 l.toArray) (k : Nat) (hk : k < l.length) (y : UInt8) :
    Holds eb (w.setCell ⟨n, k, none⟩ (eb y)) n 0 (l.set k y).toArray := (holds_put h hh k hk y).1
theorem xor_bit (X : UInt8) (Q : Nat) (h : Q < 8) : bits .xor .u8 (X.toNat : Int) (2 ^ Q % 256) = ((X ^^^ (1 <<< UInt8.ofNat Q)).toNat : Int) := by
  have : ∀ (b : Fin 8) (x : Fin 256), bits .xor .u8 (((UInt8.ofNat x.1).toNat : Nat) : Int) (2 ^ b.1 % 256) = ((UInt8.ofNat x.1 ^^^ (1 <<< UInt8.ofNat b.1)).toNat : Int) := by decide +kernel
  have h2 := this ⟨Q, h⟩ ⟨X.toNat, X.toNat_lt⟩
  rw [show UInt8.ofNat X.toNat = X by simp] at h2
  exact h2
def setI (j : Ip4) (K : Nat) (Y : UInt8) : Ip4 := match K with
  | 0 => ⟨Y, j.b, j.c, j.d⟩
  | 1 => ⟨j.a, Y, j.c, j.d⟩
  | 2 => ⟨j.a, j.b, Y, j.d⟩
  | _ => ⟨j.a, j.b, j.c, Y⟩
theorem setI_list (j : Ip4) (K : Nat) (Y : UInt8) (h : K < 4) : (setI j K Y).list = j.list.set K Y := by
  rcases K with _ | _ | _ | _ | K <;> first | rfl | omega
theorem ipbx_put {w : World} {n : Nat} {j : Ip4} (h : IpBx w n j) (K : Nat) (Y : UInt8) (hK : K < 4) : IpBx (w.setCell ⟨n, K, none⟩ (.int .u8 (Y.toNat : Int))) n (setI j K Y) := by
  have h' : w.heap[n]? = some (.cells (ipC j) 33 (0, 0)) := h
  show (w.setCell ⟨n, K, none⟩ (.int .u8 (Y.toNat : Int))).heap[n]? = _
  rcases K with _ | _ | _ | _ | K <;> first | omega | (simp [World.setCell, Array.getElem?_modify, h', ipC, setI])
theorem ipbx_cell {w : World} {n : Nat} {i : Ip4} (h : IpBx w n i) (k : Nat) (X : UInt8) (hX : i.list[k]? = some X) : w.cell? ⟨n, k, none⟩ = some (.int .u8 (X.toNat : Int)) := by
  have := holds_get h.holds k X hX
  rw [Nat.zero_add] at this
  exact this
theorem ipbx_free {w : World} {n : Nat} {j : Ip4} (h : IpBx w n j) (k : Nat) : w.frozen? ⟨n, k, none⟩ = false := by simp [World.frozen?, show w.heap[n]? = _ from h]
theorem ip_storeS (w : World) (i : Ip4) : (storeVar 33 ⟨w.heap.size, 0, none⟩ (.agg (ipC i))).run Try.prog (w.alloc (.cells #[.int .u8 0, .int .u8 0, .int .u8 0, .int .u8 0] 33)) = .ok () (w.alloc (.cells (ipC i) 33)) := ip_store w i
theorem guard_ipS : Try.prog.eqGuardType Try.prog.depth 33 = false := by kernel_rfl
theorem eq_ip (o i : Ip4) (w : World) : (Op.equalIn 10000 33 (.agg (ipC o)) (.agg (ipC i))).run Try.prog w = .ok (decide (o = i)) w := run_eql_ip w o i
theorem ipb_eq {ops : Array Oper} {rest : List Oper} {o : Oper} {a : Act} {w : World} {Q : Exit → Act → World → Prop} (hw : Region.wanted o (yielded ops a.tmps) = true) (x y : Operand) (t : TypeId) (ho : o.op = .binOp .eql 33 x y t) (f g : Ip4) (hx : a.eval x = .agg (ipC f)) (hy : a.eval y = .agg (ipC g))
    (h : wpList Try.prog ops Q rest (a.put o.dst (.bool (decide (f = g)))) w) : wpList Try.prog ops Q (o :: rest) a w :=
  wpList_value hw _ (exec_eql _ _ _ _ ho _ _ hx hy guard_ipS _ (eq_ip f g w)) h
set_option maxRecDepth 100000 in
set_option maxHeartbeats 4000000 in
theorem walk_long (f : Sg) (i j : Ip4) (x y : Int) (hm : f.da.size ≤ 9223372036854775807) (h : 2000 < f.da.size) (w : World) :
    Calls Try.prog 8 #[.agg (sgC f), .agg (ipC i), .agg (ipC j), .int .u8 x, .int .u8 y] w fun e w' => e = .returned (.bool true) ∧ Below w.heap.size w w' := by
  go_enter Try.func8, Try.ntmps8
  go_upto_region 1 with fail
  obtain ⟨n, m, k, hn, hm, hk, fa, bl⟩ := sgbx_new w f i j
  have LO : Hid (n < w.heap.size + 3 ∧ m < w.heap.size + 3 ∧ k < w.heap.size + 3 ∧ n ≠ m ∧ n ≠ k ∧ m ≠ k) := Lib.hid (by omega)
  have F0 := Lib.hid fa
  have B0 := Lib.hid bl
  clear fa bl
  generalize World.alloc _ _ = W1 at F0 B0 ⊢
  try rw [hk]
  try rw [hm]
  try rw [hn]
  clear hn hm hk
  go_wp2_with fail
  refine (awakeS _).mono ?_
  rintro e w1 ⟨rfl, b1⟩
  have F1 := Lib.hid (F0.out.grow b1)
  have B1 := bstep B0 b1
  clear b1 F0 B0
  have c7 := F1.out.sg.da
  go_wp2_with fail
  go_ret
  exact ⟨rfl, B1.out⟩
set_option maxRecDepth 100000 in
set_option maxHeartbeats 4000000 in
theorem walk_err (f : Sg) (hf : f.ok) (i j : Ip4) (x y : Int) (hz : f.da.size ≤ 2000) (hE : sgE f ≠ 0) (w : World) :
    Calls Try.prog 8 #[.agg (sgC f), .agg (ipC i), .agg (ipC j), .int .u8 x, .int .u8 y] w fun e w' => e = .returned (.bool true) ∧ Below w.heap.size w w' := by
  have k1 := Lib.hid (fun w => sgBytes_any w f i j hf (by omega))
  obtain ⟨E, hEe⟩ : ∃ E, sgE f = E := ⟨_, rfl⟩
  rw [hEe] at k1 hE
  generalize sgS i j f = T at k1
  have hb : (E != 0) = true := by simpa using hE
  clear hE hEe
  go_enter Try.func8, Try.ntmps8
  go_upto_region 1 with fail
  obtain ⟨n, m, k, hn, hm, hk, fa, bl⟩ := sgbx_new w f i j
  have LO : Hid (n < w.heap.size + 3 ∧ m < w.heap.size + 3 ∧ k < w.heap.size + 3 ∧ n ≠ m ∧ n ≠ k ∧ m ≠ k) := Lib.hid (by omega)
  have F0 := Lib.hid fa
  have B0 := Lib.hid bl
  clear fa bl
  generalize World.alloc _ _ = W1 at F0 B0 ⊢
  try rw [hk]
  try rw [hm]
  try rw [hn]
  clear hn hm hk
  go_wp2_with fail
  refine (awakeS _).mono ?_
  rintro e w1 ⟨rfl, b1⟩
  have F1 := Lib.hid (F0.out.grow b1)
  have B1 := bstep B0 b1
  clear b1 F0 B0
  have c7 := F1.out.sg.da
  have hp := F1.out.sg
  have hi := F1.out.ia
  have hj := F1.out.ja
  go_wp2_with (first | (refine sg_ld (by rfl) (.tmp 5) rfl n rfl _ hp ?_) | (refine ipb_ld (by rfl) (.tmp 6) rfl m rfl _ hi ?_) | (refine ipb_ld (by rfl) (.tmp 7) rfl k rfl _ hj ?_))
  refine (k1.out _).mono ?_
  rintro e w2 ⟨rfl, b2⟩
  have F2 := Lib.hid (F1.out.grow b2)
  have B2 := bstep B1 b2
  clear b2 F1 B1
  clear hp hi hj
  go_wp2_with fail
  go_ret
  exact ⟨rfl, B2.out⟩
set_option maxRecDepth 100000 in
set_option maxHeartbeats 8000000 in
theorem walk_main (f : Sg) (hf : f.ok) (i j : Ip4) (x y : Int) (x0 : 0 ≤ x) (x1 : x ≤ 255) (y0 : 0 ≤ y) (y1 : y ≤ 255) (hz : f.da.size ≤ 2000) (hE : sgE f = 0) (w : World) :
    Calls Try.prog 8 #[.agg (sgC f), .agg (ipC i), .agg (ipC j), .int .u8 x, .int .u8 y] w fun e w' => e = .returned (.bool true) ∧ Below w.heap.size w w' := by
  have k1 := Lib.hid (fun w => sgBytes_any w f i j hf (by omega))
  have zT := sgS_size (i := i) (j := j) hE
  have hop := opN_le f
  obtain ⟨e1, e2⟩ := read_back10 i j f hf hE
  obtain ⟨P, hP⟩ : ∃ P, P = (x % 4).toNat := ⟨_, rfl⟩
  have xm : x % 4 = (P : Int) := by omega
  have hP4 : P < 4 := by omega
  obtain ⟨Q, hQ⟩ : ∃ Q, Q = (y % 8).toNat := ⟨_, rfl⟩
  have yq : y % 8 = (Q : Int) := by omega
  have hQ8 : Q < 8 := by omega
  obtain ⟨X, hX⟩ : ∃ X, j.list[P]? = some X := ⟨j.list[P]'(by rw [ip_len]; exact hP4), List.getElem?_eq_getElem _⟩
  have hXd : j.list.getD P 0 = X := by rw [List.getD_eq_getElem?_getD, hX]; rfl
  obtain ⟨Y, hY⟩ : ∃ Y, Y = X ^^^ (1 <<< UInt8.ofNat Q) := ⟨_, rfl⟩
  obtain ⟨o, ho⟩ : ∃ o, o = setI j P Y := ⟨_, rfl⟩
  have hsum := (srE_zero.1 e1).2.1
  have hso := other10 i j o (sgS i j f).data.toList P Q hP4 hQ8 (by rw [ho, setI_list j P Y hP4, hY, hXd]) hsum
  have e9 := srE_sum e1 i o hso
  have k2 := Lib.hid (fun w => sgRead_any w (sgS i j f) i o (by omega))
  rw [srP, e9, if_neg (by decide)] at k2
  have k3 := Lib.hid (fun w => sgRead_any w (sgS i j f) o j (by omega))
  have k4 := Lib.hid (fun w => sgRead_any w (sgS i j f) i j (by omega))
  rw [srP, e1, if_pos rfl, e2] at k4
  have h3 : o = i → srE o j (sgS i j f) = 0 := fun e => by rw [e]; exact e1
  have hok3 := srP_ok o j (sgS i j f) (by unfold maxLen; omega)
  rw [hE] at k1
  generalize srP o j (sgS i j f) = X3 at k3
  generalize srE o j (sgS i j f) = E3 at k3 h3
  generalize sgS i j f = T at k1 k2 k3 k4
  obtain ⟨D, hD⟩ : ∃ D : Bool, decide (o = i) = D := ⟨_, rfl⟩
  have h4 : D = true → E3 = 0 := fun e => h3 (of_decide_eq_true (hD.trans e))
  have HX := Lib.hid hX
  have HO := Lib.hid ho
  have HY := Lib.hid hY
  have HD := Lib.hid hD
  have H4 := Lib.hid h4
  clear zT hop e1 e2 hsum hE hP hQ hX hXd hso e9 h3 hok3 hD h4 ho hY
  go_enter Try.func8, Try.ntmps8
  go_upto_region 1 with fail
  obtain ⟨n, m, k, hn, hm, hk, fa, bl⟩ := sgbx_new w f i j
  have LO : Hid (n < w.heap.size + 3 ∧ m < w.heap.size + 3 ∧ k < w.heap.size + 3 ∧ n ≠ m ∧ n ≠ k ∧ m ≠ k) := Lib.hid (by omega)
  have F0 := Lib.hid fa
  have B0 := Lib.hid bl
  clear fa bl
  generalize World.alloc _ _ = W1 at F0 B0 ⊢
  try rw [hk]
  try rw [hm]
  try rw [hn]
  clear hn hm hk
  go_wp2_with fail
  refine (awakeS _).mono ?_
  rintro e w1 ⟨rfl, b1⟩
  have F1 := Lib.hid (F0.out.grow b1)
  have B1 := bstep B0 b1
  clear b1 F0 B0
  have c7 := F1.out.sg.da
  have hp := F1.out.sg
  have hi := F1.out.ia
  have hj := F1.out.ja
  go_wp2_with (first | (refine sg_ld (by rfl) (.tmp 5) rfl n rfl _ hp ?_) | (refine ipb_ld (by rfl) (.tmp 6) rfl m rfl _ hi ?_) | (refine ipb_ld (by rfl) (.tmp 7) rfl k rfl _ hj ?_))
  refine (k1.out _).mono ?_
  rintro e w2 ⟨rfl, b2⟩
  have F2 := Lib.hid (F1.out.grow b2)
  have B2 := bstep B1 b2
  clear b2 F1 B1
  clear hp hi hj
  clear c7
  have hj := F2.out.ja
  have hst := ip_storeS w2 j
  go_upto_region 9 with (first | (refine ipb_ld (by rfl) (.tmp 7) rfl k rfl _ hj ?_) | (refine wpList_storeW 33 (.tmp 13) (.tmp 36) rfl rfl (.agg (ipC j)) w2.heap.size rfl rfl hst ?_))
  try simp only [Act.put]
  have OJ : Hid (IpBx (w2.alloc (.cells (ipC j) 33)) w2.heap.size j) := Lib.hid (ipb_new _ _ _ rfl)
  have F3 := Lib.hid (F2.out.grow ((Below.refl w2.heap.size w2).alloc (Nat.le_refl _) (.cells (ipC j) 33)))
  have B3 := bstep B2 ((Below.refl w2.heap.size w2).alloc (Nat.le_refl _) (.cells (ipC j) 33))
  have lt1 := F2.out.ia.lt
  have lt2 := F2.out.ja.lt
  have lt3 := F2.out.sg.lt
  have hsz := B2.out.size
  obtain ⟨z, hnz⟩ : ∃ n, n = w2.heap.size := ⟨_, rfl⟩
  have HN : Hid (m ≠ z ∧ k ≠ z ∧ n ≠ z ∧ w.heap.size ≤ z) := Lib.hid ⟨by omega, by omega, by omega, by omega⟩
  clear hst hj B2 F2 lt1 lt2 lt3 hsz
  generalize w2.alloc _ = W3 at OJ F3 B3 ⊢
  rw [← hnz] at OJ ⊢
  clear hnz
  have hc := ipbx_cell OJ.out P X HX.out
  have hfz := ipbx_free OJ.out P
  go_upto_region 10 with fail
  rw [xor_bit X Q hQ8, ← HY.out]
  have OO : Hid (IpBx (W3.setCell ⟨z, P, none⟩ (.int .u8 (Y.toNat : Int))) z o) := Lib.hid (by rw [HO.out]; exact ipbx_put OJ.out P Y hP4)
  have F4 : Hid (SgBx (W3.setCell ⟨z, P, none⟩ (.int .u8 (Y.toNat : Int))) n m k f i j) := Lib.hid ⟨F3.out.sg.kept (Below.heap_setCell _ _ _ _ HN.out.2.2.1), F3.out.ia.kept (Below.heap_setCell _ _ _ _ HN.out.1), F3.out.ja.kept (Below.heap_setCell _ _ _ _ HN.out.2.1)⟩
  have B4 : Hid (Below w.heap.size w (W3.setCell ⟨z, P, none⟩ (.int .u8 (Y.toNat : Int)))) := Lib.hid (B3.out.setCell HN.out.2.2.2 _)
  clear hc hfz OJ F3 B3 HX HO HY HN LO
  generalize W3.setCell _ _ = w4 at OO F4 B4 ⊢
  have hi := F4.out.ia
  have hj := OO.out
  go_wp2_with (first | (refine ipb_ld (by rfl) (.tmp 6) rfl m rfl _ hi ?_) | (refine ipb_ld (by rfl) (.tmp 13) rfl z rfl _ hj ?_))
  refine (k2.out _).mono ?_
  rintro e w5 ⟨rfl, b5⟩
  have F5 := Lib.hid (F4.out.grow b5)
  have B5 := bstep B4 b5
  have O5 := Lib.hid (OO.out.grow b5)
  clear b5 F4 B4 OO
  clear hi hj
  have hst := sg_store w5 sgZ
  go_upto_region 11 with (refine wpList_storeW 47 (.tmp 14) (.tmp 53) rfl rfl (.agg (sgC sgZ)) w5.heap.size rfl rfl hst ?_)
  try simp only [Act.put]
  have Pp : Hid (SgAt (w5.alloc (.cells (sgC sgZ) 47)) w5.heap.size sgZ) := Lib.hid (sg_new _ _ _ rfl)
  have F5s := Lib.hid (F5.out.grow ((Below.refl w5.heap.size w5).alloc (Nat.le_refl _) (.cells (sgC sgZ) 47)))
  have B5s := bstep B5 ((Below.refl w5.heap.size w5).alloc (Nat.le_refl _) (.cells (sgC sgZ) 47))
  have O6 := Lib.hid (O5.out.grow ((Below.refl w5.heap.size w5).alloc (Nat.le_refl _) (.cells (sgC sgZ) 47)))
  clear hst F5 B5 O5
  obtain ⟨p, hnp⟩ : ∃ n, n = w5.heap.size := ⟨_, rfl⟩
  generalize w5.alloc _ = W5s at Pp F5s B5s O6 ⊢
  rw [← hnp] at Pp ⊢
  clear hnp
  have hi := O6.out
  have hj := F5s.out.ja
  go_wp2_with (first | (refine ipb_ld (by rfl) (.tmp 13) rfl z rfl _ hi ?_) | (refine ipb_ld (by rfl) (.tmp 7) rfl k rfl _ hj ?_))
  refine (k3.out _).mono ?_
  rintro e w6 ⟨rfl, b6⟩
  have F6 := Lib.hid (F5s.out.grow b6)
  have B6 := bstep B5s b6
  have O7 := Lib.hid (O6.out.grow b6)
  clear b6 F5s B5s O6
  clear hi hj
  have hst := sg_store w6 X3
  go_upto_region 12 with (refine wpList_storeW 47 (.tmp 16) (.tmp 60) rfl rfl (.agg (sgC X3)) w6.heap.size rfl rfl hst ?_)
  try simp only [Act.put]
  have Pq : Hid (SgAt (w6.alloc (.cells (sgC X3) 47)) w6.heap.size X3) := Lib.hid (sg_new _ _ _ rfl)
  have F6s := Lib.hid (F6.out.grow ((Below.refl w6.heap.size w6).alloc (Nat.le_refl _) (.cells (sgC X3) 47)))
  have B6s := bstep B6 ((Below.refl w6.heap.size w6).alloc (Nat.le_refl _) (.cells (sgC X3) 47))
  have O8 := Lib.hid (O7.out.grow ((Below.refl w6.heap.size w6).alloc (Nat.le_refl _) (.cells (sgC X3) 47)))
  clear hst F6 B6 O7
  obtain ⟨q, hnq⟩ : ∃ n, n = w6.heap.size := ⟨_, rfl⟩
  generalize w6.alloc _ = W6s at Pq F6s B6s O8 ⊢
  rw [← hnq] at Pq ⊢
  clear hnq
  have hi := F6s.out.ia
  have hj := F6s.out.ja
  go_wp2_with (first | (refine ipb_ld (by rfl) (.tmp 6) rfl m rfl _ hi ?_) | (refine ipb_ld (by rfl) (.tmp 7) rfl k rfl _ hj ?_))
  refine (k4.out _).mono ?_
  rintro e w7 ⟨rfl, b7⟩
  have F7 := Lib.hid (F6s.out.grow b7)
  have B7 := bstep B6s b7
  have O9 := Lib.hid (O8.out.grow b7)
  clear b7 F6s B6s O8
  clear hi hj
  have hst := sg_store w7 f
  go_upto_region 13 with (refine wpList_storeW 47 (.tmp 18) (.tmp 67) rfl rfl (.agg (sgC f)) w7.heap.size rfl rfl hst ?_)
  try simp only [Act.put]
  have Pu : Hid (SgAt (w7.alloc (.cells (sgC f) 47)) w7.heap.size f) := Lib.hid (sg_new _ _ _ rfl)
  have F7s := Lib.hid (F7.out.grow ((Below.refl w7.heap.size w7).alloc (Nat.le_refl _) (.cells (sgC f) 47)))
  have B7s := bstep B7 ((Below.refl w7.heap.size w7).alloc (Nat.le_refl _) (.cells (sgC f) 47))
  have O10 := Lib.hid (O9.out.grow ((Below.refl w7.heap.size w7).alloc (Nat.le_refl _) (.cells (sgC f) 47)))
  clear hst F7 B7 O9
  obtain ⟨u, hnu⟩ : ∃ n, n = w7.heap.size := ⟨_, rfl⟩
  generalize w7.alloc _ = W7s at Pu F7s B7s O10 ⊢
  rw [← hnu] at Pu ⊢
  clear hnu
  have hi := F7s.out.ia
  have hj := O10.out
  go_upto_region 14 with (first | (refine ipb_ld (by rfl) (.tmp 13) rfl z rfl _ hj ?_) | (refine ipb_ld (by rfl) (.tmp 6) rfl m rfl _ hi ?_) | (refine ipb_eq (by rfl) (.tmp 69) (.tmp 70) _ rfl o i rfl rfl ?_))
  rw [HD.out]
  clear hi hj
  cases D with
  | true =>
    have h3 := H4.out rfl
    subst h3
    go_wp2_with fail
    go_ret
    exact ⟨rfl, B7s.out⟩
  | false =>
    go_wp2_with fail
    go_ret
    exact ⟨rfl, B7s.out⟩
theorem walk (f : Sg) (i j : Ip4) (x y : Int) (w0 : f.ok) (w3 : (Lit.int .u8 x).wf = true) (w4 : (Lit.int .u8 y).wf = true) (w : World) :
    Calls Try.prog 8 #[.agg (sgC f), .agg (ipC i), .agg (ipC j), .int .u8 x, .int .u8 y] w fun e w' => e = .returned (.bool true) ∧ Below w.heap.size w w' := by
  have m0 : f.da.size ≤ 9223372036854775807 := by have := w0.2.2.2.2.2.2.2; unfold maxLen at this; omega
  have hx := bounds_u8 w3
  have hy := bounds_u8 w4
  by_cases h1 : 2000 < f.da.size
  · exact walk_long f i j x y m0 h1 w
  by_cases h2 : sgE f = 0
  · exact walk_main f w0 i j x y hx.1 hx.2 hy.1 hy.2 (by omega) h2 w
  · exact walk_err f w0 i j x y (by omega) h2 w

set_option maxRecDepth 100000 in
theorem lifted (os : Os) (started : os.Started) (H : Type) (enc : TypeId × Value → H) :
    ReturnsInHanded {} Try.checked os 8 .any (Rows.segAddressedSpec.pre6 enc Try.prog Try.f8 Rows.segAddressedRow.domain false) (Rows.segAddressedSpec.post enc Try.prog Try.f8 false true false false) := by
  refine returnsInHanded_of_change (C := Try.checked) own started (by kernel_rfl) Try.func8
    (ChangeSpec.witness6 (enc := enc) (C := Try.checked) false ⟨#[], #[.agg #[.int .i64 0, .int .i64 0, .int .u32 0, .int .u32 0, .int .i64 0, .int .i64 0, .int .i64 0, .string ByteArray.empty], .agg #[.int .u8 0, .int .u8 0, .int .u8 0, .int .u8 0], .agg #[.int .u8 0, .int .u8 0, .int .u8 0, .int .u8 0], .int .u8 0, .int .u8 0], []⟩ 8 (by kernel_rfl) (by kernel_rfl) (by kernel_rfl) (by kernel_rfl)) ?_
  intro W base args ds gs before hval0 hW hcnd _
  have hval : ∀ (j : Nat) t v, Try.f8.params[j]? = some t → args[j]? = some v → Value.okWide Try.prog W .any base t v := hval0
  have hW' := hW
  obtain ⟨p, q, hA0, hV, rfl, hfz, hnd⟩ := hW
  have hA : DataW.TrodAll enc Try.prog W 0 (fun _ => true) true Try.f8.params.toList args.toList ds p := hA0
  rw [Try.params8] at hA hval
  obtain ⟨v0, vs0, d0, ds0, p0, q0, hargs, rfl, rfl, h0, r0⟩ := trodAll_cons hA
  obtain ⟨v1, vs1, d1, ds1, p1, q1, rfl, rfl, rfl, h1, r1⟩ := trodAll_cons r0
  obtain ⟨v2, vs2, d2, ds2, p2, q2, rfl, rfl, rfl, h2, r2⟩ := trodAll_cons r1
  obtain ⟨v3, vs3, d3, ds3, p3, q3, rfl, rfl, rfl, h3, r3⟩ := trodAll_cons r2
  obtain ⟨v4, vs4, d4, ds4, p4, q4, rfl, rfl, rfl, h4, r4⟩ := trodAll_cons r3
  obtain ⟨rfl, rfl, rfl⟩ := trodAll_nil r4
  obtain rfl : args = #[v0, v1, v2, v3, v4] := by cases args; simp_all
  obtain ⟨rfl, rfl⟩ := trodVars_none hV
  obtain ⟨a0, rfl, w0⟩ := open_seg (hval 0 47 v0 rfl rfl) h0
  have k0 := h0
  have lt0 : ∀ x ∈ p0, x.block < W.heap.size := by obtain ⟨m, hm⟩ := k0; exact DataW.trod_lt m _ _ _ hm
  obtain ⟨a1, rfl⟩ := open_ip (hval 1 33 v1 rfl rfl) h1
  have k1 := h1
  have lt1 : ∀ x ∈ p1, x.block < W.heap.size := by obtain ⟨m, hm⟩ := k1; exact DataW.trod_lt m _ _ _ hm
  obtain ⟨a2, rfl⟩ := open_ip (hval 2 33 v2 rfl rfl) h2
  have k2 := h2
  have lt2 : ∀ x ∈ p2, x.block < W.heap.size := by obtain ⟨m, hm⟩ := k2; exact DataW.trod_lt m _ _ _ hm
  obtain ⟨a3, rfl, rfl, rfl, w3⟩ := open_int Try.underlying5 (hval 3 5 v3 rfl rfl) h3
  obtain ⟨a4, rfl, rfl, rfl, w4⟩ := open_int Try.underlying5 (hval 4 5 v4 rfl rfl) h4
  clear hA0 hval0
  refine (walk a0 a1 a2 a3 a4 w0 w3 w4 W).mono fun e W' ⟨he, bel⟩ => ?_
  subst he
  exact ⟨_, rfl, _, _, _, [], _, [], hW', trodAll_mk1 (shut_bool Try.underlying4 _), (trodAll_cons_mk (Below.trod laidOut (by kernel_rfl) (of_decide_eq_true (by kernel_rfl)) k0 bel lt0) (trodAll_cons_mk (Below.trod laidOut (by kernel_rfl) (of_decide_eq_true (by kernel_rfl)) k1 bel lt1) (trodAll_cons_mk (Below.trod laidOut (by kernel_rfl) (of_decide_eq_true (by kernel_rfl)) k2 bel lt2) (trodAll_cons_mk (shut_int Try.underlying5 w3) (trodAll_cons_mk (shut_int Try.underlying5 w4) trodAll_mk0))))), rfl, bel.frame _, fun h => by cases h⟩

/-- THE STATEMENT. -/
theorem proved : Rows.SegAddressedSaid :=
  OpenClaim.holds_of_wide 8 Try.f8 rfl rfl rfl rfl rfl rfl rfl ⟨rfl, rfl, rfl, rfl, rfl⟩ rfl rfl rfl rfl rfl (by kernel_rfl) Try.func8 (by kernel_rfl)
    (of_decide_eq_true (by kernel_rfl)) (by unfold Func.isWrapper; first | (rw [if_pos (by decide +kernel)]; kernel_rfl) | (rw [if_neg (by decide +kernel)]; exact ⟨rfl, rfl⟩))
    (fun os started H enc _ => lifted os started H enc)
#print axioms proved

end Go.Proofs.Ytbjoibgkhooljaa.sga
