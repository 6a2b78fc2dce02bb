/-
  Layer 10: the program's functions: a segment's length, its bytes, the sum that holds its addresses. Conditions: a text has at most 2^47 bytes, one that is summed at most 60,000.
-/
import Derived.Test.YtbjoibgkhooljaaSgM
import Derived.Test.YtbjoibgkhooljaaIcB
import Derived.Test.YtbjoibgkhooljaaIpD
import Derived.Test.YtbjoibgkhooljaaArpE
namespace Go.Proofs.Ytbjoibgkhooljaa
open Go.RowKit Go.Sort
set_option linter.unusedVariables false

/-- The cells of an address, kept closed; an address in a block of its own. -/
def ipC (i : Ip4) : Array Value := #[.int .u8 (i.a.toNat : Int), .int .u8 (i.b.toNat : Int), .int .u8 (i.c.toNat : Int), .int .u8 (i.d.toNat : Int)]
def IpBx (w : World) (n : Nat) (i : Ip4) : Prop := w.heap[n]? = some (.cells (ipC i) 33 (0, 0))
section
variable {w w' : World} {n : Nat} {i : Ip4}
theorem IpBx.grow (h : IpBx w n i) (hb : Below w.heap.size w w') : IpBx w' n i := (hb.block n (lt_of_block h)).trans h
theorem IpBx.kept (h : IpBx w n i) (k : w'.heap[n]? = w.heap[n]?) : IpBx w' n i := k.trans h
theorem IpBx.lt (h : IpBx w n i) : n < w.heap.size := lt_of_block h
theorem IpBx.holds (h : IpBx w n i) : Holds eb w n 0 i.list.toArray := by
  intro j hj
  have hj4 : j < 4 := hj
  refine ⟨?_, by simp [World.frozen?, show w.heap[n]? = _ from h]⟩
  rw [cell_of_block h]
  rcases j with _ | _ | _ | _ | j <;> first | rfl | omega
end
theorem ipb_new (w : World) (n : Nat) (i : Ip4) (h : n = w.heap.size) : IpBx (w.alloc (.cells (ipC i) 33)) n i := by rw [h]; exact heap_alloc_new w _
section
variable {ops : Array Oper} {rest : List Oper} {S : World → Prop} {o : Oper} {a : Act} {w : World} {Q : Exit → Act → World → Prop}
theorem yields_ipb (hw : Region.wanted o (yielded ops a.tmps) = true) (x : Operand) (ho : o.op = .load 33 x)
    (b : Nat) (hx : a.eval x = .pointer (some ⟨b, 0, none⟩)) (i : Ip4) (hS : ∀ w, S w → IpBx w b i) : YieldsIf Try.prog ops S o (.agg (ipC i)) a :=
  .inl ⟨hw, fun w h => exec_load 33 x ho b hx (ipC i) _ (hS w h) Try.underlying33 rfl (by kernel_rfl)⟩
theorem ipb_ld (hw : Region.wanted o (yielded ops a.tmps) = true) (x : Operand) (ho : o.op = .load 33 x)
    (b : Nat) (hx : a.eval x = .pointer (some ⟨b, 0, none⟩)) (i : Ip4) (hb : IpBx w b i) (h : wpList Try.prog ops Q rest (a.put o.dst (.agg (ipC i))) w) : wpList Try.prog ops Q (o :: rest) a w :=
  wpList_value hw _ (exec_load 33 x ho b hx (ipC i) _ hb Try.underlying33 rfl (by kernel_rfl)) h
end
/-- A segment and two addresses, a block each. -/
structure SgBx (w : World) (n m k : Nat) (f : Sg) (i j : Ip4) : Prop where
  sg : SgAt w n f
  ia : IpBx w m i
  ja : IpBx w k j
theorem SgBx.grow {w w' : World} {n m k : Nat} {f : Sg} {i j : Ip4} (h : SgBx w n m k f i j) (b : Below w.heap.size w w') : SgBx w' n m k f i j := ⟨h.sg.grow b, h.ia.grow b, h.ja.grow b⟩
theorem SgBx.kept {w w' : World} {n m k : Nat} {f : Sg} {i j : Ip4} (h : SgBx w n m k f i j) (b : ∀ p, p < w.heap.size → w'.heap[p]? = w.heap[p]?) : SgBx w' n m k f i j := ⟨h.sg.kept (b _ h.sg.lt), h.ia.kept (b _ h.ia.lt), h.ja.kept (b _ h.ja.lt)⟩
theorem sgbx_new (w : World) (f : Sg) (i j : Ip4) : ∃ n m k, w.heap.size = n ∧ w.heap.size + 1 = m ∧ w.heap.size + 1 + 1 = k ∧ SgBx (((w.alloc (.cells (sgC f) 47)).alloc (.cells (ipC i) 33)).alloc (.cells (ipC j) 33)) n m k f i j ∧ Below w.heap.size w (((w.alloc (.cells (sgC f) 47)).alloc (.cells (ipC i) 33)).alloc (.cells (ipC j) 33)) := by
  refine ⟨_, _, _, rfl, rfl, rfl, ⟨?_, ?_, ?_⟩, ?_⟩
  · exact ((sg_new w _ f rfl).grow ((Below.refl _ _).alloc (Nat.le_refl _) _)).grow ((Below.refl _ _).alloc (Nat.le_refl _) _)
  · exact (ipb_new _ _ i (by simp)).grow ((Below.refl _ _).alloc (Nat.le_refl _) _)
  · exact ipb_new _ _ j (by simp)
  · exact (((Below.refl _ _).alloc (Nat.le_refl _) _).alloc (by simp) _).alloc (by simp <;> omega) _
theorem ipbx_new (w : World) (i j : Ip4) : ∃ m k, w.heap.size = m ∧ w.heap.size + 1 = k ∧ (IpBx ((w.alloc (.cells (ipC i) 33)).alloc (.cells (ipC j) 33)) m i ∧ IpBx ((w.alloc (.cells (ipC i) 33)).alloc (.cells (ipC j) 33)) k j) ∧ Below w.heap.size w ((w.alloc (.cells (ipC i) 33)).alloc (.cells (ipC j) 33)) := by
  refine ⟨_, _, rfl, rfl, ⟨?_, ?_⟩, ?_⟩
  · exact (ipb_new w _ i rfl).grow ((Below.refl _ _).alloc (Nat.le_refl _) _)
  · exact ipb_new _ _ j (by simp)
  · exact ((Below.refl _ _).alloc (Nat.le_refl _) _).alloc (by simp) _

theorem and_powS (X k : Nat) : X &&& 2 ^ k = if X.testBit k = true then 2 ^ k else 0 := by
  apply Nat.eq_of_testBit_eq
  intro t
  rw [Nat.testBit_and, Nat.testBit_two_pow]
  by_cases e : k = t
  · subst e
    cases h : X.testBit k <;> simp
  · rw [decide_eq_false e, Bool.and_false]
    split
    · rw [Nat.testBit_two_pow, decide_eq_false e]
    · simp
theorem and_bitS (x : Int) (k : Nat) (hk : k < 63) : bits .and .i64 x ((2 ^ k : Nat) : Int) = if x / ((2 ^ k : Nat) : Int) % 2 = 1 then ((2 ^ k : Nat) : Int) else 0 := by
  have hp : 2 ^ k < 2 ^ 63 := Nat.pow_lt_pow_right (by decide) hk
  have h2 : (BitVec.ofInt 64 ((2 ^ k : Nat) : Int)).toNat = 2 ^ k := by
    rw [BitVec.ofInt_natCast, BitVec.toNat_ofNat]; exact Nat.mod_eq_of_lt (by omega)
  obtain ⟨X, hX⟩ : ∃ X, X = (BitVec.ofInt 64 x).toNat := ⟨_, rfl⟩
  have h1 : (X : Int) = x % 18446744073709551616 := by
    rw [hX, BitVec.toNat_ofInt, Int.toNat_of_nonneg (Int.emod_nonneg _ (by decide))]; rfl
  show IntKind.i64.wrap ((BitVec.ofInt 64 x &&& BitVec.ofInt 64 ((2 ^ k : Nat) : Int)).toNat : Int) = _
  rw [BitVec.toNat_and, h2, ← hX, and_powS, Nat.testBit_eq_decide_div_mod_eq]
  have hd : (X / 2 ^ k % 2 = 1) ↔ (x / ((2 ^ k : Nat) : Int) % 2 = 1) := by
    obtain ⟨q, hq⟩ : ∃ q : Int, x = (X : Int) + q * 18446744073709551616 := ⟨x / 18446744073709551616, by omega⟩
    obtain ⟨D, hD⟩ : ∃ D : Nat, D * 2 ^ k = 2 ^ 63 := ⟨2 ^ (63 - k), by rw [← Nat.pow_add]; congr 1; omega⟩
    have hpos : 0 < 2 ^ k := Nat.two_pow_pos k
    have e : x / ((2 ^ k : Nat) : Int) = ((X / 2 ^ k : Nat) : Int) + q * (2 * D) := by
      have h64 : (18446744073709551616 : Int) = ((2 ^ k : Nat) : Int) * (2 * (D : Int)) := by
        have : ((D * 2 ^ k : Nat) : Int) = ((2 ^ 63 : Nat) : Int) := by rw [hD]
        rw [Int.natCast_mul] at this
        have h63 : ((2 ^ 63 : Nat) : Int) = 9223372036854775808 := rfl
        rw [h63] at this
        rw [Int.mul_left_comm, Int.mul_comm ((2 ^ k : Nat) : Int), this]; rfl
      rw [hq, h64, show q * (((2 ^ k : Nat) : Int) * (2 * (D : Int))) = ((2 ^ k : Nat) : Int) * (q * (2 * (D : Int))) by rw [Int.mul_left_comm], Int.add_mul_ediv_left _ _ (by omega)]
      rw [← Int.natCast_ediv]
    rw [e]
    have : (((X / 2 ^ k : Nat) : Int) + q * (2 * D)) % 2 = ((X / 2 ^ k : Nat) : Int) % 2 := by
      rw [show q * (2 * (D : Int)) = 2 * (q * D) by rw [Int.mul_left_comm], Int.add_mul_emod_self_left]
    rw [this]
    omega
  by_cases hc : X / 2 ^ k % 2 = 1
  · rw [if_pos (hd.1 hc), decide_eq_true hc, if_pos rfl, IntWalk.i64_in _ (by omega)]
  · rw [if_neg (fun e => hc (hd.2 e)), decide_eq_false hc, if_neg (by decide)]
    decide
theorem and_2 (x : Int) : bits .and .i64 x 2 = if x / 2 % 2 = 1 then 2 else 0 := and_bitS x 1 (by decide)
theorem and_1 (x : Int) : bits .and .i64 x 1 = if x % 2 = 1 then 1 else 0 := by
  have := and_bitS x 0 (by decide)
  rw [show ((2 ^ 0 : Nat) : Int) = 1 from rfl, Int.ediv_one] at this
  exact this

theorem within10 (w : World) (x n : Int) :
    Calls Try.prog 87 #[.int .i64 x, .int .i64 n] w fun e w' => e = .returned (.bool (decide (0 ≤ x ∧ x ≤ n))) ∧ w = w' := by
  by_cases h : 0 ≤ x
  · have e : decide (0 ≤ x ∧ x ≤ n) = decide (x ≤ n) := by simp [h]
    rw [e]
    clear e
    go_enter Try.func87, Try.ntmps87
    go_wp2
    go_ret
    exact ⟨rfl, rfl⟩
  · have e : decide (0 ≤ x ∧ x ≤ n) = false := decide_eq_false (fun g => h g.1)
    rw [e]
    clear e
    go_enter Try.func87, Try.ntmps87
    go_wp2
    go_ret
    exact ⟨rfl, rfl⟩
theorem number10 (w : World) (x n : Int) (h0 : 0 ≤ x) (h1 : x ≤ 9223372036854775807) (L : List UInt8) (hL : L = (leL x n).reverse) :
    Calls Try.prog 59 #[.int .i64 x, .int .i64 n] w fun e w' => e = .returned (.string ⟨L.toArray⟩) ∧ Below w.heap.size w w' := by
  subst hL
  have hw : IntKind.u64.wrap x = x := IntWalk.u64_in _ (by omega)
  go_enter Try.func59, Try.ntmps59
  go_wp2_with fail
  refine (Big_all _ x n h0).mono ?_
  rintro e w1 ⟨rfl, k1⟩
  go_wp2_with fail
  go_ret
  exact ⟨rfl, Below.of_none k1⟩
theorem options_any (w : World) (f : Sg) (h : 0 ≤ f.ms ∧ f.ms ≤ 65535) (O : List UInt8) (hO : O = opL f) :
    Calls Try.prog 58 #[.int .i64 f.ms] w fun e w' => e = .returned (.string ⟨O.toArray⟩) ∧ Below w.heap.size w w' := by
  by_cases hm : f.ms = 0
  · have hO2 : O = [] := by rw [hO, opL, if_pos hm]
    have hb : (f.ms == 0) = true := by simp [hm]
    subst hO2
    clear hO hm
    go_enter Try.func58, Try.ntmps58
    go_wp2_with fail
    go_ret
    exact ⟨rfl, Below.refl _ _⟩
  · have hO2 : O = [UInt8.ofNat 2] ++ [UInt8.ofNat 4] ++ two f.ms.toNat := by rw [hO, opL, if_neg hm]
    have hb : (f.ms == 0) = false := by simpa using hm
    obtain ⟨A1, h1⟩ : ∃ L : List UInt8, L = [UInt8.ofNat 2] := ⟨_, rfl⟩
    obtain ⟨A2, h2⟩ : ∃ L : List UInt8, L = [UInt8.ofNat 4] := ⟨_, rfl⟩
    obtain ⟨A3, h3⟩ : ∃ L : List UInt8, L = two f.ms.toNat := ⟨_, rfl⟩
    obtain ⟨A4, h4⟩ : ∃ L : List UInt8, L = A1 ++ A2 := ⟨_, rfl⟩
    have k1 := Lib.hid (fun w => number10 w 2 1 (by decide) (by decide) A1 (by rw [h1, be1]; rfl))
    have k2 := Lib.hid (fun w => number10 w 4 1 (by decide) (by decide) A2 (by rw [h2, be1]; rfl))
    have k3 := Lib.hid (fun w => number10 w f.ms 2 h.1 (by omega) A3 (by rw [h3, be2]))
    have C1 := Lib.hid (fun w => add_lst w A1 A2 A4 h4 (by rw [h4, h1, h2]; decide))
    have C2 := Lib.hid (fun w => add_lst w A4 A3 O (by rw [hO2, h4, h1, h2, h3]) (by rw [hO2]; show 4 ≤ 70000; omega))
    clear hO hO2 h1 h2 h3 h4 hm h
    go_enter Try.func58, Try.ntmps58
    go_wp2_with fail
    refine (k1.out _).mono ?_
    rintro e w1 ⟨rfl, b1⟩
    have B1 := Lib.hid b1
    go_wp2_with fail
    refine (k2.out _).mono ?_
    rintro e w2 ⟨rfl, b2⟩
    have B2 := bstep B1 b2
    have c1 := C1.out w2
    go_wp2_with fail
    refine (k3.out _).mono ?_
    rintro e w3 ⟨rfl, b3⟩
    have B3 := bstep B2 b3
    have c2 := C2.out w3
    go_wp2_with fail
    go_ret
    exact ⟨rfl, B3.out⟩
set_option maxRecDepth 100000 in
set_option maxHeartbeats 2000000 in
theorem mayBe10 (w : World) (f : Sg) :
    Calls Try.prog 57 #[.agg (sgC f)] w fun e w' => e = .returned (.bool (maySg f)) ∧ Below w.heap.size w w' := by
  have k1 := Lib.hid (fun w => within10 w f.fr 65535)
  have k2 := Lib.hid (fun w => within10 w f.dt 65535)
  have k3 := Lib.hid (fun w => within10 w f.fl 31)
  have k4 := Lib.hid (fun w => within10 w f.wi 65535)
  have k5 := Lib.hid (fun w => within10 w f.ms 65535)
  by_cases h1 : 0 ≤ f.fr ∧ f.fr ≤ 65535
  case neg =>
    have hM : maySg f = false := decide_eq_false (fun g => h1 g.1)
    rw [decide_eq_false h1] at k1
    rw [hM]
    clear hM h1
    go_enter Try.func57, Try.ntmps57
    go_upto_region 1 with fail
    have FA : Hid (SgAt (w.alloc (.cells (sgC f) 47)) w.heap.size f) := Lib.hid (sg_new w _ f rfl)
    have BL : Hid (Below w.heap.size w (w.alloc (.cells (sgC f) 47))) := Lib.hid ((Below.refl _ _).alloc (Nat.le_refl _) _)
    generalize w.alloc _ = W1 at FA BL ⊢
    obtain ⟨c0, c1, c2, c3, c4, c5, c6, c7⟩ := FA.out.all
    go_wp2_with fail
    refine (k1.out _).mono ?_
    rintro e v1 ⟨rfl, rfl⟩
    go_wp2_with fail
    go_ret
    exact ⟨rfl, BL.out⟩
  rw [decide_eq_true h1] at k1
  by_cases h2 : 0 ≤ f.dt ∧ f.dt ≤ 65535
  case neg =>
    have hM : maySg f = false := decide_eq_false (fun g => h2 g.2.1)
    rw [decide_eq_false h2] at k2
    rw [hM]
    clear hM h2
    go_enter Try.func57, Try.ntmps57
    go_upto_region 1 with fail
    have FA : Hid (SgAt (w.alloc (.cells (sgC f) 47)) w.heap.size f) := Lib.hid (sg_new w _ f rfl)
    have BL : Hid (Below w.heap.size w (w.alloc (.cells (sgC f) 47))) := Lib.hid ((Below.refl _ _).alloc (Nat.le_refl _) _)
    generalize w.alloc _ = W1 at FA BL ⊢
    obtain ⟨c0, c1, c2, c3, c4, c5, c6, c7⟩ := FA.out.all
    go_wp2_with fail
    refine (k1.out _).mono ?_
    rintro e v1 ⟨rfl, rfl⟩
    go_wp2_with fail
    refine (k2.out _).mono ?_
    rintro e v2 ⟨rfl, rfl⟩
    go_wp2_with fail
    go_ret
    exact ⟨rfl, BL.out⟩
  rw [decide_eq_true h2] at k2
  by_cases h3 : 0 ≤ f.fl ∧ f.fl ≤ 31
  case neg =>
    have hM : maySg f = false := decide_eq_false (fun g => h3 g.2.2.1)
    rw [decide_eq_false h3] at k3
    rw [hM]
    clear hM h3
    go_enter Try.func57, Try.ntmps57
    go_upto_region 1 with fail
    have FA : Hid (SgAt (w.alloc (.cells (sgC f) 47)) w.heap.size f) := Lib.hid (sg_new w _ f rfl)
    have BL : Hid (Below w.heap.size w (w.alloc (.cells (sgC f) 47))) := Lib.hid ((Below.refl _ _).alloc (Nat.le_refl _) _)
    generalize w.alloc _ = W1 at FA BL ⊢
    obtain ⟨c0, c1, c2, c3, c4, c5, c6, c7⟩ := FA.out.all
    go_wp2_with fail
    refine (k1.out _).mono ?_
    rintro e v1 ⟨rfl, rfl⟩
    go_wp2_with fail
    refine (k2.out _).mono ?_
    rintro e v2 ⟨rfl, rfl⟩
    go_wp2_with fail
    refine (k3.out _).mono ?_
    rintro e v3 ⟨rfl, rfl⟩
    go_wp2_with fail
    go_ret
    exact ⟨rfl, BL.out⟩
  rw [decide_eq_true h3] at k3
  by_cases h4 : 0 ≤ f.wi ∧ f.wi ≤ 65535
  case neg =>
    have hM : maySg f = false := decide_eq_false (fun g => h4 g.2.2.2.1)
    rw [decide_eq_false h4] at k4
    rw [hM]
    clear hM h4
    go_enter Try.func57, Try.ntmps57
    go_upto_region 1 with fail
    have FA : Hid (SgAt (w.alloc (.cells (sgC f) 47)) w.heap.size f) := Lib.hid (sg_new w _ f rfl)
    have BL : Hid (Below w.heap.size w (w.alloc (.cells (sgC f) 47))) := Lib.hid ((Below.refl _ _).alloc (Nat.le_refl _) _)
    generalize w.alloc _ = W1 at FA BL ⊢
    obtain ⟨c0, c1, c2, c3, c4, c5, c6, c7⟩ := FA.out.all
    go_wp2_with fail
    refine (k1.out _).mono ?_
    rintro e v1 ⟨rfl, rfl⟩
    go_wp2_with fail
    refine (k2.out _).mono ?_
    rintro e v2 ⟨rfl, rfl⟩
    go_wp2_with fail
    refine (k3.out _).mono ?_
    rintro e v3 ⟨rfl, rfl⟩
    go_wp2_with fail
    refine (k4.out _).mono ?_
    rintro e v4 ⟨rfl, rfl⟩
    go_wp2_with fail
    go_ret
    exact ⟨rfl, BL.out⟩
  rw [decide_eq_true h4] at k4
  by_cases h5 : 0 ≤ f.ms ∧ f.ms ≤ 65535
  case neg =>
    have hM : maySg f = false := decide_eq_false (fun g => h5 g.2.2.2.2.1)
    rw [decide_eq_false h5] at k5
    rw [hM]
    clear hM h5
    go_enter Try.func57, Try.ntmps57
    go_upto_region 1 with fail
    have FA : Hid (SgAt (w.alloc (.cells (sgC f) 47)) w.heap.size f) := Lib.hid (sg_new w _ f rfl)
    have BL : Hid (Below w.heap.size w (w.alloc (.cells (sgC f) 47))) := Lib.hid ((Below.refl _ _).alloc (Nat.le_refl _) _)
    generalize w.alloc _ = W1 at FA BL ⊢
    obtain ⟨c0, c1, c2, c3, c4, c5, c6, c7⟩ := FA.out.all
    go_wp2_with fail
    refine (k1.out _).mono ?_
    rintro e v1 ⟨rfl, rfl⟩
    go_wp2_with fail
    refine (k2.out _).mono ?_
    rintro e v2 ⟨rfl, rfl⟩
    go_wp2_with fail
    refine (k3.out _).mono ?_
    rintro e v3 ⟨rfl, rfl⟩
    go_wp2_with fail
    refine (k4.out _).mono ?_
    rintro e v4 ⟨rfl, rfl⟩
    go_wp2_with fail
    refine (k5.out _).mono ?_
    rintro e v5 ⟨rfl, rfl⟩
    go_wp2_with fail
    go_ret
    exact ⟨rfl, BL.out⟩
  rw [decide_eq_true h5] at k5
  by_cases hm : f.ms = 0
  · have hM : maySg f = true := decide_eq_true ⟨h1, h2, h3, h4, h5, .inl hm⟩
    have hb : (f.ms == 0) = true := by simp [hm]
    rw [hM]
    clear hM h1 h2 h3 h4 h5 hm
    go_enter Try.func57, Try.ntmps57
    go_upto_region 1 with fail
    have FA : Hid (SgAt (w.alloc (.cells (sgC f) 47)) w.heap.size f) := Lib.hid (sg_new w _ f rfl)
    have BL : Hid (Below w.heap.size w (w.alloc (.cells (sgC f) 47))) := Lib.hid ((Below.refl _ _).alloc (Nat.le_refl _) _)
    generalize w.alloc _ = W1 at FA BL ⊢
    obtain ⟨c0, c1, c2, c3, c4, c5, c6, c7⟩ := FA.out.all
    go_wp2_with fail
    refine (k1.out _).mono ?_
    rintro e v1 ⟨rfl, rfl⟩
    go_wp2_with fail
    refine (k2.out _).mono ?_
    rintro e v2 ⟨rfl, rfl⟩
    go_wp2_with fail
    refine (k3.out _).mono ?_
    rintro e v3 ⟨rfl, rfl⟩
    go_wp2_with fail
    refine (k4.out _).mono ?_
    rintro e v4 ⟨rfl, rfl⟩
    go_wp2_with fail
    refine (k5.out _).mono ?_
    rintro e v5 ⟨rfl, rfl⟩
    go_wp2_with fail
    go_ret
    exact ⟨rfl, BL.out⟩
  · have hb : (f.ms == 0) = false := by simpa using hm
    have ha := and_2 f.fl
    by_cases hs : f.fl / 2 % 2 = 1
    · have hM : maySg f = true := decide_eq_true ⟨h1, h2, h3, h4, h5, .inr hs⟩
      rw [if_pos hs] at ha
      rw [hM]
      clear hM h1 h2 h3 h4 h5 hm hs
      go_enter Try.func57, Try.ntmps57
      go_upto_region 1 with fail
      have FA : Hid (SgAt (w.alloc (.cells (sgC f) 47)) w.heap.size f) := Lib.hid (sg_new w _ f rfl)
      have BL : Hid (Below w.heap.size w (w.alloc (.cells (sgC f) 47))) := Lib.hid ((Below.refl _ _).alloc (Nat.le_refl _) _)
      generalize w.alloc _ = W1 at FA BL ⊢
      obtain ⟨c0, c1, c2, c3, c4, c5, c6, c7⟩ := FA.out.all
      go_wp2_with fail
      refine (k1.out _).mono ?_
      rintro e v1 ⟨rfl, rfl⟩
      go_wp2_with fail
      refine (k2.out _).mono ?_
      rintro e v2 ⟨rfl, rfl⟩
      go_wp2_with fail
      refine (k3.out _).mono ?_
      rintro e v3 ⟨rfl, rfl⟩
      go_wp2_with fail
      refine (k4.out _).mono ?_
      rintro e v4 ⟨rfl, rfl⟩
      go_wp2_with fail
      refine (k5.out _).mono ?_
      rintro e v5 ⟨rfl, rfl⟩
      go_wp2_with fail
      go_ret
      exact ⟨rfl, BL.out⟩
    · have hM : maySg f = false := decide_eq_false (fun g => g.2.2.2.2.2.elim hm hs)
      rw [if_neg hs] at ha
      rw [hM]
      clear hM h1 h2 h3 h4 h5 hm hs
      go_enter Try.func57, Try.ntmps57
      go_upto_region 1 with fail
      have FA : Hid (SgAt (w.alloc (.cells (sgC f) 47)) w.heap.size f) := Lib.hid (sg_new w _ f rfl)
      have BL : Hid (Below w.heap.size w (w.alloc (.cells (sgC f) 47))) := Lib.hid ((Below.refl _ _).alloc (Nat.le_refl _) _)
      generalize w.alloc _ = W1 at FA BL ⊢
      obtain ⟨c0, c1, c2, c3, c4, c5, c6, c7⟩ := FA.out.all
      go_wp2_with fail
      refine (k1.out _).mono ?_
      rintro e v1 ⟨rfl, rfl⟩
      go_wp2_with fail
      refine (k2.out _).mono ?_
      rintro e v2 ⟨rfl, rfl⟩
      go_wp2_with fail
      refine (k3.out _).mono ?_
      rintro e v3 ⟨rfl, rfl⟩
      go_wp2_with fail
      refine (k4.out _).mono ?_
      rintro e v4 ⟨rfl, rfl⟩
      go_wp2_with fail
      refine (k5.out _).mono ?_
      rintro e v5 ⟨rfl, rfl⟩
      go_wp2_with fail
      go_ret
      exact ⟨rfl, BL.out⟩
set_option maxRecDepth 100000 in
set_option maxHeartbeats 1000000 in
theorem Len10 (w : World) (f : Sg) (hz : f.da.size ≤ 140737488355328) :
    Calls Try.prog 24 #[.agg (sgC f)] w fun e w' => e = .returned (.int .i64 (sgN f)) ∧ Below w.heap.size w w' := by
  have a1 := and_1 f.fl
  have a2 := and_2 f.fl
  have w1 : IntKind.i64.wrap ((f.da.size : Int) + 1) = (f.da.size : Int) + 1 := IntWalk.i64_in _ (by omega)
  have w2 : IntKind.i64.wrap ((f.da.size : Int) + 1 + 1) = (f.da.size : Int) + 1 + 1 := IntWalk.i64_in _ (by omega)
  have hN : sgN f = (f.da.size : Int) + (if f.fl / 2 % 2 = 1 then 1 else 0) + (if f.fl % 2 = 1 then 1 else 0) := rfl
  generalize sgN f = M at hN ⊢
  by_cases h2 : f.fl / 2 % 2 = 1 <;> by_cases h1 : f.fl % 2 = 1
  all_goals
    first | rw [if_pos h2] at hN a2 | rw [if_neg h2] at hN a2
    first | rw [if_pos h1] at hN a1 | rw [if_neg h1] at hN a1
    try rw [Int.add_zero] at hN
    try rw [Int.add_zero] at hN
    subst hN
    clear h1 h2 hz
    go_enter Try.func24, Try.ntmps24
    go_upto_region 1 with fail
    have FA : Hid (SgAt (w.alloc (.cells (sgC f) 47)) w.heap.size f) := Lib.hid (sg_new w _ f rfl)
    have BL : Hid (Below w.heap.size w (w.alloc (.cells (sgC f) 47))) := Lib.hid ((Below.refl _ _).alloc (Nat.le_refl _) _)
    generalize w.alloc _ = W1 at FA BL ⊢
    obtain ⟨c0, c1, c2, c3, c4, c5, c6, c7⟩ := FA.out.all
    go_wp2_with fail
    go_ret
    exact ⟨rfl, BL.out⟩
set_option maxRecDepth 100000 in
set_option maxHeartbeats 2000000 in
theorem sumOf_any (w : World) (b : List UInt8) (i j : Ip4) (hb : b.length ≤ 60000) (K : Nat) (hK : K = sumS i j b) :
    Calls Try.prog 47 #[.string ⟨b.toArray⟩, .agg (ipC i), .agg (ipC j)] w fun e w' => e = .returned (.int .i64 (K : Int)) ∧ Below w.heap.size w w' := by
  obtain ⟨n, hn⟩ : ∃ n, n = b.length := ⟨_, rfl⟩
  obtain ⟨T1, t1⟩ : ∃ L, L = i.list ++ j.list := ⟨_, rfl⟩
  obtain ⟨T6, t6⟩ : ∃ L, L = two 6 := ⟨_, rfl⟩
  obtain ⟨TN, tn⟩ : ∃ L, L = two n := ⟨_, rfl⟩
  obtain ⟨T2, t2⟩ : ∃ L, L = T1 ++ T6 := ⟨_, rfl⟩
  obtain ⟨T3, t3⟩ : ∃ L, L = T2 ++ TN := ⟨_, rfl⟩
  obtain ⟨T4, t4⟩ : ∃ L, L = T3 ++ b := ⟨_, rfl⟩
  have l1 : T1.length = 8 := by rw [t1]; rfl
  have l6 : T6.length = 2 := by rw [t6]; rfl
  have ln : TN.length = 2 := by rw [tn]; rfl
  have l2 : T2.length = 10 := by rw [t2, List.length_append, l1, l6]
  have l3 : T3.length = 12 := by rw [t3, List.length_append, l2, ln]
  have l4 : T4.length = 12 + n := by rw [t4, List.length_append, l3, hn]
  have e4 : T4 = preL i j b.length ++ b := by rw [t4, t3, t2, t1, t6, tn, hn, preL]
  have C1 := Lib.hid (fun w => add_lst w i.list j.list T1 t1 (by omega))
  have C2 := Lib.hid (fun w => add_lst w T1 T6 T2 t2 (by omega))
  have C3 := Lib.hid (fun w => add_lst w T2 TN T3 t3 (by omega))
  have C4 := Lib.hid (fun w => add_lst w T3 b T4 t4 (by omega))
  have HN : Hid (b.toArray.size = n) := Lib.hid (by rw [List.size_toArray, hn])
  have k1 := Lib.hid (fun w => number10 w 6 2 (by decide) (by decide) T6 (by rw [t6, be2]; rfl))
  have k2 := Lib.hid (fun w => number10 w (n : Int) 2 (by omega) (by omega) TN (by rw [tn, be2]; rfl))
  have k3 := Lib.hid (fun w => Sum_any w ⟨T4.toArray⟩ (by show T4.toArray.size ≤ _; rw [List.size_toArray, l4]; omega))
  rw [show (⟨T4.toArray⟩ : ByteArray).data.toList = T4 from rfl, e4, show sumT (preL i j b.length ++ b) = K from hK.symm, ← e4] at k3
  clear hn t1 t6 tn t2 t3 t4 l1 l6 ln l2 l3 l4 e4 hb hK
  go_enter Try.func47, Try.ntmps47
  go_upto_region 1 with fail
  obtain ⟨m, k, hm, hk, fa, bl⟩ := ipbx_new w i j
  have FA := Lib.hid fa
  have BL := Lib.hid bl
  clear fa bl
  generalize World.alloc _ _ = W1 at FA BL ⊢
  try rw [hk]
  try rw [hm]
  clear hm hk
  refine wp_region_noPanic ?_
  refine region_heldE (S := fun w' => IpBx w' m i ∧ IpBx w' k j) (by kernel_rfl) (fun V d => ⟨FA.out.1.kept (d.block _), FA.out.2.kept (d.block _)⟩) (fun V d hS => ?_)
  have BV0 := bstep BL d.below
  clear d BL
  refine wpAnyH_take (i := 0) (oi := ⟨some 7, Op.slice 33 (Operand.tmp 4) none none none, _, _, _, none⟩) (v := (.slice (some ⟨m, 0, none⟩) 4 4)) rfl (by kernel_rfl) (by kernel_rfl) (by kernel_rfl) (fun _ _ _ h => h) (Or.inl ⟨by rfl, fun w' h' => ?_⟩) hS ?_
  · clear h'
    go_simp
  simp only [Act.put]
  refine wpAnyH_take (i := 1) (oi := ⟨some 8, Op.convert 61 9 (Operand.tmp 7), _, _, _, none⟩) (v := (.string ⟨i.list.toArray⟩)) rfl (by kernel_rfl) (by kernel_rfl) (by kernel_rfl) (fun _ _ _ h => h) (Or.inl ⟨by rfl, fun w' h' => ?_⟩) hS ?_
  · have c0 := conv_text w' m 0 4 4 _ (ip_len i) (IpBx.holds h'.1)
    clear h'
    go_simp
  simp only [Act.put]
  refine wpAnyH_take (i := 2) (oi := ⟨some 9, Op.slice 33 (Operand.tmp 5) none none none, _, _, _, none⟩) (v := (.slice (some ⟨k, 0, none⟩) 4 4)) rfl (by kernel_rfl) (by kernel_rfl) (by kernel_rfl) (fun _ _ _ h => h) (Or.inl ⟨by rfl, fun w' h' => ?_⟩) hS ?_
  · clear h'
    go_simp
  simp only [Act.put]
  refine wpAnyH_take (i := 3) (oi := ⟨some 10, Op.convert 61 9 (Operand.tmp 9), _, _, _, none⟩) (v := (.string ⟨j.list.toArray⟩)) rfl (by kernel_rfl) (by kernel_rfl) (by kernel_rfl) (fun _ _ _ h => h) (Or.inl ⟨by rfl, fun w' h' => ?_⟩) hS ?_
  · have c0 := conv_text w' k 0 4 4 _ (ip_len j) (IpBx.holds h'.2)
    clear h'
    go_simp
  simp only [Act.put]
  refine wpAnyH_take (i := 4) (oi := ⟨some 11, Op.binOp BinOp.add 9 (Operand.tmp 8) (Operand.tmp 10) 9, _, _, _, none⟩) (v := (.string ⟨T1.toArray⟩)) rfl (by kernel_rfl) (by kernel_rfl) (by kernel_rfl) (fun _ _ _ h => h) (Or.inl ⟨by rfl, fun w' h' => ?_⟩) hS ?_
  · have c0 := C1.out w'
    clear h'
    go_simp
  simp only [Act.put]
  refine wpAnyH_take (i := 7) (oi := ⟨some 14, Op.move (Operand.tmp 0), _, _, _, none⟩) (v := (.string ⟨b.toArray⟩)) rfl (by kernel_rfl) (by kernel_rfl) (by kernel_rfl) (fun _ _ _ h => h) (Or.inl ⟨by rfl, fun w' h' => ?_⟩) hS ?_
  · clear h'
    go_simp
  simp only [Act.put]
  refine wpAnyH_take (i := 8) (oi := ⟨some 15, Op.call { callee := Callee.builtin Builtin.len, args := #[(Operand.tmp 14)], argTypes := #[9] }, _, _, _, none⟩) (v := (.int .i64 (n : Int))) rfl (by kernel_rfl) (by kernel_rfl) (by kernel_rfl) (fun _ _ _ h => h) (Or.inl ⟨by rfl, fun w' h' => ?_⟩) hS ?_
  · have c0 := HN.out
    clear h'
    go_simp
  simp only [Act.put]
  refine wpAnyH_take (i := 11) (oi := ⟨some 18, Op.move (Operand.tmp 0), _, _, _, none⟩) (v := (.string ⟨b.toArray⟩)) rfl (by kernel_rfl) (by kernel_rfl) (by kernel_rfl) (fun _ _ _ h => h) (Or.inl ⟨by rfl, fun w' h' => ?_⟩) hS ?_
  · clear h'
    go_simp
  simp only [Act.put]
  refine wpAnyH_ready (rs := [5]) (by kernel_rfl) (by simp) ?_
  refine AllReadyH.cons rfl (fun K hK => ?_) AllReadyH.nil
  go_simp
  refine (k1.out _).mono ?_
  rintro e v1 ⟨rfl, b1⟩
  have S1 := And.intro (hS.1.grow b1) (hS.2.grow b1)
  have BV1 := bstep BV0 b1
  clear b1 BV0
  go_simp
  refine hK.out _ _ S1 (fun _ => ?_)
  clear hK K
  refine wpAnyH_take (i := 6) (oi := ⟨some 13, Op.binOp BinOp.add 9 (Operand.tmp 11) (Operand.tmp 12) 9, _, _, _, none⟩) (v := (.string ⟨T2.toArray⟩)) rfl (by kernel_rfl) (by kernel_rfl) (by kernel_rfl) (fun _ _ _ h => h) (Or.inl ⟨by rfl, fun w' h' => ?_⟩) S1 ?_
  · have c0 := C2.out w'
    clear h'
    go_simp
  simp only [Act.put]
  refine wpAnyH_ready (rs := [9]) (by kernel_rfl) (by simp) ?_
  refine AllReadyH.cons rfl (fun K hK => ?_) AllReadyH.nil
  go_simp
  refine (k2.out _).mono ?_
  rintro e v2 ⟨rfl, b2⟩
  have S2 := And.intro (S1.1.grow b2) (S1.2.grow b2)
  have BV2 := bstep BV1 b2
  clear b2 BV1
  go_simp
  refine hK.out _ _ S2 (fun _ => ?_)
  clear hK K
  refine wpAnyH_take (i := 10) (oi := ⟨some 17, Op.binOp BinOp.add 9 (Operand.tmp 13) (Operand.tmp 16) 9, _, _, _, none⟩) (v := (.string ⟨T3.toArray⟩)) rfl (by kernel_rfl) (by kernel_rfl) (by kernel_rfl) (fun _ _ _ h => h) (Or.inl ⟨by rfl, fun w' h' => ?_⟩) S2 ?_
  · have c0 := C3.out w'
    clear h'
    go_simp
  simp only [Act.put]
  refine wpAnyH_take (i := 12) (oi := ⟨some 19, Op.binOp BinOp.add 9 (Operand.tmp 17) (Operand.tmp 18) 9, _, _, _, none⟩) (v := (.string ⟨T4.toArray⟩)) rfl (by kernel_rfl) (by kernel_rfl) (by kernel_rfl) (fun _ _ _ h => h) (Or.inl ⟨by rfl, fun w' h' => ?_⟩) S2 ?_
  · have c0 := C4.out w'
    clear h'
    go_simp
  simp only [Act.put]
  refine wpAnyH_ready (rs := [13]) (by kernel_rfl) (by simp) ?_
  refine AllReadyH.cons rfl (fun K hK => ?_) AllReadyH.nil
  go_simp
  refine (k3.out _).mono ?_
  rintro e v3 ⟨rfl, b3⟩
  have S3 := And.intro (S2.1.grow b3) (S2.2.grow b3)
  have BV3 := bstep BV2 b3
  clear b3 BV2
  go_simp
  refine hK.out _ _ S3 (fun _ => ?_)
  clear hK K
  refine wpAnyH_take (i := 14) (oi := ⟨some 6, Op.assign (Operand.tmp 20), _, _, _, none⟩) (v := (.int .i64 (K : Int))) rfl (by kernel_rfl) (by kernel_rfl) (by kernel_rfl) (fun _ _ _ h => h) (Or.inl ⟨by rfl, fun w' h' => ?_⟩) S3 ?_
  · clear h'
    go_simp
  simp only [Act.put]
  refine wpAnyH_done (by kernel_rfl) (NoPanic.normal ?_) _
  simp only [List.setIfInBounds_toArray, List.set_cons_zero, List.set_cons_succ]
  clear S1 S2 S3 hS
  go_wp2_with fail
  go_ret
  exact ⟨rfl, BV3.out⟩
theorem sumOf_str (w : World) (s : ByteArray) (i j : Ip4) (hb : s.size ≤ 60000) (K : Nat) (hK : K = sumS i j s.data.toList) :
    Calls Try.prog 47 #[.string s, .agg (ipC i), .agg (ipC j)] w fun e w' => e = .returned (.int .i64 (K : Int)) ∧ Below w.heap.size w w' := by
  have h := sumOf_any w s.data.toList i j (by rw [list_size]; exact hb) K hK
  simpa using h

end Go.Proofs.Ytbjoibgkhooljaa
