/-
  Layer 2, act 4 of both sides beside one another: what it answers, and what it leaves. Conditions: as said.
-/
import Derived.Test.YtjelgifijhcnnaaVDz
import Derived.Test.YtjelgifijhcnnaaVPm
import Derived.Test.YtjelgifijhcnnaaFoT
namespace Go.Proofs.Ytjelgifijhcnnaa
open Go.RowKit Go.Sort
set_option linter.unusedVariables false

theorem bufsC_grow {W W' : World} {v : Value} {l : List Bf} (h : IsBufs W v l ∧ OwnC W v) (b : Below W.heap.size W W') : IsBufs W' v l ∧ OwnC W' v := ⟨h.1.grown (below_none b), h.2.grown (below_none b)⟩
theorem bufsC_turned {W W' : World} {v : Value} {l : List Bf} (h : IsBufs W v l ∧ OwnC W v) {S : Nat → Prop} (t : Turned S W W') (hS : ∀ k, S k → ∀ cur r, W.heap[k]? ≠ some (.cells cur 66 r)) : IsBufs W' v l ∧ OwnC W' v := by
  refine ⟨?_, fun k e => ?_⟩
  · obtain ⟨p, cap, rfl, hl, hc⟩ := h.1
    refine ⟨p, cap, rfl, hl, fun h0 => ?_⟩
    obtain ⟨b, o, rfl, hi⟩ := hc h0
    refine ⟨b, o, rfl, fun i hlt => ?_⟩
    obtain ⟨cur, r, hb⟩ := h.2 b rfl
    have e : ∀ j, W'.cell? ⟨b, j, none⟩ = W.cell? ⟨b, j, none⟩ := fun j => World.cell?_of_block (w := W) (a := ⟨b, j, none⟩) (t.block b (Array.getElem?_eq_some_iff.1 hb).1 (fun hs => hS b hs _ _ hb))
    obtain ⟨h1, h2, h3⟩ := hi i hlt
    exact ⟨by rw [e]; exact h1, by rw [e]; exact h2, by rw [e]; exact h3⟩
  · obtain ⟨cur, r, hb⟩ := h.2 k e
    exact ⟨cur, r, (t.block k (Array.getElem?_eq_some_iff.1 hb).1 (fun hs => hS k hs _ _ hb)).trans hb⟩
theorem no_bufs {W : World} {k : Nat} {c : Array Value} {T : TypeId} {r : Nat × Nat} (h : W.heap[k]? = some (.cells c T r)) (hT : T ≠ 66) : ∀ cur r, W.heap[k]? ≠ some (.cells cur 66 r) := fun cur r e => by
  rw [h] at e
  injection e with e
  injection e with _ e
  exact hT e
theorem bufsC_row {W : World} {v : Value} {l : List Bf} (h : IsBufs W v l ∧ OwnC W v) {k : Nat} {c : Array Value} {T : TypeId} {r : Nat × Nat} (hk : W.heap[k]? = some (.cells c T r)) (hT : T ≠ 66) (cells : Array Value) : IsBufs (W.setRow k cells) v l ∧ OwnC (W.setRow k cells) v := by
  have bl := below_setRow (Below.refl k W) (Nat.le_refl k) cells
  exact bufsC_turned (S := fun j => j = k) h ⟨bl.os, bl.tape, bl.output, bl.size, fun j hj hn => setRow_other _ _ _ _ hn⟩ (fun j hj => by rw [hj]; exact no_bufs hk hT)
theorem bufsC_x {W W' : World} {v : Value} {l : List Bf} (h : IsBufs W v l ∧ OwnC W v) {k : Nat} {c : Array Value} {T : TypeId} {r : Nat × Nat} (hk : W.heap[k]? = some (.cells c T r)) (hT : T ≠ 66) (g : W.grownBy W' (some k)) : IsBufs W' v l ∧ OwnC W' v :=
  bufsC_turned (S := fun j => j = k) h (Turned.of g (fun j e => by injection e with e; exact e.symm)) (fun j hj => by rw [hj]; exact no_bufs hk hT)
theorem nextF_head (lm : List UInt8) (base : Int) (n : Nat) (tk : Int) : 0 ≤ (nextF lm base n tk).1 ∧ (nextF lm base n tk).1 ≤ 65535 := by
  have h := G2_bd lm (base + 16 * n + 4 + 2 * (tk % n))
  unfold nextF
  split
  · exact ⟨by decide, by decide⟩
  · split
    · split
      · exact h
      · exact ⟨by decide, by decide⟩
    · exact ⟨by decide, by decide⟩
theorem next_codeT {w w' : World} {p g h : Nat} {lm : List UInt8} {base : Int} {n : Nat} {taken told : Int} {e : Ending} (s : PS w p g h lm base n taken told) (hP : VNextPostT w p g h lm base n taken told e w') :
    ∃ v, e = .returned (.tuple #[.int .i64 (nextF lm base n taken).1, v, .int .i64 (nextF lm base n taken).2.2]) ∧ IsBufs w' v (nextF lm base n taken).2.1 ∧ OwnC w' v ∧
      PS w' p g h lm base n (if (nextF lm base n taken).2.2 = 0 then (taken + 1) % 65536 else taken) told ∧ Turned (fun k => k = h ∨ k = p) w w' := by
  have eI : G2 lm (base + 16 * n + 2) = offI lm base n := rfl
  have eH : G2 lm (base + 16 * n + 4 + 2 * (taken % n)) = offHead lm base n taken := rfl
  have eF := follow_chain lm base n s.len n (offHead lm base n taken) []
  rw [show okFrom false [] = true from rfl, if_pos rfl] at eF
  unfold nextF
  rw [eI, eH, ← eF]
  have hno : ∀ w, OwnC w (.slice none 0 0) := fun w k e => by cases e
  rcases hP with ⟨h1, rfl, k⟩ | ⟨h1, h2, rfl, k⟩ | ⟨l, v, h1, h2, h3, rfl, hv, ho, ps, k⟩
  · rw [if_pos h1]
    exact ⟨_, rfl, bufs_nil w', hno _, by simpa using s.grown k, Turned.of k (fun j e => by cases e)⟩
  · rw [if_neg h1]
    by_cases h3 : (offI lm base n - taken) % 65536 ≤ n
    · rw [if_pos h3]
      have h4 : followF lm base n n (offHead lm base n taken) [] = none := by
        rcases h2 with h2 | h2
        · omega
        · exact h2
      rw [h4]
      exact ⟨_, rfl, bufs_nil w', hno _, by simpa using s.grown k, Turned.of k (fun j e => by cases e)⟩
    · rw [if_neg h3]
      exact ⟨_, rfl, bufs_nil w', hno _, by simpa using s.grown k, Turned.of k (fun j e => by cases e)⟩
  · rw [if_neg h1, if_pos h2, h3]
    exact ⟨_, rfl, hv, ho, by simpa using ps, Turned.of k (fun j e => .inr (by injection e with e; exact e.symm))⟩
section
variable {w W : World} {x q g h : Nat} {base : Int} {n sz : Nat} {s : St} {d : Dt} {u : Wd}
theorem BS.rNextT (c : BS w W x q g h base n sz s d u) (r : Int × List Bf × Int) (hr : r = nextF s.lm base n s.tk) (TK : Int) (hT : TK = if r.2.2 = 0 then (s.tk + 1) % 65536 else s.tk) :
    Calls Try.prog 41 #[.agg #[.int .i64 base, .int .i64 n, .int .i64 s.tk, .int .i64 s.td], .string ⟨s.lm.toArray⟩] W
      fun e W' => ∃ v, e = .returned (.tuple #[.agg #[.int .i64 base, .int .i64 n, .int .i64 TK, .int .i64 s.td], .int .i64 r.1, v, .int .i64 r.2.2]) ∧ BufsT W' v r.2.1 ∧ BS w W' x q g h base n sz s d u ∧ Below W.heap.size W W' := by
  obtain ⟨b0, b1, n1, n2, hl, _⟩ := c.cs.bds
  refine (rNextT_any base s.tk s.td n s.lm W (by omega) b0 (by omega) n1 n2 c.cs.both.ps.taken0 c.cs.both.ps.taken1).mono ?_
  rintro e W' ⟨v, rfl, hv, bl⟩
  rw [← hr] at hv ⊢
  rw [← hT]
  exact ⟨v, rfl, hv, c.grow bl, bl⟩
theorem BS.cNextT (c : BS w W x q g h base n sz s d u) (r : Int × List Bf × Int) (hr : r = nextF s.lm base n s.tk) (TK : Int) (hT : TK = if r.2.2 = 0 then (s.tk + 1) % 65536 else s.tk) :
    Calls Try.prog 32 #[.pointer (some ⟨s.p, 0, none⟩)] W
      fun e W' => ∃ v, e = .returned (.tuple #[.int .i64 r.1, v, .int .i64 r.2.2]) ∧ IsBufs W' v r.2.1 ∧ OwnC W' v ∧ BS w W' x q g h base n sz { s with tk := TK } d u ∧ Turned (fun k => k = h ∨ k = s.p) W W' := by
  have hS : ∀ k, (k = h ∨ k = s.p) → k = q ∨ k = s.p ∨ k = h ∨ k = s.mb := fun k hk => by
    rcases hk with e | e
    · exact .inr (.inr (.inl e))
    · exact .inr (.inl e)
  refine (vNextT_any W s.p g h s.lm base n s.tk s.td c.cs.both.ps).mono ?_
  intro e W' hP
  obtain ⟨v, he, hv, ho, ps, t⟩ := next_codeT c.cs.both.ps hP
  rw [← hr] at he hv ps
  rw [← hT] at ps
  refine ⟨v, he, hv, ho, c.code t hS ?_ (.inl rfl) (.inl rfl) (fun z hz => .inl hz), t⟩
  have hbl : Below w.heap.size w W' := c.cs.bl.trans (t.below c.cs.bl.size (by
    rintro k (rfl | rfl)
    · exact c.cs.since.2.2.1
    · exact c.cs.since.2.1))
  exact { bl := hbl, both := c.cs.both.device ps t rfl, uniq := c.cs.uniq, since := c.cs.since, xge := c.cs.xge, b16 := c.cs.b16, len := c.cs.len, sz := c.cs.sz }
end
set_option maxRecDepth 100000 in
set_option maxHeartbeats 8000000 in
theorem does2 {w W : World} {x q g h : Nat} {base : Int} {n sz : Nat} {s : St} {d : Dt} (D : DS w W x q g h base n sz s d) (v : Value) (hd ln f a k y : Int) (hH : d.H.length ≤ 90) :
    Calls Try.prog 16 #[.pointer (some ⟨x, 0, none⟩), .agg #[.int .i64 2, v, .int .u32 hd, .int .u32 ln, .int .i64 f, .int .i64 a, .int .i64 k, .int .u64 y]] W (DP w x q g h base n sz d) := by
  obtain ⟨r, hr⟩ : ∃ r, r = nextF s.lm base n s.tk := ⟨_, rfl⟩
  have HR := Lib.hid hr
  have HR1 : Hid (0 ≤ r.1 ∧ r.1 ≤ 65535) := Lib.hid (by rw [hr]; exact nextF_head _ _ _ _)
  obtain ⟨TK, hTK⟩ : ∃ z, z = (if r.2.2 = 0 then (s.tk + 1) % 65536 else s.tk) := ⟨_, rfl⟩
  have HTK := Lib.hid hTK
  have HH := Lib.hid hH
  clear hr hTK hH
  have B0 := Lib.hid D.bs
  have TIE := Lib.hid D.tie
  clear D
  go_enter Try.func16, Try.ntmps16
  go_upto_region 1 with fail
  have B1 := Lib.hid (B0.out.alloc (.cells (acC 2 v hd ln f a k y) 51))
  have Z1 := Lib.hid (Beside.new B0.out (t := 51) (acC 2 v hd ln f a k y))
  have G1 : Hid (Below W.heap.size W (W.alloc (.cells (acC 2 v hd ln f a k y) 51))) := Lib.hid ((Below.refl _ _).alloc (Nat.le_refl _) _)
  obtain ⟨z, hz⟩ : ∃ z, z = W.heap.size := ⟨_, rfl⟩
  generalize W.alloc _ = W1 at B1 Z1 G1 ⊢
  rw [← hz] at Z1 ⊢
  clear hz B0
  have L1 : Hid (Below W1.heap.size W1 W1) := Lib.hid (Below.refl _ _)
  have c0 := ac_c0 Z1.out.at_
  clear G1
  go_upto_region 13 with fail
  clear c0
  go_cut [18, 19, 20, 21] from 122 to 135 (fun p18 a19 a20 a21 wx => ∃ y5 vv, p18 = .pointer (some ⟨y5, 0, none⟩) ∧ a19 = .int .i64 r.1 ∧ a20 = vv ∧ a21 = .int .i64 r.2.2 ∧ Hid (BS w wx x q g h base n sz s d (wdOf s d) ∧ Beside wx z (acO 2 v hd ln f a k y) x q s.p h s.mb ∧ Beside wx y5 (poO base n TK s.td) x q s.p h s.mb ∧ IsBufs wx vv r.2.1 ∧ OwnC wx vv))
  case first =>
    refine wp_region_noPanic ?_
    refine region_held (S := SX x z g q base n (wdOf s d) 2 v hd ln f a k y) (by kernel_rfl) (fun V d => ⟨(d.block _).trans B1.out.bx, (d.block _).trans Z1.out.at_⟩) (fun V d' hS => ?_)
    have BV := Lib.hid (B1.out.grow (Below.of_none d'.grown))
    have ZV := Lib.hid (Z1.out.grow (Below.of_none d'.grown))
    have LV := Lib.hid (L1.out.trans ((Below.of_none d'.grown).mono L1.out.size))
    clear d' B1 Z1 L1
    refine wpAnyH_take (i := 0) (oi := ⟨some 123, Op.move (Operand.tmp 0), _, _, _, none⟩) (v := (.pointer (some ⟨x, 0, none⟩))) rfl (by kernel_rfl) (by kernel_rfl) (by kernel_rfl) (fun _ _ _ h => h) (Or.inl ⟨by rfl, fun w' h' => ?_⟩) hS ?_
    · clear h'
      go_simp
    simp only [Act.put]
    refine wpAnyH_take (i := 1) (oi := ⟨some 124, Op.nilCheck (Operand.tmp 123), _, _, _, none⟩) (v := (.pointer (some ⟨x, 0, none⟩))) rfl (by kernel_rfl) (by kernel_rfl) (by kernel_rfl) (fun _ _ _ h => h) (Or.inl ⟨by rfl, fun w' h' => ?_⟩) hS ?_
    · clear h'
      go_simp
    simp only [Act.put]
    refine wpAnyH_take (i := 2) (oi := ⟨some 125, Op.fieldAddr 45 (Operand.tmp 124) 5, _, _, _, none⟩) (v := (.pointer (some ⟨x, 10, none⟩))) rfl (by kernel_rfl) (by kernel_rfl) (by kernel_rfl) (fun _ _ _ h => h) (Or.inl ⟨by rfl, fun w' h' => ?_⟩) hS ?_
    · clear h'
      go_simp
    simp only [Act.put]
    refine wpAnyH_take (i := 3) (oi := ⟨some 126, Op.load 42 (Operand.tmp 125), _, _, _, none⟩) (v := (.agg #[.int .i64 base, .int .i64 n, .int .i64 s.tk, .int .i64 s.td])) rfl (by kernel_rfl) (by kernel_rfl) (by kernel_rfl) (fun _ _ _ h => h) (Or.inl ⟨by rfl, fun w' h' => ?_⟩) hS ?_
    · have c0 := (show w'.cell? ⟨x, 10, none⟩ = some (.int .i64 base) from wd_c10 h'.1)
      have c1 := (show w'.cell? ⟨x, 11, none⟩ = some (.int .i64 n) from wd_c11 h'.1)
      have c2 := (show w'.cell? ⟨x, 12, none⟩ = some (.int .i64 s.tk) from wd_c12 h'.1)
      have c3 := (show w'.cell? ⟨x, 13, none⟩ = some (.int .i64 s.td) from wd_c13 h'.1)
      clear h'
      go_simp
    simp only [Act.put]
    refine wpAnyH_take (i := 4) (oi := ⟨some 127, Op.move (Operand.tmp 0), _, _, _, none⟩) (v := (.pointer (some ⟨x, 0, none⟩))) rfl (by kernel_rfl) (by kernel_rfl) (by kernel_rfl) (fun _ _ _ h => h) (Or.inl ⟨by rfl, fun w' h' => ?_⟩) hS ?_
    · clear h'
      go_simp
    simp only [Act.put]
    refine wpAnyH_take (i := 5) (oi := ⟨some 128, Op.nilCheck (Operand.tmp 127), _, _, _, none⟩) (v := (.pointer (some ⟨x, 0, none⟩))) rfl (by kernel_rfl) (by kernel_rfl) (by kernel_rfl) (fun _ _ _ h => h) (Or.inl ⟨by rfl, fun w' h' => ?_⟩) hS ?_
    · clear h'
      go_simp
    simp only [Act.put]
    refine wpAnyH_take (i := 6) (oi := ⟨some 129, Op.fieldAddr 45 (Operand.tmp 128) 3, _, _, _, none⟩) (v := (.pointer (some ⟨x, 3, none⟩))) rfl (by kernel_rfl) (by kernel_rfl) (by kernel_rfl) (fun _ _ _ h => h) (Or.inl ⟨by rfl, fun w' h' => ?_⟩) hS ?_
    · clear h'
      go_simp
    simp only [Act.put]
    refine wpAnyH_take (i := 7) (oi := ⟨some 130, Op.load 9 (Operand.tmp 129), _, _, _, none⟩) (v := (.string ⟨s.lm.toArray⟩)) rfl (by kernel_rfl) (by kernel_rfl) (by kernel_rfl) (fun _ _ _ h => h) (Or.inl ⟨by rfl, fun w' h' => ?_⟩) hS ?_
    · have c0 := (show w'.cell? ⟨x, 3, none⟩ = some (.string ⟨s.lm.toArray⟩) from wd_c3 h'.1)
      clear h'
      go_simp
    simp only [Act.put]
    refine wpAnyH_ready (rs := [8, 14]) (by kernel_rfl) (by simp) ?_
    refine AllReadyH.cons rfl (fun K hK => ?_) (AllReadyH.cons rfl (fun K hK => ?_) AllReadyH.nil)
    · go_simp
      refine (BS.rNextT BV.out r HR.out TK HTK.out).mono ?_
      rintro e w1 ⟨vv, rfl, hvv, kk, bl⟩
      have B19 := Lib.hid kk
      have Z19 := Lib.hid (ZV.out.grow bl)
      have L19 := Lib.hid (LV.out.trans (bl.mono LV.out.size))
      have S19 := SX.grow hS bl
      have H19 : Hid (IsBufs w1 vv r.2.1 ∧ OwnC w1 vv) := Lib.hid ⟨hvv.1, fun k9 e9 => hvv.2 k9 e9⟩
      clear hvv
      clear kk ZV LV BV
      go_simp
      refine hK.out _ _ S19 (fun _ => ?_)
      clear hK K
      refine wpAnyH_take (i := 9) (oi := ⟨some 122, Op.move (Operand.tmp 131), _, _, _, none⟩) (v := (.tuple #[.agg #[.int .i64 base, .int .i64 n, .int .i64 TK, .int .i64 s.td], .int .i64 r.1, vv, .int .i64 r.2.2])) rfl (by kernel_rfl) (by kernel_rfl) (by kernel_rfl) (fun _ _ _ h => h) (Or.inl ⟨by rfl, fun w' h' => ?_⟩) S19 ?_
      · clear h'
        go_simp
      simp only [Act.put]
      refine wpAnyH_take (i := 10) (oi := ⟨some 132, Op.extract (Operand.tmp 122) 0, _, _, _, none⟩) (v := (.agg #[.int .i64 base, .int .i64 n, .int .i64 TK, .int .i64 s.td])) rfl (by kernel_rfl) (by kernel_rfl) (by kernel_rfl) (fun _ _ _ h => h) (Or.inl ⟨by rfl, fun w' h' => ?_⟩) S19 ?_
      · clear h'
        go_simp
      simp only [Act.put]
      refine wpAnyH_take (i := 11) (oi := ⟨some 133, Op.extract (Operand.tmp 122) 1, _, _, _, none⟩) (v := (.int .i64 r.1)) rfl (by kernel_rfl) (by kernel_rfl) (by kernel_rfl) (fun _ _ _ h => h) (Or.inl ⟨by rfl, fun w' h' => ?_⟩) S19 ?_
      · clear h'
        go_simp
      simp only [Act.put]
      refine wpAnyH_take (i := 12) (oi := ⟨some 134, Op.extract (Operand.tmp 122) 2, _, _, _, none⟩) (v := vv) rfl (by kernel_rfl) (by kernel_rfl) (by kernel_rfl) (fun _ _ _ h => h) (Or.inl ⟨by rfl, fun w' h' => ?_⟩) S19 ?_
      · clear h'
        go_simp
      simp only [Act.put]
      refine wpAnyH_take (i := 13) (oi := ⟨some 135, Op.extract (Operand.tmp 122) 3, _, _, _, none⟩) (v := (.int .i64 r.2.2)) rfl (by kernel_rfl) (by kernel_rfl) (by kernel_rfl) (fun _ _ _ h => h) (Or.inl ⟨by rfl, fun w' h' => ?_⟩) S19 ?_
      · clear h'
        go_simp
      simp only [Act.put]
      refine wpAnyH_ready (rs := [14]) (by kernel_rfl) (by simp) ?_
      refine AllReadyH.cons rfl (fun K hK => ?_) AllReadyH.nil
      obtain ⟨y5, hy5⟩ : ∃ x, x = w1.heap.size := ⟨_, rfl⟩
      have B29 := Lib.hid (B19.out.alloc (.cells #[.int .i64 0, .int .i64 0, .int .i64 0, .int .i64 0] 42))
      have Y29 := Lib.hid (Beside.new B19.out (t := 42) #[.int .i64 0, .int .i64 0, .int .i64 0, .int .i64 0])
      have HZ5 := Lib.hid (Nat.ne_of_lt Z19.out.lt)
      have Z29 := Lib.hid (Z19.out.alloc (.cells #[.int .i64 0, .int .i64 0, .int .i64 0, .int .i64 0] 42))
      have L29 := Lib.hid (L19.out.alloc L19.out.size (.cells #[.int .i64 0, .int .i64 0, .int .i64 0, .int .i64 0] 42))
      have S29 := SX.grow S19 ((Below.refl _ _).alloc (Nat.le_refl _) (.cells #[.int .i64 0, .int .i64 0, .int .i64 0, .int .i64 0] 42))
      have HY5 := Lib.hid hy5
      have HLY := Lib.hid L19.out.size
      have HW5 : Hid ((w1.alloc (.cells #[.int .i64 0, .int .i64 0, .int .i64 0, .int .i64 0] 42)).heap.size = w1.heap.size + 1) := Lib.hid (by simp)
      have H29 := Lib.hid (bufsC_grow H19.out ((Below.refl _ _).alloc (Nat.le_refl _) (.cells #[.int .i64 0, .int .i64 0, .int .i64 0, .int .i64 0] 42)))
      go_simp
      rw [← hy5] at Y29 HZ5 HW5 HLY
      rw [← hy5]
      clear hy5
      generalize w1.alloc _ = w2 at B29 Y29 Z29 L29 S29 H29 HW5 ⊢
      clear H19 Z19 L19
      refine hK.out _ _ S29 (fun _ => ?_)
      clear hK K
      have hst := run_storeVar_row (P := Try.prog) w2 y5 42 42 _ #[.int .i64 base, .int .i64 n, .int .i64 TK, .int .i64 s.td] Y29.out.at_ (by kernel_rfl) rfl (by simp [Value.oneCell'])
      have B39 := Lib.hid (BS.box B19.out (l' := d.l) (op' := d.op) (oc' := d.oc) B29.out HY5.out Y29.out.at_ (by decide) (fun yy hyy => .inl hyy) #[.int .i64 base, .int .i64 n, .int .i64 TK, .int .i64 s.td])
      have Y39 := Lib.hid (Y29.out.set (o' := poO base n TK s.td) (setRow_heap _ _ _ #[.int .i64 base, .int .i64 n, .int .i64 TK, .int .i64 s.td] _ _ Y29.out.at_))
      have Z39 := Lib.hid (Z29.out.row HZ5.out #[.int .i64 base, .int .i64 n, .int .i64 TK, .int .i64 s.td])
      have L39 := Lib.hid (below_setRow L29.out HLY.out #[.int .i64 base, .int .i64 n, .int .i64 TK, .int .i64 s.td])
      have S39 := SX.of B39.out Z39.out
      have H39 := Lib.hid (bufsC_row H29.out Y29.out.at_ (by decide) #[.int .i64 base, .int .i64 n, .int .i64 TK, .int .i64 s.td])
      refine wpAnyH_ready (rs := [15]) (by kernel_rfl) (by simp) ?_
      refine rdy_store_at (n := 15) rfl rfl 42 (Operand.tmp 18) (Operand.tmp 132) rfl rfl (.agg #[.int .i64 base, .int .i64 n, .int .i64 TK, .int .i64 s.td]) y5 0 (by kernel_rfl) (by kernel_rfl) hst S39 ?_
      clear hst H29 B29 Y29 Z29 L29
      generalize w2.setRow _ _ = w3 at B39 Y39 Z39 L39 S39 H39 ⊢
      refine wpAnyH_take (i := 16) (oi := ⟨some 19, Op.assign (Operand.tmp 133), _, _, _, none⟩) (v := (.int .i64 r.1)) rfl (by kernel_rfl) (by kernel_rfl) (by kernel_rfl) (fun _ _ _ h => h) (Or.inl ⟨by rfl, fun w' h' => ?_⟩) S39 ?_
      · clear h'
        go_simp
      simp only [Act.put]
      refine wpAnyH_take (i := 17) (oi := ⟨some 20, Op.assign (Operand.tmp 134), _, _, _, none⟩) (v := vv) rfl (by kernel_rfl) (by kernel_rfl) (by kernel_rfl) (fun _ _ _ h => h) (Or.inl ⟨by rfl, fun w' h' => ?_⟩) S39 ?_
      · clear h'
        go_simp
      simp only [Act.put]
      refine wpAnyH_take (i := 18) (oi := ⟨some 21, Op.assign (Operand.tmp 135), _, _, _, none⟩) (v := (.int .i64 r.2.2)) rfl (by kernel_rfl) (by kernel_rfl) (by kernel_rfl) (fun _ _ _ h => h) (Or.inl ⟨by rfl, fun w' h' => ?_⟩) S39 ?_
      · clear h'
        go_simp
      simp only [Act.put]
      refine wpAnyH_done (by kernel_rfl) (NoPanic.normal ?_) _
      go_wp2_with fail
      try simp only [List.setIfInBounds_toArray, List.set_cons_zero, List.set_cons_succ]
      go_meet
      case rel => exact ⟨y5, vv, rfl, rfl, rfl, rfl, Lib.hid ⟨B39.out, Z39.out, Y39.out, H39.out⟩⟩
    · obtain ⟨y5, hy5⟩ : ∃ x, x = V.heap.size := ⟨_, rfl⟩
      have B19 := Lib.hid (BV.out.alloc (.cells #[.int .i64 0, .int .i64 0, .int .i64 0, .int .i64 0] 42))
      have Y19 := Lib.hid (Beside.new BV.out (t := 42) #[.int .i64 0, .int .i64 0, .int .i64 0, .int .i64 0])
      have HZ5 := Lib.hid (Nat.ne_of_lt ZV.out.lt)
      have Z19 := Lib.hid (ZV.out.alloc (.cells #[.int .i64 0, .int .i64 0, .int .i64 0, .int .i64 0] 42))
      have L19 := Lib.hid (LV.out.alloc LV.out.size (.cells #[.int .i64 0, .int .i64 0, .int .i64 0, .int .i64 0] 42))
      have S19 := SX.grow hS ((Below.refl _ _).alloc (Nat.le_refl _) (.cells #[.int .i64 0, .int .i64 0, .int .i64 0, .int .i64 0] 42))
      have HY5 := Lib.hid hy5
      have HLY := Lib.hid LV.out.size
      have HW5 : Hid ((V.alloc (.cells #[.int .i64 0, .int .i64 0, .int .i64 0, .int .i64 0] 42)).heap.size = V.heap.size + 1) := Lib.hid (by simp)
      go_simp
      rw [← hy5] at Y19 HZ5 HW5 HLY
      rw [← hy5]
      clear hy5
      generalize V.alloc _ = w1 at B19 Y19 Z19 L19 S19 HW5 ⊢
      clear ZV LV
      refine hK.out _ _ S19 (fun _ => ?_)
      clear hK K
      refine wpAnyH_ready (rs := [8]) (by kernel_rfl) (by simp) ?_
      refine AllReadyH.cons rfl (fun K hK => ?_) AllReadyH.nil
      go_simp
      refine (BS.rNextT B19.out r HR.out TK HTK.out).mono ?_
      rintro e w2 ⟨vv, rfl, hvv, kk, bl⟩
      have B29 := Lib.hid kk
      have Z29 := Lib.hid (Z19.out.grow bl)
      have L29 := Lib.hid (L19.out.trans (bl.mono L19.out.size))
      have S29 := SX.grow S19 bl
      have Y29 := Lib.hid (Y19.out.grow bl)
      have H29 : Hid (IsBufs w2 vv r.2.1 ∧ OwnC w2 vv) := Lib.hid ⟨hvv.1, fun k9 e9 => hvv.2 k9 e9⟩
      clear hvv
      clear kk Z19 L19
      go_simp
      refine hK.out _ _ S29 (fun _ => ?_)
      clear hK K
      refine wpAnyH_take (i := 9) (oi := ⟨some 122, Op.move (Operand.tmp 131), _, _, _, none⟩) (v := (.tuple #[.agg #[.int .i64 base, .int .i64 n, .int .i64 TK, .int .i64 s.td], .int .i64 r.1, vv, .int .i64 r.2.2])) rfl (by kernel_rfl) (by kernel_rfl) (by kernel_rfl) (fun _ _ _ h => h) (Or.inl ⟨by rfl, fun w' h' => ?_⟩) S29 ?_
      · clear h'
        go_simp
      simp only [Act.put]
      refine wpAnyH_take (i := 10) (oi := ⟨some 132, Op.extract (Operand.tmp 122) 0, _, _, _, none⟩) (v := (.agg #[.int .i64 base, .int .i64 n, .int .i64 TK, .int .i64 s.td])) rfl (by kernel_rfl) (by kernel_rfl) (by kernel_rfl) (fun _ _ _ h => h) (Or.inl ⟨by rfl, fun w' h' => ?_⟩) S29 ?_
      · clear h'
        go_simp
      simp only [Act.put]
      refine wpAnyH_take (i := 11) (oi := ⟨some 133, Op.extract (Operand.tmp 122) 1, _, _, _, none⟩) (v := (.int .i64 r.1)) rfl (by kernel_rfl) (by kernel_rfl) (by kernel_rfl) (fun _ _ _ h => h) (Or.inl ⟨by rfl, fun w' h' => ?_⟩) S29 ?_
      · clear h'
        go_simp
      simp only [Act.put]
      refine wpAnyH_take (i := 12) (oi := ⟨some 134, Op.extract (Operand.tmp 122) 2, _, _, _, none⟩) (v := vv) rfl (by kernel_rfl) (by kernel_rfl) (by kernel_rfl) (fun _ _ _ h => h) (Or.inl ⟨by rfl, fun w' h' => ?_⟩) S29 ?_
      · clear h'
        go_simp
      simp only [Act.put]
      refine wpAnyH_take (i := 13) (oi := ⟨some 135, Op.extract (Operand.tmp 122) 3, _, _, _, none⟩) (v := (.int .i64 r.2.2)) rfl (by kernel_rfl) (by kernel_rfl) (by kernel_rfl) (fun _ _ _ h => h) (Or.inl ⟨by rfl, fun w' h' => ?_⟩) S29 ?_
      · clear h'
        go_simp
      simp only [Act.put]
      have hst := run_storeVar_row (P := Try.prog) w2 y5 42 42 _ #[.int .i64 base, .int .i64 n, .int .i64 TK, .int .i64 s.td] Y29.out.at_ (by kernel_rfl) rfl (by simp [Value.oneCell'])
      have B39 := Lib.hid (BS.box BV.out (l' := d.l) (op' := d.op) (oc' := d.oc) B29.out HY5.out Y29.out.at_ (by decide) (fun yy hyy => .inl hyy) #[.int .i64 base, .int .i64 n, .int .i64 TK, .int .i64 s.td])
      have Y39 := Lib.hid (Y29.out.set (o' := poO base n TK s.td) (setRow_heap _ _ _ #[.int .i64 base, .int .i64 n, .int .i64 TK, .int .i64 s.td] _ _ Y29.out.at_))
      have Z39 := Lib.hid (Z29.out.row HZ5.out #[.int .i64 base, .int .i64 n, .int .i64 TK, .int .i64 s.td])
      have L39 := Lib.hid (below_setRow L29.out HLY.out #[.int .i64 base, .int .i64 n, .int .i64 TK, .int .i64 s.td])
      have S39 := SX.of B39.out Z39.out
      have H39 := Lib.hid (bufsC_row H29.out Y29.out.at_ (by decide) #[.int .i64 base, .int .i64 n, .int .i64 TK, .int .i64 s.td])
      refine wpAnyH_ready (rs := [15]) (by kernel_rfl) (by simp) ?_
      refine rdy_store_at (n := 15) rfl rfl 42 (Operand.tmp 18) (Operand.tmp 132) rfl rfl (.agg #[.int .i64 base, .int .i64 n, .int .i64 TK, .int .i64 s.td]) y5 0 (by kernel_rfl) (by kernel_rfl) hst S39 ?_
      clear hst H29 B29 Y29 Z29 L29
      generalize w2.setRow _ _ = w3 at B39 Y39 Z39 L39 S39 H39 ⊢
      refine wpAnyH_take (i := 16) (oi := ⟨some 19, Op.assign (Operand.tmp 133), _, _, _, none⟩) (v := (.int .i64 r.1)) rfl (by kernel_rfl) (by kernel_rfl) (by kernel_rfl) (fun _ _ _ h => h) (Or.inl ⟨by rfl, fun w' h' => ?_⟩) S39 ?_
      · clear h'
        go_simp
      simp only [Act.put]
      refine wpAnyH_take (i := 17) (oi := ⟨some 20, Op.assign (Operand.tmp 134), _, _, _, none⟩) (v := vv) rfl (by kernel_rfl) (by kernel_rfl) (by kernel_rfl) (fun _ _ _ h => h) (Or.inl ⟨by rfl, fun w' h' => ?_⟩) S39 ?_
      · clear h'
        go_simp
      simp only [Act.put]
      refine wpAnyH_take (i := 18) (oi := ⟨some 21, Op.assign (Operand.tmp 135), _, _, _, none⟩) (v := (.int .i64 r.2.2)) rfl (by kernel_rfl) (by kernel_rfl) (by kernel_rfl) (fun _ _ _ h => h) (Or.inl ⟨by rfl, fun w' h' => ?_⟩) S39 ?_
      · clear h'
        go_simp
      simp only [Act.put]
      refine wpAnyH_done (by kernel_rfl) (NoPanic.normal ?_) _
      go_wp2_with fail
      try simp only [List.setIfInBounds_toArray, List.set_cons_zero, List.set_cons_succ]
      go_meet
      case rel => exact ⟨y5, vv, rfl, rfl, rfl, rfl, Lib.hid ⟨B39.out, Z39.out, Y39.out, H39.out⟩⟩
  case rest =>
    obtain ⟨y5, vv, rfl, rfl, rfl, rfl, HC⟩ := hcut
    have B3 := Lib.hid HC.out.1
    have Y3 := Lib.hid HC.out.2.2.1
    have HV3 := Lib.hid HC.out.2.2.2
    clear HC B1 Z1 L1
    have c2 := (show wc.cell? ⟨x, 2, none⟩ = some (.pointer (some ⟨s.p, 0, none⟩)) from wd_c2 B3.out.bx)
    go_wp2_with fail
    refine (B3.out.cNextT r HR.out TK HTK.out).mono ?_
    rintro e w5 ⟨v2, rfl, hv2, ho2, kk, t5⟩
    have t5' : ∀ j, (j = h ∨ j = s.p) → j = x ∨ j = q ∨ j = s.p ∨ j = h ∨ j = s.mb := fun j hj => by
      rcases hj with e | e
      · exact .inr (.inr (.inr (.inl e)))
      · exact .inr (.inr (.inl e))
    have B5 := Lib.hid kk
    have Y5 := Lib.hid (Y3.out.turned t5 t5')
    have HV5 := Lib.hid (bufsC_turned HV3.out t5 (fun k9 hk9 => by
      rcases hk9 with e | e
      · rw [e]; exact no_bufs B3.out.cs.both.qs.mem.2 (by decide)
      · rw [e]; exact no_bufs (show wc.heap[s.p]? = _ from B3.out.cs.both.ps.at_) (by decide)))
    have HU5 := Lib.hid (And.intro hv2 ho2)
    clear kk B3 Y3 HV3 c2 hv2 ho2 t5 t5'
    obtain ⟨q0, q1, q2, q3⟩ := po_all (show PoAt w5 y5 base n TK s.td from Y5.out.at_)
    have hst := (wd_vport B5.out.bx TK s.td).1
    have B6 := Lib.hid (B5.out.putV TK s.td)
    have HV6 := Lib.hid (bufsC_x HV5.out (show w5.heap[x]? = _ from B5.out.bx) (by decide) (setCells_grown w5 x [.int .i64 base, .int .i64 n, .int .i64 TK, .int .i64 s.td] 10))
    have HU6 := Lib.hid (bufsC_x HU5.out (show w5.heap[x]? = _ from B5.out.bx) (by decide) (setCells_grown w5 x [.int .i64 base, .int .i64 n, .int .i64 TK, .int .i64 s.td] 10))
    go_upto_region 16 with (refine wpl_store_at 42 _ _ rfl rfl rfl _ x 10 rfl rfl hst ?_; clear hst q0 q1 q2 q3 B5 Y5 HV5 HU5; generalize World.setCells _ _ _ _ = W6 at B6 HV6 HU6 ⊢)
    by_cases h0 : r.2.2 = 0
    · have hb : (r.2.2 == 0) = true := by rw [h0]; rfl
      have c14 := (show W6.cell? ⟨x, 14, none⟩ = some (.slice d.hp d.H.length d.hc) from wd_c14 B6.out.bx)
      obtain ⟨v', w7, hr7, hO, kg, nb⟩ := B6.out.heads.push B6.out.cs.bl.size r.1 (by have := HH.out; omega)
      obtain ⟨hp', hc', hvf⟩ := hO.form
      obtain ⟨k7, hk7⟩ : ∃ k7, k7 = (d.H ++ [r.1]).length := ⟨_, rfl⟩
      rw [← hk7] at hvf
      subst hvf
      have B7 := Lib.hid (B6.out.push (hp' := hp') (hc' := hc') r.1 HR1.out (by rw [← hk7]; exact hO) kg (by rw [← hk7]; exact nb))
      have hno : ∀ k9, (Value.slice d.hp d.H.length d.hc).ownBlock = some k9 → ∀ cur r, W6.heap[k9]? ≠ some (.cells cur 66 r) := fun k9 hk9 => by
        rcases B6.out.heads.1.2 with ⟨e, _⟩ | ⟨b9, cap9, cur9, e, _, h9, _⟩
        · rw [e] at hk9; cases hk9
        · rw [e] at hk9
          injection hk9 with hk9
          have e9 : b9 = k9 := hk9
          rw [← e9]
          exact no_bufs h9 (by decide)
      have t7 : Turned (fun k9 => (Value.slice d.hp d.H.length d.hc).ownBlock = some k9) W6 w7 := Turned.of kg (fun j e => e)
      have HV7 := Lib.hid (bufsC_turned HV6.out t7 hno)
      have HU7 := Lib.hid (bufsC_turned HU6.out t7 hno)
      have B8 := Lib.hid (B7.out.putH (.slice hp' k7 hc'))
      have HV := Lib.hid (bufsC_x HV7.out (show w7.heap[x]? = _ from B7.out.bx) (by decide) (setCell_grown w7 x 14 (.slice hp' k7 hc')))
      have HU := Lib.hid (bufsC_x HU7.out (show w7.heap[x]? = _ from B7.out.bx) (by decide) (setCell_grown w7 x 14 (.slice hp' k7 hc')))
      have HK7 := Lib.hid hk7
      clear hk7
      have e14 := wd_c14 B7.out.bx
      have f14 := B7.out.bx.free 14
      clear hO kg nb hno t7 HV6 HU6 HV7 HU7
      go_upto_region 18 with (at_builtin; refine wpList_append_run _ rfl _ _ 43 rfl _ _ (.slice hp' k7 hc') w7 rfl rfl hr7 ?_; clear hr7)
      clear c14 e14 f14 B6 B7
      generalize World.setCell _ _ _ = W8 at B8 HV HU ⊢
      have g1 : (r.1 == r.1) = true := by simp
      have g2 : (r.2.2 == r.2.2) = true := by simp
      go_wp2_with fail
      refine (same_any _ _ _ _ HV.out.1 HU.out.1).mono ?_
      rintro e w9 ⟨rfl, k9⟩
      go_wp2_with fail
      go_ret
      have hk7 := HK7.out
      subst hk7
      exact ⟨rfl, { s with tk := TK }, { d with H := d.H ++ [r.1], hp := hp', hc := hc' }, ⟨B8.out.grow (Below.of_none k9), TIE.out⟩, by show (d.H ++ [r.1]).length ≤ _; rw [List.length_append]; exact Nat.le_refl _⟩
    · have hb : (r.2.2 == 0) = false := beq_eq_false_iff_ne.2 h0
      have HV := HV6
      have HU := HU6
      clear HV6 HU6
      have g1 : (r.1 == r.1) = true := by simp
      have g2 : (r.2.2 == r.2.2) = true := by simp
      go_wp2_with fail
      refine (same_any _ _ _ _ HV.out.1 HU.out.1).mono ?_
      rintro e w9 ⟨rfl, k9⟩
      go_wp2_with fail
      go_ret
      exact ⟨rfl, { s with tk := TK }, d, ⟨B6.out.grow (Below.of_none k9), TIE.out⟩, Nat.le_succ _⟩

end Go.Proofs.Ytjelgifijhcnnaa

namespace Go.Proofs.Ytjelgifijhcnnaa
open Go.RowKit Go.Sort
set_option linter.unusedVariables false

set_option maxRecDepth 100000 in
set_option maxHeartbeats 8000000 in
theorem does4 {w W : World} {x q g h : Nat} {base : Int} {n sz : Nat} {s : St} {d : Dt} (D : DS w W x q g h base n sz s d) (v : Value) (hd ln f a k y : Int) :
    Calls Try.prog 16 #[.pointer (some ⟨x, 0, none⟩), .agg #[.int .i64 4, v, .int .u32 hd, .int .u32 ln, .int .i64 f, .int .i64 a, .int .i64 k, .int .u64 y]] W (DP w x q g h base n sz d) := by
  obtain ⟨M, hM⟩ : ∃ M, M = wipeL s.lm base n := ⟨_, rfl⟩
  have HM := Lib.hid hM
  have HLN : Hid (s.lm.length ≤ 5000) := Lib.hid (by have := D.bs.cs.bds.2.2.2.2.1; omega)
  clear hM
  have B0 := Lib.hid D.bs
  have TIE := Lib.hid D.tie
  clear D
  go_enter Try.func16, Try.ntmps16
  go_upto_region 1 with fail
  have B1 := Lib.hid (B0.out.alloc (.cells (acC 4 v hd ln f a k y) 51))
  have Z1 := Lib.hid (Beside.new B0.out (t := 51) (acC 4 v hd ln f a k y))
  have G1 : Hid (Below W.heap.size W (W.alloc (.cells (acC 4 v hd ln f a k y) 51))) := Lib.hid ((Below.refl _ _).alloc (Nat.le_refl _) _)
  obtain ⟨z, hz⟩ : ∃ z, z = W.heap.size := ⟨_, rfl⟩
  generalize W.alloc _ = W1 at B1 Z1 G1 ⊢
  rw [← hz] at Z1 ⊢
  clear hz B0
  have L1 : Hid (Below W1.heap.size W1 W1) := Lib.hid (Below.refl _ _)
  have c0 := ac_c0 Z1.out.at_
  clear G1
  have c1 := (show W1.cell? ⟨x, 1, none⟩ = some (.pointer (some ⟨q, 0, none⟩)) from wd_c1 B1.out.bx)
  go_wp2_with fail
  refine B1.out.cReset.mono ?_
  rintro e w2 ⟨rfl, mb', kk, t5, hmb⟩
  have t5' : ∀ j, (j = h ∨ j = q) → j = x ∨ j = q ∨ j = s.p ∨ j = h ∨ j = s.mb := fun j hj => by
    rcases hj with e | e
    · exact .inr (.inr (.inr (.inl e)))
    · exact .inr (.inl e)
  rw [← HM.out] at kk
  have B2 := Lib.hid kk
  have Z2 := Lib.hid ((Z1.out.turned t5 t5').tab (mb' := mb') (Nat.lt_of_lt_of_le Z1.out.lt hmb))
  have L2 : Hid (Below w2.heap.size w2 w2) := Lib.hid (Below.refl _ _)
  clear kk t5 t5' hmb B1 Z1 L1 c1 c0
  go_upto_region 27 with fail
  go_cut [26, 27] from 243 to 260 (fun p26 b27 wx => ∃ y5, p26 = .pointer (some ⟨y5, 0, none⟩) ∧ b27 = .string ⟨M.toArray⟩ ∧ Hid (BS w wx x q g h base n sz { s with mb := mb', lm := M, cs := [], off := 0, back := 0, br := false } { d with l := [], op := none, oc := 0 } (wdOf s d) ∧ Beside wx y5 (quO base n (.slice none 0 0) 0 0 false) x q s.p h mb'))
  case first =>
    refine wp_region_noPanic ?_
    refine region_held (S := SX x z g q base n (wdOf s d) 4 v hd ln f a k y) (by kernel_rfl) (fun V d => ⟨(d.block _).trans B2.out.bx, (d.block _).trans Z2.out.at_⟩) (fun V d' hS => ?_)
    have BV := Lib.hid (B2.out.grow (Below.of_none d'.grown))
    have ZV := Lib.hid (Z2.out.grow (Below.of_none d'.grown))
    have LV := Lib.hid (L2.out.trans ((Below.of_none d'.grown).mono L2.out.size))
    clear d' B2 Z2 L2
    refine wpAnyH_take (i := 0) (oi := ⟨some 244, Op.move (Operand.tmp 0), _, _, _, none⟩) (v := (.pointer (some ⟨x, 0, none⟩))) rfl (by kernel_rfl) (by kernel_rfl) (by kernel_rfl) (fun _ _ _ h => h) (Or.inl ⟨by rfl, fun w' h' => ?_⟩) hS ?_
    · clear h'
      go_simp
    simp only [Act.put]
    refine wpAnyH_take (i := 1) (oi := ⟨some 245, Op.nilCheck (Operand.tmp 244), _, _, _, none⟩) (v := (.pointer (some ⟨x, 0, none⟩))) rfl (by kernel_rfl) (by kernel_rfl) (by kernel_rfl) (fun _ _ _ h => h) (Or.inl ⟨by rfl, fun w' h' => ?_⟩) hS ?_
    · clear h'
      go_simp
    simp only [Act.put]
    refine wpAnyH_take (i := 2) (oi := ⟨some 246, Op.fieldAddr 45 (Operand.tmp 245) 3, _, _, _, none⟩) (v := (.pointer (some ⟨x, 3, none⟩))) rfl (by kernel_rfl) (by kernel_rfl) (by kernel_rfl) (fun _ _ _ h => h) (Or.inl ⟨by rfl, fun w' h' => ?_⟩) hS ?_
    · clear h'
      go_simp
    simp only [Act.put]
    refine wpAnyH_take (i := 3) (oi := ⟨some 247, Op.load 9 (Operand.tmp 246), _, _, _, none⟩) (v := (.string ⟨s.lm.toArray⟩)) rfl (by kernel_rfl) (by kernel_rfl) (by kernel_rfl) (fun _ _ _ h => h) (Or.inl ⟨by rfl, fun w' h' => ?_⟩) hS ?_
    · have c0 := (show w'.cell? ⟨x, 3, none⟩ = some (.string ⟨s.lm.toArray⟩) from wd_c3 h'.1)
      clear h'
      go_simp
    simp only [Act.put]
    refine wpAnyH_take (i := 4) (oi := ⟨some 248, Op.move (Operand.tmp 0), _, _, _, none⟩) (v := (.pointer (some ⟨x, 0, none⟩))) rfl (by kernel_rfl) (by kernel_rfl) (by kernel_rfl) (fun _ _ _ h => h) (Or.inl ⟨by rfl, fun w' h' => ?_⟩) hS ?_
    · clear h'
      go_simp
    simp only [Act.put]
    refine wpAnyH_take (i := 5) (oi := ⟨some 249, Op.nilCheck (Operand.tmp 248), _, _, _, none⟩) (v := (.pointer (some ⟨x, 0, none⟩))) rfl (by kernel_rfl) (by kernel_rfl) (by kernel_rfl) (fun _ _ _ h => h) (Or.inl ⟨by rfl, fun w' h' => ?_⟩) hS ?_
    · clear h'
      go_simp
    simp only [Act.put]
    refine wpAnyH_take (i := 6) (oi := ⟨some 250, Op.fieldAddr 45 (Operand.tmp 249) 4, _, _, _, none⟩) (v := (.pointer (some ⟨x, 4, none⟩))) rfl (by kernel_rfl) (by kernel_rfl) (by kernel_rfl) (fun _ _ _ h => h) (Or.inl ⟨by rfl, fun w' h' => ?_⟩) hS ?_
    · clear h'
      go_simp
    simp only [Act.put]
    refine wpAnyH_take (i := 7) (oi := ⟨some 251, Op.fieldAddr 40 (Operand.tmp 250) 0, _, _, _, none⟩) (v := (.pointer (some ⟨x, 4, none⟩))) rfl (by kernel_rfl) (by kernel_rfl) (by kernel_rfl) (fun _ _ _ h => h) (Or.inl ⟨by rfl, fun w' h' => ?_⟩) hS ?_
    · clear h'
      go_simp
    simp only [Act.put]
    refine wpAnyH_take (i := 8) (oi := ⟨some 252, Op.load 3 (Operand.tmp 251), _, _, _, none⟩) (v := (.int .i64 base)) rfl (by kernel_rfl) (by kernel_rfl) (by kernel_rfl) (fun _ _ _ h => h) (Or.inl ⟨by rfl, fun w' h' => ?_⟩) hS ?_
    · have c0 := (show w'.cell? ⟨x, 4, none⟩ = some (.int .i64 base) from wd_c4 h'.1)
      clear h'
      go_simp
    simp only [Act.put]
    refine wpAnyH_take (i := 9) (oi := ⟨some 253, Op.move (Operand.tmp 0), _, _, _, none⟩) (v := (.pointer (some ⟨x, 0, none⟩))) rfl (by kernel_rfl) (by kernel_rfl) (by kernel_rfl) (fun _ _ _ h => h) (Or.inl ⟨by rfl, fun w' h' => ?_⟩) hS ?_
    · clear h'
      go_simp
    simp only [Act.put]
    refine wpAnyH_take (i := 10) (oi := ⟨some 254, Op.nilCheck (Operand.tmp 253), _, _, _, none⟩) (v := (.pointer (some ⟨x, 0, none⟩))) rfl (by kernel_rfl) (by kernel_rfl) (by kernel_rfl) (fun _ _ _ h => h) (Or.inl ⟨by rfl, fun w' h' => ?_⟩) hS ?_
    · clear h'
      go_simp
    simp only [Act.put]
    refine wpAnyH_take (i := 11) (oi := ⟨some 255, Op.fieldAddr 45 (Operand.tmp 254) 4, _, _, _, none⟩) (v := (.pointer (some ⟨x, 4, none⟩))) rfl (by kernel_rfl) (by kernel_rfl) (by kernel_rfl) (fun _ _ _ h => h) (Or.inl ⟨by rfl, fun w' h' => ?_⟩) hS ?_
    · clear h'
      go_simp
    simp only [Act.put]
    refine wpAnyH_take (i := 12) (oi := ⟨some 256, Op.fieldAddr 40 (Operand.tmp 255) 1, _, _, _, none⟩) (v := (.pointer (some ⟨x, 5, none⟩))) rfl (by kernel_rfl) (by kernel_rfl) (by kernel_rfl) (fun _ _ _ h => h) (Or.inl ⟨by rfl, fun w' h' => ?_⟩) hS ?_
    · clear h'
      go_simp
    simp only [Act.put]
    refine wpAnyH_take (i := 13) (oi := ⟨some 257, Op.load 3 (Operand.tmp 256), _, _, _, none⟩) (v := (.int .i64 n)) rfl (by kernel_rfl) (by kernel_rfl) (by kernel_rfl) (fun _ _ _ h => h) (Or.inl ⟨by rfl, fun w' h' => ?_⟩) hS ?_
    · have c0 := (show w'.cell? ⟨x, 5, none⟩ = some (.int .i64 n) from wd_c5 h'.1)
      clear h'
      go_simp
    simp only [Act.put]
    refine wpAnyH_ready (rs := [14, 18]) (by kernel_rfl) (by simp) ?_
    refine AllReadyH.cons rfl (fun K hK => ?_) (AllReadyH.cons rfl (fun K hK => ?_) AllReadyH.nil)
    · go_simp
      have hx := BS.rNew BV.out s.lm HLN.out
      rw [← HM.out] at hx
      refine hx.mono ?_
      rintro e w1 ⟨rfl, kk, bl⟩
      have B19 := Lib.hid kk
      have Z19 := Lib.hid (ZV.out.grow bl)
      have L19 := Lib.hid (LV.out.trans (bl.mono LV.out.size))
      have S19 := SX.grow hS bl
      clear kk ZV LV BV
      go_simp
      refine hK.out _ _ S19 (fun _ => ?_)
      clear hK K
      refine wpAnyH_take (i := 15) (oi := ⟨some 243, Op.move (Operand.tmp 258), _, _, _, none⟩) (v := (.tuple #[.agg #[.int .i64 base, .int .i64 n, .slice none 0 0, .int .i64 0, .int .i64 0, .bool false], .string ⟨M.toArray⟩])) rfl (by kernel_rfl) (by kernel_rfl) (by kernel_rfl) (fun _ _ _ h => h) (Or.inl ⟨by rfl, fun w' h' => ?_⟩) S19 ?_
      · clear h'
        go_simp
      simp only [Act.put]
      refine wpAnyH_take (i := 16) (oi := ⟨some 259, Op.extract (Operand.tmp 243) 0, _, _, _, none⟩) (v := (.agg #[.int .i64 base, .int .i64 n, .slice none 0 0, .int .i64 0, .int .i64 0, .bool false])) rfl (by kernel_rfl) (by kernel_rfl) (by kernel_rfl) (fun _ _ _ h => h) (Or.inl ⟨by rfl, fun w' h' => ?_⟩) S19 ?_
      · clear h'
        go_simp
      simp only [Act.put]
      refine wpAnyH_take (i := 17) (oi := ⟨some 260, Op.extract (Operand.tmp 243) 1, _, _, _, none⟩) (v := (.string ⟨M.toArray⟩)) rfl (by kernel_rfl) (by kernel_rfl) (by kernel_rfl) (fun _ _ _ h => h) (Or.inl ⟨by rfl, fun w' h' => ?_⟩) S19 ?_
      · clear h'
        go_simp
      simp only [Act.put]
      refine wpAnyH_ready (rs := [18]) (by kernel_rfl) (by simp) ?_
      refine AllReadyH.cons rfl (fun K hK => ?_) AllReadyH.nil
      obtain ⟨y5, hy5⟩ : ∃ x, x = w1.heap.size := ⟨_, rfl⟩
      have B29 := Lib.hid (B19.out.alloc (.cells (qCells 0 0 (.slice none 0 0) 0 0 false) 40))
      have Y29 := Lib.hid (Beside.new B19.out (t := 40) (qCells 0 0 (.slice none 0 0) 0 0 false))
      have HZ5 := Lib.hid (Nat.ne_of_lt Z19.out.lt)
      have Z29 := Lib.hid (Z19.out.alloc (.cells (qCells 0 0 (.slice none 0 0) 0 0 false) 40))
      have L29 := Lib.hid (L19.out.alloc L19.out.size (.cells (qCells 0 0 (.slice none 0 0) 0 0 false) 40))
      have S29 := SX.grow S19 ((Below.refl _ _).alloc (Nat.le_refl _) (.cells (qCells 0 0 (.slice none 0 0) 0 0 false) 40))
      have HY5 := Lib.hid hy5
      have HLY := Lib.hid L19.out.size
      have HW5 : Hid ((w1.alloc (.cells (qCells 0 0 (.slice none 0 0) 0 0 false) 40)).heap.size = w1.heap.size + 1) := Lib.hid (by simp)
      go_simp
      rw [← hy5] at Y29 HZ5 HW5 HLY
      rw [← hy5]
      clear hy5
      generalize w1.alloc _ = w2 at B29 Y29 Z29 L29 S29 HW5 ⊢
      clear Z19 L19
      refine hK.out _ _ S29 (fun _ => ?_)
      clear hK K
      have hst := run_storeVar_row (P := Try.prog) w2 y5 40 40 _ #[.int .i64 base, .int .i64 n, .slice none 0 0, .int .i64 0, .int .i64 0, .bool false] Y29.out.at_ (by kernel_rfl) rfl (by simp [Value.oneCell'])
      have B39 := Lib.hid (BS.box B19.out (l' := []) B29.out HY5.out Y29.out.at_ (by decide) (fun yy hyy => by cases hyy) #[.int .i64 base, .int .i64 n, .slice none 0 0, .int .i64 0, .int .i64 0, .bool false])
      have Y39 := Lib.hid (Y29.out.set (o' := quO base n (.slice none 0 0) 0 0 false) (setRow_heap _ _ _ #[.int .i64 base, .int .i64 n, .slice none 0 0, .int .i64 0, .int .i64 0, .bool false] _ _ Y29.out.at_))
      have Z39 := Lib.hid (Z29.out.row HZ5.out #[.int .i64 base, .int .i64 n, .slice none 0 0, .int .i64 0, .int .i64 0, .bool false])
      have L39 := Lib.hid (below_setRow L29.out HLY.out #[.int .i64 base, .int .i64 n, .slice none 0 0, .int .i64 0, .int .i64 0, .bool false])
      have S39 := SX.of B39.out Z39.out
      refine wpAnyH_ready (rs := [19]) (by kernel_rfl) (by simp) ?_
      refine rdy_store_at (n := 19) rfl rfl 40 (Operand.tmp 26) (Operand.tmp 259) rfl rfl (.agg #[.int .i64 base, .int .i64 n, .slice none 0 0, .int .i64 0, .int .i64 0, .bool false]) y5 0 (by kernel_rfl) (by kernel_rfl) hst S39 ?_
      clear hst B29 Y29 Z29 L29
      generalize w2.setRow _ _ = w3 at B39 Y39 Z39 L39 S39 ⊢
      refine wpAnyH_take (i := 20) (oi := ⟨some 27, Op.assign (Operand.tmp 260), _, _, _, none⟩) (v := (.string ⟨M.toArray⟩)) rfl (by kernel_rfl) (by kernel_rfl) (by kernel_rfl) (fun _ _ _ h => h) (Or.inl ⟨by rfl, fun w' h' => ?_⟩) S39 ?_
      · clear h'
        go_simp
      simp only [Act.put]
      refine wpAnyH_done (by kernel_rfl) (NoPanic.normal ?_) _
      go_wp2_with fail
      try simp only [List.setIfInBounds_toArray, List.set_cons_zero, List.set_cons_succ]
      go_meet
      case rel => exact ⟨y5, rfl, rfl, Lib.hid ⟨B39.out, Y39.out⟩⟩
    · obtain ⟨y5, hy5⟩ : ∃ x, x = V.heap.size := ⟨_, rfl⟩
      have B19 := Lib.hid (BV.out.alloc (.cells (qCells 0 0 (.slice none 0 0) 0 0 false) 40))
      have Y19 := Lib.hid (Beside.new BV.out (t := 40) (qCells 0 0 (.slice none 0 0) 0 0 false))
      have HZ5 := Lib.hid (Nat.ne_of_lt ZV.out.lt)
      have Z19 := Lib.hid (ZV.out.alloc (.cells (qCells 0 0 (.slice none 0 0) 0 0 false) 40))
      have L19 := Lib.hid (LV.out.alloc LV.out.size (.cells (qCells 0 0 (.slice none 0 0) 0 0 false) 40))
      have S19 := SX.grow hS ((Below.refl _ _).alloc (Nat.le_refl _) (.cells (qCells 0 0 (.slice none 0 0) 0 0 false) 40))
      have HY5 := Lib.hid hy5
      have HLY := Lib.hid LV.out.size
      have HW5 : Hid ((V.alloc (.cells (qCells 0 0 (.slice none 0 0) 0 0 false) 40)).heap.size = V.heap.size + 1) := Lib.hid (by simp)
      go_simp
      rw [← hy5] at Y19 HZ5 HW5 HLY
      rw [← hy5]
      clear hy5
      generalize V.alloc _ = w1 at B19 Y19 Z19 L19 S19 HW5 ⊢
      clear ZV LV
      refine hK.out _ _ S19 (fun _ => ?_)
      clear hK K
      refine wpAnyH_ready (rs := [14]) (by kernel_rfl) (by simp) ?_
      refine AllReadyH.cons rfl (fun K hK => ?_) AllReadyH.nil
      go_simp
      have hx := BS.rNew B19.out s.lm HLN.out
      rw [← HM.out] at hx
      refine hx.mono ?_
      rintro e w2 ⟨rfl, kk, bl⟩
      have B29 := Lib.hid kk
      have Z29 := Lib.hid (Z19.out.grow bl)
      have L29 := Lib.hid (L19.out.trans (bl.mono L19.out.size))
      have S29 := SX.grow S19 bl
      have Y29 := Lib.hid (Y19.out.grow bl)
      clear kk Z19 L19
      go_simp
      refine hK.out _ _ S29 (fun _ => ?_)
      clear hK K
      refine wpAnyH_take (i := 15) (oi := ⟨some 243, Op.move (Operand.tmp 258), _, _, _, none⟩) (v := (.tuple #[.agg #[.int .i64 base, .int .i64 n, .slice none 0 0, .int .i64 0, .int .i64 0, .bool false], .string ⟨M.toArray⟩])) rfl (by kernel_rfl) (by kernel_rfl) (by kernel_rfl) (fun _ _ _ h => h) (Or.inl ⟨by rfl, fun w' h' => ?_⟩) S29 ?_
      · clear h'
        go_simp
      simp only [Act.put]
      refine wpAnyH_take (i := 16) (oi := ⟨some 259, Op.extract (Operand.tmp 243) 0, _, _, _, none⟩) (v := (.agg #[.int .i64 base, .int .i64 n, .slice none 0 0, .int .i64 0, .int .i64 0, .bool false])) rfl (by kernel_rfl) (by kernel_rfl) (by kernel_rfl) (fun _ _ _ h => h) (Or.inl ⟨by rfl, fun w' h' => ?_⟩) S29 ?_
      · clear h'
        go_simp
      simp only [Act.put]
      refine wpAnyH_take (i := 17) (oi := ⟨some 260, Op.extract (Operand.tmp 243) 1, _, _, _, none⟩) (v := (.string ⟨M.toArray⟩)) rfl (by kernel_rfl) (by kernel_rfl) (by kernel_rfl) (fun _ _ _ h => h) (Or.inl ⟨by rfl, fun w' h' => ?_⟩) S29 ?_
      · clear h'
        go_simp
      simp only [Act.put]
      have hst := run_storeVar_row (P := Try.prog) w2 y5 40 40 _ #[.int .i64 base, .int .i64 n, .slice none 0 0, .int .i64 0, .int .i64 0, .bool false] Y29.out.at_ (by kernel_rfl) rfl (by simp [Value.oneCell'])
      have B39 := Lib.hid (BS.box BV.out (l' := []) B29.out HY5.out Y29.out.at_ (by decide) (fun yy hyy => by cases hyy) #[.int .i64 base, .int .i64 n, .slice none 0 0, .int .i64 0, .int .i64 0, .bool false])
      have Y39 := Lib.hid (Y29.out.set (o' := quO base n (.slice none 0 0) 0 0 false) (setRow_heap _ _ _ #[.int .i64 base, .int .i64 n, .slice none 0 0, .int .i64 0, .int .i64 0, .bool false] _ _ Y29.out.at_))
      have Z39 := Lib.hid (Z29.out.row HZ5.out #[.int .i64 base, .int .i64 n, .slice none 0 0, .int .i64 0, .int .i64 0, .bool false])
      have L39 := Lib.hid (below_setRow L29.out HLY.out #[.int .i64 base, .int .i64 n, .slice none 0 0, .int .i64 0, .int .i64 0, .bool false])
      have S39 := SX.of B39.out Z39.out
      refine wpAnyH_ready (rs := [19]) (by kernel_rfl) (by simp) ?_
      refine rdy_store_at (n := 19) rfl rfl 40 (Operand.tmp 26) (Operand.tmp 259) rfl rfl (.agg #[.int .i64 base, .int .i64 n, .slice none 0 0, .int .i64 0, .int .i64 0, .bool false]) y5 0 (by kernel_rfl) (by kernel_rfl) hst S39 ?_
      clear hst B29 Y29 Z29 L29
      generalize w2.setRow _ _ = w3 at B39 Y39 Z39 L39 S39 ⊢
      refine wpAnyH_take (i := 20) (oi := ⟨some 27, Op.assign (Operand.tmp 260), _, _, _, none⟩) (v := (.string ⟨M.toArray⟩)) rfl (by kernel_rfl) (by kernel_rfl) (by kernel_rfl) (fun _ _ _ h => h) (Or.inl ⟨by rfl, fun w' h' => ?_⟩) S39 ?_
      · clear h'
        go_simp
      simp only [Act.put]
      refine wpAnyH_done (by kernel_rfl) (NoPanic.normal ?_) _
      go_wp2_with fail
      try simp only [List.setIfInBounds_toArray, List.set_cons_zero, List.set_cons_succ]
      go_meet
      case rel => exact ⟨y5, rfl, rfl, Lib.hid ⟨B39.out, Y39.out⟩⟩
  case rest =>
    obtain ⟨y5, rfl, rfl, HC⟩ := hcut
    have B3 := Lib.hid HC.out.1
    have Y3 := Lib.hid HC.out.2
    clear HC B2 Z2 L2
    go_upto_region 28 with fail
    refine wp_region_noPanic ?_
    refine region_held (S := (fun V => WAt V x g q (wdOf s d).p (wdOf s d).lm base n (wdOf s d).o (wdOf s d).told (wdOf s d).back (wdOf s d).br (wdOf s d).tk (wdOf s d).td (wdOf s d).hv ∧ V.heap[y5]? = some (quO base n (.slice none 0 0) 0 0 false))) (by kernel_rfl) (fun V d => ⟨(d.block _).trans B3.out.bx, (d.block _).trans Y3.out.at_⟩) (fun V d' hS => ?_)
    have BV := Lib.hid (B3.out.grow (Below.of_none d'.grown))
    have YV := Lib.hid (Y3.out.grow (Below.of_none d'.grown))
    clear d' B3 Y3
    refine wpAnyH_take (i := 0) (oi := ⟨some 262, Op.move (Operand.tmp 0), _, _, _, none⟩) (v := (.pointer (some ⟨x, 0, none⟩))) rfl (by kernel_rfl) (by kernel_rfl) (by kernel_rfl) (fun _ _ _ h => h) (Or.inl ⟨by rfl, fun w' h' => ?_⟩) hS ?_
    · clear h'
      go_simp
    simp only [Act.put]
    refine wpAnyH_take (i := 1) (oi := ⟨some 263, Op.nilCheck (Operand.tmp 262), _, _, _, none⟩) (v := (.pointer (some ⟨x, 0, none⟩))) rfl (by kernel_rfl) (by kernel_rfl) (by kernel_rfl) (fun _ _ _ h => h) (Or.inl ⟨by rfl, fun w' h' => ?_⟩) hS ?_
    · clear h'
      go_simp
    simp only [Act.put]
    refine wpAnyH_take (i := 2) (oi := ⟨some 264, Op.fieldAddr 45 (Operand.tmp 263) 0, _, _, _, none⟩) (v := (.pointer (some ⟨x, 0, none⟩))) rfl (by kernel_rfl) (by kernel_rfl) (by kernel_rfl) (fun _ _ _ h => h) (Or.inl ⟨by rfl, fun w' h' => ?_⟩) hS ?_
    · clear h'
      go_simp
    simp only [Act.put]
    refine wpAnyH_take (i := 3) (oi := ⟨some 265, Op.load 25 (Operand.tmp 264), _, _, _, none⟩) (v := (.pointer (some ⟨g, 0, none⟩))) rfl (by kernel_rfl) (by kernel_rfl) (by kernel_rfl) (fun _ _ _ h => h) (Or.inl ⟨by rfl, fun w' h' => ?_⟩) hS ?_
    · have c0 := (show w'.cell? ⟨x, 0, none⟩ = some (.pointer (some ⟨g, 0, none⟩)) from wd_c0 h'.1)
      clear h'
      go_simp
    simp only [Act.put]
    refine wpAnyH_take (i := 4) (oi := ⟨some 266, Op.fieldAddr 40 (Operand.tmp 26) 0, _, _, _, none⟩) (v := (.pointer (some ⟨y5, 0, none⟩))) rfl (by kernel_rfl) (by kernel_rfl) (by kernel_rfl) (fun _ _ _ h => h) (Or.inl ⟨by rfl, fun w' h' => ?_⟩) hS ?_
    · clear h'
      go_simp
    simp only [Act.put]
    refine wpAnyH_take (i := 5) (oi := ⟨some 267, Op.load 3 (Operand.tmp 266), _, _, _, none⟩) (v := (.int .i64 base)) rfl (by kernel_rfl) (by kernel_rfl) (by kernel_rfl) (fun _ _ _ h => h) (Or.inl ⟨by rfl, fun w' h' => ?_⟩) hS ?_
    · have c0 := (show w'.cell? ⟨y5, 0, none⟩ = some (.int .i64 base) from at_cell h'.2 0)
      clear h'
      go_simp
    simp only [Act.put]
    refine wpAnyH_take (i := 6) (oi := ⟨some 268, Op.fieldAddr 40 (Operand.tmp 26) 1, _, _, _, none⟩) (v := (.pointer (some ⟨y5, 1, none⟩))) rfl (by kernel_rfl) (by kernel_rfl) (by kernel_rfl) (fun _ _ _ h => h) (Or.inl ⟨by rfl, fun w' h' => ?_⟩) hS ?_
    · clear h'
      go_simp
    simp only [Act.put]
    refine wpAnyH_take (i := 7) (oi := ⟨some 269, Op.load 3 (Operand.tmp 268), _, _, _, none⟩) (v := (.int .i64 n)) rfl (by kernel_rfl) (by kernel_rfl) (by kernel_rfl) (fun _ _ _ h => h) (Or.inl ⟨by rfl, fun w' h' => ?_⟩) hS ?_
    · have c0 := (show w'.cell? ⟨y5, 1, none⟩ = some (.int .i64 n) from at_cell h'.2 1)
      clear h'
      go_simp
    simp only [Act.put]
    refine wpAnyH_ready (rs := [8]) (by kernel_rfl) (by simp) ?_
    refine AllReadyH.cons rfl (fun K hK => ?_) AllReadyH.nil
    go_simp
    refine (BS.cOpen BV.out).mono ?_
    rintro e w5 ⟨p', rfl, kk, bl, hp'⟩
    have B5 := Lib.hid kk
    have Y5 := Lib.hid ((YV.out.grow bl).port (p' := p') (Nat.lt_of_lt_of_le YV.out.lt hp'))
    have S9 : (fun V => WAt V x g q (wdOf s d).p (wdOf s d).lm base n (wdOf s d).o (wdOf s d).told (wdOf s d).back (wdOf s d).br (wdOf s d).tk (wdOf s d).td (wdOf s d).hv ∧ V.heap[y5]? = some (quO base n (.slice none 0 0) 0 0 false)) w5 := ⟨B5.out.bx, Y5.out.at_⟩
    clear kk BV YV bl hp'
    go_simp
    refine hK.out _ _ S9 (fun _ => ?_)
    clear hK K
    refine wpAnyH_take (i := 9) (oi := ⟨some 261, Op.move (Operand.tmp 270), _, _, _, none⟩) (v := (.tuple #[.pointer (some ⟨p', 0, none⟩), .int .i64 0])) rfl (by kernel_rfl) (by kernel_rfl) (by kernel_rfl) (fun _ _ _ h => h) (Or.inl ⟨by rfl, fun w' h' => ?_⟩) S9 ?_
    · clear h'
      go_simp
    simp only [Act.put]
    refine wpAnyH_take (i := 10) (oi := ⟨some 271, Op.extract (Operand.tmp 261) 0, _, _, _, none⟩) (v := (.pointer (some ⟨p', 0, none⟩))) rfl (by kernel_rfl) (by kernel_rfl) (by kernel_rfl) (fun _ _ _ h => h) (Or.inl ⟨by rfl, fun w' h' => ?_⟩) S9 ?_
    · clear h'
      go_simp
    simp only [Act.put]
    refine wpAnyH_take (i := 11) (oi := ⟨some 272, Op.extract (Operand.tmp 261) 1, _, _, _, none⟩) (v := (.int .i64 0)) rfl (by kernel_rfl) (by kernel_rfl) (by kernel_rfl) (fun _ _ _ h => h) (Or.inl ⟨by rfl, fun w' h' => ?_⟩) S9 ?_
    · clear h'
      go_simp
    simp only [Act.put]
    refine wpAnyH_take (i := 12) (oi := ⟨some 28, Op.assign (Operand.tmp 271), _, _, _, none⟩) (v := (.pointer (some ⟨p', 0, none⟩))) rfl (by kernel_rfl) (by kernel_rfl) (by kernel_rfl) (fun _ _ _ h => h) (Or.inl ⟨by rfl, fun w' h' => ?_⟩) S9 ?_
    · clear h'
      go_simp
    simp only [Act.put]
    refine wpAnyH_take (i := 13) (oi := ⟨some 29, Op.assign (Operand.tmp 272), _, _, _, none⟩) (v := (.int .i64 0)) rfl (by kernel_rfl) (by kernel_rfl) (by kernel_rfl) (fun _ _ _ h => h) (Or.inl ⟨by rfl, fun w' h' => ?_⟩) S9 ?_
    · clear h'
      go_simp
    simp only [Act.put]
    refine wpAnyH_done (by kernel_rfl) (NoPanic.normal ?_) _
    clear hS S9
    go_upto_region 29 with fail
    refine wp_region_noPanic ?_
    refine region_held (S := (fun V => V.heap[y5]? = some (quO base n (.slice none 0 0) 0 0 false))) (by kernel_rfl) (fun V d => (d.block _).trans Y5.out.at_) (fun V d' hS => ?_)
    have BV := Lib.hid (B5.out.grow (Below.of_none d'.grown))
    have YV := Lib.hid (Y5.out.grow (Below.of_none d'.grown))
    clear d' B5 Y5
    refine wpAnyH_take (i := 0) (oi := ⟨some 273, Op.move (Operand.tmp 0), _, _, _, none⟩) (v := (.pointer (some ⟨x, 0, none⟩))) rfl (by kernel_rfl) (by kernel_rfl) (by kernel_rfl) (fun _ _ _ h => h) (Or.inl ⟨by rfl, fun w' h' => ?_⟩) hS ?_
    · clear h'
      go_simp
    simp only [Act.put]
    refine wpAnyH_take (i := 1) (oi := ⟨some 274, Op.move (Operand.tmp 0), _, _, _, none⟩) (v := (.pointer (some ⟨x, 0, none⟩))) rfl (by kernel_rfl) (by kernel_rfl) (by kernel_rfl) (fun _ _ _ h => h) (Or.inl ⟨by rfl, fun w' h' => ?_⟩) hS ?_
    · clear h'
      go_simp
    simp only [Act.put]
    refine wpAnyH_take (i := 2) (oi := ⟨some 275, Op.move (Operand.tmp 0), _, _, _, none⟩) (v := (.pointer (some ⟨x, 0, none⟩))) rfl (by kernel_rfl) (by kernel_rfl) (by kernel_rfl) (fun _ _ _ h => h) (Or.inl ⟨by rfl, fun w' h' => ?_⟩) hS ?_
    · clear h'
      go_simp
    simp only [Act.put]
    refine wpAnyH_take (i := 3) (oi := ⟨some 276, Op.move (Operand.tmp 0), _, _, _, none⟩) (v := (.pointer (some ⟨x, 0, none⟩))) rfl (by kernel_rfl) (by kernel_rfl) (by kernel_rfl) (fun _ _ _ h => h) (Or.inl ⟨by rfl, fun w' h' => ?_⟩) hS ?_
    · clear h'
      go_simp
    simp only [Act.put]
    refine wpAnyH_take (i := 4) (oi := ⟨some 277, Op.load 40 (Operand.tmp 26), _, _, _, none⟩) (v := (.agg #[.int .i64 base, .int .i64 n, .slice none 0 0, .int .i64 0, .int .i64 0, .bool false])) rfl (by kernel_rfl) (by kernel_rfl) (by kernel_rfl) (fun _ _ _ h => h) (Or.inl ⟨by rfl, fun w' h' => ?_⟩) hS ?_
    · have c0 := (show w'.cell? ⟨y5, 0, none⟩ = some (.int .i64 base) from at_cell h' 0)
      have c1 := (show w'.cell? ⟨y5, 1, none⟩ = some (.int .i64 n) from at_cell h' 1)
      have c2 := (show w'.cell? ⟨y5, 2, none⟩ = some (.slice none 0 0) from at_cell h' 2)
      have c3 := (show w'.cell? ⟨y5, 3, none⟩ = some (.int .i64 0) from at_cell h' 3)
      have c4 := (show w'.cell? ⟨y5, 4, none⟩ = some (.int .i64 0) from at_cell h' 4)
      have c5 := (show w'.cell? ⟨y5, 5, none⟩ = some (.bool false) from at_cell h' 5)
      clear h'
      go_simp
    simp only [Act.put]
    refine wpAnyH_take (i := 5) (oi := ⟨some 278, Op.move (Operand.tmp 27), _, _, _, none⟩) (v := (.string ⟨M.toArray⟩)) rfl (by kernel_rfl) (by kernel_rfl) (by kernel_rfl) (fun _ _ _ h => h) (Or.inl ⟨by rfl, fun w' h' => ?_⟩) hS ?_
    · clear h'
      go_simp
    simp only [Act.put]
    refine wpAnyH_take (i := 6) (oi := ⟨some 279, Op.move (Operand.tmp 28), _, _, _, none⟩) (v := (.pointer (some ⟨p', 0, none⟩))) rfl (by kernel_rfl) (by kernel_rfl) (by kernel_rfl) (fun _ _ _ h => h) (Or.inl ⟨by rfl, fun w' h' => ?_⟩) hS ?_
    · clear h'
      go_simp
    simp only [Act.put]
    refine wpAnyH_take (i := 7) (oi := ⟨some 280, Op.fieldAddr 40 (Operand.tmp 26) 0, _, _, _, none⟩) (v := (.pointer (some ⟨y5, 0, none⟩))) rfl (by kernel_rfl) (by kernel_rfl) (by kernel_rfl) (fun _ _ _ h => h) (Or.inl ⟨by rfl, fun w' h' => ?_⟩) hS ?_
    · clear h'
      go_simp
    simp only [Act.put]
    refine wpAnyH_take (i := 8) (oi := ⟨some 281, Op.load 3 (Operand.tmp 280), _, _, _, none⟩) (v := (.int .i64 base)) rfl (by kernel_rfl) (by kernel_rfl) (by kernel_rfl) (fun _ _ _ h => h) (Or.inl ⟨by rfl, fun w' h' => ?_⟩) hS ?_
    · have c0 := (show w'.cell? ⟨y5, 0, none⟩ = some (.int .i64 base) from at_cell h' 0)
      clear h'
      go_simp
    simp only [Act.put]
    refine wpAnyH_take (i := 9) (oi := ⟨some 282, Op.fieldAddr 40 (Operand.tmp 26) 1, _, _, _, none⟩) (v := (.pointer (some ⟨y5, 1, none⟩))) rfl (by kernel_rfl) (by kernel_rfl) (by kernel_rfl) (fun _ _ _ h => h) (Or.inl ⟨by rfl, fun w' h' => ?_⟩) hS ?_
    · clear h'
      go_simp
    simp only [Act.put]
    refine wpAnyH_take (i := 10) (oi := ⟨some 283, Op.load 3 (Operand.tmp 282), _, _, _, none⟩) (v := (.int .i64 n)) rfl (by kernel_rfl) (by kernel_rfl) (by kernel_rfl) (fun _ _ _ h => h) (Or.inl ⟨by rfl, fun w' h' => ?_⟩) hS ?_
    · have c0 := (show w'.cell? ⟨y5, 1, none⟩ = some (.int .i64 n) from at_cell h' 1)
      clear h'
      go_simp
    simp only [Act.put]
    refine wpAnyH_take (i := 11) (oi := ⟨some 284, Op.build 42 #[(0, (Operand.tmp 281)), (1, (Operand.tmp 283))], _, _, _, none⟩) (v := (.agg #[.int .i64 base, .int .i64 n, .int .i64 0, .int .i64 0])) rfl (by kernel_rfl) (by kernel_rfl) (by kernel_rfl) (fun _ _ _ h => h) (Or.inl ⟨by rfl, fun w' h' => ?_⟩) hS ?_
    · clear h'
      go_simp
    simp only [Act.put]
    refine wpAnyH_take (i := 12) (oi := ⟨some 285, Op.nilCheck (Operand.tmp 273), _, _, _, none⟩) (v := (.pointer (some ⟨x, 0, none⟩))) rfl (by kernel_rfl) (by kernel_rfl) (by kernel_rfl) (fun _ _ _ h => h) (Or.inl ⟨by rfl, fun w' h' => ?_⟩) hS ?_
    · clear h'
      go_simp
    simp only [Act.put]
    refine wpAnyH_take (i := 13) (oi := ⟨some 286, Op.fieldAddr 45 (Operand.tmp 285) 4, _, _, _, none⟩) (v := (.pointer (some ⟨x, 4, none⟩))) rfl (by kernel_rfl) (by kernel_rfl) (by kernel_rfl) (fun _ _ _ h => h) (Or.inl ⟨by rfl, fun w' h' => ?_⟩) hS ?_
    · clear h'
      go_simp
    simp only [Act.put]
    have hst := (wd_queue BV.out.bx none 0 0 0 0 false).1
    have B6 := Lib.hid (BV.out.putQ none 0 0 0 0 false)
    have Y6 := Lib.hid (YV.out.put (setCells_grown V x [.int .i64 base, .int .i64 n, .slice none 0 0, .int .i64 0, .int .i64 0, .bool false] 4))
    have S6 := Y6.out.at_
    refine wpAnyH_ready (rs := [14]) (by kernel_rfl) (by simp) ?_
    refine rdy_store_at (n := 14) rfl rfl 40 (Operand.tmp 286) (Operand.tmp 277) rfl rfl (.agg #[.int .i64 base, .int .i64 n, .slice none 0 0, .int .i64 0, .int .i64 0, .bool false]) x 4 (by kernel_rfl) (by kernel_rfl) hst S6 ?_
    clear hst BV YV
    generalize World.setCells _ _ _ _ = W6 at B6 Y6 S6 ⊢
    refine wpAnyH_take (i := 15) (oi := ⟨some 287, Op.nilCheck (Operand.tmp 274), _, _, _, none⟩) (v := (.pointer (some ⟨x, 0, none⟩))) rfl (by kernel_rfl) (by kernel_rfl) (by kernel_rfl) (fun _ _ _ h => h) (Or.inl ⟨by rfl, fun w' h' => ?_⟩) S6 ?_
    · clear h'
      go_simp
    simp only [Act.put]
    refine wpAnyH_take (i := 16) (oi := ⟨some 288, Op.fieldAddr 45 (Operand.tmp 287) 3, _, _, _, none⟩) (v := (.pointer (some ⟨x, 3, none⟩))) rfl (by kernel_rfl) (by kernel_rfl) (by kernel_rfl) (fun _ _ _ h => h) (Or.inl ⟨by rfl, fun w' h' => ?_⟩) S6 ?_
    · clear h'
      go_simp
    simp only [Act.put]
    refine wpAnyH_ready (rs := [17]) (by kernel_rfl) (by simp) ?_
    refine AllReadyH.cons rfl (fun K hK => ?_) AllReadyH.nil
    have e3 := wd_c3 B6.out.bx
    have f3 := B6.out.bx.free 3
    go_simp
    have B7 := Lib.hid (B6.out.putB M)
    have Y7 := Lib.hid (Y6.out.put (setCell_grown W6 x 3 (.string ⟨M.toArray⟩)))
    have S7 := Y7.out.at_
    clear e3 f3 B6 Y6
    generalize World.setCell _ _ _ = W7 at B7 Y7 S7 ⊢
    refine hK.out _ _ S7 (fun _ => ?_)
    clear hK K
    refine wpAnyH_take (i := 18) (oi := ⟨some 289, Op.nilCheck (Operand.tmp 275), _, _, _, none⟩) (v := (.pointer (some ⟨x, 0, none⟩))) rfl (by kernel_rfl) (by kernel_rfl) (by kernel_rfl) (fun _ _ _ h => h) (Or.inl ⟨by rfl, fun w' h' => ?_⟩) S7 ?_
    · clear h'
      go_simp
    simp only [Act.put]
    refine wpAnyH_take (i := 19) (oi := ⟨some 290, Op.fieldAddr 45 (Operand.tmp 289) 2, _, _, _, none⟩) (v := (.pointer (some ⟨x, 2, none⟩))) rfl (by kernel_rfl) (by kernel_rfl) (by kernel_rfl) (fun _ _ _ h => h) (Or.inl ⟨by rfl, fun w' h' => ?_⟩) S7 ?_
    · clear h'
      go_simp
    simp only [Act.put]
    refine wpAnyH_ready (rs := [20]) (by kernel_rfl) (by simp) ?_
    refine AllReadyH.cons rfl (fun K hK => ?_) AllReadyH.nil
    have e3 := wd_c2 B7.out.bx
    have f3 := B7.out.bx.free 2
    go_simp
    have B8 := Lib.hid (B7.out.putP p')
    have Y8 := Lib.hid (Y7.out.put (setCell_grown W7 x 2 (.pointer (some ⟨p', 0, none⟩))))
    have S8 := Y8.out.at_
    clear e3 f3 B7 Y7
    generalize World.setCell _ _ _ = W8 at B8 Y8 S8 ⊢
    refine hK.out _ _ S8 (fun _ => ?_)
    clear hK K
    refine wpAnyH_take (i := 21) (oi := ⟨some 291, Op.nilCheck (Operand.tmp 276), _, _, _, none⟩) (v := (.pointer (some ⟨x, 0, none⟩))) rfl (by kernel_rfl) (by kernel_rfl) (by kernel_rfl) (fun _ _ _ h => h) (Or.inl ⟨by rfl, fun w' h' => ?_⟩) S8 ?_
    · clear h'
      go_simp
    simp only [Act.put]
    refine wpAnyH_take (i := 22) (oi := ⟨some 292, Op.fieldAddr 45 (Operand.tmp 291) 5, _, _, _, none⟩) (v := (.pointer (some ⟨x, 10, none⟩))) rfl (by kernel_rfl) (by kernel_rfl) (by kernel_rfl) (fun _ _ _ h => h) (Or.inl ⟨by rfl, fun w' h' => ?_⟩) S8 ?_
    · clear h'
      go_simp
    simp only [Act.put]
    have hst := (wd_vport B8.out.bx 0 0).1
    have B9 := Lib.hid (B8.out.putV 0 0)
    have Y9 := Lib.hid (Y8.out.put (setCells_grown W8 x [.int .i64 base, .int .i64 n, .int .i64 0, .int .i64 0] 10))
    have S0 := Y9.out.at_
    refine wpAnyH_ready (rs := [23]) (by kernel_rfl) (by simp) ?_
    refine rdy_store_at (n := 23) rfl rfl 42 (Operand.tmp 292) (Operand.tmp 284) rfl rfl (.agg #[.int .i64 base, .int .i64 n, .int .i64 0, .int .i64 0]) x 10 (by kernel_rfl) (by kernel_rfl) hst S0 ?_
    clear hst B8 Y8
    generalize World.setCells _ _ _ _ = W9 at B9 Y9 S0 ⊢
    refine wpAnyH_done (by kernel_rfl) (NoPanic.normal ?_) _
    try simp only [List.setIfInBounds_toArray, List.set_cons_zero, List.set_cons_succ]
    go_wp2_with fail
    go_ret
    exact ⟨rfl, _, _, ⟨B9.out, rfl⟩, Nat.le_succ _⟩

end Go.Proofs.Ytjelgifijhcnnaa
