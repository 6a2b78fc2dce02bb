/-
  Layer 2, the document's own queue: Pop. Conditions: the memory has at most 5000 bytes, the base is at most 5000, a queue has at most 64 entries and 64 chains.
-/
import Derived.Test.YtjelgifijhcnnaaVPw
import Derived.Test.YtjelgifijhcnnaaVPn
namespace Go.Proofs.Ytjelgifijhcnnaa
open Go.RowKit Go.Sort
set_option linter.unusedVariables false

/-- A chain that is out, and where its descriptors' numbers lie. -/
structure Cq where
  head : Int
  op : Option Addr
  oc : Nat
  of : List Int
  most : Int
instance : Inhabited Cq := ⟨⟨0, none, 0, [], 0⟩⟩
def encQ (c : Cq) : List Value := [.int .i64 c.head, .slice c.op c.of.length c.oc, .int .i64 c.most]
theorem encQ_len (c : Cq) : (encQ c).length = 3 := rfl
theorem encQ_one (c : Cq) : ∀ u ∈ encQ c, u.oneCell' = true := by
  intro u hu
  simp only [encQ, List.mem_cons, List.not_mem_nil, or_false] at hu
  rcases hu with rfl | rfl | rfl <;> rfl
theorem info_ch : ∃ i z, Try.prog.info? 119 = some i ∧ i.zero = some z ∧ i.size = 3 ∧ i.bytes = 40 ∧ z.cells.size = 3 := by
  have h : (Try.prog.info? 119).map (fun i => (i.zero.map (fun z => z.cells.size), i.size, i.bytes)) = some (some 3, 3, 40) := by kernel_rfl
  cases hi : Try.prog.info? 119 with
  | none => rw [hi] at h; cases h
  | some i =>
    rw [hi] at h
    simp only [Option.map_some, Option.some.injEq, Prod.mk.injEq] at h
    obtain ⟨h1, h2, h3⟩ := h
    cases hz : i.zero with
    | none => rw [hz] at h1; cases h1
    | some z => rw [hz] at h1; exact ⟨i, z, rfl, hz, h2, h3, by simpa using h1⟩
/-- A queue of the document's in a block. -/
def QuAt (w : World) (k : Nat) (base n : Int) (v : Value) (told back : Int) (broken : Bool) : Prop := w.heap[k]? = some (.cells (qCells base n v told back broken) 40 (0, 0))
section
variable {w w' : World} {k : Nat} {base n told back : Int} {v : Value} {broken : Bool}
theorem QuAt.grow (h : QuAt w k base n v told back broken) (x : Below w.heap.size w w') : QuAt w' k base n v told back broken := (x.block k (lt_of_block h)).trans h
theorem qu_all (h : QuAt w k base n v told back broken) : w.cell? ⟨k, 0, none⟩ = some (.int .i64 base) ∧ w.cell? ⟨k, 1, none⟩ = some (.int .i64 n) ∧ w.cell? ⟨k, 2, none⟩ = some v ∧ w.cell? ⟨k, 3, none⟩ = some (.int .i64 told) ∧ w.cell? ⟨k, 4, none⟩ = some (.int .i64 back) ∧ w.cell? ⟨k, 5, none⟩ = some (.bool broken) :=
  ⟨by rw [cell_of_block h]; rfl, by rw [cell_of_block h]; rfl, by rw [cell_of_block h]; rfl, by rw [cell_of_block h]; rfl, by rw [cell_of_block h]; rfl, by rw [cell_of_block h]; rfl⟩
theorem qu_free (h : QuAt w k base n v told back broken) (i : Nat) : w.frozen? ⟨k, i, none⟩ = false := by simp [World.frozen?, show w.heap[k]? = _ from h]
theorem qu_store (h : QuAt w k base n v told back broken) (b2 n2 : Int) (p : Option Addr) (ln c : Nat) (t2 k2 : Int) (r2 : Bool) : (storeVar 40 ⟨k, 0, none⟩ (.agg #[.int .i64 b2, .int .i64 n2, .slice p ln c, .int .i64 t2, .int .i64 k2, .bool r2])).run Try.prog w = .ok () (w.setRow k #[.int .i64 b2, .int .i64 n2, .slice p ln c, .int .i64 t2, .int .i64 k2, .bool r2]) ∧ QuAt (w.setRow k #[.int .i64 b2, .int .i64 n2, .slice p ln c, .int .i64 t2, .int .i64 k2, .bool r2]) k b2 n2 (.slice p ln c) t2 k2 r2 :=
  ⟨run_storeVar_row (P := Try.prog) w k 40 40 _ #[.int .i64 b2, .int .i64 n2, .slice p ln c, .int .i64 t2, .int .i64 k2, .bool r2] h (by kernel_rfl) rfl (by simp [Value.oneCell']), setRow_heap w k _ _ _ _ h⟩
end

/-- Is this the chain that came back? -/
def popP (l : List Cq) (hd ln D : Int) (c : Cq) : Bool := c.head == hd && (decide (ln ≤ c.most) && decide (D ≤ l.length))
def popI (l : List Cq) (hd ln D : Int) : Nat := l.findIdx (popP l hd ln D)
/-- What Pop leaves and answers: the chains, how many came back, whether it broke, the head, the length, the error. -/
def popF (b : List UInt8) (base : Int) (n : Nat) (l : List Cq) (back : Int) (broken : Bool) : List Cq × Int × Bool × Int × Int × Int :=
  if broken then (l, back, true, 0, 0, 11)
  else if G2 b (base + usedAt n + 2) = back then (l, back, false, 0, 0, 4)
  else if popI l (G4 b (base + usedAt n + 4 + 8 * (back % n))) (G4 b (base + usedAt n + 8 + 8 * (back % n))) ((G2 b (base + usedAt n + 2) - back) % 65536) < l.length then
    (l.eraseIdx (popI l (G4 b (base + usedAt n + 4 + 8 * (back % n))) (G4 b (base + usedAt n + 8 + 8 * (back % n))) ((G2 b (base + usedAt n + 2) - back) % 65536)), (back + 1) % 65536, false, G4 b (base + usedAt n + 4 + 8 * (back % n)), G4 b (base + usedAt n + 8 + 8 * (back % n)), 0)
  else (l, back, true, 0, 0, 8)
def PopRef (w : World) (base n told : Int) (r : List Cq × Int × Bool × Int × Int × Int) (e : Ending) (w' : World) : Prop :=
  ∃ p c, e = .returned (.tuple #[.agg #[.int .i64 base, .int .i64 n, .slice p r.1.length c, .int .i64 told, .int .i64 r.2.1, .bool r.2.2.1], .int .i64 r.2.2.2.1, .int .i64 r.2.2.2.2.1, .int .i64 r.2.2.2.2.2]) ∧ RowA 3 encQ 119 w' (.slice p r.1.length c) r.1 ∧ Below w.heap.size w w'

set_option maxRecDepth 100000 in
set_option maxHeartbeats 8000000 in
theorem rPop_any (base told back : Int) (n : Nat) (broken : Bool) (p : Option Addr) (c : Nat) (l : List Cq) (b : List UInt8) (w : World) (hl : b.length ≤ 5000) (hb0 : 0 ≤ base) (hb1 : base ≤ 5000) (hn1 : 1 ≤ n) (hn2 : n ≤ 64) (ht0 : 0 ≤ back) (ht1 : back ≤ 65535) (h : RowA 3 encQ 119 w (.slice p l.length c) l) (hll : l.length ≤ 1000) :
    Calls Try.prog 40 #[.agg #[.int .i64 base, .int .i64 n, .slice p l.length c, .int .i64 told, .int .i64 back, .bool broken], .string ⟨b.toArray⟩] w
      (PopRef w base n told (popF b base n l back broken)) := by
  have hl' : b.length ≤ 9223372036854775807 := by omega
  obtain ⟨u0, u1⟩ := usedAt_bd (n := (n : Int)) (by omega) (by omega)
  obtain ⟨R0, hR⟩ : ∃ R, R = popF b base n l back broken := ⟨_, rfl⟩
  rw [← hR]
  have S0 := ((RaG.start 3 encQ 119 w).push (.cells #[.int .i64 base, .int .i64 n, .slice p l.length c, .int .i64 told, .int .i64 back, .bool broken] 40)).push (.cells #[.int .i64 0, .int .i64 0, .slice none 0 0, .int .i64 0, .int .i64 0, .bool false] 40)
  rw [show (w.alloc (.cells #[.int .i64 base, .int .i64 n, .slice p l.length c, .int .i64 told, .int .i64 back, .bool broken] 40)).heap.size = w.heap.size + 1 from by simp] at S0
  have HS0 := Lib.hid S0
  have HR := Lib.hid hR
  have HR0 := Lib.hid h
  clear hR S0 h
  go_enter Try.func40, Try.ntmps40
  go_upto_region 1 with fail
  generalize (w.alloc _).alloc _ = W1 at HS0 ⊢
  obtain ⟨m2, hm⟩ : ∃ m, m = w.heap.size + 1 := ⟨_, rfl⟩
  rw [← hm] at HS0 ⊢
  have hm2 : w.heap.size ≤ m2 := by omega
  have h12 : w.heap.size ≠ m2 := by omega
  clear hm
  obtain ⟨m1, hm⟩ : ∃ m, m = w.heap.size := ⟨_, rfl⟩
  rw [← hm] at HS0 h12 ⊢
  have hm1 : w.heap.size ≤ m1 := by omega
  clear hm
  have Q1 : QuAt W1 m1 base n (.slice p l.length c) told back broken := HS0.out.get (.tail _ (.head _))
  have Q2 : QuAt W1 m2 0 0 (.slice none 0 0) 0 0 false := HS0.out.get (.head _)
  have R := HR0.out.kept HS0.out.bl.size (fun k hk => HS0.out.bl.block k (HR0.out.lt k hk).2)
  have BL := HS0.out.bl
  obtain ⟨c0, c1, c2, c3, c4, c5⟩ := qu_all Q1
  cases broken with
  | true =>
    have hRv : R0 = (l, back, true, 0, 0, 11) := by rw [HR.out]; unfold popF; rw [if_pos rfl]
    subst hRv
    obtain ⟨hst, hp2⟩ := qu_store Q2 base n p l.length c told back true
    have HRR := R.kept (w' := W1.setRow m2 #[.int .i64 base, .int .i64 n, .slice p l.length c, .int .i64 told, .int .i64 back, .bool true]) (by simp) (fun b hb => setRow_other _ _ _ _ (by have := (HR0.out.lt b hb).2; omega))
    go_wp2_with (refine wpl_store_at 40 _ _ rfl rfl rfl _ m2 0 rfl rfl hst ?_)
    exact bodyPost_ret (v := .tuple #[.agg #[.int .i64 base, .int .i64 n, .slice p l.length c, .int .i64 told, .int .i64 back, .bool true], .int .i64 0, .int .i64 0, .int .i64 11]) (results_row4 _ 4 5 6 7 40 (by kernel_rfl) _ m2 _ _ _ _ _ _ rfl rfl rfl rfl hp2 Try.underlying40 rfl (by kernel_rfl)) rfl ⟨p, c, rfl, HRR, below_setRow BL hm2 _⟩
  | false =>
    go_upto_region 3 with fail
    go_quiet ((go_at_call 70; exact Calls.quiet_of_same ((used_any _ _ (by omega) (by omega)).mono fun _ _ h => ⟨h.1, h.2.symm⟩)))
    have S1 := Lib.hid (HS0.out.grow (below_drewN (Below.refl W1.heap.size W1) nq))
    clear c0 c1 c2 c3 c4 c5 Q1 Q2 R BL HS0
    generalize W1.drewN nq = W2 at S1 ⊢
    have Q1 : QuAt W2 m1 base n (.slice p l.length c) told back false := S1.out.get (.tail _ (.head _))
    have Q2 : QuAt W2 m2 0 0 (.slice none 0 0) 0 0 false := S1.out.get (.head _)
    have R := HR0.out.kept S1.out.bl.size (fun k hk => S1.out.bl.block k (HR0.out.lt k hk).2)
    have BL := S1.out.bl
    obtain ⟨c0, c1, c2, c3, c4, c5⟩ := qu_all Q1
    obtain ⟨idx, hidx⟩ : ∃ x, x = G2 b (base + usedAt n + 2) := ⟨_, rfl⟩
    have hib := G2_bd b (base + usedAt n + 2)
    rw [← hidx] at hib
    obtain ⟨i0, i1⟩ := hib
    have HI := Lib.hid hidx
    clear hidx
    go_wp2_with fail
    refine (rget2 _ b _ hl').mono ?_
    rintro e w1 ⟨rfl, rfl⟩
    rw [← HI.out]
    by_cases hz : idx = back
    · have hzb : (idx == back) = true := beq_iff_eq.2 hz
      have hRv : R0 = (l, back, false, 0, 0, 4) := by rw [HR.out]; unfold popF; rw [if_neg (by decide), ← HI.out, if_pos hz]
      subst hRv
      clear hz
      obtain ⟨hst, hp2⟩ := qu_store Q2 base n p l.length c told back false
      have HRR := R.kept (w' := W2.setRow m2 #[.int .i64 base, .int .i64 n, .slice p l.length c, .int .i64 told, .int .i64 back, .bool false]) (by simp) (fun b hb => setRow_other _ _ _ _ (by have := (HR0.out.lt b hb).2; omega))
      go_wp2_with (refine wpl_store_at 40 _ _ rfl rfl rfl _ m2 0 rfl rfl hst ?_)
      exact bodyPost_ret (v := .tuple #[.agg #[.int .i64 base, .int .i64 n, .slice p l.length c, .int .i64 told, .int .i64 back, .bool false], .int .i64 0, .int .i64 0, .int .i64 4]) (results_row4 _ 4 5 6 7 40 (by kernel_rfl) _ m2 _ _ _ _ _ _ rfl rfl rfl rfl hp2 Try.underlying40 rfl (by kernel_rfl)) rfl ⟨p, c, rfl, HRR, below_setRow BL hm2 _⟩
    · have hzb : (idx == back) = false := beq_eq_false_iff_ne.2 hz
      obtain ⟨D, hD⟩ : ∃ D, D = (idx - back) % 65536 := ⟨_, rfl⟩
      have hD0 : 1 ≤ D ∧ D ≤ 65535 := by omega
      obtain ⟨D0, D1⟩ := hD0
      obtain ⟨r, hr⟩ : ∃ r, back % n = r := ⟨_, rfl⟩
      have hr0 : 0 ≤ back % n := Int.emod_nonneg _ (by omega)
      have hr1 : back % n < n := Int.emod_lt_of_pos _ (by omega)
      rw [hr] at hr0 hr1
      obtain ⟨hd, hhd⟩ : ∃ x, x = G4 b (base + usedAt n + 4 + 8 * r) := ⟨_, rfl⟩
      obtain ⟨ln, hln⟩ : ∃ x, x = G4 b (base + usedAt n + 8 + 8 * r) := ⟨_, rfl⟩
      have hRv : R0 = if popI l hd ln D < l.length then (l.eraseIdx (popI l hd ln D), (back + 1) % 65536, false, hd, ln, 0) else (l, back, true, 0, 0, 8) := by
        rw [HR.out]
        unfold popF
        rw [if_neg (by decide), ← HI.out, if_neg hz, hr, ← hhd, ← hln, ← hD]
      have HRv := Lib.hid hRv
      have Hhd := Lib.hid hhd
      have Hln := Lib.hid hln
      have HD := Lib.hid hD
      have Hz := Lib.hid hz
      clear hRv hhd hln hD hz HR HI
      go_wp2_with fail
      go_loop [10] (fun a => ∃ v : Int, 0 ≤ v ∧ v ≤ D ∧ a = .int .i64 v) (fun a => (D + 1 - intOf a).toNat)
      case atStart => exact ⟨0, by omega, by omega, rfl⟩
      case round =>
        obtain ⟨v, v0, v1, rfl⟩ := hrel
        by_cases hv : v = D
        · subst hv
          have hb : ((back + v) % 65536 == idx) = true := beq_iff_eq.2 ((mod_step back idx v i0 i1 v0 (by rw [← HD.out]; omega)).2 HD.out)
          go_wp2_with fail
          refine (rget4 _ b _ hl').mono ?_
          rintro e w1 ⟨rfl, rfl⟩
          rw [← Hhd.out]
          go_wp2_with fail
          refine (rget4 _ b _ hl').mono ?_
          rintro e w1 ⟨rfl, rfl⟩
          rw [← Hln.out]
          have Hb : Hid (((back + v) % 65536 == idx) = true) := Lib.hid hb
          clear hb
          go_wp2_with fail
          go_loop [13] (fun a => ∃ j : Nat, j ≤ l.length ∧ a = .int .i64 j ∧ Hid (∀ x ∈ l.take j, popP l hd ln v x = false)) (fun a => l.length - (intOf a).toNat)
          case atStart => exact ⟨0, Nat.zero_le _, rfl, Lib.hid (fun x hx => by simp at hx)⟩
          case round =>
            obtain ⟨j, hj, rfl, HNF⟩ := hrel
            by_cases hlt : j < l.length
            · have hj1 : decide ((j : Int) < (l.length : Int)) = true := decide_eq_true (by omega)
              obtain ⟨bb, cap, hv7, hcap, hcm, hbl, hfz, hE0⟩ := RowA.elem encQ_len R (by omega)
              injection hv7 with hv7 _ hc7
              subst hv7 hc7
              have hE := hE0 j hlt
              have hT : Hid (l.take (j + 1) = l.take j ++ [l[j]]) := Lib.hid (by rw [List.take_add_one, List.getElem?_eq_getElem hlt]; rfl)
              have HFI : Hid (popP l hd ln v l[j] = true → popI l hd ln v = j) := Lib.hid (fun hp => by
                unfold popI
                rw [List.findIdx_eq hlt]
                refine ⟨hp, fun k hk => HNF.out _ ?_⟩
                rw [List.mem_take_iff_getElem]
                exact ⟨k, by omega, rfl⟩)
              generalize l[j] = x at hE hT HFI
              have e0 : W2.cell? ⟨bb, j * 3, none⟩ = some (.int .i64 x.head) := hE 0 _ rfl
              have e2 : W2.cell? ⟨bb, j * 3 + 2, none⟩ = some (.int .i64 x.most) := hE 2 _ rfl
              have q1 : (0 : Int) ≤ (j : Int) := by omega
              have q2 : (j : Int) < (l.length : Int) := by omega
              have hwj : IntKind.i64.wrap ((j : Int) + 1) = (j : Int) + 1 := IntWalk.i64_in _ (by omega)
              have HNX : Hid (popP l hd ln v x = false → ∀ y ∈ l.take (j + 1), popP l hd ln v y = false) := Lib.hid (fun hp y hy => by
                rw [hT.out] at hy
                rcases List.mem_append.1 hy with h | h
                · exact HNF.out y h
                · rw [List.mem_singleton.1 h]; exact hp)
              unfold maxLen at hcm
              by_cases t1 : x.head = hd
              · have t1b : (x.head == hd) = true := beq_iff_eq.2 t1
                by_cases t2 : ln ≤ x.most
                · have t2b : decide (ln ≤ x.most) = true := decide_eq_true t2
                  by_cases t3 : v ≤ (l.length : Int)
                  · have t3b : decide (v ≤ (l.length : Int)) = true := decide_eq_true t3
                    have hp : popP l hd ln v x = true := by unfold popP; rw [t1b, t2b, t3b]; rfl
                    have HFI2 := Lib.hid (HFI.out hp)
                    clear t1 t2 t3 hp HFI HNX HNF hT hE hE0
                    have htl : (l.take j).length = j := by rw [List.length_take]; omega
                    have hdl : (l.drop (j + 1)).length = l.length - (j + 1) := List.length_drop ..
                    have hRe : R0 = (l.eraseIdx j, (back + 1) % 65536, false, hd, ln, 0) := by rw [HRv.out, HFI2.out, if_pos hlt]
                    subst hRe
                    obtain ⟨A, hA, hsrc⟩ : ∃ A : Addr, (if c = j + 1 then (some ⟨bb, 0, none⟩ : Option Addr) else some ⟨bb, (j + 1) * 3, none⟩) = some A ∧ Hid (∀ W, Below w.heap.size w W → ∀ q u, (encA encQ (l.drop (j + 1)))[q]? = some u → W.cell? (A.add q) = some u) := by
                      have hrow : ∀ W, Below w.heap.size w W → ∀ t u, (encA encQ l)[t]? = some u → W.cell? ⟨bb, t, none⟩ = some u := fun W hb t u hu => by
                        have := (HR0.out.kept hb.size (fun k hk => hb.block k (HR0.out.lt k hk).2)).cells (g := bb) rfl t u hu
                        rw [add_off, Nat.zero_add] at this
                        exact this
                      have hcut : ∀ q u, (encA encQ (l.drop (j + 1)))[q]? = some u → (encA encQ l)[(j + 1) * 3 + q]? = some u := fun q u hu => by
                        have e := encA_append encQ (l.take (j + 1)) (l.drop (j + 1))
                        rw [List.take_append_drop] at e
                        have e2 := encA_length encQ_len (l.take (j + 1))
                        rw [List.length_take] at e2
                        rw [e, List.getElem?_append_right (by omega), ← hu]
                        congr 1
                        omega
                      by_cases hc : c = j + 1
                      · refine ⟨⟨bb, 0, none⟩, by simp [hc], Lib.hid (fun W hb q u hu => ?_)⟩
                        have h0 : l.drop (j + 1) = [] := List.drop_eq_nil_of_le (by omega)
                        rw [h0] at hu
                        simp [encA] at hu
                      · refine ⟨⟨bb, (j + 1) * 3, none⟩, by simp [hc], Lib.hid (fun W hb q u hu => ?_)⟩
                        rw [add_off]
                        exact hrow W hb _ u (hcut q u hu)
                    have hs1 : Hid (∀ q u, (encA encQ (l.take j))[q]? = some u → W2.cell? ((⟨bb, 0, none⟩ : Addr).add q) = some u) := Lib.hid (fun q u hu => R.cells (g := bb) rfl q u (by
                      have e := encA_append encQ (l.take j) (l.drop j)
                      rw [List.take_append_drop] at e
                      rw [e, List.getElem?_append_left (List.getElem?_eq_some_iff.1 hu).1]
                      exact hu))
                    obtain ⟨ii, zz, y1, y2, y3, y4, y5⟩ := info_ch
                    have Y1 := Lib.hid y1
                    have Y2 := Lib.hid y2
                    have Y3 := Lib.hid y3
                    have Y4 := Lib.hid y4
                    have Y5 := Lib.hid y5
                    have HTL := Lib.hid htl
                    have HDL := Lib.hid hdl
                    have HA := Lib.hid hA
                    have hic : (j : Int) ≤ (c : Int) := by omega
                    have hjl : (j : Int) + 1 ≤ (l.length : Int) := by omega
                    have hj0 : 0 ≤ (j : Int) + 1 := by omega
                    have hlc : (l.length : Int) ≤ (c : Int) := by omega
                    clear y1 y2 y3 y4 y5 htl hdl hA
                    have HLL9 : Hid (([] : List Cq).length + (l.take j).length ≤ 100000000) := Lib.hid (by have := HTL.out; simp; omega)
                    have HLL8 : Hid ((([] : List Cq) ++ l.take j).length + (l.drop (j + 1)).length ≤ 100000000) := Lib.hid (by have := HTL.out; have := HDL.out; simp; omega)
                    have HEQ : Hid (([] : List Cq) ++ l.take j ++ l.drop (j + 1) = l.eraseIdx j) := Lib.hid (by rw [List.nil_append, List.eraseIdx_eq_take_drop_succ])
                    go_upto_region 17 with fail
                    go_upto_region 18 with (refine wpList_append_many encQ_len encQ_one (by decide) rfl (.tmp 96) (.tmp 100) 38 rfl ii zz 40 Try.underlying38 Y1.out Y2.out Y3.out Y4.out (by decide) Y5.out (.slice none 0 0) [] (by kernel_rfl) S1.out.acc (l.take j) HLL9.out ⟨bb, 0, none⟩ j c HTL.out (by kernel_rfl) hs1.out ?_; intro v3 w3 hrow hgr hbl2; have S3 := Lib.hid (S1.out.app hgr hrow hbl2); clear hrow hgr hbl2)
                    clear c0 c1 c2 c3 c4 c5 Q1 Q2 e0 e2 hs1
                    have Q1 : QuAt w3 m1 base n (.slice (some ⟨bb, 0, none⟩) l.length c) told back false := S3.out.get (.tail _ (.head _))
                    obtain ⟨c0, c1, c2, c3, c4, c5⟩ := qu_all Q1
                    have hA := HA.out
                    go_upto_region 18 with fail
                    go_upto_region 19 with (refine wpList_append_many encQ_len encQ_one (by decide) rfl (.tmp 102) (.tmp 107) 38 rfl ii zz 40 Try.underlying38 Y1.out Y2.out Y3.out Y4.out (by decide) Y5.out v3 ([] ++ l.take j) (by kernel_rfl) S3.out.acc (l.drop (j + 1)) HLL8.out A (l.length - (j + 1)) (c - (j + 1)) HDL.out (by kernel_rfl) (hsrc.out _ S3.out.bl) ?_; intro v4 w4 hrow hgr hbl2; rw [HEQ.out] at hrow; have S4 := Lib.hid (S3.out.app hgr hrow hbl2); obtain ⟨p4, c4', hv4⟩ := RowA.shape hrow; subst hv4; have Q4 : QuAt w4 m1 base n (.slice (some ⟨bb, 0, none⟩) l.length c) told back false := S4.out.get (.tail _ (.head _)); have k4 := (qu_all Q4).2.2.1; have f4 := qu_free Q4 2; have HQ4 := Lib.hid Q4; clear hrow hgr hbl2 Q4)
                    clear c0 c1 c2 c3 c4 c5 Q1 hA k4 f4 HA
                    have hbm1 : ∀ b, (Value.slice p4 (l.eraseIdx j).length c4').ownBlock = some b → b ≠ m1 := (S4.out.fx _ (.tail _ (.head _))).2
                    have hbm2 : Hid (∀ b, (Value.slice p4 (l.eraseIdx j).length c4').ownBlock = some b → b ≠ m2) := Lib.hid (S4.out.fx _ (.head _)).2
                    have Q5 : QuAt (w4.setCell ⟨m1, 2, none⟩ (.slice p4 (l.eraseIdx j).length c4')) m1 base n (.slice p4 (l.eraseIdx j).length c4') told back false := set_block HQ4.out 2 _
                    have Q6 : QuAt (w4.setCell ⟨m1, 2, none⟩ (.slice p4 (l.eraseIdx j).length c4')) m2 0 0 (.slice none 0 0) 0 0 false := (Below.heap_setCell _ _ _ _ (Ne.symm h12)).trans (S4.out.get (.head _))
                    have BL5 : Below w.heap.size w (w4.setCell ⟨m1, 2, none⟩ (.slice p4 (l.eraseIdx j).length c4')) := S4.out.bl.setCell (p := ⟨m1, 2, none⟩) hm1 _
                    have R5 : RowA 3 encQ 119 (w4.setCell ⟨m1, 2, none⟩ (.slice p4 (l.eraseIdx j).length c4')) (.slice p4 (l.eraseIdx j).length c4') (l.eraseIdx j) := S4.out.acc.kept (by simp [World.setCell]) (fun b hb => Below.heap_setCell _ _ _ _ (hbm1 b hb))
                    generalize w4.setCell _ _ = W5 at Q5 Q6 BL5 R5 ⊢
                    clear S4 HQ4
                    obtain ⟨c0, c1, c2, c3, c4, c5⟩ := qu_all Q5
                    have f4 := qu_free Q5 4
                    have Q7 : QuAt (W5.setCell ⟨m1, 4, none⟩ (.int .i64 ((back + 1) % 65536))) m1 base n (.slice p4 (l.eraseIdx j).length c4') told ((back + 1) % 65536) false := set_block Q5 4 _
                    have Q8 : QuAt (W5.setCell ⟨m1, 4, none⟩ (.int .i64 ((back + 1) % 65536))) m2 0 0 (.slice none 0 0) 0 0 false := (Below.heap_setCell _ _ _ _ (Ne.symm h12)).trans Q6
                    have BL7 : Below w.heap.size w (W5.setCell ⟨m1, 4, none⟩ (.int .i64 ((back + 1) % 65536))) := BL5.setCell (p := ⟨m1, 4, none⟩) hm1 _
                    have R7 : RowA 3 encQ 119 (W5.setCell ⟨m1, 4, none⟩ (.int .i64 ((back + 1) % 65536))) (.slice p4 (l.eraseIdx j).length c4') (l.eraseIdx j) := R5.kept (by simp [World.setCell]) (fun b hb => Below.heap_setCell _ _ _ _ (hbm1 b hb))
                    go_upto_region 20 with fail
                    clear c0 c1 c2 c3 c4 c5 f4 Q5 Q6 BL5 R5
                    generalize W5.setCell _ _ = W7 at Q7 Q8 BL7 R7 ⊢
                    obtain ⟨c0, c1, c2, c3, c4, c5⟩ := qu_all Q7
                    obtain ⟨hst, hp2⟩ := qu_store Q8 base n p4 (l.eraseIdx j).length c4' told ((back + 1) % 65536) false
                    have HRR := R7.kept (w' := W7.setRow m2 #[.int .i64 base, .int .i64 n, .slice p4 (l.eraseIdx j).length c4', .int .i64 told, .int .i64 ((back + 1) % 65536), .bool false]) (by simp) (fun b hb => setRow_other _ _ _ _ (hbm2.out b hb))
                    go_wp2_with (refine wpl_store_at 40 _ _ rfl rfl rfl _ m2 0 rfl rfl hst ?_)
                    exact bodyPost_ret (v := .tuple #[.agg #[.int .i64 base, .int .i64 n, .slice p4 (l.eraseIdx j).length c4', .int .i64 told, .int .i64 ((back + 1) % 65536), .bool false], .int .i64 hd, .int .i64 ln, .int .i64 0]) (results_row4 _ 4 5 6 7 40 (by kernel_rfl) _ m2 _ _ _ _ _ _ rfl rfl rfl rfl hp2 Try.underlying40 rfl (by kernel_rfl)) rfl ⟨p4, c4', rfl, HRR, below_setRow BL7 hm2 _⟩
                  · have t3b : decide (v ≤ (l.length : Int)) = false := decide_eq_false t3
                    have hp : popP l hd ln v x = false := by unfold popP; rw [t1b, t2b, t3b]; rfl
                    clear t1 t2 t3 hE hE0
                    go_wp2_with fail
                    go_round
                    case rel => exact ⟨j + 1, by omega, by go_num, Lib.hid (HNX.out hp)⟩
                    case measure => simp [intOf]; omega
                · have t2b : decide (ln ≤ x.most) = false := decide_eq_false t2
                  have hp : popP l hd ln v x = false := by unfold popP; rw [t1b, t2b]; rfl
                  clear t1 t2 hE hE0
                  go_wp2_with fail
                  go_round
                  case rel => exact ⟨j + 1, by omega, by go_num, Lib.hid (HNX.out hp)⟩
                  case measure => simp [intOf]; omega
              · have t1b : (x.head == hd) = false := beq_eq_false_iff_ne.2 t1
                have hp : popP l hd ln v x = false := by unfold popP; rw [t1b]; rfl
                clear t1 hE hE0
                go_wp2_with fail
                go_round
                case rel => exact ⟨j + 1, by omega, by go_num, Lib.hid (HNX.out hp)⟩
                case measure => simp [intOf]; omega
            · obtain rfl : j = l.length := by omega
              have hj1 : decide ((l.length : Int) < (l.length : Int)) = false := by simp
              have hRe : R0 = (l, back, true, 0, 0, 8) := by
                have hno : popI l hd ln v = l.length := by
                  unfold popI
                  rw [List.findIdx_eq_length]
                  intro y hy
                  exact HNF.out y (by rw [List.take_length]; exact hy)
                rw [HRv.out, if_neg (by rw [hno]; exact Nat.lt_irrefl _)]
              subst hRe
              have f5 := qu_free Q1 5
              have Q5 : QuAt (W2.setCell ⟨m1, 5, none⟩ (.bool true)) m1 base n (.slice p l.length c) told back true := set_block Q1 5 _
              have Q6 : QuAt (W2.setCell ⟨m1, 5, none⟩ (.bool true)) m2 0 0 (.slice none 0 0) 0 0 false := (Below.heap_setCell _ _ _ _ (Ne.symm h12)).trans Q2
              have BL5 : Below w.heap.size w (W2.setCell ⟨m1, 5, none⟩ (.bool true)) := BL.setCell (p := ⟨m1, 5, none⟩) hm1 _
              have R5 := HR0.out.kept BL5.size (fun k hk => BL5.block k (HR0.out.lt k hk).2)
              go_upto_region 22 with fail
              clear Q1 Q2 BL R c0 c1 c2 c3 c4 c5 f5
              generalize W2.setCell _ _ = W5 at Q5 Q6 BL5 R5 ⊢
              obtain ⟨c0, c1, c2, c3, c4, c5⟩ := qu_all Q5
              have Q2 := Q6
              have BL := BL5
              have R := R5
              obtain ⟨hst, hp2⟩ := qu_store Q2 base n p l.length c told back true
              have HRR := R.kept (w' := W5.setRow m2 #[.int .i64 base, .int .i64 n, .slice p l.length c, .int .i64 told, .int .i64 back, .bool true]) (by simp) (fun b hb => setRow_other _ _ _ _ (by have := (HR0.out.lt b hb).2; omega))
              go_wp2_with (refine wpl_store_at 40 _ _ rfl rfl rfl _ m2 0 rfl rfl hst ?_)
              exact bodyPost_ret (v := .tuple #[.agg #[.int .i64 base, .int .i64 n, .slice p l.length c, .int .i64 told, .int .i64 back, .bool true], .int .i64 0, .int .i64 0, .int .i64 8]) (results_row4 _ 4 5 6 7 40 (by kernel_rfl) _ m2 _ _ _ _ _ _ rfl rfl rfl rfl hp2 Try.underlying40 rfl (by kernel_rfl)) rfl ⟨p, c, rfl, HRR, below_setRow BL hm2 _⟩
        · have hb : ((back + v) % 65536 == idx) = false := beq_eq_false_iff_ne.2 (fun h => hv (by rw [HD.out]; exact (mod_step back idx v i0 i1 v0 (by rw [← HD.out]; omega)).1 h))
          have hv' : v + 1 ≤ D := by omega
          clear hv
          go_wp2_with fail
          go_round
          case rel => exact ⟨v + 1, by omega, by omega, rfl⟩
          case measure => simp [intOf]; omega

end Go.Proofs.Ytjelgifijhcnnaa
