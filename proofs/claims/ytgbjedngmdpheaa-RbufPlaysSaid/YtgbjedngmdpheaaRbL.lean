/-
  Layer 12, the document's own buffer: Put. Conditions: as said; at most 60000 bytes of data.
-/
import Derived.Test.YtgbjedngmdpheaaRbK
import Derived.Test.YtgbjedngmdpheaaRbH
import Derived.BigQuiet
import Derived.Deep.RegionHeld3
namespace Go.Proofs.Ytgbjedngmdpheaa
open Go.RowKit
set_option linter.unusedVariables false

theorem info_hb : ∃ i z, Try.prog.info? 63 = some i ∧ i.zero = some z ∧ i.size = 2 ∧ i.bytes = 8 ∧ z.cells.size = 2 := by
  have h : (Try.prog.info? 63).map (fun i => (i.zero.map (fun z => z.cells.size), i.size, i.bytes)) = some (some 2, 2, 8) := by kernel_rfl
  cases hi : Try.prog.info? 63 with
  | none => rw [hi] at h; cases h
  | some i =>
    rw [hi] at h
    simp only [Option.map_some, Option.some.injEq, Prod.mk.injEq] at h
    obtain ⟨h1, h2, h3⟩ := h
    cases hz : i.zero with
    | none => rw [hz] at h1; cases h1
    | some z => rw [hz] at h1; exact ⟨i, z, rfl, hz, h2, h3, by simpa using h1⟩
def EDrR (w w' : World) : Prop := w' = w.drew
theorem EDrR.below {w w' : World} (d : EDrR w w') : Below w.heap.size w w' := by subst d; exact (Below.refl _ _).drew
theorem region_heldR {P : Program} {id : Nat} {ops : Array Oper} {Q : Exit → Act → World → Prop} {S : World → Prop} {a : Act} {w : World} (hm : P.follows .mixedOrders = true) (hS : ∀ w', EDrR w w' → S w')
    (h : ∀ w', EDrR w w' → S w' → wpAnyH P .any ops Q S ops.size (Array.replicate ops.size false) a w') : (Code.region id ops true).wp P Q a w :=
  wp_region_held hm (h _ rfl (hS _ rfl))
theorem mod_ltR (a : Int) : 0 ≤ a % 4294967296 ∧ a % 4294967296 < 4294967296 := ⟨Int.emod_nonneg _ (by decide), Int.emod_lt_of_pos _ (by decide)⟩
theorem hb_new (w : World) (y : Hb) : ∀ (j : Nat) (u : Value), (encA encB [y])[j]? = some u → (w.alloc (.cells #[.int .u32 y.at_, .int .u8 (y.x.toNat : Int)] 63)).cell? ((⟨w.heap.size, 0, none⟩ : Addr).add j) = some u := by
  intro j u hu
  have e : encA encB [y] = encB y := by simp [encA]
  rw [e] at hu
  rw [add_off, Nat.zero_add, cell_of_block (heap_alloc_new w _)]
  exact (List.getElem?_toArray (xs := encB y)).trans hu
theorem step_append_hb {ops : Array Oper} {o : Oper} {a : Act} {w : World} {K : Act → World → Prop} {Q : Exit → Act → World → Prop} {E : Prop}
    (hg : o.guard = none) (s x : Operand) (hop : o.op = Op.call { callee := Callee.builtin Builtin.append, args := #[s, x], argTypes := #[34, 34] })
    (v : Value) (l : List Hb) (hs : a.eval s = v) (hown : HbRow w v l) (hl : l.length ≤ 1000000) (ad : Addr) (c : Nat) (y : Hb) (hx : a.eval x = .slice (some ad) 1 c) (hc : ∀ j u, (encB y)[j]? = some u → w.cell? (ad.add j) = some u)
    (hK : ∀ v' w', HbRow w' v' (l ++ [y]) → w.grownBy w' v.ownBlock → (v'.ownBlock = v.ownBlock ∨ v'.ownBlock = some w.heap.size) → K (a.put o.dst v') w') :
    if Region.wanted o (yielded ops a.tmps) = true then Oper.wp Try.prog o a w K Q else E := by
  have hw : Region.wanted o (yielded ops a.tmps) = true := by simp [Region.wanted, hg]
  rw [if_pos hw]
  obtain ⟨i, z, h1, h2, h3, h4, h5⟩ := info_hb
  obtain ⟨v', w', hr, g1, g2, g3⟩ := run_append_A (P := Try.prog) (w := w) encB_len encB_one (by decide) 34 63 i z 8 o.type Try.underlying34 h1 h2 h3 h4 (by decide) h5 v l hown (by omega) ad c y hc
  unfold Oper.wp
  simp only [execOp, hop, resolve, invoke, builtin, Sem.run_bind, Sem.run_pure, Result.andThen_ok, List.map_toArray, List.map_cons, List.map_nil, hs, hx, hr]
  exact hK v' w' g1 g2 g3
theorem RaG.swap {α : Type} {k : Nat} {enc : α → List Value} {TE : TypeId} {w wr : World} {p q : Nat × Obj} {va : Value} {la : List α} (h : RaG k enc TE w wr [p, q] va la) : RaG k enc TE w wr [q, p] va la :=
  ⟨h.acc, h.own, h.bl, fun x hx => h.fx x (by simp only [List.mem_cons, List.not_mem_nil, or_false] at hx ⊢; exact hx.symm)⟩
/-- A number of the window, as the document reckons it. -/
theorem num_w (s : Int) (k : Nat) (hs : 0 ≤ s ∧ s < 4294967296) (hk : k < 65536) : IntKind.u64.wrap s = s ∧ IntKind.u64.wrap (k : Int) = (k : Int) ∧ IntKind.u64.wrap (s + k) = s + k ∧ Int.tmod (s + k) 4294967296 = (s + k) % 4294967296 ∧ IntKind.u64.wrap ((s + k) % 4294967296) = (s + k) % 4294967296 ∧ IntKind.u32.wrap ((s + k) % 4294967296) = (s + k) % 4294967296 := by
  refine ⟨?_, ?_, ?_, Int.tmod_eq_emod_of_nonneg (by omega), ?_, ?_⟩
  · rw [IntKind.wrap_u64]; omega
  · rw [IntKind.wrap_u64]; omega
  · rw [IntKind.wrap_u64]; omega
  · rw [IntKind.wrap_u64]; omega
  · rw [IntKind.wrap_u32]; omega

set_option maxRecDepth 100000 in
set_option maxHeartbeats 4000000 in
/-- What Put leaves of what it held: the window's bytes, behind data. -/
theorem rPut {w : World} {n : Nat} {nx : Int} {S : ByteArray} {p : Option Addr} {c : Nat} {D : List Hb} {R : List UInt8} {W : List (Option UInt8)} (hr : HbRow w (.slice p D.length c) D) (hD : Dp nx W D) (hx : 0 ≤ nx ∧ nx < 4294967296) (hS : S.data.toList = R) (hn : R.length + W.length = n) (hn2 : n ≤ 2048) (s : Int) (hs : 0 ≤ s ∧ s < 4294967296) (X : ByteArray) (dL : List UInt8) (hX : X.data.toList = dL) (hX2 : X.size ≤ 60000) (V : List (Option UInt8)) (hV : V = holdW nx s dL W) :
    Calls Try.prog 17 #[.agg #[.int .i64 n, .int .u32 nx, .string S, .slice p D.length c], .int .u32 s, .string X] w fun e w' => ∃ (p' : Option Addr) (c' : Nat) (D' : List Hb) (S' : ByteArray), e = .returned (.tuple #[.agg #[.int .i64 n, .int .u32 ((nx + runW V) % 4294967296), .string S', .slice p' D'.length c'], .int .i64 (runW V)]) ∧ HbRow w' (.slice p' D'.length c') D' ∧ (∀ k, (Value.slice p' D'.length c').ownBlock = some k → w.heap.size ≤ k) ∧ Below w.heap.size w w' ∧ Dp ((nx + runW V) % 4294967296) (V.drop (runW V)) D' ∧ S'.data.toList = R ++ gotW V := by
  have hSs : S.size = R.length := by rw [← hS, Array.length_toList]; rfl
  have hdl : dL.length = X.size := by rw [← hX, Array.length_toList]; rfl
  have hW2 : W.length ≤ 2048 := by omega
  have hDl : D.length ≤ 2048 := by rw [hD.len]; exact Nat.le_trans (heldW_le W) hW2
  have S0 := ((RaG.start 2 encB 63 w).push (.cells #[.int .i64 (n : Int), .int .u32 nx, .string S, .slice p D.length c] 36)).push (.cells #[.int .i64 0, .int .u32 0, .string ⟨#[]⟩, .slice none 0 0] 36)
  rw [show (w.alloc (.cells #[.int .i64 (n : Int), .int .u32 nx, .string S, .slice p D.length c] 36)).heap.size = w.heap.size + 1 from by simp] at S0
  have HS0 := Lib.hid S0.swap
  have HR := Lib.hid hr
  have HDP := Lib.hid hD
  have HX := Lib.hid hx
  have HSL := Lib.hid hS
  have HSS := Lib.hid hSs
  have HLN := Lib.hid hn
  have HN2 := Lib.hid hn2
  have HS := Lib.hid hs
  have HXD := Lib.hid hX
  have HDL := Lib.hid hdl
  have HV := Lib.hid hV
  have HW2 := Lib.hid hW2
  have HDL2 := Lib.hid hDl
  clear S0 hr hD hx hS hn hn2 hs hX hdl hV hSs hW2 hDl
  go_enter Try.func17, Try.ntmps17
  go_upto_region 1 with fail
  generalize (w.alloc _).alloc _ = W1 at HS0 ⊢
  obtain ⟨n1, hn1⟩ : ∃ n1, n1 = w.heap.size + 1 := ⟨_, rfl⟩
  rw [← hn1] at HS0 ⊢
  have HN : Hid (w.heap.size ≤ n1 ∧ w.heap.size ≠ n1) := Lib.hid ⟨by omega, by omega⟩
  clear hn1
  have HN1 : Hid (w.heap.size ≤ n1) := Lib.hid HN.out.1
  obtain ⟨n0, hn0⟩ : ∃ n0, n0 = w.heap.size := ⟨_, rfl⟩
  rw [← hn0] at HS0 HN ⊢
  have HN0 := Lib.hid hn0
  clear hn0
  have FR : Hid (∀ q ∈ [(n1, Obj.cells #[.int .i64 0, .int .u32 0, .string ⟨#[]⟩, .slice none 0 0] 36 (0, 0))], q.1 ≠ n0) := Lib.hid (fun q hq => by rw [List.mem_singleton.1 hq]; exact fun e => HN.out.2 e.symm)
  obtain ⟨i0, z0, hi0, hz0, hz1, hz2, hz3⟩ := info_hb
  have I0 := Lib.hid hi0
  have I1 := Lib.hid hz0
  have I2 := Lib.hid hz1
  have I3 := Lib.hid (show i0.bytes ≤ 1000 by omega)
  have I4 := Lib.hid hz3
  have I5 := Lib.hid hz2
  clear hi0 hz0 hz1 hz2 hz3
  obtain ⟨b0, b1, b2, b3, f0⟩ := cells4 (HS0.out.get (.head _))
  have f3 := f0 3
  clear f0
  have R1 := Lib.hid (HR.out.kept HS0.out.bl.size (fun k hk => HS0.out.bl.block k (HR.out.lt k hk).2))
  go_upto_region 3 with (refine wpList_copyq encB_len encB_one (by decide) rfl (.tmp 14) (.tmp 16) 34 rfl i0 z0 Try.underlying34 I0.out I1.out I2.out I3.out I4.out rfl (.slice p D.length c) D rfl R1.out (by have := HDL2.out; omega) ?_; intro v2 w2 hrow hgr hbl2; have HS2 := Lib.hid (HS0.out.app (va := .slice none 0 0) hgr hrow hbl2); clear hrow hgr hbl2)
  clear b0 b1 b2 b3 f3 R1 HS0
  obtain ⟨b0, b1, b2, b3, f0⟩ := cells4 (HS2.out.get (.head _))
  have f3 := f0 3
  clear f0
  have HS3 : Hid (RaG 2 encB 63 w (w2.setCell ⟨n0, 3, none⟩ v2) [(n0, .cells #[.int .i64 (n : Int), .int .u32 nx, .string S, (v2)] 36 (0, 0)), (n1, .cells #[.int .i64 0, .int .u32 0, .string ⟨#[]⟩, .slice none 0 0] 36 (0, 0))] (v2) D) := Lib.hid (HS2.out.setF (i := 3) FR.out (by rw [HN0.out]; exact Nat.le_refl _) v2 (by show 3 < 4; omega))
  clear HS2
  obtain ⟨p2, c2, hv2⟩ := RowA.shape HS3.out.acc
  subst hv2
  go_upto_region 5 with fail
  generalize w2.setCell _ _ = W3 at HS3 ⊢
  clear b0 b1 b2 b3 f3
  go_loopw [9] (fun i wr => ∃ (k : Nat) (v : Value) (D1 : List Hb), k ≤ X.size ∧ i = .int .i64 k ∧ Hid (RaG 2 encB 63 w wr [(n0, .cells #[.int .i64 (n : Int), .int .u32 nx, .string S, (v)] 36 (0, 0)), (n1, .cells #[.int .i64 0, .int .u32 0, .string ⟨#[]⟩, .slice none 0 0] 36 (0, 0))] (v) D1) ∧ Hid (Dp nx (holdW nx s (dL.take k) W) D1)) (fun i _ => X.size - (intOf i).toNat)
  case atStart => exact ⟨0, _, D, Nat.zero_le _, rfl, HS3, Lib.hid (by rw [List.take_zero, holdW_nil]; exact HDP.out)⟩
  case round =>
    clear HS3
    obtain ⟨k, v1, D1, hk, rfl, RK, DK⟩ := hrel
    obtain ⟨p1, c1, hv1⟩ := RowA.shape RK.out.acc
    subst hv1
    have hD1 : D1.length ≤ 2048 := by rw [DK.out.len]; have := heldW_le (holdW nx s (dL.take k) W); rw [holdW_len] at this; exact Nat.le_trans this HW2.out
    have HD1 := Lib.hid hD1
    clear hD1
    by_cases hlt : k < X.size
    · have d1 : decide ((k : Int) < (X.size : Int)) = true := decide_eq_true (by omega)
      have d2 : decide ((k : Int) < 65536) = true := decide_eq_true (by omega)
      have q1 : (0 : Int) ≤ (k : Int) := by omega
      have q2 : (k : Int) < (X.size : Int) := by omega
      have hwj : IntKind.i64.wrap ((k : Int) + 1) = (k : Int) + 1 := IntWalk.i64_in _ (by omega)
      have hkd : dL[k]? = some X[k] := by
        rw [← HXD.out, Array.getElem?_toList, Array.getElem?_eq_getElem (show k < X.data.size from hlt)]
        rfl
      have HKD := Lib.hid hkd
      clear hkd
      obtain ⟨m1, m2, m3, m4, m5, m6⟩ := num_w s k HS.out (by omega)
      have hNb := mod_ltR (s + k)
      obtain ⟨N, hN⟩ : ∃ N, (s + (k : Int)) % 4294967296 = N := ⟨_, rfl⟩
      rw [hN] at m4 m5 m6 hNb
      obtain ⟨a, ha⟩ : ∃ a, ahN nx N = a := ⟨_, rfl⟩
      have ha0 := ahN_lo nx N
      rw [ha] at ha0
      have HNB := Lib.hid hNb
      have HA : Hid (ahN nx ((s + (k : Int)) % 4294967296) = a) := Lib.hid (by rw [hN]; exact ha)
      have HA2 := Lib.hid ha
      have HNE := Lib.hid hN
      obtain ⟨u, hu⟩ : ∃ u, W.length = u := ⟨_, rfl⟩
      have HU := Lib.hid hu
      have kW : S.size + u = n := by rw [HSS.out, ← hu]; exact HLN.out
      have HKW := Lib.hid kW
      have kI : Hid (∀ W', Calls Try.prog 25 #[.int .u32 N, .int .u32 nx, .int .i64 u] W' fun e w' => e = .returned (.bool (decide (a < (u : Int)))) ∧ w' = W') := Lib.hid (fun W' => (rin_any W' N nx u HNB.out HX.out).mono fun e w' ⟨h1, h2⟩ => ⟨by rw [h1, inN, HA2.out], h2⟩)
      clear hN ha hNb hu kW
      by_cases hin : a < (u : Int)
      · have kI2 : Hid (∀ W', Calls Try.prog 25 #[.int .u32 N, .int .u32 nx, .int .i64 u] W' fun e w' => e = .returned (.bool true) ∧ w' = W') := Lib.hid (fun W' => (kI.out W').mono fun e w' ⟨h1, h2⟩ => ⟨by rw [h1, decide_eq_true hin], h2⟩)
        clear kI
        obtain ⟨j, hj⟩ := Int.eq_ofNat_of_zero_le ha0
        have hjH : j < (holdW nx s (dL.take k) W).length := by rw [holdW_len, HU.out]; omega
        obtain ⟨x, hx⟩ : ∃ x, (holdW nx s (dL.take k) W)[j]? = some x := ⟨_, List.getElem?_eq_getElem hjH⟩
        have HJ : Hid (ahN nx N = (j : Int)) := Lib.hid (by rw [HA2.out, hj])
        have HJ2 : Hid (ahN nx ((s + (k : Int)) % 4294967296) = (j : Int)) := Lib.hid (by rw [HA.out, hj])
        have hwl : (holdW nx s (dL.take k) W).length ≤ 4294967296 := by rw [holdW_len]; have := HW2.out; omega
        have HX3 := Lib.hid hx
        have HWL := Lib.hid hwl
        clear hj hjH ha0 hin hwl hx
        cases x with
        | some x =>
          have TH := Lib.hid (holdW_there (by omega) (by have := HW2.out; omega) HJ2.out HX3.out)
          have FK : Hid (∀ r, FoundB N D1 r → ∃ q : Nat, r = (q : Int)) := Lib.hid (fun r hr => by
            rcases hr with ⟨_, h⟩ | ⟨q, _, h, _⟩
            · exact absurd rfl (h _ (DK.out.some_ HX.out.1 HX.out.2 HWL.out HNB.out HJ.out HX3.out))
            · exact ⟨q, h⟩)
          go_upto_region 8 with fail
          refine wp_region_noPanic ?_
          refine region_heldR (S := fun V => Below wr.heap.size wr V) (by kernel_rfl) (fun V d => d.below) (fun V d hS => ?_)
          refine wpAnyH_take (i := 0) (oi := ⟨some 37, Op.move (Operand.tmp 10), _, _, _, none⟩) (v := (.int .u32 N)) rfl (by kernel_rfl) (by kernel_rfl) (by kernel_rfl) (fun _ _ _ h => h) (Or.inl ⟨by rfl, fun w' h' => ?_⟩) hS ?_
          · clear h'
            go_simp
          simp only [Act.put]
          refine wpAnyH_take (i := 1) (oi := ⟨some 38, Op.fieldAddr 36 (Operand.tmp 3) 1, _, _, _, none⟩) (v := (.pointer (some ⟨n0, 1, none⟩))) rfl (by kernel_rfl) (by kernel_rfl) (by kernel_rfl) (fun _ _ _ h => h) (Or.inl ⟨by rfl, fun w' h' => ?_⟩) hS ?_
          · clear h'
            go_simp
          simp only [Act.put]
          refine wpAnyH_take (i := 2) (oi := ⟨some 39, Op.load 26 (Operand.tmp 38), _, _, _, none⟩) (v := (.int .u32 nx)) rfl (by kernel_rfl) (by kernel_rfl) (by kernel_rfl) (fun _ _ _ h => h) (Or.inl ⟨by rfl, fun w' h' => ?_⟩) hS ?_
          · have c0 := (cells4 ((RK.out.grow h').get (.head _))).2.1
            clear h'
            go_simp
          simp only [Act.put]
          refine wpAnyH_take (i := 3) (oi := ⟨some 40, Op.load 36 (Operand.tmp 3), _, _, _, none⟩) (v := (.agg #[.int .i64 (n : Int), .int .u32 nx, .string S, .slice p1 D1.length c1])) rfl (by kernel_rfl) (by kernel_rfl) (by kernel_rfl) (fun _ _ _ h => h) (Or.inl ⟨by rfl, fun w' h' => ?_⟩) hS ?_
          · have c0 := (cells4 ((RK.out.grow h').get (.head _))).1
            have c1 := (cells4 ((RK.out.grow h').get (.head _))).2.1
            have c2 := (cells4 ((RK.out.grow h').get (.head _))).2.2.1
            have c3 := (cells4 ((RK.out.grow h').get (.head _))).2.2.2.1
            clear h'
            go_simp
          simp only [Act.put]
          refine wpAnyH_ready (rs := [4]) (by kernel_rfl) (by simp) ?_
          refine AllReadyH.cons rfl (fun K hK => ?_) AllReadyH.nil
          go_simp
          refine (rWindow _ n nx S (.slice p1 D1.length c1) u HKW.out HN2.out).mono ?_
          rintro e w8 ⟨rfl, q8⟩
          have s8 := hS.trans (q8.mono hS.size)
          clear q8
          go_simp
          refine hK.out _ _ s8 (fun _ => ?_)
          clear hK K
          refine wpAnyH_ready (rs := [5]) (by kernel_rfl) (by simp) ?_
          refine AllReadyH.cons rfl (fun K hK => ?_) AllReadyH.nil
          go_simp
          refine (kI2.out _).mono ?_
          rintro e w9 ⟨rfl, rfl⟩
          go_simp
          refine hK.out _ _ s8 (fun _ => ?_)
          clear hK K
          refine wpAnyH_take (i := 6) (oi := ⟨some 43, Op.move (Operand.tmp 42), _, _, _, none⟩) (v := (.bool true)) rfl (by kernel_rfl) (by kernel_rfl) (by kernel_rfl) (fun _ _ _ h => h) (Or.inl ⟨by rfl, fun w' h' => ?_⟩) s8 ?_
          · clear h'
            go_simp
          simp only [Act.put]
          refine wpAnyH_take (i := 7) (oi := ⟨some 44, Op.load 36 (Operand.tmp 3), _, _, _, some (6, true)⟩) (v := (.agg #[.int .i64 (n : Int), .int .u32 nx, .string S, .slice p1 D1.length c1])) rfl (by kernel_rfl) (by kernel_rfl) (by kernel_rfl) (fun _ _ _ h => h) (Or.inl ⟨by kernel_rfl, fun w' h' => ?_⟩) s8 ?_
          · have c0 := (cells4 ((RK.out.grow h').get (.head _))).1
            have c1 := (cells4 ((RK.out.grow h').get (.head _))).2.1
            have c2 := (cells4 ((RK.out.grow h').get (.head _))).2.2.1
            have c3 := (cells4 ((RK.out.grow h').get (.head _))).2.2.2.1
            clear h'
            go_simp
          simp only [Act.put]
          refine wpAnyH_take (i := 8) (oi := ⟨some 45, Op.move (Operand.tmp 10), _, _, _, some (6, true)⟩) (v := (.int .u32 N)) rfl (by kernel_rfl) (by kernel_rfl) (by kernel_rfl) (fun _ _ _ h => h) (Or.inl ⟨by kernel_rfl, fun w' h' => ?_⟩) s8 ?_
          · clear h'
            go_simp
          simp only [Act.put]
          refine wpAnyH_ready (rs := [9]) (by kernel_rfl) (by simp) ?_
          refine AllReadyH.cons rfl (fun K hK => ?_) AllReadyH.nil
          go_simp
          refine (rfind (RK.out.grow s8).acc (by have := HD1.out; omega) n nx S N).mono ?_
          rintro e w10 ⟨r, rfl, q9, q10⟩
          have s10 := s8.trans (q10.mono s8.size)
          obtain ⟨q, rfl⟩ := FK.out r q9
          clear q9 q10
          have hr9 : decide ((q : Int) < 0) = false := decide_eq_false (by omega)
          go_simp
          refine hK.out _ _ s10 (fun _ => ?_)
          clear hK K
          refine wpAnyH_take (i := 10) (oi := ⟨some 47, Op.binOp BinOp.lss 3 (Operand.tmp 46) (Operand.const (Value.int IntKind.i64 0)) 3, _, _, _, some (6, true)⟩) (v := (.bool false)) rfl (by kernel_rfl) (by kernel_rfl) (by kernel_rfl) (fun _ _ _ h => h) (Or.inl ⟨by kernel_rfl, fun w' h' => ?_⟩) s10 ?_
          · have c0 := hr9
            clear h'
            go_simp
          simp only [Act.put]
          refine wpAnyH_take (i := 11) (oi := ⟨some 48, Op.pick (Operand.tmp 43) (Operand.tmp 47) (Operand.const (Value.bool false)), _, _, _, none⟩) (v := (.bool false)) rfl (by kernel_rfl) (by kernel_rfl) (by kernel_rfl) (fun _ _ _ h => h) (Or.inl ⟨by rfl, fun w' h' => ?_⟩) s10 ?_
          · clear h'
            go_simp
          simp only [Act.put]
          refine wpAnyH_done (by kernel_rfl) (NoPanic.normal ?_) _
          try simp only [List.setIfInBounds_toArray, List.set_cons_zero, List.set_cons_succ]
          go_wp2_with fail
          go_roundw
          case rel => exact ⟨k + 1, _, D1, by omega, by go_num, Lib.hid (RK.out.grow s10), Lib.hid (by rw [TH.out]; exact DK.out)⟩
          case measure => simp [intOf]; omega
        | none =>
          have TH := Lib.hid (holdW_new (by omega) (by have := HW2.out; omega) HKD.out HJ2.out HX3.out)
          have FK : Hid (∀ r, FoundB N D1 r → r = -1) := Lib.hid (fun r hr => by
            rcases hr with ⟨h, _⟩ | ⟨q, hq, _, h⟩
            · exact h
            · exact absurd h (DK.out.none_ HX.out.1 HX.out.2 HWL.out HNB.out HJ.out (.inl HX3.out) _ (List.getElem_mem hq)))
          go_upto_region 8 with fail
          refine wp_region_noPanic ?_
          refine region_heldR (S := fun V => Below wr.heap.size wr V) (by kernel_rfl) (fun V d => d.below) (fun V d hS => ?_)
          refine wpAnyH_take (i := 0) (oi := ⟨some 37, Op.move (Operand.tmp 10), _, _, _, none⟩) (v := (.int .u32 N)) rfl (by kernel_rfl) (by kernel_rfl) (by kernel_rfl) (fun _ _ _ h => h) (Or.inl ⟨by rfl, fun w' h' => ?_⟩) hS ?_
          · clear h'
            go_simp
          simp only [Act.put]
          refine wpAnyH_take (i := 1) (oi := ⟨some 38, Op.fieldAddr 36 (Operand.tmp 3) 1, _, _, _, none⟩) (v := (.pointer (some ⟨n0, 1, none⟩))) rfl (by kernel_rfl) (by kernel_rfl) (by kernel_rfl) (fun _ _ _ h => h) (Or.inl ⟨by rfl, fun w' h' => ?_⟩) hS ?_
          · clear h'
            go_simp
          simp only [Act.put]
          refine wpAnyH_take (i := 2) (oi := ⟨some 39, Op.load 26 (Operand.tmp 38), _, _, _, none⟩) (v := (.int .u32 nx)) rfl (by kernel_rfl) (by kernel_rfl) (by kernel_rfl) (fun _ _ _ h => h) (Or.inl ⟨by rfl, fun w' h' => ?_⟩) hS ?_
          · have c0 := (cells4 ((RK.out.grow h').get (.head _))).2.1
            clear h'
            go_simp
          simp only [Act.put]
          refine wpAnyH_take (i := 3) (oi := ⟨some 40, Op.load 36 (Operand.tmp 3), _, _, _, none⟩) (v := (.agg #[.int .i64 (n : Int), .int .u32 nx, .string S, .slice p1 D1.length c1])) rfl (by kernel_rfl) (by kernel_rfl) (by kernel_rfl) (fun _ _ _ h => h) (Or.inl ⟨by rfl, fun w' h' => ?_⟩) hS ?_
          · have c0 := (cells4 ((RK.out.grow h').get (.head _))).1
            have c1 := (cells4 ((RK.out.grow h').get (.head _))).2.1
            have c2 := (cells4 ((RK.out.grow h').get (.head _))).2.2.1
            have c3 := (cells4 ((RK.out.grow h').get (.head _))).2.2.2.1
            clear h'
            go_simp
          simp only [Act.put]
          refine wpAnyH_ready (rs := [4]) (by kernel_rfl) (by simp) ?_
          refine AllReadyH.cons rfl (fun K hK => ?_) AllReadyH.nil
          go_simp
          refine (rWindow _ n nx S (.slice p1 D1.length c1) u HKW.out HN2.out).mono ?_
          rintro e w8 ⟨rfl, q8⟩
          have s8 := hS.trans (q8.mono hS.size)
          clear q8
          go_simp
          refine hK.out _ _ s8 (fun _ => ?_)
          clear hK K
          refine wpAnyH_ready (rs := [5]) (by kernel_rfl) (by simp) ?_
          refine AllReadyH.cons rfl (fun K hK => ?_) AllReadyH.nil
          go_simp
          refine (kI2.out _).mono ?_
          rintro e w9 ⟨rfl, rfl⟩
          go_simp
          refine hK.out _ _ s8 (fun _ => ?_)
          clear hK K
          refine wpAnyH_take (i := 6) (oi := ⟨some 43, Op.move (Operand.tmp 42), _, _, _, none⟩) (v := (.bool true)) rfl (by kernel_rfl) (by kernel_rfl) (by kernel_rfl) (fun _ _ _ h => h) (Or.inl ⟨by rfl, fun w' h' => ?_⟩) s8 ?_
          · clear h'
            go_simp
          simp only [Act.put]
          refine wpAnyH_take (i := 7) (oi := ⟨some 44, Op.load 36 (Operand.tmp 3), _, _, _, some (6, true)⟩) (v := (.agg #[.int .i64 (n : Int), .int .u32 nx, .string S, .slice p1 D1.length c1])) rfl (by kernel_rfl) (by kernel_rfl) (by kernel_rfl) (fun _ _ _ h => h) (Or.inl ⟨by kernel_rfl, fun w' h' => ?_⟩) s8 ?_
          · have c0 := (cells4 ((RK.out.grow h').get (.head _))).1
            have c1 := (cells4 ((RK.out.grow h').get (.head _))).2.1
            have c2 := (cells4 ((RK.out.grow h').get (.head _))).2.2.1
            have c3 := (cells4 ((RK.out.grow h').get (.head _))).2.2.2.1
            clear h'
            go_simp
          simp only [Act.put]
          refine wpAnyH_take (i := 8) (oi := ⟨some 45, Op.move (Operand.tmp 10), _, _, _, some (6, true)⟩) (v := (.int .u32 N)) rfl (by kernel_rfl) (by kernel_rfl) (by kernel_rfl) (fun _ _ _ h => h) (Or.inl ⟨by kernel_rfl, fun w' h' => ?_⟩) s8 ?_
          · clear h'
            go_simp
          simp only [Act.put]
          refine wpAnyH_ready (rs := [9]) (by kernel_rfl) (by simp) ?_
          refine AllReadyH.cons rfl (fun K hK => ?_) AllReadyH.nil
          go_simp
          refine (rfind (RK.out.grow s8).acc (by have := HD1.out; omega) n nx S N).mono ?_
          rintro e w10 ⟨r, rfl, q9, q10⟩
          have s10 := s8.trans (q10.mono s8.size)
          obtain rfl := FK.out r q9
          clear q9 q10
          go_simp
          refine hK.out _ _ s10 (fun _ => ?_)
          clear hK K
          refine wpAnyH_take (i := 10) (oi := ⟨some 47, Op.binOp BinOp.lss 3 (Operand.tmp 46) (Operand.const (Value.int IntKind.i64 0)) 3, _, _, _, some (6, true)⟩) (v := (.bool true)) rfl (by kernel_rfl) (by kernel_rfl) (by kernel_rfl) (fun _ _ _ h => h) (Or.inl ⟨by kernel_rfl, fun w' h' => ?_⟩) s10 ?_
          · clear h'
            go_simp
          simp only [Act.put]
          refine wpAnyH_take (i := 11) (oi := ⟨some 48, Op.pick (Operand.tmp 43) (Operand.tmp 47) (Operand.const (Value.bool false)), _, _, _, none⟩) (v := (.bool true)) rfl (by kernel_rfl) (by kernel_rfl) (by kernel_rfl) (fun _ _ _ h => h) (Or.inl ⟨by rfl, fun w' h' => ?_⟩) s10 ?_
          · clear h'
            go_simp
          simp only [Act.put]
          refine wpAnyH_done (by kernel_rfl) (NoPanic.normal ?_) _
          try simp only [List.setIfInBounds_toArray, List.set_cons_zero, List.set_cons_succ]
          go_upto_region 9 with fail
          have RK2 := Lib.hid (RK.out.grow s10)
          have DP2 : Hid (Dp nx (holdW nx s (dL.take (k + 1)) W) (D1 ++ [⟨N, X[k]⟩])) := Lib.hid (by rw [TH.out]; exact DK.out.push HX.out.1 HX.out.2 HWL.out HNB.out HJ.out HX3.out X[k])
          have HDL4 := Lib.hid (show D1.length + [(⟨N, X[k]⟩ : Hb)].length ≤ 100000000 by have := HD1.out; simp; omega)
          clear s8 s10 hS RK
          obtain ⟨b0, b1, b2, b3, f0⟩ := cells4 (RK2.out.get (.head _))
          clear f0
          have R10 := Lib.hid ((RK2.out.alloc (.cells #[.int .u32 N, .int .u8 (X[k].toNat : Int)] 63)).grow (Below.refl _ _).drew)
          have HC : Hid (∀ (j : Nat) (u : Value), (encB ⟨N, X[k]⟩)[j]? = some u → (w10.alloc (.cells #[.int .u32 N, .int .u8 (X[k].toNat : Int)] 63)).drew.cell? ((⟨w10.heap.size, 0, none⟩ : Addr).add j) = some u) := Lib.hid (fun j u hu => hb_new w10 ⟨N, X[k]⟩ j u (by simpa [encA] using hu))
          obtain ⟨-, -, -, g3, -⟩ := cells4 (R10.out.get (.head _))
          have HDL5 := Lib.hid (show D1.length ≤ 1000000 by have := HD1.out; omega)
          have HLEN := Lib.hid (show (D1 ++ [(⟨N, X[k]⟩ : Hb)]).length = D1.length + 1 by simp)
          clear m1 m2 m3 m4 m5 m6 d1 d2
          go_region_law (refine step_append_hb rfl (.tmp 50) (.tmp 56) rfl (.slice p1 D1.length c1) D1 (by simp [Act.eval]) R10.out.acc HDL5.out ⟨w10.heap.size, 0, none⟩ 1 ⟨N, X[k]⟩ (by simp [Act.eval]) HC.out ?_; intro v' w' hrow hgr hbl2; have R11 := Lib.hid (R10.out.app hgr hrow hbl2); clear hrow hgr hbl2; obtain ⟨p', c', hv'⟩ := RowA.shape R11.out.acc; rw [HLEN.out] at hv'; subst hv'; obtain ⟨b0, b1, b2, b3, f0⟩ := cells4 (R11.out.get (.head _)); have f3 := f0 3; clear f0; have R12 := Lib.hid (R11.out.setF (i := 3) FR.out (by rw [HN0.out]; exact Nat.le_refl _) (.slice p' (D1.length + 1) c') (by show 3 < 4; omega)))
          all_goals go_wp2_with fail
          all_goals go_roundw
          all_goals first | exact ⟨k + 1, _, _, by omega, by go_num, R12, DP2⟩ | (simp [intOf]; omega)
      · have kI2 : Hid (∀ W', Calls Try.prog 25 #[.int .u32 N, .int .u32 nx, .int .i64 u] W' fun e w' => e = .returned (.bool false) ∧ w' = W') := Lib.hid (fun W' => (kI.out W').mono fun e w' ⟨h1, h2⟩ => ⟨by rw [h1, decide_eq_false hin], h2⟩)
        have TH := Lib.hid (holdW_out (d := dL) (s := s) (nx := nx) (W := W) (k := k) (by omega) (by have := HW2.out; omega) (by rw [HA.out, HU.out]; exact hin))
        clear kI hin ha0
        go_upto_region 8 with fail
        refine wp_region_noPanic ?_
        refine region_heldR (S := fun V => Below wr.heap.size wr V) (by kernel_rfl) (fun V d => d.below) (fun V d hS => ?_)
        refine wpAnyH_take (i := 0) (oi := ⟨some 37, Op.move (Operand.tmp 10), _, _, _, none⟩) (v := (.int .u32 N)) rfl (by kernel_rfl) (by kernel_rfl) (by kernel_rfl) (fun _ _ _ h => h) (Or.inl ⟨by rfl, fun w' h' => ?_⟩) hS ?_
        · clear h'
          go_simp
        simp only [Act.put]
        refine wpAnyH_take (i := 1) (oi := ⟨some 38, Op.fieldAddr 36 (Operand.tmp 3) 1, _, _, _, none⟩) (v := (.pointer (some ⟨n0, 1, none⟩))) rfl (by kernel_rfl) (by kernel_rfl) (by kernel_rfl) (fun _ _ _ h => h) (Or.inl ⟨by rfl, fun w' h' => ?_⟩) hS ?_
        · clear h'
          go_simp
        simp only [Act.put]
        refine wpAnyH_take (i := 2) (oi := ⟨some 39, Op.load 26 (Operand.tmp 38), _, _, _, none⟩) (v := (.int .u32 nx)) rfl (by kernel_rfl) (by kernel_rfl) (by kernel_rfl) (fun _ _ _ h => h) (Or.inl ⟨by rfl, fun w' h' => ?_⟩) hS ?_
        · have c0 := (cells4 ((RK.out.grow h').get (.head _))).2.1
          clear h'
          go_simp
        simp only [Act.put]
        refine wpAnyH_take (i := 3) (oi := ⟨some 40, Op.load 36 (Operand.tmp 3), _, _, _, none⟩) (v := (.agg #[.int .i64 (n : Int), .int .u32 nx, .string S, .slice p1 D1.length c1])) rfl (by kernel_rfl) (by kernel_rfl) (by kernel_rfl) (fun _ _ _ h => h) (Or.inl ⟨by rfl, fun w' h' => ?_⟩) hS ?_
        · have c0 := (cells4 ((RK.out.grow h').get (.head _))).1
          have c1 := (cells4 ((RK.out.grow h').get (.head _))).2.1
          have c2 := (cells4 ((RK.out.grow h').get (.head _))).2.2.1
          have c3 := (cells4 ((RK.out.grow h').get (.head _))).2.2.2.1
          clear h'
          go_simp
        simp only [Act.put]
        refine wpAnyH_ready (rs := [4]) (by kernel_rfl) (by simp) ?_
        refine AllReadyH.cons rfl (fun K hK => ?_) AllReadyH.nil
        go_simp
        refine (rWindow _ n nx S (.slice p1 D1.length c1) u HKW.out HN2.out).mono ?_
        rintro e w8 ⟨rfl, q8⟩
        have s8 := hS.trans (q8.mono hS.size)
        clear q8
        go_simp
        refine hK.out _ _ s8 (fun _ => ?_)
        clear hK K
        refine wpAnyH_ready (rs := [5]) (by kernel_rfl) (by simp) ?_
        refine AllReadyH.cons rfl (fun K hK => ?_) AllReadyH.nil
        go_simp
        refine (kI2.out _).mono ?_
        rintro e w9 ⟨rfl, rfl⟩
        go_simp
        refine hK.out _ _ s8 (fun _ => ?_)
        clear hK K
        refine wpAnyH_take (i := 6) (oi := ⟨some 43, Op.move (Operand.tmp 42), _, _, _, none⟩) (v := (.bool false)) rfl (by kernel_rfl) (by kernel_rfl) (by kernel_rfl) (fun _ _ _ h => h) (Or.inl ⟨by rfl, fun w' h' => ?_⟩) s8 ?_
        · clear h'
          go_simp
        simp only [Act.put]
        refine wpAnyH_take (i := 7) (oi := ⟨some 44, Op.load 36 (Operand.tmp 3), _, _, _, some (6, true)⟩) (v := undef) rfl (by kernel_rfl) (by kernel_rfl) (by kernel_rfl) (fun _ _ _ h => h) (Or.inr ⟨by kernel_rfl, rfl⟩) s8 ?_
        simp only [Act.put]
        refine wpAnyH_take (i := 8) (oi := ⟨some 45, Op.move (Operand.tmp 10), _, _, _, some (6, true)⟩) (v := undef) rfl (by kernel_rfl) (by kernel_rfl) (by kernel_rfl) (fun _ _ _ h => h) (Or.inr ⟨by kernel_rfl, rfl⟩) s8 ?_
        simp only [Act.put]
        refine wpAnyH_take (i := 9) (oi := ⟨some 46, Op.call { callee := Callee.value (Operand.func 26), args := #[(Operand.tmp 44), (Operand.tmp 45)], argTypes := #[36, 26] }, _, _, _, some (6, true)⟩) (v := undef) rfl (by kernel_rfl) (by kernel_rfl) (by kernel_rfl) (fun _ _ _ h => h) (Or.inr ⟨by kernel_rfl, rfl⟩) s8 ?_
        simp only [Act.put]
        refine wpAnyH_take (i := 10) (oi := ⟨some 47, Op.binOp BinOp.lss 3 (Operand.tmp 46) (Operand.const (Value.int IntKind.i64 0)) 3, _, _, _, some (6, true)⟩) (v := undef) rfl (by kernel_rfl) (by kernel_rfl) (by kernel_rfl) (fun _ _ _ h => h) (Or.inr ⟨by kernel_rfl, rfl⟩) s8 ?_
        simp only [Act.put]
        refine wpAnyH_take (i := 11) (oi := ⟨some 48, Op.pick (Operand.tmp 43) (Operand.tmp 47) (Operand.const (Value.bool false)), _, _, _, none⟩) (v := (.bool false)) rfl (by kernel_rfl) (by kernel_rfl) (by kernel_rfl) (fun _ _ _ h => h) (Or.inl ⟨by rfl, fun w' h' => ?_⟩) s8 ?_
        · clear h'
          go_simp
        simp only [Act.put]
        refine wpAnyH_done (by kernel_rfl) (NoPanic.normal ?_) _
        try simp only [List.setIfInBounds_toArray, List.set_cons_zero, List.set_cons_succ]
        go_wp2_with fail
        go_roundw
        case rel => exact ⟨k + 1, _, D1, by omega, by go_num, Lib.hid (RK.out.grow s8), Lib.hid (by rw [TH.out]; exact DK.out)⟩
        case measure => simp [intOf]; omega
    · obtain rfl : k = X.size := by omega
      have d1 : decide ((X.size : Int) < (X.size : Int)) = false := by simp
      have DV : Hid (Dp nx V D1) := Lib.hid (by have := DK.out; rw [List.take_of_length_le (by rw [HDL.out]; exact Nat.le_refl _), ← HV.out] at this; exact this)
      have HVL : Hid (V.length ≤ 2048) := Lib.hid (by rw [HV.out, holdW_len]; exact HW2.out)
      have HRL : Hid (runW V ≤ V.length) := Lib.hid (runW_le V)
      have HRN : Hid (R.length + V.length = n) := Lib.hid (by rw [HV.out, holdW_len]; exact HLN.out)
      clear DK
      go_upto_region 11 with fail
      have SL0 := HSL
      go_loopw [11] (fun q wr => ∃ (k : Nat) (v : Value) (D2 : List Hb) (S2 : ByteArray), k ≤ runW V ∧ q = .int .i64 k ∧ Hid (RaG 2 encB 63 w wr [(n0, .cells #[.int .i64 (n : Int), .int .u32 ((nx + k) % 4294967296), .string S2, (v)] 36 (0, 0)), (n1, .cells #[.int .i64 0, .int .u32 0, .string ⟨#[]⟩, .slice none 0 0] 36 (0, 0))] (v) D2) ∧ Hid (Dp ((nx + k) % 4294967296) (V.drop k) D2) ∧ Hid (S2.data.toList = R ++ (gotW V).take k)) (fun q _ => runW V + 1 - (intOf q).toNat)
      case atStart => exact ⟨0, _, D1, S, Nat.zero_le _, rfl, Lib.hid (by have := RK.out; rw [show (nx + ((0 : Nat) : Int)) % 4294967296 = nx by have := HX.out; omega]; exact this), Lib.hid (by have := DV.out; rw [show (nx + ((0 : Nat) : Int)) % 4294967296 = nx by have := HX.out; omega, List.drop_zero]; exact this), Lib.hid (by rw [HSL.out, List.take_zero, List.append_nil])⟩
      case round =>
        clear RK DV SL0 HD1 p1 c1 d1
        obtain ⟨k, v1, D2, S2, hk, rfl, RK, DK, SK⟩ := hrel
        obtain ⟨p1, c1, hv1⟩ := RowA.shape RK.out.acc
        subst hv1
        have hD2 : D2.length ≤ 2048 := by rw [DK.out.len]; have := heldW_le (V.drop k); rw [List.length_drop] at this; have := HVL.out; omega
        have HD2 := Lib.hid hD2
        obtain ⟨y, hy⟩ : ∃ y, y = (nx + (k : Int)) % 4294967296 := ⟨_, rfl⟩
        have hyb : 0 ≤ y ∧ y < 4294967296 := by rw [hy]; exact mod_ltR _
        have hy1 : IntKind.u32.wrap (y + 1) = (nx + ((k + 1 : Nat) : Int)) % 4294967296 := by rw [IntKind.wrap_u32, hy]; omega
        have hy2 : (y + 1) % 4294967296 = (nx + ((k + 1 : Nat) : Int)) % 4294967296 := by rw [hy]; omega
        rw [← hy] at RK DK
        have HY := Lib.hid hy
        have HYB := Lib.hid hyb
        have HY1 := Lib.hid hy1
        have HY2 := Lib.hid hy2
        have HS2 : Hid (S2.size = R.length + k) := Lib.hid (by
          have h1 : S2.data.toList.length = S2.size := by rw [Array.length_toList]; rfl
          rw [← h1, SK.out, List.length_append, List.length_take, gotW_len]; omega)
        have hvd : (V.drop k).length ≤ 4294967296 := by rw [List.length_drop]; have := HVL.out; omega
        have ah0 : ahN y y = ((0 : Nat) : Int) := by unfold ahN; omega
        -- what is found
        have GN1 : Hid ((∀ z ∈ D2, z.at_ ≠ y) → runW V = k) := Lib.hid (fun h => by
          rcases Nat.lt_or_ge k (runW V) with hl | hl
          · obtain ⟨x, hx⟩ := runW_some V k hl
            have := DK.out.some_ HYB.out.1 HYB.out.2 hvd HYB.out ah0 (x := x) (by rw [List.getElem?_drop]; exact hx)
            exact absurd rfl (h _ this)
          · omega)
        have GN2 : Hid (∀ (j : Nat) (h : j < D2.length), D2[j].at_ = y → k < runW V ∧ V[k]? = some (some D2[j].x) ∧ D2[j] = ⟨y, D2[j].x⟩) := Lib.hid (fun j h he => by
          have hm : (⟨y, D2[j].x⟩ : Hb) ∈ D2 := by
            have : D2[j] = ⟨y, D2[j].x⟩ := by rw [← he]
            rw [← this]; exact List.getElem_mem h
          obtain ⟨i, h2, h3⟩ := (mem_numsW HYB.out.1 HYB.out.2 hvd y D2[j].x HYB.out).1 (DK.out.mem_iff.1 hm)
          have hi0 : i = 0 := by rw [ah0] at h2; omega
          subst hi0
          rw [List.getElem?_drop, Nat.add_zero] at h3
          refine ⟨?_, h3, by rw [← he]⟩
          rcases Nat.lt_or_ge k (runW V) with hl | hl
          · exact hl
          · have : k = runW V := by omega
            rcases runW_end V with e | e <;> rw [← this, h3] at e <;> simp at e)
        clear hy hyb hy1 hy2 hvd ah0 hD2
        obtain ⟨b0, b1, b2, b3, f0⟩ := cells4 (RK.out.get (.head _))
        have rg := Lib.hid (range4 (RK.out.get (.head _)))
        clear f0
        go_upto_region 12 with (first | (refine wpList_load_mid rfl 36 _ rfl n0 0 rfl [.int .i64 (n : Int), .int .u32 y, .string S2, .slice p1 D2.length c1] _ rg.out Try.underlying36 rfl (by kernel_rfl) ?_) | (go_at_call 26; refine (rfind RK.out.acc (by have := HD2.out; omega) n y S2 y).mono ?_; rintro e w5 ⟨r, rfl, q1, q2⟩; have Q1 := Lib.hid q1; have Q2 := Lib.hid q2; clear q1 q2))
        have R5 := Lib.hid (RK.out.grow Q2.out)
        clear b0 b1 b2 b3 rg RK Q2
        rcases Q1.out with ⟨rfl, hno⟩ | ⟨j, hj, rfl, hjy⟩
        · have hke := GN1.out hno
          clear Q1 GN1 GN2 hno
          obtain ⟨b0, b1, b2, b3, f0⟩ := cells4 (R5.out.get (.head _))
          have rg := Lib.hid (range4 (R5.out.get (.head _)))
          have hst := st_buf (s := S2) (i := (n : Int)) (j := y) (p := p1) (m := D2.length) (k := c1) (R5.out.get (.tail _ (.head _)))
          have HST := Lib.hid hst
          have HW4 := Lib.hid (setRow_heap w5 n1 _ #[.int .i64 (n : Int), .int .u32 y, .string S2, .slice p1 D2.length c1] _ _ (R5.out.get (.tail _ (.head _))))
          have BL4 := Lib.hid (below_setRowB R5.out.bl HN1.out #[.int .i64 (n : Int), .int .u32 y, .string S2, .slice p1 D2.length c1])
          have RW4 : Hid (HbRow (w5.setRow n1 #[.int .i64 (n : Int), .int .u32 y, .string S2, .slice p1 D2.length c1]) (.slice p1 D2.length c1) D2) := Lib.hid (R5.out.acc.kept (by rw [size_setRow]; exact Nat.le_refl _) (fun k hk => setRow_other _ _ _ _ ((R5.out.fx _ (.tail _ (.head _))).2 k hk)))
          have HKE := Lib.hid hke
          clear hst f0 hke
          go_wp2_with (first | (refine wpList_load_mid rfl 36 _ rfl n0 0 rfl [.int .i64 (n : Int), .int .u32 y, .string S2, .slice p1 D2.length c1] _ rg.out Try.underlying36 rfl (by kernel_rfl) ?_) | (refine wpList_storeW 36 _ _ rfl rfl (.agg #[.int .i64 (n : Int), .int .u32 y, .string S2, .slice p1 D2.length c1]) n1 rfl rfl HST.out ?_))
          have hke := HKE.out
          have hy := HY.out
          rw [← hke] at hy
          refine bodyPost_ret (v := .tuple #[.agg #[.int .i64 (n : Int), .int .u32 y, .string S2, .slice p1 D2.length c1], .int .i64 k]) (results_row _ 6 7 36 (by kernel_rfl) _ n1 _ _ _ _ rfl rfl HW4.out Try.underlying36 rfl (by kernel_rfl)) rfl ⟨p1, c1, D2, S2, by rw [← hy, hke], RW4.out, R5.out.own, BL4.out, by rw [← hy, hke]; exact DK.out, by have := SK.out; rw [this, ← hke, List.take_of_length_le (by rw [gotW_len]; exact Nat.le_refl _)]⟩
        · obtain ⟨hkr, hvk, hde⟩ := GN2.out j hj hjy
          have hxe : V.drop k = some D2[j].x :: V.drop (k + 1) := by
            obtain ⟨hkl, he⟩ := List.getElem?_eq_some_iff.1 hvk
            rw [List.drop_eq_getElem_cons hkl, he]
          have DP2 : Hid (Dp ((nx + ((k + 1 : Nat) : Int)) % 4294967296) (V.drop (k + 1)) (D2.take j ++ D2.drop (j + 1))) := Lib.hid (by
            have := DK.out
            rw [hxe] at this
            have := this.pop hj hde
            rw [HY2.out] at this
            exact this)
          have SK2 : Hid ((S2 ++ ⟨#[D2[j].x]⟩).data.toList = R ++ (gotW V).take (k + 1)) := Lib.hid (by
            have hg : (gotW V)[k]? = some D2[j].x := by
              unfold gotW
              rw [List.getElem?_map, List.getElem?_take, if_pos hkr, hvk]
              rfl
            rw [ByteArray.data_append, Array.toList_append, SK.out, List.take_add_one, hg, List.append_assoc]
            rfl)
          obtain ⟨b, cap, hv, hcap, hcm, hbl, hfz, hE0⟩ := RowA.elem encB_len R5.out.acc (by omega)
          injection hv with hv _ hc
          subst hv hc
          have hE := hE0 j hj
          have x1 := hE 1 _ rfl
          have XK : Hid (w5.cell? ⟨b, j * 2 + 1, none⟩ = some (.int .u8 (D2[j].x.toNat : Int))) := Lib.hid x1
          have HHB := Lib.hid (show b < w5.heap.size from hbl)
          have HCAP := Lib.hid hcap
          have HCM := Lib.hid hcm
          have HJ := Lib.hid hj
          have HKR := Lib.hid hkr
          generalize D2[j].x = x at x1 SK2 XK
          clear Q1 GN1 GN2 hjy hvk hde hxe hE hE0 hfz hbl hcap hcm hkr x1 SK DK
          have hr9 : decide ((j : Int) < 0) = false := decide_eq_false (by omega)
          go_upto_region 14 with fail
          obtain ⟨Y, hY⟩ : ∃ Y : ByteArray, Y = ⟨#[x]⟩ := ⟨_, rfl⟩
          go_cut [] from 67 to 78 (fun wx => Hid (RaG 2 encB 63 w wx [(n0, .cells #[.int .i64 (n : Int), .int .u32 y, .string (S2 ++ Y), (.slice (some ⟨b, 0, none⟩) D2.length c1)] 36 (0, 0)), (n1, .cells #[.int .i64 0, .int .u32 0, .string ⟨#[]⟩, .slice none 0 0] 36 (0, 0))] (.slice (some ⟨b, 0, none⟩) D2.length c1) D2))
          case first =>
            obtain ⟨b0, b1, b2, b3, f0⟩ := cells4 (R5.out.get (.head _))
            clear f0
            have R10 := Lib.hid ((R5.out.alloc (.cells #[.int .u8 (x.toNat : Int)] 5)).grow (Below.refl _ _).drew)
            obtain ⟨-, -, g2, g3, f0⟩ := cells4 (R10.out.get (.head _))
            have f2 := f0 2
            clear f0
            have xk := XK.out
            have hcv := conv_bytesR (w5.alloc (.cells #[.int .u8 (x.toNat : Int)] 5)).drew w5.heap.size 1 [x] rfl (heap_alloc_new w5 (.cells #[.int .u8 (x.toNat : Int)] 5))
            have hcv2 : (convert 52 9 (.slice (some ⟨w5.heap.size, 0, none⟩) 1 1)).run Try.prog (w5.alloc (.cells #[.int .u8 (x.toNat : Int)] 5)).drew = .ok (.string Y) (w5.alloc (.cells #[.int .u8 (x.toNat : Int)] 5)).drew := by rw [hY]; exact hcv
            have hsz : S2.size + Y.size ≤ 9223372036854775807 := by
              have := HS2.out; have := HRN.out; have := HKR.out; have := HRL.out; have := HN2.out
              have hy1 : Y.size = 1 := by rw [hY]; rfl
              omega
            have q1 : (0 : Int) ≤ (j : Int) := by omega
            have q2 : (j : Int) < (D2.length : Int) := by omega
            have R12 := Lib.hid (R10.out.setF (i := 2) FR.out (by rw [HN0.out]; exact Nat.le_refl _) (.string (S2 ++ Y)) (by show 2 < 4; omega))
            have HYY := Lib.hid hY
            clear hcv hY
            go_region
            all_goals
              go_wp2_with fail
              go_meet
              case rel => exact R12
          case rest =>
            have R6 := Lib.hid hcut.out
            clear hcut R5
            rename World => w6
            obtain ⟨b', cap', cur, h1, h2, h3, h4, h5, h6⟩ := R6.out.acc.block (by have := HJ.out; omega)
            injection h1 with h1 _ h1c
            injection h1 with h1
            injection h1 with h1
            subst h1 h1c
            have hat : ∀ (t : Nat) (u : Value), (encA encB D2)[t]? = some u → cur[t]? = some u := fun t u hu => by
              have ht : t < D2.length * 2 := by have := (List.getElem?_eq_some_iff.1 hu).1; rwa [encA_length encB_len] at this
              rw [← h6, List.getElem?_take, if_pos ht] at hu
              simpa using hu
            have R7 := Lib.hid (R6.out.fresh h2 2 encB 63)
            have HC7 : Hid (∀ (t : Nat) (u : Value), (encA encB (D2.take j))[t]? = some u → w6.cell? ((⟨b, 0, none⟩ : Addr).add t) = some u) := Lib.hid (fun t u hu => by
              rw [add_off, Nat.zero_add, cell_of_block h2]
              refine hat t u ?_
              have e := encA_append encB (D2.take j) (D2.drop j)
              rw [List.take_append_drop] at e
              rw [e, List.getElem?_append_left (List.getElem?_eq_some_iff.1 hu).1]
              exact hu)
            have HL7 := Lib.hid (show ([] : List Hb).length + (D2.take j).length ≤ 100000000 by have := HD2.out; rw [List.length_take]; simp; omega)
            have HM7 := Lib.hid (show (D2.take j).length = j by have := HJ.out; rw [List.length_take]; omega)
            have HCJ : Hid (j < D2.length ∧ D2.length ≤ c1) := Lib.hid ⟨HJ.out, HCAP.out⟩
            obtain ⟨A, hA, hsrc⟩ : ∃ A : Addr, (if c1 = j + 1 then (some ⟨b, 0, none⟩ : Option Addr) else some ⟨b, (j + 1) * 2, none⟩) = some A ∧ Hid (∀ W' : World, W'.heap[b]? = some (.cells cur 63 (0, 0)) → ∀ (t : Nat) (u : Value), (encA encB (D2.drop (j + 1)))[t]? = some u → W'.cell? (A.add t) = some u) := by
              have hcj := HCJ.out
              have hdl2 : (encA encB (D2.drop (j + 1))).length = (D2.length - (j + 1)) * 2 := by rw [encA_length encB_len, List.length_drop]
              by_cases hc : c1 = j + 1
              · refine ⟨⟨b, 0, none⟩, by simp [hc], fun W' hW' t u hu => ?_⟩
                have := (List.getElem?_eq_some_iff.1 hu).1
                omega
              · refine ⟨⟨b, (j + 1) * 2, none⟩, by simp [hc], fun W' hW' t u hu => ?_⟩
                rw [add_off, cell_of_block hW']
                refine hat _ u ?_
                have e := encA_append encB (D2.take (j + 1)) (D2.drop (j + 1))
                rw [List.take_append_drop] at e
                have e2 := encA_length encB_len (D2.take (j + 1))
                rw [List.length_take, Nat.min_eq_left (by omega)] at e2
                rw [e, List.getElem?_append_right (by omega), e2, Nat.add_sub_cancel_left]
                exact hu
            have HL8 := Lib.hid (show (D2.take j).length + (D2.drop (j + 1)).length ≤ 100000000 by have := HD2.out; rw [List.length_take, List.length_drop]; omega)
            have HM8 := Lib.hid (show (D2.drop (j + 1)).length = D2.length - (j + 1) by rw [List.length_drop])
            obtain ⟨E2, hE2⟩ : ∃ E, E = D2.take j ++ D2.drop (j + 1) := ⟨_, rfl⟩
            have HE2 := Lib.hid hE2
            obtain ⟨b0, b1, b2, b3, f0⟩ := cells4 (R6.out.get (.head _))
            have q1 : (0 : Int) ≤ (j : Int) := by omega
            have q2 : (j : Int) ≤ (c1 : Int) := by have := HCJ.out; omega
            have q3 : (j : Int) + 1 ≤ (D2.length : Int) := by have := HCJ.out; omega
            have q4 : (0 : Int) ≤ (j : Int) + 1 := by omega
            have q5 : IntKind.i64.wrap ((j : Int) + 1) = (j : Int) + 1 := IntWalk.i64_in _ (by have := HD2.out; omega)
            have q6 : IntKind.i64.wrap ((k : Int) + 1) = (k : Int) + 1 := IntWalk.i64_in _ (by have := HKR.out; have := HRL.out; have := HVL.out; omega)
            have HYY := Lib.hid hY
            clear hE2 f0 h2 h3 h4 h5 h6 hat hY hj
            go_upto_region 17 with (refine wpList_append_many encB_len encB_one (by decide) rfl (.tmp 79) (.tmp 83) 34 rfl i0 z0 8 Try.underlying34 I0.out I1.out I2.out I5.out (by decide) I4.out (.slice none 0 0) [] rfl R7.out.acc (D2.take j) HL7.out ⟨b, 0, none⟩ j c1 HM7.out rfl HC7.out ?_; intro v7 w7 hrow hgr hbl2; have R8 := Lib.hid (R7.out.app hgr hrow hbl2); clear hrow hgr hbl2)
            rw [List.nil_append] at R8
            have HC8 := Lib.hid (hsrc.out w7 (R8.out.get (.head _)))
            clear b0 b1 b2 b3 R7 R6 HC7 hsrc q1 q2
            obtain ⟨b0, b1, b2, b3, f0⟩ := cells4 (R8.out.get (.tail _ (.head _)))
            clear f0
            go_upto_region 18 with (refine wpList_append_many encB_len encB_one (by decide) rfl (.tmp 85) (.tmp 90) 34 rfl i0 z0 8 Try.underlying34 I0.out I1.out I2.out I5.out (by decide) I4.out v7 (D2.take j) rfl R8.out.acc (D2.drop (j + 1)) HL8.out A (D2.length - (j + 1)) (c1 - (j + 1)) HM8.out rfl HC8.out ?_; intro v8 w8 hrow hgr hbl2; have R9 := Lib.hid (R8.out.app hgr hrow hbl2).drop; clear hrow hgr hbl2; rw [← HE2.out] at R9; obtain ⟨p8, c8, hv8⟩ := RowA.shape R9.out.acc; subst hv8; obtain ⟨e0, e1, e2, e3, f0⟩ := cells4 (R9.out.get (.head _)); have f3 := f0 3; clear f0; have R10 := Lib.hid (R9.out.setF (i := 3) FR.out (by rw [HN0.out]; exact Nat.le_refl _) (.slice p8 E2.length c8) (by show 3 < 4; omega)))
            clear b0 b1 b2 b3 e0 e1 e2 e3 f3 hA q3 q4 q5 HC8 R8 R9
            generalize w8.setCell _ _ = w9 at R10 ⊢
            obtain ⟨y1, hy1⟩ : ∃ y1, y1 = (nx + ((k + 1 : Nat) : Int)) % 4294967296 := ⟨_, rfl⟩
            have e5 : IntKind.u32.wrap (y + 1) = y1 := by rw [hy1]; exact HY1.out
            rw [← hy1] at DP2
            have HYZ := Lib.hid hy1
            clear hy1
            obtain ⟨b0, b1, b2, b3, f0⟩ := cells4 (R10.out.get (.head _))
            have f1 := f0 1
            clear f0
            have R11 := Lib.hid (R10.out.setF (i := 1) FR.out (by rw [HN0.out]; exact Nat.le_refl _) (.int .u32 y1) (by show 1 < 4; omega))
            go_wp2_with fail
            go_roundw
            case rel => exact ⟨k + 1, _, E2, S2 ++ Y, HKR.out, by go_num, Lib.hid (by rw [← HYZ.out]; exact R11.out), Lib.hid (by rw [← HYZ.out, HE2.out]; exact DP2.out), Lib.hid (by rw [HYY.out]; exact SK2.out)⟩
            case measure => have := HKR.out; simp [intOf]; omega
end Go.Proofs.Ytgbjedngmdpheaa
