/-
  Layer 13, the document's own buffer: numbered bytes; Una, Write. Conditions: as said.
-/
import Derived.Test.YtcnongkkmjahfaaSbD
import Derived.Test.YtcnongkkmjahfaaRbK
import Derived.Deep.Upon
namespace Go.Proofs.Ytcnongkkmjahfaa
open Go.RowKit
set_option linter.unusedVariables false

theorem info_by : ∃ i z, Try.prog.info? 55 = some i ∧ i.zero = some z ∧ i.size = 2 ∧ i.bytes = 8 ∧ z.cells.size = 2 := by
  have h : (Try.prog.info? 55).map (fun i => (i.zero.map (fun z => z.cells.size), i.size, i.bytes)) = some (some 2, 2, 8) := by kernel_rfl
  cases hi : Try.prog.info? 55 with
  | none => rw [hi] at h; cases h
  | some i =>
    rw [hi] at h
    simp only [Option.map_some, Option.some.injEq, Prod.mk.injEq] at h
    obtain ⟨h1, h2, h3⟩ := h
    cases hz : i.zero with
    | none => rw [hz] at h1; cases h1
    | some z => rw [hz] at h1; exact ⟨i, z, rfl, hz, h2, h3, by simpa using h1⟩
/-- Bytes with their numbers, from the number u on. -/
def hbs (u : Int) (L : List UInt8) : List Hb := L.mapIdx fun j x => ⟨(u + j) % 4294967296, x⟩
theorem hbs_len (u : Int) (L : List UInt8) : (hbs u L).length = L.length := by simp [hbs]
theorem hbs_get (u : Int) (L : List UInt8) (j : Nat) : (hbs u L)[j]? = L[j]?.map fun x => ⟨(u + j) % 4294967296, x⟩ := by simp [hbs, List.getElem?_mapIdx]
theorem hbs_push (u : Int) (L : List UInt8) (x : UInt8) : hbs u (L ++ [x]) = hbs u L ++ [⟨(u + L.length) % 4294967296, x⟩] := by
  simp [hbs, List.mapIdx_append]
theorem hbs_drop (u : Int) (L : List UInt8) (k : Nat) : hbs ((u + k) % 4294967296) (L.drop k) = (hbs u L).drop k := by
  apply List.ext_getElem?
  intro j
  rw [hbs_get, List.getElem?_drop, List.getElem?_drop, hbs_get]
  congr 1
  funext x
  congr 1
  omega
/-- The row of numbered bytes. -/
abbrev ByRow (w : World) (v : Value) (D : List Hb) : Prop := RowA 2 encB 55 w v D
/-- A slice reads as these numbered bytes; it lies in no block of O. -/
structure BySl (w : World) (O : Nat → Prop) (p : Option Addr) (c : Nat) (D : List Hb) : Prop where
  cap : D.length ≤ c
  rd : 0 < D.length → ∃ b o, p = some ⟨b, o, none⟩ ∧ ¬ O b ∧ b < w.heap.size ∧ w.rangeAt b o (encA encB D)
section
variable {w w' : World} {O O' : Nat → Prop} {p : Option Addr} {c : Nat} {D : List Hb}
theorem BySl.kept (h : BySl w O p c D) (t : Turn w w' O) : BySl w' O p c D :=
  ⟨h.cap, fun h0 => by
    obtain ⟨b, o, h1, h2, h3, h4⟩ := h.rd h0
    exact ⟨b, o, h1, h2, Nat.lt_of_lt_of_le h3 t.size, fun j v hv => (World.cell?_of_block (a := ⟨b, o + j, none⟩) (t.block b h3 h2)).trans (h4 j v hv)⟩⟩
theorem BySl.less (h : BySl w O p c D) (k : ∀ j, O' j → O j) : BySl w O' p c D := ⟨h.cap, fun h0 => by
    obtain ⟨b, o, h1, h2, h3, h4⟩ := h.rd h0
    exact ⟨b, o, h1, fun e => h2 (k _ e), h3, h4⟩⟩
theorem BySl.grow (h : BySl w O p c D) (k : Below w.heap.size w w') : BySl w' O p c D := h.kept (Turn.of_below k)
theorem BySl.nil (w : World) (O : Nat → Prop) : BySl w O none 0 [] := ⟨Nat.le_refl _, fun h => absurd h (by decide)⟩
theorem BySl.of_row {v : Value} (h : ByRow w v D) (ho : ∀ k, v.ownBlock = some k → ¬ O k) : ∃ p c, v = .slice p D.length c ∧ BySl w O p c D := by
  rcases h.2 with ⟨rfl, h0⟩ | ⟨b, cap, cur, rfl, h1, h2, h3, h4, h5, h6⟩
  · obtain rfl : D = [] := List.length_eq_zero_iff.1 h0
    exact ⟨none, 0, rfl, BySl.nil w O⟩
  · refine ⟨some ⟨b, 0, none⟩, cap, rfl, h3, fun _ => ⟨b, 0, rfl, ho b rfl, (Array.getElem?_eq_some_iff.1 h2).1, fun j u hu => ?_⟩⟩
    have := h.cells (g := b) rfl j u hu
    rw [add_off] at this
    exact this
theorem BySl.elem (h : BySl w O p c D) (h0 : 0 < D.length) : ∃ b o, p = some ⟨b, o, none⟩ ∧ b < w.heap.size ∧ ∀ (j : Nat) (hj : j < D.length), w.rangeAt b (o + j * 2) (encB D[j]) := by
  obtain ⟨b, o, h1, h2, h3, h4⟩ := h.rd h0
  refine ⟨b, o, h1, h3, fun j hj i u hu => ?_⟩
  have hi : i < 2 := by have := (List.getElem?_eq_some_iff.1 hu).1; rwa [encB_len] at this
  have := h4 (j * 2 + i) u (by rw [encA_at encB_len D j i hj hi]; exact hu)
  rw [Nat.add_assoc]
  exact this
end
theorem cells3 {w : World} {n : Nat} {x y z : Value} {t : TypeId} (h : w.heap[n]? = some (.cells #[x, y, z] t (0, 0))) : w.cell? ⟨n, 0, none⟩ = some x ∧ w.cell? ⟨n, 1, none⟩ = some y ∧ w.cell? ⟨n, 2, none⟩ = some z ∧ ∀ i, w.frozen? ⟨n, i, none⟩ = false :=
  ⟨by rw [cell_of_block h]; rfl, by rw [cell_of_block h]; rfl, by rw [cell_of_block h]; rfl, fun i => by simp [World.frozen?, h]⟩
theorem range3 {w : World} {n : Nat} {x y z : Value} {t : TypeId} (h : w.heap[n]? = some (.cells #[x, y, z] t (0, 0))) : w.rangeAt n 0 [x, y, z] := fun j u hu => by
  rw [Nat.zero_add, cell_of_block h]
  exact (List.getElem?_toArray (xs := [x, y, z])).trans hu
theorem st_buf3 {w : World} {n : Nat} {a b c : Value} {p : Option Addr} {m k : Nat} {i j : Int} (h : w.heap[n]? = some (.cells #[a, b, c] 36 (0, 0))) :
    (storeVar 36 ⟨n, 0, none⟩ (.agg #[.int .i64 i, .int .u32 j, .slice p m k])).run Try.prog w = .ok () (w.setRow n #[.int .i64 i, .int .u32 j, .slice p m k]) :=
  run_storeVar_row (P := Try.prog) w n 36 36 _ #[.int .i64 i, .int .u32 j, .slice p m k] h (by kernel_rfl) rfl (by simp [Value.oneCell'])
set_option maxHeartbeats 400000 in
theorem rUnaB {w : World} {O : Nat → Prop} {p : Option Addr} {c : Nat} {u : Int} {L : List UInt8} (h : BySl w O p c (hbs u L)) (hu : 0 ≤ u ∧ u < 4294967296) (n : Int) (e : Int) (he : e = (u + L.length) % 4294967296) :
    Calls Try.prog 16 #[.agg #[.int .i64 n, .int .u32 e, .slice p L.length c]] w fun en w' => en = .returned (.int .u32 u) ∧ Below w.heap.size w w' := by
  have BL := Lib.hid ((Below.refl w.heap.size w).alloc (Nat.le_refl _) (.cells #[.int .i64 n, .int .u32 e, .slice p L.length c] 36))
  have HB := Lib.hid (heap_alloc_new w (.cells #[.int .i64 n, .int .u32 e, .slice p L.length c] 36))
  have HR := Lib.hid (h.grow BL.out)
  have HE := Lib.hid he
  clear h he
  go_enter Try.func16, Try.ntmps16
  go_upto_region 1 with fail
  generalize w.alloc _ = W1 at BL HB HR ⊢
  generalize w.heap.size = n0 at HB ⊢
  obtain ⟨b0, b1, b2, -⟩ := cells3 HB.out
  cases L with
  | nil =>
    have hue : e = u := by rw [HE.out]; simp; omega
    subst hue
    simp only [List.length_nil] at b2 ⊢
    have d0 : (((0 : Nat) : Int) == 0) = true := rfl
    go_wp2_with fail
    go_ret
    exact ⟨rfl, BL.out⟩
  | cons x L =>
    have HL : Hid ((hbs u (x :: L)).length = (x :: L).length) := Lib.hid (hbs_len _ _)
    obtain ⟨b, o, hp, -, hE⟩ := HR.out.elem (by rw [HL.out]; exact Nat.succ_pos _)
    subst hp
    have c0 := hE 0 (by rw [HL.out]; exact Nat.succ_pos _) 0 (.int .u32 u) (by
      have : (hbs u (x :: L))[0]? = some ⟨u, x⟩ := by rw [hbs_get]; simp; omega
      have := (List.getElem?_eq_some_iff.1 this).2
      rw [this]; rfl)
    rw [Nat.zero_mul, Nat.add_zero] at c0
    generalize hl : (x :: L).length = l at b2 ⊢
    have hl0 : 0 < l := by rw [← hl]; exact Nat.succ_pos _
    have d0 : ((l : Int) == 0) = false := by simp; omega
    have q2 : (0 : Int) < (l : Int) := by omega
    clear hE hl
    go_wp2_with fail
    go_ret
    exact ⟨rfl, BL.out⟩
theorem wpList_copyB {ops : Array Oper} {rest : List Oper} {o : Oper} {a : Act} {w : World} {Q : Exit → Act → World → Prop} {O : Nat → Prop} (hg : o.guard = none) (s x : Operand) (hop : o.op = Op.call { callee := Callee.builtin Builtin.append, args := #[s, x], argTypes := #[34, 34] })
    (hs : a.eval s = .slice none 0 0) (p : Option Addr) (c : Nat) (D : List Hb) (l : Nat) (hl : l = D.length) (hx : a.eval x = .slice p l c) (h : BySl w O p c D) (hm : D.length ≤ 1000000)
    (hK : ∀ v' w', ByRow w' v' D → w.grownBy w' none → (v'.ownBlock = none ∨ v'.ownBlock = some w.heap.size) → wpList Try.prog ops Q rest (a.put o.dst v') w') : wpList Try.prog ops Q (o :: rest) a w := by
  subst hl
  refine wpList_plain hg fun K hKK => ?_
  obtain ⟨i, z, hi, hz, h1, h2, h3⟩ := info_by
  by_cases h0 : D.length = 0
  · obtain rfl : D = [] := List.length_eq_zero_iff.1 h0
    have hr : (Builtin.append_ #[34, 34] o.type #[.slice none 0 0, .slice p ([] : List Hb).length c]).run Try.prog w = .ok (.slice none 0 0) w := by
      refine run_append_nothing (P := Try.prog) w _ _ o.type 55 i Try.underlying34 hi none 0 0 (Nat.le_refl _) _ ?_
      cases p with
      | none => exact Src.ofNil w Try.underlying34 c
      | some ad => exact Src.ofSlice w Try.underlying34 ad 0 c [] (by simp) (fun j u hu => by simp at hu) (fun u hu => by cases hu)
    unfold Oper.wp
    simp only [execOp, hop, resolve, invoke, builtin, Sem.run_bind, Sem.run_pure, Result.andThen_ok, List.map_toArray, List.map_cons, List.map_nil, hs, hx, hr]
    exact hKK _ _ (hK _ _ (World.ownsRow_nil _ _ _ _) (World.grownBy.refl _ _) (.inl rfl))
  · obtain ⟨b, off, hp, _, _, hE⟩ := h.rd (by omega)
    subst hp
    obtain ⟨v', w', hr, g2, g3, _, g5⟩ := run_append_own_at (P := Try.prog) w 0 34 o.type 55 i z 2 8 Try.underlying34 hi hz h1 h2 h3 (by decide) (.slice none 0 0) 0 [] (World.ownsRow_nil _ _ _ _) ⟨b, off, none⟩ D.length c (encA encB D) (encA_length encB_len D)
      (fun j u hu => by rw [add_off]; exact hE j u hu)
      (fun u hu => by
        obtain ⟨tm, _, hu⟩ := List.mem_flatMap.1 hu
        exact encB_one tm u hu) (by unfold maxLen; omega) (by omega) (Nat.zero_le _)
    unfold Oper.wp
    simp only [execOp, hop, resolve, invoke, builtin, Sem.run_bind, Sem.run_pure, Result.andThen_ok, List.map_toArray, List.map_cons, List.map_nil, hs, hx, hr]
    refine hKK _ _ (hK _ _ ?_ g3 g5)
    simp only [Nat.zero_add, List.nil_append] at g2
    exact g2
theorem by_new (w : World) (y : Hb) : ∀ (j : Nat) (u : Value), (encB y)[j]? = some u → (w.alloc (.cells #[.int .u32 y.at_, .int .u8 (y.x.toNat : Int)] 55)).drew.cell? ((⟨w.heap.size, 0, none⟩ : Addr).add j) = some u := by
  intro j u hu
  show (w.alloc _).cell? _ = _
  rw [add_off, Nat.zero_add, cell_of_block (heap_alloc_new w _)]
  exact (List.getElem?_toArray (xs := encB y)).trans hu
theorem step_append_by {ops : Array Oper} {o : Oper} {a : Act} {w : World} {K : Act → World → Prop} {Q : Exit → Act → World → Prop} {E : Prop}
    (hg : o.guard = none) (s x : Operand) (hop : o.op = Op.call { callee := Callee.builtin Builtin.append, args := #[s, x], argTypes := #[34, 34] })
    (v : Value) (l : List Hb) (hs : a.eval s = v) (hown : ByRow w v l) (hl : l.length ≤ 1000000) (ad : Addr) (c : Nat) (y : Hb) (hx : a.eval x = .slice (some ad) 1 c) (hc : ∀ j u, (encB y)[j]? = some u → w.cell? (ad.add j) = some u)
    (hK : ∀ v' w', ByRow w' v' (l ++ [y]) → w.grownBy w' v.ownBlock → (v'.ownBlock = v.ownBlock ∨ v'.ownBlock = some w.heap.size) → K (a.put o.dst v') w') :
    if Region.wanted o (yielded ops a.tmps) = true then Oper.wp Try.prog o a w K Q else E := by
  have hw : Region.wanted o (yielded ops a.tmps) = true := by simp [Region.wanted, hg]
  rw [if_pos hw]
  obtain ⟨i, z, h1, h2, h3, h4, h5⟩ := info_by
  obtain ⟨v', w', hr, g1, g2, g3⟩ := run_append_A (P := Try.prog) (w := w) encB_len encB_one (by decide) 34 55 i z 8 o.type Try.underlying34 h1 h2 h3 h4 (by decide) h5 v l hown (by omega) ad c y hc
  unfold Oper.wp
  simp only [execOp, hop, resolve, invoke, builtin, Sem.run_bind, Sem.run_pure, Result.andThen_ok, List.map_toArray, List.map_cons, List.map_nil, hs, hx, hr]
  exact hK v' w' g1 g2 g3
theorem RaG.swapB {α : Type} {k : Nat} {enc : α → List Value} {TE : TypeId} {w wr : World} {p q : Nat × Obj} {va : Value} {la : List α} (h : RaG k enc TE w wr [p, q] va la) : RaG k enc TE w wr [q, p] va la :=
  ⟨h.acc, h.own, h.bl, fun x hx => h.fx x (by simp only [List.mem_cons, List.not_mem_nil, or_false] at hx ⊢; exact hx.symm)⟩
end Go.Proofs.Ytcnongkkmjahfaa
