/-
  Layer 8: slices.Index, Contains, IndexFunc and ContainsFunc at pieces; whether a datagram may have a piece more. Conditions: as said.
-/
import Derived.Test.YtbjoibgkhooljaaJoB
namespace Go.Proofs.Ytbjoibgkhooljaa
open Go.RowKit Go.Sort Go.Shelf
set_option linter.unusedVariables false

theorem rangeAt_grow {w w' : World} {b o : Nat} {cs : List Value} (h : w.rangeAt b o cs) (bl : Below w.heap.size w w') : w'.rangeAt b o cs := fun j v hv => Lib.Below.cellOf bl (h j v hv) (Nat.le_refl _)
theorem cell_grow {w w' : World} {a : Addr} {v : Value} (c : w.cell? a = some v) (b : Below w.heap.size w w') : w'.cell? a = some v := Lib.Below.cellOf b c (Nat.le_refl _)
theorem row_grow {α : Type} {k : Nat} {enc : α → List Value} {TE : TypeId} {w w' : World} {v : Value} {l : List α} (h : RowA k enc TE w v l) (b : Below w.heap.size w w') : RowA k enc TE w' v l := h.kept b.size (fun k hk => b.block k (h.lt k hk).2)
theorem PcAt.all0 {w : World} {n : Nat} {x : Pc} (h : PcAt w n x) : w.cell? ⟨n, 0, none⟩ = some (.int .i64 x.o) := h.all.1
theorem PcAt.all1 {w : World} {n : Nat} {x : Pc} (h : PcAt w n x) : w.cell? ⟨n, 1, none⟩ = some (.string x.da) := h.all.2.1
theorem PcAt.all2 {w : World} {n : Nat} {x : Pc} (h : PcAt w n x) : w.cell? ⟨n, 2, none⟩ = some (.bool x.mo) := h.all.2.2
theorem pc_new (w : World) (x : Pc) : PcAt (w.alloc (.cells #[.int .i64 x.o, .string x.da, .bool x.mo] 89)) w.heap.size x := heap_alloc_new w _
theorem guard_pc : Try.prog.eqGuardType Try.prog.depth 89 = false := by kernel_rfl
theorem take_one {α : Type} {l : List α} {k : Nat} (h : k < l.length) : l.take (k + 1) = l.take k ++ [l[k]] := by rw [List.take_add_one, List.getElem?_eq_getElem h]; rfl

set_option maxRecDepth 100000 in
set_option maxHeartbeats 4000000 in
theorem pidx_any (w : World) (v : Value) (l : List Pc) (x : Pc) (h : PcRow w v l) (hl : l.length ≤ 1000000) (hx : x.ok) (hy : ∀ y ∈ l, y.ok) :
    Calls Try.prog 74 #[v, .agg #[.int .i64 x.o, .string x.da, .bool x.mo]] w fun e w' => (∃ r : Int, e = .returned (.int .i64 r) ∧ decide (0 ≤ r) = decide (x ∈ l)) ∧ Below w.heap.size w w' := by
  obtain ⟨p, c, hv⟩ := h.shape
  have bl : Below w.heap.size w (w.alloc (.cells #[.int .i64 x.o, .string x.da, .bool x.mo] 89)) := (Below.refl _ _).alloc (Nat.le_refl _) _
  have P0 := Lib.hid (pc_new w x)
  have R0 := Lib.hid (row_grow h bl)
  have B0 := Lib.hid bl
  have HYS := Lib.hid hy
  have HX := Lib.hid hx
  subst hv
  clear bl h hx hy
  go_enter Try.func74, Try.ntmps74
  go_upto_region 1 with fail
  generalize w.alloc _ = W1 at P0 R0 B0 ⊢
  obtain ⟨n, hn⟩ : ∃ n, n = w.heap.size := ⟨_, rfl⟩
  rw [← hn] at P0 ⊢
  clear hn
  go_wp2_with fail
  go_loopw [8] (fun i wr => ∃ k : Nat, k ≤ l.length ∧ i = .int .i64 k ∧ Hid (x ∉ l.take k) ∧ Hid (PcAt wr n x) ∧ Hid (PcRow wr (.slice p l.length c) l) ∧ Hid (Below w.heap.size w wr)) (fun i _ => l.length - (intOf i).toNat)
  case atStart => exact ⟨0, by omega, rfl, Lib.hid (by simp), P0, R0, B0⟩
  case round =>
    obtain ⟨k, hk, rfl, HN, PA, RW, BL⟩ := hrel
    clear P0 R0 B0
    by_cases hlt : k < l.length
    · obtain ⟨b, cap, hv, hcap, hcm, hbl, hfz, hE0⟩ := RowA.elem pcE_len RW.out (by omega)
      injection hv with hv _ hc
      subst hv hc
      have hE := Lib.hid (hE0 k hlt)
      have hq := fun w => eql_pc w x l[k] HX.out (HYS.out _ (List.getElem_mem hlt))
      have hin : x ∈ l.take (k + 1) ↔ x = l[k] := by
        rw [take_one hlt, List.mem_append, List.mem_singleton]
        exact ⟨fun h => h.resolve_left HN.out, .inr⟩
      have hsub : x = l[k] → x ∈ l := fun e => by rw [e]; exact List.getElem_mem hlt
      generalize l[k] = y at hE hq hin hsub
      have hE : Hid (wr.rangeAt b (k * 3) [.int .i64 y.o, .string y.da, .bool y.mo]) := hE
      obtain ⟨r, hr⟩ : ∃ r, r = decide (x = y) := ⟨_, rfl⟩
      rw [← hr] at hq
      have HQ := Lib.hid hq
      have HI := Lib.hid hin
      have HS := Lib.hid hsub
      have HR := Lib.hid hr
      have hj1 : decide ((k : Int) < (l.length : Int)) = true := by simp; omega
      have q1 : (0 : Int) ≤ (k : Int) := by omega
      have q2 : (k : Int) < (l.length : Int) := by omega
      have hwk : IntKind.i64.wrap ((k : Int) + 1) = (k : Int) + 1 := IntWalk.i64_in _ (by omega)
      clear hE0 hq hin hsub hr hfz hcap hcm hbl
      go_upto_region 4 with fail
      obtain ⟨x0, x1, x2⟩ := PA.out.cells
      have d0 : wr.cell? ⟨b, k * 3, none⟩ = some (.int .i64 y.o) := hE.out 0 _ rfl
      have d1 : wr.cell? ⟨b, k * 3 + 1, none⟩ = some (.string y.da) := hE.out 1 _ rfl
      have d2 : wr.cell? ⟨b, k * 3 + 2, none⟩ = some (.bool y.mo) := hE.out 2 _ rfl
      have hq := HQ.out
      have HGW : Hid (∀ n, Below wr.heap.size wr (wr.drewN n)) := Lib.hid (fun n => below_drewN (Below.refl _ _) n)
      cases r
      · go_quiet (fail)
        go_wp2_with fail
        go_roundw
        case rel => exact ⟨k + 1, by omega, by go_num, Lib.hid (fun hx => by have := HI.out.1 hx; have h2 := HR.out; rw [decide_eq_true this] at h2; cases h2), Lib.hid (PA.out.grow (HGW.out _)), Lib.hid (row_grow RW.out (HGW.out _)), bstep BL (HGW.out _)⟩
        case measure => simp [intOf]; omega
      · go_quiet (fail)
        go_wp2_with fail
        go_ret
        refine ⟨⟨_, rfl, ?_⟩, (bstep BL (HGW.out _)).out⟩
        have hin := HS.out (by simpa using HR.out.symm)
        first | exact iff_of_true q1 hin | (rw [decide_eq_true hin, decide_eq_true q1])
    · obtain rfl : k = l.length := by omega
      have hj1 : decide ((l.length : Int) < (l.length : Int)) = false := by simp
      have HNA := HN.out
      rw [List.take_length] at HNA
      have HN2 := Lib.hid HNA
      clear HNA
      go_wp2_with fail
      go_ret
      exact ⟨⟨_, rfl, by rw [decide_eq_false HN2.out]; rfl⟩, BL.out⟩

set_option maxRecDepth 100000 in
set_option maxHeartbeats 1000000 in
theorem pcontains_any (w : World) (v : Value) (l : List Pc) (x : Pc) (h : PcRow w v l) (hl : l.length ≤ 1000000) (hx : x.ok) (hy : ∀ y ∈ l, y.ok) :
    Calls Try.prog 39 #[v, .agg #[.int .i64 x.o, .string x.da, .bool x.mo]] w fun e w' => e = .returned (.bool (decide (x ∈ l))) ∧ Below w.heap.size w w' := by
  have bl : Below w.heap.size w (w.alloc (.cells #[.int .i64 x.o, .string x.da, .bool x.mo] 89)) := (Below.refl _ _).alloc (Nat.le_refl _) _
  have P0 := Lib.hid (pc_new w x)
  have R0 := Lib.hid (row_grow h bl)
  have B0 := Lib.hid bl
  have HYS := Lib.hid hy
  have HX := Lib.hid hx
  clear bl h hx hy
  go_enter Try.func39, Try.ntmps39
  go_upto_region 1 with fail
  generalize w.alloc _ = W1 at P0 R0 B0 ⊢
  obtain ⟨n, hn⟩ : ∃ n, n = w.heap.size := ⟨_, rfl⟩
  rw [← hn] at P0 ⊢
  clear hn
  obtain ⟨x0, x1, x2⟩ := P0.out.cells
  go_wp2_with fail
  refine (pidx_any W1 v l x R0.out hl HX.out HYS.out).mono ?_
  rintro e w2 ⟨⟨r, rfl, hr⟩, b2⟩
  have B2 := bstep B0 b2
  have HR := Lib.hid hr
  clear b2 hr
  go_wp2_with fail
  go_ret
  exact ⟨by rw [← HR.out] <;> rfl, B2.out⟩

set_option maxRecDepth 100000 in
set_option maxHeartbeats 4000000 in
theorem pfind_any (w : World) (v : Value) (l : List Pc) (x : Pc) (h : PcRow w v l) (hl : l.length ≤ 1000000) (hx : x.fine) (hy : ∀ y ∈ l, y.fine) :
    Calls Try.prog 91 #[v, .func (.func 77) #[.agg #[.int .i64 x.o, .string x.da, .bool x.mo]] #[]] w fun e w' => (∃ r : Int, e = .returned (.int .i64 r) ∧ decide (0 ≤ r) = l.any (clashP x)) ∧ Below w.heap.size w w' := by
  obtain ⟨p, c, hv⟩ := h.shape
  have R0 := Lib.hid h
  have B0 : Hid (Below w.heap.size w w) := Lib.hid (Below.refl _ _)
  have HYS := Lib.hid hy
  have HX := Lib.hid hx
  subst hv
  clear h hx hy
  go_enter Try.func91, Try.ntmps91
  go_wp2_with fail
  go_loopw [8] (fun i wr => ∃ k : Nat, k ≤ l.length ∧ i = .int .i64 k ∧ Hid ((l.take k).any (clashP x) = false) ∧ Hid (PcRow wr (.slice p l.length c) l) ∧ Hid (Below w.heap.size w wr)) (fun i _ => l.length - (intOf i).toNat)
  case atStart => exact ⟨0, by omega, rfl, Lib.hid rfl, R0, B0⟩
  case round =>
    obtain ⟨k, hk, rfl, HN, RW, BL⟩ := hrel
    clear R0 B0
    by_cases hlt : k < l.length
    · obtain ⟨b, cap, hv, hcap, hcm, hbl, hfz, hE0⟩ := RowA.elem pcE_len RW.out (by omega)
      injection hv with hv _ hc
      subst hv hc
      have hE := Lib.hid (hE0 k hlt)
      have hfy := Lib.hid (HYS.out _ (List.getElem_mem hlt))
      have hin : (l.take (k + 1)).any (clashP x) = clashP x l[k] := by
        rw [take_one hlt, List.any_append, HN.out]
        simp
      have hsub : clashP x l[k] = true → l.any (clashP x) = true := fun e => List.any_eq_true.2 ⟨_, List.getElem_mem hlt, e⟩
      generalize l[k] = y at hE hfy hin hsub
      have hE : Hid (wr.rangeAt b (k * 3) [.int .i64 y.o, .string y.da, .bool y.mo]) := hE
      have HC := Lib.hid (fun w => clash_any w x y HX.out hfy.out)
      obtain ⟨r, hr⟩ : ∃ r, r = clashP x y := ⟨_, rfl⟩
      rw [← hr] at HC hin hsub
      have HI := Lib.hid hin
      have HS := Lib.hid hsub
      have hj1 : decide ((k : Int) < (l.length : Int)) = true := by simp; omega
      have q1 : (0 : Int) ≤ (k : Int) := by omega
      have q2 : (k : Int) < (l.length : Int) := by omega
      have hwk : IntKind.i64.wrap ((k : Int) + 1) = (k : Int) + 1 := IntWalk.i64_in _ (by omega)
      clear hE0 hin hsub hr hfz hcap hcm hbl
      cases r
      · go_wp2_with (first | (refine wpList_load_mid rfl 89 _ rfl b (k * 3) rfl [.int .i64 y.o, .string y.da, .bool y.mo] _ hE.out Try.underlying89 rfl (by kernel_rfl) ?_) | (go_at_call 77; refine (HC.out _).mono ?_; rintro e w2 ⟨rfl, b2⟩; have RW2 := Lib.hid (row_grow RW.out b2); have BL2 := bstep BL b2; clear b2))
        go_roundw
        case rel => exact ⟨k + 1, by omega, by go_num, HI, RW2, BL2⟩
        case measure => simp [intOf]; omega
      · go_wp2_with (first | (refine wpList_load_mid rfl 89 _ rfl b (k * 3) rfl [.int .i64 y.o, .string y.da, .bool y.mo] _ hE.out Try.underlying89 rfl (by kernel_rfl) ?_) | (go_at_call 77; refine (HC.out _).mono ?_; rintro e w2 ⟨rfl, b2⟩; have RW2 := Lib.hid (row_grow RW.out b2); have BL2 := bstep BL b2; clear b2))
        go_ret
        exact ⟨⟨_, rfl, by rw [HS.out (by trivial), decide_eq_true q1]⟩, BL2.out⟩
    · obtain rfl : k = l.length := by omega
      have hj1 : decide ((l.length : Int) < (l.length : Int)) = false := by simp
      have HNA := HN.out
      rw [List.take_length] at HNA
      have HN2 := Lib.hid HNA
      clear HNA
      go_wp2_with fail
      go_ret
      exact ⟨⟨_, rfl, by rw [HN2.out]; rfl⟩, BL.out⟩

set_option maxRecDepth 100000 in
set_option maxHeartbeats 1000000 in
theorem panyc_any (w : World) (v : Value) (l : List Pc) (x : Pc) (h : PcRow w v l) (hl : l.length ≤ 1000000) (hx : x.fine) (hy : ∀ y ∈ l, y.fine) :
    Calls Try.prog 76 #[v, .func (.func 77) #[.agg #[.int .i64 x.o, .string x.da, .bool x.mo]] #[]] w fun e w' => e = .returned (.bool (l.any (clashP x))) ∧ Below w.heap.size w w' := by
  go_enter Try.func76, Try.ntmps76
  go_wp2_with fail
  refine (pfind_any w v l x h hl hx hy).mono ?_
  rintro e w2 ⟨⟨r, rfl, hr⟩, b2⟩
  have B2 := Lib.hid b2
  have HR := Lib.hid hr
  clear b2 hr
  go_wp2_with fail
  go_ret
  exact ⟨by rw [← HR.out] <;> rfl, B2.out⟩

/-- A piece in a box, beside a datagram's pieces. -/
structure MayS (w W : World) (n b o : Nat) (x : Pc) (v : Value) (l : List Pc) : Prop where
  a : PcAt W n x
  c : W.cell? ⟨b, o + 12, none⟩ = some v
  r : PcRow W v l
  bl : Below w.heap.size w W
theorem MayS.grow {w W W' : World} {n b o : Nat} {x : Pc} {v : Value} {l : List Pc} (h : MayS w W n b o x v l) (k : Below W.heap.size W W') : MayS w W' n b o x v l := ⟨h.a.grow k, cell_grow h.c k, row_grow h.r k, h.bl.trans (k.mono h.bl.size)⟩
/-- Whether a datagram with these pieces may have x as well. -/
def mayP (l : List Pc) (x : Pc) : Bool := decide (pEnd x ≤ 1200) && !(l.any (clashP x))
set_option maxRecDepth 100000 in
set_option maxHeartbeats 4000000 in
theorem pmay_any (w : World) (b o : Nat) (p : Option Addr) (c : Nat) (l : List Pc) (x : Pc) (hc : w.cell? ⟨b, o + 12, none⟩ = some (.slice p l.length c)) (h : PcRow w (.slice p l.length c) l) (hl : l.length ≤ 1000000) (hx : x.fine) (hy : ∀ y ∈ l, y.fine) :
    Calls Try.prog 40 #[.pointer (some ⟨b, o, none⟩), .agg #[.int .i64 x.o, .string x.da, .bool x.mo]] w fun e w' => e = .returned (.bool (mayP l x)) ∧ Below w.heap.size w w' := by
  have bl : Below w.heap.size w (w.alloc (.cells #[.int .i64 x.o, .string x.da, .bool x.mo] 89)) := (Below.refl _ _).alloc (Nat.le_refl _) _
  have P0 := Lib.hid (pc_new w x)
  have R0 := Lib.hid (row_grow h bl)
  have B0 := Lib.hid bl
  have d0 := cell_grow hc bl
  have HYS := Lib.hid hy
  have HX := Lib.hid hx
  have HE := Lib.hid (fun w => pend_any w x hx)
  have HM : Hid (mayP l x = (decide (pEnd x ≤ 1200) && !(l.any (clashP x)))) := Lib.hid rfl
  clear bl h hx hy hc
  generalize mayP l x = M at HM ⊢
  generalize pEnd x = E at HE HM
  go_enter Try.func40, Try.ntmps40
  go_upto_region 1 with fail
  generalize w.alloc _ = W1 at P0 R0 B0 d0 ⊢
  obtain ⟨n, hn⟩ : ∃ n, n = w.heap.size := ⟨_, rfl⟩
  rw [← hn] at P0 ⊢
  clear hn
  have HC := Lib.hid (fun (w : World) (hr : PcRow w (.slice p l.length c) l) => panyc_any w (.slice p l.length c) l x hr hl HX.out HYS.out)
  have SS : Hid (MayS w W1 n b o x (.slice p l.length c) l) := Lib.hid ⟨P0.out, d0, R0.out, B0.out⟩
  clear P0 d0 R0 B0
  generalize l.any (clashP x) = C at HC HM
  by_cases he : E ≤ 1200
  · have HM2 : Hid (M = !C) := Lib.hid (by rw [HM.out, decide_eq_true he]; simp)
    have e1 := Lib.hid (decide_eq_true he)
    clear he HM
    have e1 := e1.out
    obtain ⟨x0, x1, x2⟩ := SS.out.a.cells
    have d0 := SS.out.c
    go_region_with (first | (go_at_call 75; (refine (HE.out _).mono ?_); rintro e w' ⟨rfl, bx⟩; have bx : Below W1.heap.size W1 w' := (by first | exact bx | exact (Below.refl _ _).drew.trans bx); have SS := Lib.hid (SS.out.grow bx); clear x0 x1 x2 d0 bx; obtain ⟨x0, x1, x2⟩ := SS.out.a.cells; have d0 := SS.out.c) | (go_at_call 76; (refine (HC.out _ SS.out.r).mono ?_); rintro e w' ⟨rfl, bx⟩; have SS := Lib.hid (SS.out.grow bx); clear x0 x1 x2 d0 bx))
    all_goals
      go_wp2_with fail
      go_ret
      exact ⟨by rw [HM2.out] <;> rfl, SS.out.bl⟩
  · have HM2 : Hid (M = false) := Lib.hid (by rw [HM.out, decide_eq_false he]; simp)
    have e1 : decide (E ≤ 1200) = false := decide_eq_false he
    have e3 : 1200 < E := by omega
    clear HM
    obtain ⟨x0, x1, x2⟩ := SS.out.a.cells
    have d0 := SS.out.c
    first | (go_region_with (first | (go_at_call 75; (refine (HE.out _).mono ?_); rintro e w' ⟨rfl, bx⟩; have bx : Below W1.heap.size W1 w' := (by first | exact bx | exact (Below.refl _ _).drew.trans bx); have SS := Lib.hid (SS.out.grow bx); clear x0 x1 x2 d0 bx; obtain ⟨x0, x1, x2⟩ := SS.out.a.cells; have d0 := SS.out.c))) | fail
    all_goals
      go_wp2_with fail
      go_ret
      exact ⟨by rw [HM2.out] <;> rfl, SS.out.bl⟩

end Go.Proofs.Ytbjoibgkhooljaa
