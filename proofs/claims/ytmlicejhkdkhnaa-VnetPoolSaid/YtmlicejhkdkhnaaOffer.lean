/-
  The contracts of package virtq's refuse and describe: why a chain may not be offered; its descriptors in memory. Conditions: the memory is one that New made, of at most 65536 bytes; from 1 to 64 entries; at most 1000 buffers.
-/
import Derived.Test.YtmlicejhkdkhnaaUnused
namespace Go.Proofs.Ytmlicejhkdkhnaa
open Go.RowKit Go.Sort

/-- Why a chain of l may not be offered, if so: 1, 13, 6, or 0. -/
def outside (lm : List UInt8) (l : List Bf) : Bool := l.any fun x => !(textE lm x.a x.n == 0)
def refuseE (lm : List UInt8) (l : List Bf) (free : Nat) : Int := if !inOrd l then 1 else if outside lm l then 13 else if free < l.length then 6 else 0

theorem okFrom_pos : ∀ (l : List Bf) (wr : Bool), okFrom wr l = true → ∀ x ∈ l, 1 ≤ x.n
  | [], _, _, x, hx => by simp at hx
  | b :: l, wr, h, x, hx => by
    unfold okFrom at h
    rw [Bool.and_eq_true] at h
    rcases List.mem_cons.1 hx with rfl | hx
    · have h1 := h.1
      by_cases hn : x.n < 1
      · rw [decide_eq_true hn] at h1; simp at h1
      · omega
    · exact okFrom_pos l _ h.2 x hx
theorem inOrd_pos {l : List Bf} (h : inOrd l = true) : 0 < l.length ∧ ∀ x ∈ l, 1 ≤ x.n := by
  unfold inOrd at h
  rw [Bool.and_eq_true] at h
  exact ⟨of_decide_eq_true h.2, okFrom_pos l false h.1⟩

theorem any_at {α : Type} (l : List α) (p : α → Bool) (k : Nat) (a : α) (h : l[k]? = some a) : (l.drop k).any p = (p a || (l.drop (k + 1)).any p) := by
  have hk := (List.getElem?_eq_some_iff.1 h).1
  have hx := (List.getElem?_eq_some_iff.1 h).2
  rw [List.drop_eq_getElem_cons hk, hx, List.any_cons]

set_option maxRecDepth 100000 in
set_option maxHeartbeats 2000000 in
theorem refuse_any (w : World) (q g h : Nat) (lm : List UInt8) (m : Mem w g h lm) (hl : lm.length ≤ 65536) (base : Int) (n : Nat) (mb : Nat) (off back : Int) (broken : Bool) (hq : QAt w q g base n (some mb) off back broken) (cs : List Oc) (ht : IsTab w mb (cs.map Oc.ent)) (hc : ∀ x ∈ cs, NumsAt w x) (hn : n ≤ 64)
    (v : Value) (l : List Bf) (hv : IsBufs w v l) (hbd : ∀ x ∈ l, x.n ≤ 9223372036854775807) :
    Calls Try.prog 66 #[.pointer (some ⟨q, 0, none⟩), v] w
      fun e w' => e = .returned (.int .i64 (refuseE lm l (freeL (cs.map Oc.c) n).length)) ∧ w.grownBy w' none := by
  obtain ⟨p, cap, rfl, hle⟩ := hv.form
  obtain ⟨R, hR⟩ : ∃ R, R = refuseE lm l (freeL (cs.map Oc.c) n).length := ⟨_, rfl⟩
  rw [← hR]
  unfold refuseE at hR
  have IC := inOrder_any w _ l hv
  cases hio : inOrd l with
  | false =>
    rw [hio] at IC hR
    rw [if_pos (by rfl)] at hR
    subst hR
    have IC' := Lib.hid IC
    clear IC hio hv
    go_enter Try.func66, Try.ntmps66
    go_wp2_with fail
    refine IC'.out.mono ?_
    rintro e w1 ⟨rfl, k1⟩
    go_wp2_with fail
    go_ret
    exact ⟨rfl, k1⟩
  | true =>
    rw [hio] at IC hR
    rw [if_neg (by decide)] at hR
    have hpos := (inOrd_pos hio).2
    have HP := Lib.hid hpos
    have HB := Lib.hid hbd
    have HR := Lib.hid hR
    have HV := Lib.hid hv
    have IC' := Lib.hid IC
    have HM := Lib.hid m
    have HQ := Lib.hid hq
    have HT := Lib.hid ht
    have HC := Lib.hid hc
    clear IC hio hv hpos hbd hR m hq ht hc
    go_enter Try.func66, Try.ntmps66
    go_wp2_with fail
    refine IC'.out.mono ?_
    rintro e w1 ⟨rfl, k1⟩
    go_wp2_with fail
    go_loopw [12] (fun iv wr => ∃ (k : Nat), k ≤ l.length ∧ iv = .int .i64 k ∧ Hid (outside lm l = (l.drop k).any (fun x => !(textE lm x.a x.n == 0))) ∧ w.grownBy wr none) (fun iv _ => l.length - (intOf iv).toNat)
    case atStart => exact ⟨0, Nat.zero_le _, rfl, Lib.hid rfl, k1⟩
    case round =>
      obtain ⟨k, hk, rfl, HO, kg⟩ := hrel
      by_cases hlt : k < l.length
      · obtain ⟨b, o, x, rfl, hx, c0, c1, c2⟩ := (HV.out.grown kg).at_ k hlt
        have hxp := HP.out x (List.mem_of_getElem? hx)
        have hxb := HB.out x (List.mem_of_getElem? hx)
        have hstep := any_at l (fun x => !(textE lm x.a x.n == 0)) k x hx
        rw [← HO.out] at hstep
        obtain ⟨xa, xn, xw⟩ := x
        simp only at c0 c1 c2 hxp hxb hstep
        have VC := fun w => vinside_any lm xa xn w (by omega) (by omega) hxb
        obtain ⟨E, hE⟩ : ∃ E, E = (textE lm xa xn == 0) := ⟨_, rfl⟩
        rw [← hE] at VC hstep
        have VC' := Lib.hid VC
        have HS := Lib.hid hstep
        have ka := World.grownBy_alloc wr (.cells #[.int .i64 xa, .int .i64 xn, .bool xw] 83) none
        have kg2 := kg.trans ka
        have hbl := heap_alloc_new wr (.cells #[.int .i64 xa, .int .i64 xn, .bool xw] 83)
        clear VC hE hstep hx hxp hxb kg
        go_wp2_with fail
        generalize wr.alloc _ = W at ka kg2 hbl ⊢
        have mW := HM.out.same kg2
        have qW := (HQ.out.kept (kg2.block _ (lt_of_block HQ.out) (by simp))).c0
        have b0 := cell_of_block (i := 0) hbl
        have b1 := cell_of_block (i := 1) hbl
        clear c0 c1 c2 hbl
        refine region_tail 10 (by kernel_rfl) (by kernel_rfl) (fun W2 d => ?_)
        have mW2 := mW.same d.grown
        have kg3 := kg2.trans d.grown
        have e0 := (World.cell?_of_block (w := W) (a := ⟨q, 0, none⟩) (d.block _)).trans qW
        have e1 := (World.cell?_of_block (w := W) (a := ⟨wr.heap.size, 0, none⟩) (d.block _)).trans b0
        have e2 := (World.cell?_of_block (w := W) (a := ⟨wr.heap.size, 1, none⟩) (d.block _)).trans b1
        clear mW qW b0 b1 d
        simp only [List.take_succ_cons, List.take_zero, List.drop_succ_cons, List.drop_zero]
        repeat still_step
        still_call (still_of (size_any _ _ _ _ mW2))
        repeat still_step
        refine wpStill_nil ?_
        go_wp2_with fail
        refine (VC'.out _).mono ?_
        rintro e w3 ⟨rfl, rfl⟩
        cases E with
        | false =>
          have hv0 : R = 13 := by rw [HR.out, HS.out]; rfl
          subst hv0
          go_wp2_with fail
          go_ret
          exact ⟨rfl, kg3⟩
        | true =>
          have HO2 : Hid (outside lm l = (l.drop (k + 1)).any (fun x => !(textE lm x.a x.n == 0))) := Lib.hid (by rw [HS.out]; rfl)
          go_wp2_with fail
          go_roundw
          case rel => exact ⟨k + 1, by omega, by go_num, HO2, kg3⟩
          case measure => simp [intOf]; omega
      · have hout : outside lm l = false := by rw [HO.out, List.drop_eq_nil_of_le (by omega)]; rfl
        have hd : decide ((k : Int) < l.length) = false := decide_eq_false (by omega)
        have FC := vFree_any wr q g base n mb off back broken (HQ.out.kept (kg.block _ (lt_of_block HQ.out) (by simp))) cs (HT.out.kept (kg.block _ HT.out.lt (by simp))) (fun x hx => by
          obtain ⟨h1, h2, h3⟩ := HC.out x hx
          exact ⟨h1, fun i hi => (World.cell?_of_block (w := w) (a := ⟨x.blk, i, none⟩) (kg.block _ (World.block_lt_of_cell? w _ (h2 i hi)) (by simp))).trans (h2 i hi), h3⟩) hn
        have hRv := HR.out
        rw [hout, if_neg (by decide)] at hRv
        obtain ⟨F, hF⟩ : ∃ F, F = (freeL (cs.map Oc.c) n).length := ⟨_, rfl⟩
        have hFl : F ≤ 64 := by rw [hF]; exact Nat.le_trans (freeL_le _ _) hn
        rw [← hF] at FC hRv
        have FC' := Lib.hid FC
        have HRv := Lib.hid hRv
        clear FC hF hRv hout
        by_cases hf : F < l.length
        · have hfd : decide ((F : Int) < l.length) = true := decide_eq_true (by omega)
          have hfd' : decide (F < l.length) = true := decide_eq_true hf
          have hv0 : R = 6 := by rw [HRv.out, if_pos hf]
          subst hv0
          clear hf
          go_wp2_with fail
          refine FC'.out.mono ?_
          rintro e w3 ⟨rfl, k3⟩
          go_wp2_with fail
          go_ret
          exact ⟨rfl, kg.trans k3⟩
        · have hfd : decide ((F : Int) < l.length) = false := decide_eq_false (by omega)
          have hfd' : decide (F < l.length) = false := decide_eq_false hf
          have hv0 : R = 0 := by rw [HRv.out, if_neg hf]
          subst hv0
          clear hf
          go_wp2_with fail
          refine FC'.out.mono ?_
          rintro e w3 ⟨rfl, k3⟩
          go_wp2_with fail
          go_ret
          exact ⟨rfl, kg.trans k3⟩

end Go.Proofs.Ytmlicejhkdkhnaa
