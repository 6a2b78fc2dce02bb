/-
  Layer 3: the first slot of which no order is out. Conditions: fewer than eight orders are out, each in a slot of its own from 0 to 7.
-/
import Derived.Test.YtdchlnffbiooaaaGreatDoorBlkG
import Derived.Deep.MidRow
namespace Go.Proofs.YtdchlnffbiooaaaGreatDoor
open Go.RowKit Go.Sort

/-- A row of eight bools. -/
def TakenE (w : World) (T : Nat) (f : Nat → Bool) : Prop := ∀ i, i < 8 → w.cell? ⟨T, i, none⟩ = some (.bool (f i)) ∧ w.frozen? ⟨T, i, none⟩ = false
theorem TakenE.kept {w w' : World} {T : Nat} {f : Nat → Bool} (h : TakenE w T f) (k : w'.heap[T]? = w.heap[T]?) : TakenE w' T f := fun i hi =>
  ⟨(World.cell?_of_block (w := w) (a := ⟨T, i, none⟩) k).trans (h i hi).1, (World.frozen?_of_block (w := w) (a := ⟨T, i, none⟩) k).trans (h i hi).2⟩
theorem TakenE.set {w : World} {T : Nat} {f : Nat → Bool} (h : TakenE w T f) (j : Nat) (hj : j < 8) : TakenE (w.setCell ⟨T, j, none⟩ (.bool true)) T (fun i => f i || i == j) := fun i hi => by
  obtain ⟨h1, h2⟩ := h i hi
  refine ⟨?_, by rw [World.frozen?_setCell]; exact h2⟩
  by_cases hij : i = j
  · subst hij
    rw [World.cell?_setCell_same _ _ _ h1]
    simp
  · rw [World.cell?_setCell_other _ _ _ _ (fun e => hij (by injection e with _ e; exact e.symm)), h1]
    have : (i == j) = false := by simp [hij]
    show _ = some (Value.bool (f i || i == j))
    rw [this, Bool.or_false]
theorem TakenE.lt {w : World} {T : Nat} {f : Nat → Bool} (h : TakenE w T f) : T < w.heap.size := World.block_lt_of_cell? w _ (h 0 (by decide)).1
theorem info_booe : (Tryz.prog.info? 122).map (·.size) = some 8 := by kernel_rfl
/-- 'taken := [8]bool{}' at the operation. -/
theorem wpList_takenE {v : World} {ops : Array Oper} {rest : List Oper} {op : Oper} {a : Act} {Q : Exit → Act → World → Prop} (hgd : op.guard = none) (x y : Operand) (ho : op.op = .store 122 x y)
    (hx : a.eval x = .pointer (some ⟨v.heap.size, 0, none⟩)) (cells : Array Value) (hy : a.eval y = .agg cells) (hz : cells.toList = List.replicate 8 (.bool false)) (c : Array Value) (t : TypeId) (hc : c.size = 8)
    (h : ∀ W, TakenE W v.heap.size (fun _ => false) → v.grownBy W none → W.heap.size = v.heap.size + 1 → wpList Tryz.prog ops Q rest (a.put op.dst undef) W) : wpList Tryz.prog ops Q (op :: rest) a (v.alloc (.cells c t)) := by
  have hb := heap_alloc_new v (.cells c t)
  have hzs : cells.size = 8 := by have := congrArg List.length hz; simpa using this
  have hth : (v.alloc (.cells c t)).there v.heap.size 0 cells.size := fun j hj => by
    rw [hzs] at hj
    refine ⟨?_, frozen_of_block hb⟩
    rw [cell_of_block hb, Array.getElem?_eq_getElem (by omega)]
    rfl
  refine wpList_store_mid hgd 122 x y ho v.heap.size 0 cells hx hy hth (by rw [hzs]; exact info_booe) ?_ ?_
  · refine Array.all_eq_true_iff_forall_mem.2 fun u hu => ?_
    have hu' : u ∈ cells.toList := by simpa using hu
    rw [hz] at hu'
    rw [List.eq_of_mem_replicate hu']
    rfl
  · rw [hz]
    obtain ⟨e1, e2, e3, e4⟩ := setCells_same v.heap.size (List.replicate 8 (.bool false)) 0 (v.alloc (.cells c t))
    refine h _ (fun i hi => ⟨?_, ?_⟩) ⟨e1, e2, e3, by rw [e4]; simp, fun k hk _ => ?_⟩ (by rw [e4]; simp)
    · have := World.cell?_setCells_in v.heap.size (List.replicate 8 (.bool false)) 0 (v.alloc (.cells c t)) (fun j hj => (hth j (by rw [hzs]; simpa using hj)).1) i (by simpa using hi)
      rw [Nat.zero_add, List.getElem_replicate] at this
      exact this
    · rw [World.frozen?_setCells]
      exact frozen_of_block hb
    · rw [setCells_other _ _ _ _ _ (by omega), Below.heap_alloc _ _ _ hk]

set_option maxRecDepth 100000 in
set_option maxHeartbeats 1000000 in
theorem sindex_any (w : World) (T : Nat) (f : Nat → Bool) (hT : TakenE w T f) (k : Nat) (hk : k < 8) (hf : f k = false) (hb : ∀ j, j < k → f j = true) :
    Calls Tryz.prog 46 #[.slice (some ⟨T, 0, none⟩) 8 8, .bool false] w fun e w' => e = .returned (.int .i64 k) ∧ w = w' := by
  have HB := Lib.hid hb
  have HF := Lib.hid hf
  clear hb hf
  go_enter Tryz.func46, Tryz.ntmps46
  go_wp2
  go_loop [5, 8] (fun _ iv => ∃ j : Nat, j ≤ k ∧ iv = .int .i64 j) (fun _ iv => 8 - (intOf iv).toNat)
  case atStart => exact ⟨0, Nat.zero_le _, rfl⟩
  case round =>
    obtain ⟨j, hj, rfl⟩ := hrel
    have hc := (hT j (by omega)).1
    have j1 : (0 : Int) ≤ (j : Int) := by omega
    have j2 : (j : Int) < 8 := by omega
    by_cases hjk : j = k
    · subst hjk
      rw [HF.out] at hc
      clear hT hj
      go_wp2
      go_ret
      exact ⟨rfl, rfl⟩
    · rw [HB.out j (by omega)] at hc
      clear hT
      go_wp2
      go_round
      case rel => exact ⟨j + 1, by omega, by go_num⟩
      case measure => simp [intOf]; omega

/-- Does an entry lie in slot i? -/
def slotE (v : Value) (i : Nat) : Bool := match v with
  | .agg c => match (c.toList[2]? : Option Value) with
    | some (Value.int IntKind.i64 s) => s == (i : Int)
    | _ => false
  | _ => false
theorem slotE_val (x : Snt) (i : Nat) : slotE x.val i = (x.slot == (i : Int)) := rfl
theorem slot_start (os : List Snt) (i : Nat) : (os.map Snt.ent).any (fun e => slotE e.2 i) = os.any (fun x => x.slot == (i : Int)) := by
  rw [List.any_map]
  rfl
/-- Of eight slots one is free while fewer than eight orders are out; the first. -/
theorem first_free (os : List Snt) (h : os.length < 8) :
    ∃ k : Nat, k < 8 ∧ os.any (fun x => x.slot == (k : Int)) = false ∧ ∀ j : Nat, j < k → os.any (fun x => x.slot == (j : Int)) = true := by
  have key : ∀ n : Nat, (∃ k : Nat, k < n ∧ os.any (fun x => x.slot == (k : Int)) = false ∧ ∀ j : Nat, j < k → os.any (fun x => x.slot == (j : Int)) = true) ∨ ((∀ j : Nat, j < n → os.any (fun x => x.slot == (j : Int)) = true)) := by
    intro n
    induction n with
    | zero => exact .inr fun j hj => absurd hj (by omega)
    | succ n ih =>
      rcases ih with ⟨k, h1, h2, h3⟩ | h1
      · exact .inl ⟨k, by omega, h2, h3⟩
      · cases hc : os.any (fun x => x.slot == (n : Int)) with
        | false => exact .inl ⟨n, by omega, hc, h1⟩
        | true =>
          refine .inr (fun j hj => ?_)
          by_cases hjn : j = n
          · rw [hjn]; exact hc
          · exact h1 j (by omega)
  rcases key 8 with h1 | h1
  · exact h1
  · exfalso
    have h2 := free_count [⟨0, os.map Snt.slot, 0⟩] 8
    have h3 : ([⟨0, os.map Snt.slot, 0⟩] : List Ch).flatMap Ch.of = os.map Snt.slot := by simp
    have h4 : freeL [⟨0, os.map Snt.slot, 0⟩] 8 = [] := by
      unfold freeL
      rw [List.map_eq_nil_iff, List.filter_eq_nil_iff]
      intro i hi
      have h5 := h1 i (List.mem_range.1 hi)
      have h6 : takenBy [⟨0, os.map Snt.slot, 0⟩] (i : Int) = true := by
        unfold takenBy
        simp only [List.any_cons, List.any_nil, Bool.or_false, List.any_map]
        exact h5
      rw [h6]
      decide
    rw [h4, h3] at h2
    have h7 : (os.map Snt.slot).countP (fun y => decide (y < ((8 : Nat) : Int))) ≤ (os.map Snt.slot).length := List.countP_le_length
    simp only [List.length_nil, List.length_map] at h2 h7
    omega

set_option maxRecDepth 100000 in
set_option maxHeartbeats 1000000 in
theorem freeSlot_any (w : World) (b g : Nat) (base sectors limit : Int) (q u : Nat) (last now : Int) (dead : Bool) (hk : KAt w b g base sectors limit q u last now dead) (os : List Snt) (ht : IsTab w u (os.map Snt.ent)) (few : os.length < 8) (hb : ∀ x ∈ os, 0 ≤ x.slot ∧ x.slot < 8) :
    Calls Tryz.prog 23 #[.pointer (some ⟨b, 0, none⟩)] w
      fun e w' => (∃ k : Nat, e = .returned (.int .i64 k) ∧ k < 8 ∧ (∀ x ∈ os, x.slot ≠ (k : Int)) ∧ ∀ j : Nat, j < k → ∃ x ∈ os, x.slot = (j : Int)) ∧ w.grownBy w' none := by
  have HFF := Lib.hid (first_free os few)
  have HB := Lib.hid hb
  have hblt := lt_of_block hk
  have hult := ht.lt
  clear hb few
  go_enter Tryz.func23, Tryz.ntmps23
  go_wp2_with (first | (refine wpList_takenE rfl _ _ rfl rfl _ rfl rfl _ _ rfl ?_; intro W htk hgr hsz; have hq1 := hk.kept (hgr.block _ (lt_of_block hk) (by simp)); have h5 := hq1.c5; have ht1 := ht.kept (hgr.block _ ht.lt (by simp))) | (at_range; refine wpList_range_tab _ rfl _ 62 rfl 3 84 Tryz.underlying62 u (os.map Snt.ent) ht1 rfl ?_; intro w0 hit hg0 hs0))
  go_frame
  have hg1 := hgr.trans hg0
  have ht0 := htk.kept (hg0.block _ htk.lt (by simp))
  have HT := Lib.hid ht
  have hlt0 : w.heap.size < W.heap.size := by omega
  rw [hsz] at hit ⊢
  clear hsz hk hq1 htk h5 hgr hg0 ht ht1
  go_loopw [12] (fun _ wr => ∃ (f : Nat → Bool) (left : List (Int × Value)), TakenE wr w.heap.size f ∧ TabIter wr u (w.heap.size + 1) (os.map Snt.ent) left ∧ Hid (∀ i : Nat, i < 8 → (f i || left.any (fun e => slotE e.2 i)) = os.any (fun x => x.slot == (i : Int))) ∧ w.grownBy wr none) (fun _ wr => wr.rangeLeft u (w.heap.size + 1))
  case atStart => exact ⟨fun _ => false, os.map Snt.ent, ht0, hit, Lib.hid (fun i _ => by rw [Bool.false_or]; exact slot_start os i), hg1⟩
  case round =>
    obtain ⟨f, left, hT, hI, HM, hG⟩ := hrel
    obtain ⟨wo, rfl⟩ : ∃ wo : World, wo = wr := ⟨_, rfl⟩
    have HM0 := Lib.hid hI.left_eq
    go_wp2_with (at_next; refine wpList_next_tab _ Snt.val rfl _ rfl u (w.heap.size + 1) (os.map Snt.ent) left rfl hI (fun c hc => by obtain ⟨y, _, rfl⟩ := List.mem_map.1 hc; exact ⟨y, rfl⟩) ?_ ?_)
    · intro hl0
      subst hl0
      obtain ⟨k, hk8, hkf, hkb⟩ := HFF.out
      have SC := Lib.hid (fun W' (hW : TakenE W' w.heap.size f) => sindex_any W' w.heap.size f hW k hk8 (by rw [← hkf, ← HM.out k hk8]; simp) (fun j hj => by rw [← hkb j hj, ← HM.out j (by omega)]; simp))
      have HK := Lib.hid hkf
      have HKB := Lib.hid hkb
      have HT2 := Lib.hid hT
      clear hI HM HM0 hkf hkb hT
      go_wp2_with fail
      refine (SC.out _ HT2.out).mono ?_
      rintro e w2 ⟨rfl, rfl⟩
      go_wp2_with fail
      go_ret
      refine ⟨⟨k, rfl, hk8, fun x hx e => ?_, fun j hj => ?_⟩, hG⟩
      · have := List.any_eq_false.1 HK.out x hx
        rw [e] at this
        exact this (by simp)
      · obtain ⟨x, hx, h2⟩ := List.any_eq_true.1 (HKB.out j hj)
        exact ⟨x, hx, by simpa using h2⟩
    · intro x y left' w' hp y' hy' hent hlt2 hI' hG' hsz' hen
      have hv : y'.val = y.val := congrArg Prod.snd hent
      have hs : y.slot = y'.slot := by
        unfold Snt.val at hv
        injection hv with hv
        have h2 := congrArg (fun a => a[2]?) hv
        simp at h2
        exact h2.symm
      obtain ⟨s0, s1⟩ := HB.out y' hy'
      obtain ⟨yh, yi, yk, ys, yt⟩ := y
      simp only at hs
      subst hs
      obtain ⟨k, hk0⟩ := Int.eq_ofNat_of_zero_le s0
      rw [hk0] at s1 hp hen ⊢
      have hk8 : k < 8 := by omega
      have HP := Lib.hid hp
      have HL := Lib.hid hlt2
      unfold Snt.val at hen HP ⊢
      simp only at hen HP ⊢
      have hrk : w.heap.size + 1 < wo.heap.size := by have := hI.lt; omega
      have hub := hI.tab.lt
      have hT' : TakenE w' w.heap.size f := hT.kept (hG'.block _ hT.lt (fun e => by injection e with e; omega))
      have hGw : w.grownBy w' none := hG.andThen hG' (fun j e => .inl (by injection e with e; omega))
      have ka := World.grownBy_alloc w' (.cells #[.int .i64 yi, .int .i64 yk, .int .i64 (k : Int), .int .i64 yt] 84) none
      have hT2 := hT'.kept (ka.block _ hT'.lt (by simp))
      obtain ⟨ck, fk⟩ := hT2 k hk8
      have hnew := hT2.set k hk8
      have kset := grown_setCell (w'.alloc (.cells #[.int .i64 yi, .int .i64 yk, .int .i64 (k : Int), .int .i64 yt] 84)) w.heap.size k (.bool true)
      have hgn : w.grownBy ((w'.alloc (.cells #[.int .i64 yi, .int .i64 yk, .int .i64 (k : Int), .int .i64 yt] 84)).setCell ⟨w.heap.size, k, none⟩ (.bool true)) none := (hGw.trans ka).andThen kset (fun j e => .inl (by injection e with e; omega))
      have hI2 : TabIter ((w'.alloc (.cells #[.int .i64 yi, .int .i64 yk, .int .i64 (k : Int), .int .i64 yt] 84)).setCell ⟨w.heap.size, k, none⟩ (.bool true)) u (w.heap.size + 1) (os.map Snt.ent) left' := by
        have i1 := hI'.kept (ka.block _ hI'.tab.lt (by simp)) (ka.block _ hI'.lt (by simp))
        exact i1.kept (kset.block _ i1.tab.lt (fun e => by injection e with e; omega)) (kset.block _ i1.lt (fun e => by injection e with e; omega))
      have HM2 : Hid (∀ i : Nat, i < 8 → ((f i || i == k) || left'.any (fun e => slotE e.2 i)) = os.any (fun x => x.slot == (i : Int))) := Lib.hid fun i hi => by
        rw [← HM.out i hi, any_perm HP.out, List.any_cons, Bool.or_assoc]
        congr 2
        show (i == k) = ((k : Int) == (i : Int))
        rw [Bool.eq_iff_iff]
        simp only [beq_iff_eq]
        omega
      have HME : Hid (((w'.alloc (.cells #[.int .i64 yi, .int .i64 yk, .int .i64 (k : Int), .int .i64 yt] 84)).setCell ⟨w.heap.size, k, none⟩ (.bool true)).rangeLeft u (w.heap.size + 1) < wo.rangeLeft u (w.heap.size + 1)) := Lib.hid (by rw [hI2.left_eq, HM0.out]; exact HL.out)
      have k1 : (0 : Int) ≤ (k : Int) := by omega
      have k2 : (k : Int) < 8 := by omega
      have HT2 := Lib.hid hT2
      have HN := Lib.hid hnew
      have HI2 := Lib.hid hI2
      have HG2 := Lib.hid hgn
      clear hv hent hp hlt2 hI' hG' hsz' hGw hT' hT2 hnew hI2 hgn kset ka hT hI HM HP HL hG s0 hk0
      go_wp2_with fail
      go_roundw
      case rel => exact ⟨_, left', HN.out, HI2.out, HM2, HG2.out⟩
      case measure => exact HME.out

end Go.Proofs.YtdchlnffbiooaaaGreatDoor
