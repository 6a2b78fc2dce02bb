/-
  The contract of package virtq's unused and Free: the numbers of the free descriptors. Conditions: at most 64 entries; each number that is out is from 0 to 63.
-/
import Derived.Test.YtmlicejhkdkhnaaBufs
import Derived.Deep.MidRow
namespace Go.Proofs.Ytmlicejhkdkhnaa
open Go.RowKit Go.Sort

/-- A chain that is out, as the driver keeps it: the chain, and where its numbers lie. -/
structure Oc where
  c : Ch
  blk : Nat
  cap : Nat
/-- As a value. -/
def Oc.val (x : Oc) : Value := .agg #[.slice (some ⟨x.blk, 0, none⟩) x.c.of.length x.cap, .int .i64 x.c.most]
/-- As an entry of the map. -/
def Oc.ent (x : Oc) : Int × Value := (x.c.head, x.val)
/-- Its numbers lie where they should. -/
def NumsAt (w : World) (x : Oc) : Prop := x.c.of.length ≤ 64 ∧ (∀ (i : Nat) (h : i < x.c.of.length), w.cell? ⟨x.blk, i, none⟩ = some (.int .i64 x.c.of[i])) ∧ ∀ y ∈ x.c.of, 0 ≤ y ∧ y ≤ 63

theorem TabIter.left_eq {w : World} {b r : Nat} {cs left : List (Int × Value)} (h : TabIter w b r cs left) : w.rangeLeft b r = left.length := by
  obtain ⟨es, clock, since, seen, c0, hb, _, hr, _, _, _, hl, _⟩ := h
  simp only [World.rangeLeft, hb, hr]
  have := congrArg List.length hl
  simpa using this

/-- The slice reads as these ints, at the head of a block from B on. -/
def IsRow (B : Nat) (w : World) (v : Value) (l : List Int) : Prop :=
  ∃ (p : Option Addr) (cap : Nat), v = .slice p l.length cap ∧ l.length ≤ cap ∧ l.length ≤ 1000 ∧ (0 < l.length → ∃ b, p = some ⟨b, 0, none⟩ ∧ B ≤ b ∧ ∀ (i : Nat) (h : i < l.length), w.cell? ⟨b, i, none⟩ = some (.int .i64 l[i]))
theorem row_of_own {w : World} {base B : Nat} {e : TypeId} {v : Value} {l : List Int} (h : w.ownsRow base e 1 v l.length (l.map (Value.int .i64))) (hl : l.length ≤ 1000) (hB : B ≤ base) : IsRow B w v l := by
  rcases h.2 with ⟨rfl, h0⟩ | ⟨g, cap, cur, rfl, hg, _, hc, _⟩
  · exact ⟨none, 0, by rw [h0], by omega, hl, fun hp => absurd hp (by omega)⟩
  · refine ⟨some ⟨g, 0, none⟩, cap, rfl, hc, hl, fun _ => ⟨g, rfl, by omega, fun i hi => ?_⟩⟩
    rw [h.cellAt i (by omega), List.getElem?_map, List.getElem?_eq_getElem hi]
    rfl

/-- Which are taken, as a row of bools. -/
def TakenAt (w : World) (T : Nat) (f : Nat → Bool) : Prop := ∀ i, i < 64 → w.cell? ⟨T, i, none⟩ = some (.bool (f i)) ∧ w.frozen? ⟨T, i, none⟩ = false
theorem TakenAt.kept {w w' : World} {T : Nat} {f : Nat → Bool} (h : TakenAt w T f) (k : w'.heap[T]? = w.heap[T]?) : TakenAt w' T f := fun i hi =>
  ⟨(World.cell?_of_block (w := w) (a := ⟨T, i, none⟩) k).trans (h i hi).1, (World.frozen?_of_block (w := w) (a := ⟨T, i, none⟩) k).trans (h i hi).2⟩
theorem TakenAt.set {w : World} {T : Nat} {f : Nat → Bool} (h : TakenAt w T f) (j : Nat) (hj : j < 64) : TakenAt (w.setCell ⟨T, j, none⟩ (.bool true)) T (fun i => f i || i == j) := fun i hi => by
  obtain ⟨h1, h2⟩ := h i hi
  refine ⟨?_, by rw [World.frozen?_setCell]; exact h2⟩
  by_cases hij : i = j
  · subst hij
    rw [World.cell?_setCell_same _ _ _ h1]
    simp
  · rw [World.cell?_setCell_other _ _ _ _ (fun e => hij (by injection e with _ e; exact e.symm)), h1]
    have : (i == j) = false := by simp [hij]
    show _ = some (Value.bool (f i || i == j))
    rw [this, Bool.or_false]
theorem TakenAt.lt {w : World} {T : Nat} {f : Nat → Bool} (h : TakenAt w T f) : T < w.heap.size := World.block_lt_of_cell? w _ (h 0 (by decide)).1

theorem setCells_other (b : Nat) : ∀ (vs : List Value) (o : Nat) (w : World) (k : Nat), k ≠ b → (w.setCells b o vs).heap[k]? = w.heap[k]?
  | [], _, _, _, _ => rfl
  | v :: r, o, w, k, h => by rw [World.setCells, setCells_other b r (o + 1) _ k h, Below.heap_setCell _ _ _ _ h]
theorem setCells_same (b : Nat) : ∀ (vs : List Value) (o : Nat) (w : World), (w.setCells b o vs).os = w.os ∧ (w.setCells b o vs).tape = w.tape ∧ (w.setCells b o vs).output = w.output ∧ (w.setCells b o vs).heap.size = w.heap.size
  | [], _, _ => ⟨rfl, rfl, rfl, rfl⟩
  | v :: r, o, w => by
    obtain ⟨h1, h2, h3, h4⟩ := setCells_same b r (o + 1) (w.setCell ⟨b, o, none⟩ v)
    exact ⟨h1, h2, h3, by rw [World.setCells, h4]; simp [World.setCell]⟩

theorem info_bools : (Try.prog.info? 152).map (·.size) = some 64 := by kernel_rfl

/-- 'taken := [64]bool{}' at the operation: the store into the new block. -/
theorem wpList_taken {v : World} {ops : Array Oper} {rest : List Oper} {op : Oper} {a : Act} {Q : Exit → Act → World → Prop} (hgd : op.guard = none) (x y : Operand) (ho : op.op = .store 152 x y)
    (hx : a.eval x = .pointer (some ⟨v.heap.size, 0, none⟩)) (cells : Array Value) (hy : a.eval y = .agg cells) (hz : cells.toList = List.replicate 64 (.bool false)) (c : Array Value) (t : TypeId) (hc : c.size = 64)
    (h : ∀ W, TakenAt W v.heap.size (fun _ => false) → v.grownBy W none → W.heap.size = v.heap.size + 1 → wpList Try.prog ops Q rest (a.put op.dst undef) W) : wpList Try.prog ops Q (op :: rest) a (v.alloc (.cells c t)) := by
  have hb := heap_alloc_new v (.cells c t)
  have hzs : cells.size = 64 := by have := congrArg List.length hz; simpa using this
  have hth : (v.alloc (.cells c t)).there v.heap.size 0 cells.size := fun j hj => by
    rw [hzs] at hj
    refine ⟨?_, frozen_of_block hb⟩
    rw [cell_of_block hb, Array.getElem?_eq_getElem (by omega)]
    rfl
  refine wpList_store_mid hgd 152 x y ho v.heap.size 0 cells hx hy hth (by rw [hzs]; exact info_bools) ?_ ?_
  · refine Array.all_eq_true_iff_forall_mem.2 fun u hu => ?_
    have hu' : u ∈ cells.toList := by simpa using hu
    rw [hz] at hu'
    rw [List.eq_of_mem_replicate hu']
    rfl
  · rw [hz]
    obtain ⟨e1, e2, e3, e4⟩ := setCells_same v.heap.size (List.replicate 64 (.bool false)) 0 (v.alloc (.cells c t))
    refine h _ (fun i hi => ⟨?_, ?_⟩) ⟨e1, e2, e3, by rw [e4]; simp, fun k hk _ => ?_⟩ (by rw [e4]; simp)
    · have := World.cell?_setCells_in v.heap.size (List.replicate 64 (.bool false)) 0 (v.alloc (.cells c t)) (fun j hj => (hth j (by rw [hzs]; simpa using hj)).1) i (by simpa using hi)
      rw [Nat.zero_add, List.getElem_replicate] at this
      exact this
    · rw [World.frozen?_setCells]
      exact frozen_of_block hb
    · rw [setCells_other _ _ _ _ _ (by omega), Below.heap_alloc _ _ _ hk]

/-- Does the chain with this head take descriptor i? -/
def markE (cs : List Oc) (k : Int) (i : Nat) : Bool := cs.any fun c => c.c.head == k && c.c.of.any (· == (i : Int))
theorem mark_start (cs : List Oc) (i : Nat) : (cs.map Oc.ent).any (fun e => markE cs e.1 i) = takenBy (cs.map Oc.c) i := by
  rw [Bool.eq_iff_iff]
  simp only [List.any_eq_true, markE, takenBy, List.mem_map, Bool.and_eq_true, beq_iff_eq]
  constructor
  · rintro ⟨e, ⟨c, _, rfl⟩, d, hd, _, x, hx, hxi⟩
    exact ⟨d.c, ⟨d, hd, rfl⟩, x, hx, hxi⟩
  · rintro ⟨c, ⟨d, hd, rfl⟩, x, hx, hxi⟩
    exact ⟨d.ent, ⟨d, hd, rfl⟩, d, hd, rfl, x, hx, hxi⟩
theorem nodup_head : ∀ {cs : List Oc} (_ : ((cs.map Oc.ent).map (·.1)).Nodup) {c d : Oc} (_ : c ∈ cs) (_ : d ∈ cs), c.c.head = d.c.head → c = d
  | [], _, c, d, h, _, _ => by simp at h
  | a :: cs, hn, c, d, h, h', e => by
    simp only [List.map_cons, List.nodup_cons] at hn
    have key : ∀ {z : Oc}, z ∈ cs → z.c.head ∈ (cs.map Oc.ent).map (·.1) := fun hz => List.mem_map.2 ⟨_, List.mem_map.2 ⟨_, hz, rfl⟩, rfl⟩
    rcases List.mem_cons.1 h with h0 | h0
    · rcases List.mem_cons.1 h' with h1 | h1
      · rw [h0, h1]
      · subst h0
        exact absurd (show c.ent.1 ∈ _ from (by have := key h1; rw [← e] at this; exact this)) hn.1
    · rcases List.mem_cons.1 h' with h1 | h1
      · subst h1
        exact absurd (show d.ent.1 ∈ _ from (by have := key h0; rw [e] at this; exact this)) hn.1
      · exact nodup_head hn.2 h0 h1 e
theorem mark_one {cs : List Oc} (hn : ((cs.map Oc.ent).map (·.1)).Nodup) {y : Oc} (hy : y ∈ cs) (i : Nat) : markE cs y.c.head i = y.c.of.any (· == (i : Int)) := by
  rw [Bool.eq_iff_iff]
  simp only [List.any_eq_true, markE, Bool.and_eq_true, beq_iff_eq]
  constructor
  · rintro ⟨c, hc, e, x, hx, hxi⟩
    rw [nodup_head hn hc hy e] at hx
    exact ⟨x, hx, hxi⟩
  · rintro ⟨x, hx, hxi⟩
    exact ⟨y, hy, rfl, x, hx, hxi⟩
theorem any_perm {α : Type} {l l' : List α} (h : l.Perm l') (p : α → Bool) : l.any p = l'.any p := by
  rw [Bool.eq_iff_iff, List.any_eq_true, List.any_eq_true]
  exact ⟨fun ⟨x, hx, hp⟩ => ⟨x, h.mem_iff.1 hx, hp⟩, fun ⟨x, hx, hp⟩ => ⟨x, h.mem_iff.2 hx, hp⟩⟩

set_option maxRecDepth 100000 in
set_option maxHeartbeats 1000000 in
theorem unused_any (w : World) (q g : Nat) (base : Int) (n : Nat) (mb : Nat) (off back : Int) (broken : Bool) (hq : QAt w q g base n (some mb) off back broken) (cs : List Oc) (ht : IsTab w mb (cs.map Oc.ent)) (hc : ∀ x ∈ cs, NumsAt w x) (hn : n ≤ 64) :
    Calls Try.prog 67 #[.pointer (some ⟨q, 0, none⟩)] w
      fun e w' => (∃ r, e = .returned r ∧ IsRow w.heap.size w' r (freeL (cs.map Oc.c) n)) ∧ w.grownBy w' none := by
  have hnd : ((cs.map Oc.ent).map (·.1)).Nodup := by obtain ⟨_, _, _, F⟩ := ht; exact F.keys
  have HC := Lib.hid hc
  have hqlt := lt_of_block hq
  have hmlt := ht.lt
  clear hc
  go_enter Try.func67, Try.ntmps67
  go_wp2_with (first | (refine wpList_taken rfl _ _ rfl rfl _ rfl rfl _ _ rfl ?_; intro W htk hgr hsz; have hq1 := hq.kept (hgr.block _ (lt_of_block hq) (by simp)); have h3 := hq1.c3; have h2 := hq1.c2; have ht1 := ht.kept (hgr.block _ ht.lt (by simp))) | (at_range; refine wpList_range_tab _ rfl _ 110 rfl 3 133 Try.underlying110 mb (cs.map Oc.ent) ht1 rfl ?_; intro w0 hit hg0 hs0))
  go_frame
  have hg1 := hgr.trans hg0
  have ht0 := htk.kept (hg0.block _ htk.lt (by simp))
  have HQ := Lib.hid (hq1.kept (hg0.block _ (lt_of_block hq1) (by simp)))
  have HN := Lib.hid hnd
  have HT := Lib.hid ht
  have hlt0 : w.heap.size < W.heap.size := by omega
  rw [hsz] at hit ⊢
  have HSZ := Lib.hid hsz
  clear hsz
  clear hq hq1 htk h3 h2 hgr hg0 hnd ht ht1
  go_loopw [16] (fun _ wr => ∃ (f : Nat → Bool) (left : List (Int × Value)), TakenAt wr w.heap.size f ∧ TabIter wr mb (w.heap.size + 1) (cs.map Oc.ent) left ∧ Hid (∀ i : Nat, i < 64 → (f i || left.any (fun e => markE cs e.1 i)) = takenBy (cs.map Oc.c) i) ∧ w.grownBy wr none ∧ QAt wr q g base n (some mb) off back broken) (fun _ wr => wr.rangeLeft mb (w.heap.size + 1))
  case atStart => exact ⟨fun _ => false, cs.map Oc.ent, ht0, hit, Lib.hid (fun i _ => by rw [Bool.false_or]; exact mark_start cs i), hg1, HQ.out⟩
  case round =>
    obtain ⟨f, left, hT, hI, HM, hG, hQ⟩ := hrel
    obtain ⟨wo, rfl⟩ : ∃ wo : World, wo = wr := ⟨_, rfl⟩
    have HM0 := Lib.hid hI.left_eq
    go_wp2_with (at_next; refine wpList_next_tab _ Oc.val rfl _ rfl mb (w.heap.size + 1) (cs.map Oc.ent) left rfl hI (fun c hc => by obtain ⟨y, _, rfl⟩ := List.mem_map.1 hc; exact ⟨y, rfl⟩) ?_ ?_)
    · intro hl0
      subst hl0
      have HF : Hid (∀ i : Nat, i < 64 → f i = takenBy (cs.map Oc.c) i) := Lib.hid fun i hi => by rw [← HM.out i hi]; simp
      have hQ2 : QAt (wo.alloc (.cells #[] 3)) q g base n (some mb) off back broken := hQ.kept (Below.heap_alloc _ _ _ (lt_of_block hQ))
      have g2 := hQ2.c2
      clear hQ2
      clear hI HM HM0
      go_wp2_with fail
      have ho0 : (wo.alloc (.cells #[] 3)).ownsRow wo.heap.size 3 1 (.slice (some ⟨wo.heap.size, 0, none⟩) 0 0) (freeL (cs.map Oc.c) 0).length ((freeL (cs.map Oc.c) 0).map (Value.int .i64)) :=
        ⟨rfl, .inr ⟨wo.heap.size, 0, #[], rfl, Nat.le_refl _, heap_alloc_new wo _, Nat.le_refl _, Nat.zero_le _, rfl, rfl⟩⟩
      have hb0 := (Below.refl wo.heap.size wo).alloc (Nat.le_refl _) (.cells #[] 3)
      have hTl := hT.lt
      obtain ⟨i0, hi, hz0, hz1, hz2⟩ := info_parts info_int
      clear g2 hQ
      generalize wo.alloc (.cells #[] 3) = W3 at ho0 hb0 ⊢
      go_loopw [8, 36] (fun v iv w4 => ∃ k : Nat, k ≤ n ∧ iv = .int .i64 k ∧ w4.ownsRow wo.heap.size 3 1 v (freeL (cs.map Oc.c) k).length ((freeL (cs.map Oc.c) k).map (Value.int .i64)) ∧ Below wo.heap.size wo w4) (fun _ iv _ => n - (intOf iv).toNat)
      case atStart => exact ⟨0, Nat.zero_le _, rfl, ho0, hb0⟩
      case round =>
        obtain ⟨k, hk, rfl, hown, hb⟩ := hrel
        have hle := freeL_le (cs.map Oc.c) k
        by_cases hlt : k < n
        · have hcell : wr.cell? ⟨w.heap.size, k, none⟩ = some (.bool (takenBy (cs.map Oc.c) k)) := by
            rw [hb.cell (p := ⟨w.heap.size, k, none⟩) hTl, (hT k (by omega)).1, HF.out k (by omega)]
          have hk0 : (0 : Int) ≤ (k : Int) := by omega
          have hk1 : (k : Int) < 64 := by omega
          have hsucc := freeL_succ (cs.map Oc.c) k
          cases htk : takenBy (cs.map Oc.c) k with
          | true =>
            rw [htk] at hcell
            rw [htk, if_pos rfl, List.append_nil] at hsucc
            have HU := Lib.hid hsucc
            clear hsucc htk hT
            go_wp2_with fail
            go_roundw
            case rel => exact ⟨k + 1, by omega, by go_num, by rw [HU.out]; exact hown, hb⟩
            case measure => simp [intOf]; omega
          | false =>
            rw [htk] at hcell
            rw [htk, if_neg (by decide)] at hsucc
            have HU := Lib.hid hsucc
            have hbs := hb.size
            clear hsucc htk hT
            go_wp2_with (at_builtin; refine wpList_append_own _ rfl _ _ 39 rfl wo.heap.size 3 i0 (.int .i64 0) 1 8 Try.underlying39 hi hz0 hz1 hz2 rfl (by decide) _ _ _ rfl (hown.alloc _) ⟨wr.heap.size, 0, none⟩ 1 1 [.int .i64 (k : Int)] rfl rfl ?c1 ?c2 ?c3 ?c4 ?c5 ?_)
            case c1 => exact fun j u hu => cell_one_new wr _ _ j u hu
            case c2 => first | rfl | (simp [Value.oneCell']; done)
            case c3 => unfold maxLen; omega
            case c4 => omega
            case c5 => first | omega | (simp; omega)
            intro v' w5 hown' hgrow _
            have hb2 : Below wo.heap.size wo w5 := (hb.alloc hb.size _).grown hgrow (by simp; omega) (own_ge hown)
            go_wp2_with fail
            go_roundw
            case rel => exact ⟨k + 1, by omega, by go_num, by rw [HU.out, List.length_append, List.map_append]; exact hown', hb2⟩
            case measure => simp [intOf]; omega
        · have hkn : k = n := by omega
          subst hkn
          have hd0 : decide ((k : Int) < k) = false := decide_eq_false (by omega)
          have hfin := row_of_own (B := w.heap.size) hown (by omega) (by have := hG.size; omega)
          have hgr : w.grownBy wr none := hG.trans ⟨hb.os, hb.tape, hb.output, hb.size, fun j hj _ => hb.block j hj⟩
          clear hT
          go_wp2_with fail
          go_ret
          exact ⟨⟨_, rfl, hfin⟩, hgr⟩
    · intro x y left' w' hp y' hy' hent hlt2 hI' hG' hsz' hen
      have hx : y'.c.head = x := congrArg Prod.fst hent
      have hv : y.val = .agg #[.slice (some ⟨y'.blk, 0, none⟩) y'.c.of.length y'.cap, .int .i64 y'.c.most] := (congrArg Prod.snd hent).symm
      rw [hv] at hen hp ⊢
      obtain ⟨hn1, hn2, hn3⟩ := HC.out y' hy'
      have HP := Lib.hid hp
      have HX := Lib.hid hx
      have HN2 := Lib.hid hn2
      have HN3 := Lib.hid hn3
      have HL := Lib.hid hlt2
      clear hv hent hp hx hn2 hn3 hlt2
      have hrk : w.heap.size + 1 < wo.heap.size := by have := hI.lt; omega
      have hmb := hI.tab.lt
      have hT' : TakenAt w' w.heap.size f := hT.kept (hG'.block _ hT.lt (fun e => by injection e with e; omega))
      have hQ' : QAt w' q g base n (some mb) off back broken := hQ.kept (hG'.block _ (lt_of_block hQ) (fun e => by injection e with e; omega))
      go_wp2_with fail
      have hGw : w.grownBy w' none := hG.andThen hG' (fun j e => .inl (by injection e with e; omega))
      have hV : ∀ V, V = w'.alloc (.cells #[.slice (some ⟨y'.blk, 0, none⟩) y'.c.of.length y'.cap, .int .i64 y'.c.most] 133) → TakenAt V w.heap.size f ∧ TabIter V mb (w.heap.size + 1) (cs.map Oc.ent) left' ∧ QAt V q g base n (some mb) off back broken ∧ w.grownBy V none := by
        rintro V rfl
        have ka := World.grownBy_alloc w' (.cells #[.slice (some ⟨y'.blk, 0, none⟩) y'.c.of.length y'.cap, .int .i64 y'.c.most] 133) none
        exact ⟨hT'.kept (ka.block _ hT'.lt (by simp)), hI'.kept (ka.block _ hI'.tab.lt (by simp)) (ka.block _ hI'.lt (by simp)), hQ'.kept (ka.block _ (lt_of_block hQ') (by simp)), hGw.trans ka⟩
      generalize hVe : w'.alloc _ = V
      obtain ⟨vT, vI, vQ, vG⟩ := hV V hVe.symm
      have vn : ∀ (j : Nat) (hj : j < y'.c.of.length), V.cell? ⟨y'.blk, j, none⟩ = some (.int .i64 y'.c.of[j]) ∧ y'.blk < w.heap.size := fun j hj => by
        have h1 := HN2.out j hj
        have h2 := World.block_lt_of_cell? w _ h1
        exact ⟨(World.cell?_of_block (w := w) (a := ⟨y'.blk, j, none⟩) (vG.block _ h2 (by simp))).trans h1, h2⟩
      have VN := Lib.hid vn
      have HVI := Lib.hid vI
      have HL2 := Lib.hid hsz'
      clear hV hVe vn vI hT' hI' hQ' hG' hsz' hen hGw
      go_loopw [23] (fun iv w2 => ∃ (j : Nat) (f2 : Nat → Bool), j ≤ y'.c.of.length ∧ iv = .int .i64 j ∧ TakenAt w2 w.heap.size f2 ∧ Hid (∀ i : Nat, i < 64 → f2 i = (f i || (y'.c.of.take j).any (· == (i : Int)))) ∧ V.grownBy w2 (some w.heap.size)) (fun iv _ => y'.c.of.length - (intOf iv).toNat)
      case atStart => exact ⟨0, f, Nat.zero_le _, rfl, vT, Lib.hid (fun i _ => by simp), World.grownBy.refl _ _⟩
      case round =>
        obtain ⟨j, f2, hj, rfl, h2T, H2F, h2G⟩ := hrel
        by_cases hlt : j < y'.c.of.length
        · obtain ⟨vc, vb⟩ := VN.out j hlt
          obtain ⟨k0, k1⟩ := HN3.out y'.c.of[j] (List.getElem_mem hlt)
          have hx' := List.getElem?_eq_getElem hlt
          generalize y'.c.of[j] = X at vc k0 k1 hx'
          obtain ⟨k, rfl⟩ := Int.eq_ofNat_of_zero_le k0
          have hk64 : k < 64 := by omega
          have cn : wr.cell? ⟨y'.blk, j, none⟩ = some (.int .i64 (k : Int)) := by
            rw [World.cell?_of_block (w := V) (a := ⟨y'.blk, j, none⟩) (h2G.block _ (World.block_lt_of_cell? V _ vc) (fun e => by injection e with e; have : y'.blk = w.heap.size := e; omega))]
            exact vc
          obtain ⟨ck, fk⟩ := h2T k hk64
          have hs := any_take_succ y'.c.of (· == ((0 : Nat) : Int)) j _ hx'
          have hnew := h2T.set k hk64
          have hgn := h2G.trans (grown_setCell wr w.heap.size k (.bool true))
          have HFn : Hid (∀ i : Nat, i < 64 → (f2 i || i == k) = (f i || (y'.c.of.take (j + 1)).any (· == (i : Int)))) := Lib.hid fun i hi => by
            rw [any_take_succ y'.c.of (· == (i : Int)) j _ hx', H2F.out i hi, Bool.or_assoc]
            congr 2
            by_cases hik : i = k
            · subst hik; simp
            · have h1 : (i == k) = false := by simp [hik]
              have h2 : ((k : Int) == (i : Int)) = false := by simp; omega
              rw [h1, h2]
          have hk1' : (k : Int) < 64 := by omega
          clear hs vc hx' h2T h2G
          go_wp2_with fail
          go_roundw
          case rel => exact ⟨j + 1, _, by omega, by go_num, hnew, HFn, hgn⟩
          case measure => simp [intOf]; omega
        · have hz : ∀ i : Nat, i < 64 → f2 i = (f i || y'.c.of.any (· == (i : Int))) := fun i hi => by rw [H2F.out i hi, List.take_of_length_le (by omega)]
          have hd : decide ((j : Int) < y'.c.of.length) = false := decide_eq_false (by omega)
          have HI2 : TabIter wr mb (w.heap.size + 1) (cs.map Oc.ent) left' := HVI.out.kept (h2G.block _ HVI.out.tab.lt (fun e => by injection e with e; omega)) (h2G.block _ HVI.out.lt (fun e => by injection e with e; omega))
          have hQ2 : QAt wr q g base n (some mb) off back broken := vQ.kept (h2G.block _ (lt_of_block vQ) (fun e => by injection e with e; omega))
          have hG2 : w.grownBy wr none := vG.andThen h2G (fun j e => .inl (by injection e with e; omega))
          have HM2 : Hid (∀ i : Nat, i < 64 → (f2 i || left'.any (fun e => markE cs e.1 i)) = takenBy (cs.map Oc.c) i) := Lib.hid fun i hi => by
            rw [← HM.out i hi, any_perm HP.out, List.any_cons, hz i hi, Bool.or_assoc, ← mark_one HN.out hy' i, HX.out]
          have HME : Hid (wr.rangeLeft mb (w.heap.size + 1) < wo.rangeLeft mb (w.heap.size + 1)) := Lib.hid (by have h1 := HM0.out; rw [HI2.left_eq, h1]; exact HL.out)
          clear hz vT vQ vG h2G
          go_wp2_with fail
          go_roundw
          case rel => exact ⟨f2, left', h2T, HI2, HM2, hG2, hQ2⟩
          case measure => exact HME.out

set_option maxHeartbeats 400000 in
theorem vFree_any (w : World) (q g : Nat) (base : Int) (n : Nat) (mb : Nat) (off back : Int) (broken : Bool) (hq : QAt w q g base n (some mb) off back broken) (cs : List Oc) (ht : IsTab w mb (cs.map Oc.ent)) (hc : ∀ x ∈ cs, NumsAt w x) (hn : n ≤ 64) :
    Calls Try.prog 95 #[.pointer (some ⟨q, 0, none⟩)] w
      fun e w' => e = .returned (.int .i64 (freeL (cs.map Oc.c) n).length) ∧ w.grownBy w' none := by
  have h7 := hq.c7
  have UC := Lib.hid (unused_any w q g base n mb off back broken hq cs ht hc hn)
  obtain ⟨F, hF⟩ : ∃ F, F = freeL (cs.map Oc.c) n := ⟨_, rfl⟩
  rw [← hF] at UC ⊢
  clear hq ht hc hF
  go_enter Try.func95, Try.ntmps95
  go_wp2_with (go_at_call 87; refine (qnone_no _ _ h7).mono ?_; rintro e w' ⟨rfl, rfl⟩)
  refine UC.out.mono ?_
  rintro e w1 ⟨⟨r, rfl, hr⟩, k1⟩
  obtain ⟨p, cap, rfl, _⟩ := hr
  go_wp2_with fail
  go_ret
  exact ⟨rfl, k1⟩

end Go.Proofs.Ytmlicejhkdkhnaa
