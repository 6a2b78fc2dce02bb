/-
  Layer 7: the document's own bytes of a packet. Conditions: a packet's kind is a number of its kind.
-/
import Derived.Test.YtolegdjdppaeoaaArpI
import Derived.Test.YtolegdjdppaeoaaRef
import Derived.Laws.AppendOwn
namespace Go.Proofs.Ytolegdjdppaeoaa
open Go.RowKit Go.Sort
set_option linter.unusedVariables false

/-- A slice of bytes that has a block of its own. -/
abbrev ByRow (w : World) (base : Nat) (v : Value) (l : List UInt8) : Prop := w.ownsRow base 5 1 v l.length (l.map eb)
theorem info_u8 : ∃ i z, Try.prog.info? 5 = some i ∧ i.zero = some z ∧ i.size = 1 ∧ i.bytes = 1 ∧ z.cells.size = 1 := by
  have h : (Try.prog.info? 5).map (fun i => (i.zero.map (fun z => z.cells.size), i.size, i.bytes)) = some (some 1, 1, 1) := by kernel_rfl
  cases hi : Try.prog.info? 5 with
  | none => rw [hi] at h; cases h
  | some i =>
    rw [hi] at h
    simp only [Option.map_some, Option.some.injEq, Prod.mk.injEq] at h
    obtain ⟨h1, h2, h3⟩ := h
    cases hz : i.zero with
    | none => rw [hz] at h1; cases h1
    | some z => rw [hz] at h1; exact ⟨i, z, rfl, hz, h2, h3, by simpa using h1⟩
theorem wpList_append_byte {ops : Array Oper} {rest : List Oper} {o : Oper} {a : Act} {w : World} {Q : Exit → Act → World → Prop} (hg : o.guard = none) (s x : Operand)
    (hop : o.op = Op.call { callee := Callee.builtin Builtin.append, args := #[s, x], argTypes := #[75, 75] })
    (base : Nat) (v : Value) (l : List UInt8) (hs : a.eval s = v) (hown : ByRow w base v l) (hl : l.length ≤ 100000)
    (b : Nat) (c : Nat) (X : UInt8) (hx : a.eval x = .slice (some ⟨b, 0, none⟩) 1 c) (hc : w.cell? ⟨b, 0, none⟩ = some (eb X)) (hb : base ≤ w.heap.size)
    (hK : ∀ v' w', ByRow w' base v' (l ++ [X]) → w.grownBy w' v.ownBlock → wpList Try.prog ops Q rest (a.put o.dst v') w') : wpList Try.prog ops Q (o :: rest) a w := by
  obtain ⟨i, z, h1, h2, h3, h4, h5⟩ := info_u8
  refine wpList_append_own _ hg s x 75 hop base 5 i z 1 1 Try.underlying75 h1 h2 h3 h4 h5 (by decide) v l.length (l.map eb) hs hown ⟨b, 0, none⟩ 1 c [eb X] hx rfl ?_ ?_ (by unfold maxLen; omega) (by omega) hb ?_
  · intro j u hu
    rcases j with _ | j
    · have : u = eb X := by simpa using hu.symm
      subst this
      have ha : (⟨b, 0, none⟩ : Addr).add 0 = ⟨b, 0, none⟩ := by unfold Addr.add; split <;> simp_all
      rw [ha]
      exact hc
    · simp at hu
  · intro u hu
    have : u = eb X := by simpa using hu
    subst this
    rfl
  · intro v' w' g1 g2 _
    refine hK v' w' ?_ g2
    unfold ByRow
    rw [List.length_append, List.map_append]
    exact g1
theorem ByRow.shape {w : World} {base : Nat} {v : Value} {l : List UInt8} (h : ByRow w base v l) : ∃ p c, v = .slice p l.length c := by
  rcases h.2 with ⟨rfl, h0⟩ | ⟨b, cap, _, rfl, _⟩
  · exact ⟨none, 0, by rw [h0]⟩
  · exact ⟨_, _, rfl⟩
theorem ByRow.block {w : World} {base : Nat} {v : Value} {l : List UInt8} (h : ByRow w base v l) {k : Nat} (hk : v.ownBlock = some k) : base ≤ k := by
  rcases h.2 with ⟨rfl, h0⟩ | ⟨b, cap, _, rfl, hb, _⟩
  · simp [Value.ownBlock] at hk
  · simp [Value.ownBlock] at hk
    omega
/-- A row of its own as a text. -/
theorem ByRow.conv {w : World} {base : Nat} {v : Value} {l : List UInt8} (h : ByRow w base v l) (h0 : 0 < l.length) : (convert 75 9 v).run Try.prog w = .ok (.string ⟨l.toArray⟩) w := by
  rcases h.2 with ⟨_, h1⟩ | ⟨b, cap, cur, rfl, _, hb, h1, h2, h3, h4⟩
  · omega
  · refine conv_text w b 0 l.length cap l rfl ?_
    intro j hj
    have hj' : j < l.length := by simpa using hj
    refine ⟨?_, by simp [World.frozen?, hb]⟩
    rw [Nat.zero_add, cell_of_row w b j cur _ (0, 0) hb]
    have h5 : (cur.toList.take (l.length * 1))[j]? = (l.map eb)[j]? := by rw [h4]
    rw [List.getElem?_take, if_pos (by omega)] at h5
    rw [← Array.getElem?_toList, h5, List.getElem?_map, List.getElem?_eq_getElem hj']
    simp [getElem!_pos l.toArray j (by simpa using hj')]

theorem list_at (l : List UInt8) (k : Nat) (h : k < l.length) : ∃ X : UInt8, l[k]? = some X ∧ l.take (k + 1) = l.take k ++ [X] :=
  ⟨l[k]'h, List.getElem?_eq_getElem h, by rw [List.take_succ_eq_append_getElem h]⟩
theorem holds_get {w : World} {n o : Nat} {l : List UInt8} (h : Holds eb w n o l.toArray) (k : Nat) (X : UInt8) (hX : l[k]? = some X) : w.cell? ⟨n, o + k, none⟩ = some (.int .u8 (X.toNat : Int)) := by
  have hk : k < l.toArray.size := by simpa using (List.getElem?_eq_some_iff.1 hX).1
  rw [(h k hk).1]
  simp [eb, getElem!_pos l.toArray k hk, (List.getElem?_eq_some_iff.1 hX).2]

/-- A packet and a row beside it. -/
structure PR (w W : World) (n : Nat) (f : Pk) (v : Value) (l : List UInt8) : Prop where
  pk : PkAt W n f
  nn : n = w.heap.size
  bl : Below w.heap.size w W
  row : ByRow W (n + 1) v l
theorem PR.byte {w W : World} {n : Nat} {f : Pk} {v : Value} {l : List UInt8} (h : PR w W n f v l) (X : UInt8) : ByRow (W.alloc (.cells #[.int .u8 (X.toNat : Int)] 5)) (n + 1) v l ∧ n + 1 ≤ (W.alloc (.cells #[.int .u8 (X.toNat : Int)] 5)).heap.size := by
  refine ⟨h.row.kept (row := none) (World.grownBy_alloc _ _ _) (by cases v.ownBlock <;> simp), ?_⟩
  have := lt_of_block h.pk
  simp
  omega
theorem PR.next {w W W' : World} {n : Nat} {f : Pk} {v v' : Value} {l l' : List UInt8} {X : UInt8} (h : PR w W n f v l) (h1 : ByRow W' (n + 1) v' l') (h2 : (W.alloc (.cells #[.int .u8 (X.toNat : Int)] 5)).grownBy W' v.ownBlock) : PR w W' n f v' l' := by
  have hlt := lt_of_block h.pk
  have hs : W.heap.size ≤ W'.heap.size := by have := h2.size; simp at this; omega
  have hold : ∀ k, k ≤ n → W'.heap[k]? = W.heap[k]? := fun k hk => by
    rw [h2.block k (by simp; omega) (fun e => by have := h.row.block e.symm; omega)]
    exact (World.grownBy_alloc W (.cells #[.int .u8 (X.toNat : Int)] 5) none).block k (by omega) (by simp)
  have a2 := World.grownBy_alloc W (.cells #[.int .u8 (X.toNat : Int)] 5) none
  refine ⟨(hold n (Nat.le_refl _)).trans h.pk, h.nn, h.bl.trans ⟨h2.os.trans a2.os, h2.tape.trans a2.tape, h2.output.trans a2.output, hs, fun k hk => hold k (by have := h.nn; omega)⟩, h1⟩

set_option maxRecDepth 100000 in
set_option maxHeartbeats 1000000 in
theorem rBytes_kind (w : World) (f : Pk) (h : ¬ (f.op = 1 ∨ f.op = 2)) :
    Calls Try.prog 18 #[.agg (pkC f)] w fun e w' => e = .returned (.tuple #[.string ⟨#[]⟩, .int .i64 10]) ∧ Below w.heap.size w w' := by
  have x1 : (f.op != 1) = true := by simpa using fun h1 => h (.inl h1)
  have x2 : (f.op != 2) = true := by simpa using fun h1 => h (.inr h1)
  clear h
  go_enter Try.func18, Try.ntmps18
  go_upto_region 1 with fail
  have FA : Hid (PkAt (w.alloc (.cells (pkC f) 27)) w.heap.size f) := Lib.hid (PkAt.of_alloc w _ f rfl)
  have BL : Hid (Below w.heap.size w (w.alloc (.cells (pkC f) 27))) := Lib.hid ((Below.refl _ _).alloc (Nat.le_refl _) _)
  generalize w.alloc _ = W1 at FA BL ⊢
  have c0 := FA.out.op
  go_wp2
  go_ret2
  exact ⟨rfl, BL.out⟩
set_option maxRecDepth 100000 in
set_option maxHeartbeats 4000000 in
theorem rBytes_yes1 (w : World) (f : Pk) (h1 : f.op = 1) :
    Calls Try.prog 18 #[.agg (pkC f)] w fun e w' => e = .returned (.tuple #[.string ⟨(pkX 1 f).toArray⟩, .int .i64 0]) ∧ Below w.heap.size w w' := by
  have HOP := Lib.hid h1
  clear h1
  go_enter Try.func18, Try.ntmps18
  go_upto_region 1 with fail
  have FA : Hid (PkAt (w.alloc (.cells (pkC f) 27)) w.heap.size f) := Lib.hid (PkAt.of_alloc w _ f rfl)
  have BL : Hid (Below w.heap.size w (w.alloc (.cells (pkC f) 27))) := Lib.hid ((Below.refl _ _).alloc (Nat.le_refl _) _)
  generalize w.alloc _ = W1 at FA BL ⊢
  obtain ⟨n, hn⟩ : ∃ n, n = w.heap.size := ⟨_, rfl⟩
  rw [← hn] at FA ⊢
  have HN := Lib.hid hn
  clear hn
  have c0 := FA.out.op
  rw [HOP.out] at c0
  go_upto_region 4 with fail
  have P0 : Hid (PR w (W1.alloc (.cells #[.int .u8 0, .int .u8 1, .int .u8 8, .int .u8 0, .int .u8 6, .int .u8 4, .int .u8 0, .int .u8 1] 5)) n f (.slice (some ⟨W1.heap.size, 0, none⟩) 8 8) [0, 1, 8, 0, 6, 4, 0, 1]) := Lib.hid (by
    have hlt := lt_of_block FA.out
    refine ⟨FA.out.grow ((Below.refl _ _).alloc (Nat.le_refl _) _), HN.out, BL.out.alloc BL.out.size _, rfl, .inr ⟨W1.heap.size, 8, _, rfl, hlt, heap_alloc_new _ _, Nat.le_refl _, by unfold maxLen; omega, rfl, rfl⟩⟩)
  clear c0 FA BL
  go_wp2
  go_loopw [4, 5] (fun b i wr => ∃ k : Nat, k ≤ 6 ∧ i = .int .i64 k ∧ Hid (PR w wr n f b ([0, 1, 8, 0, 6, 4, 0, 1] ++ f.ma.list.take k))) (fun _ i _ => 6 - (intOf i).toNat)
  case atStart => exact ⟨0, by omega, rfl, by rw [List.take_zero, List.append_nil]; exact P0⟩
  case round =>
    obtain ⟨k, hk, rfl, hp⟩ := hrel
    rename World => wr0
    clear P0
    by_cases hlt : k < 6
    · obtain ⟨X, hX, ht⟩ := list_at f.ma.list k hlt
      have hc := holds_get hp.out.pk.ma k X hX
      obtain ⟨hr, hz⟩ := hp.out.byte X
      have hl : ([0, 1, 8, 0, 6, 4, 0, 1] ++ f.ma.list.take k).length ≤ 100000 := by
        have := List.length_take_le k f.ma.list
        have hq : ([0, 1, 8, 0, 6, 4, 0, 1]).length ≤ 30 := Nat.le_of_ble_eq_true rfl
        rw [List.length_append]
        omega
      have HT : Hid ([0, 1, 8, 0, 6, 4, 0, 1] ++ f.ma.list.take (k + 1) = ([0, 1, 8, 0, 6, 4, 0, 1] ++ f.ma.list.take k) ++ [X]) := Lib.hid (by rw [ht]; exact (List.append_assoc _ _ _).symm)
      have hcell : (wr0.alloc (.cells #[.int .u8 (X.toNat : Int)] 5)).cell? ⟨wr0.heap.size, 0, none⟩ = some (eb X) := by rw [cell_of_row _ _ 0 _ _ _ (heap_alloc_new wr0 _)]; rfl
      generalize [0, 1, 8, 0, 6, 4, 0, 1] ++ f.ma.list.take k = L at hp hr hl HT
      have HR := Lib.hid hr
      have HL := Lib.hid hl
      have HZ := Lib.hid hz
      have HC := Lib.hid hcell
      clear hX ht hr hl hz hcell
      go_wp2_with (refine wpList_append_byte rfl _ _ rfl (n + 1) _ L rfl HR.out HL.out wr0.heap.size 1 X rfl HC.out HZ.out ?_; intro v' w2 g1 g2; have NX := Lib.hid (hp.out.next g1 g2); clear g1 g2)
      go_roundw
      case rel => exact ⟨k + 1, by omega, by go_num, by rw [HT.out]; exact NX⟩
      case measure => simp [intOf]; omega
    · have hz : k = 6 := by omega
      have hzi : (k : Int) = 6 := by omega
      rw [show f.ma.list.take k = f.ma.list by rw [hz]; rfl] at hp
      rw [hzi]
      have P1 : Hid (PR w wr0 n f _ ([0, 1, 8, 0, 6, 4, 0, 1] ++ f.ma.list)) := hp
      clear hp hk hlt hz hzi
      go_wp2
      go_loopw [4, 6] (fun b i wr => ∃ k : Nat, k ≤ 4 ∧ i = .int .i64 k ∧ Hid (PR w wr n f b (([0, 1, 8, 0, 6, 4, 0, 1] ++ f.ma.list) ++ f.ip.list.take k))) (fun _ i _ => 4 - (intOf i).toNat)
      case atStart => exact ⟨0, by omega, rfl, by rw [List.take_zero, List.append_nil]; exact P1⟩
      case round =>
        obtain ⟨k, hk, rfl, hp⟩ := hrel
        rename World => wr1
        clear P1
        by_cases hlt : k < 4
        · obtain ⟨X, hX, ht⟩ := list_at f.ip.list k hlt
          have hc := holds_get hp.out.pk.ip k X hX
          obtain ⟨hr, hz⟩ := hp.out.byte X
          have hl : (([0, 1, 8, 0, 6, 4, 0, 1] ++ f.ma.list) ++ f.ip.list.take k).length ≤ 100000 := by
            have := List.length_take_le k f.ip.list
            have hq : (([0, 1, 8, 0, 6, 4, 0, 1] ++ f.ma.list)).length ≤ 30 := Nat.le_of_ble_eq_true rfl
            rw [List.length_append]
            omega
          have HT : Hid (([0, 1, 8, 0, 6, 4, 0, 1] ++ f.ma.list) ++ f.ip.list.take (k + 1) = (([0, 1, 8, 0, 6, 4, 0, 1] ++ f.ma.list) ++ f.ip.list.take k) ++ [X]) := Lib.hid (by rw [ht]; exact (List.append_assoc _ _ _).symm)
          have hcell : (wr1.alloc (.cells #[.int .u8 (X.toNat : Int)] 5)).cell? ⟨wr1.heap.size, 0, none⟩ = some (eb X) := by rw [cell_of_row _ _ 0 _ _ _ (heap_alloc_new wr1 _)]; rfl
          generalize ([0, 1, 8, 0, 6, 4, 0, 1] ++ f.ma.list) ++ f.ip.list.take k = L at hp hr hl HT
          have HR := Lib.hid hr
          have HL := Lib.hid hl
          have HZ := Lib.hid hz
          have HC := Lib.hid hcell
          clear hX ht hr hl hz hcell
          go_wp2_with (refine wpList_append_byte rfl _ _ rfl (n + 1) _ L rfl HR.out HL.out wr1.heap.size 1 X rfl HC.out HZ.out ?_; intro v' w2 g1 g2; have NX := Lib.hid (hp.out.next g1 g2); clear g1 g2)
          go_roundw
          case rel => exact ⟨k + 1, by omega, by go_num, by rw [HT.out]; exact NX⟩
          case measure => simp [intOf]; omega
        · have hz : k = 4 := by omega
          have hzi : (k : Int) = 4 := by omega
          rw [show f.ip.list.take k = f.ip.list by rw [hz]; rfl] at hp
          rw [hzi]
          have P2 : Hid (PR w wr1 n f _ (([0, 1, 8, 0, 6, 4, 0, 1] ++ f.ma.list) ++ f.ip.list)) := hp
          clear hp hk hlt hz hzi
          go_wp2
          go_loopw [4, 7] (fun b i wr => ∃ k : Nat, k ≤ 6 ∧ i = .int .i64 k ∧ Hid (PR w wr n f b ((([0, 1, 8, 0, 6, 4, 0, 1] ++ f.ma.list) ++ f.ip.list) ++ f.tm.list.take k))) (fun _ i _ => 6 - (intOf i).toNat)
          case atStart => exact ⟨0, by omega, rfl, by rw [List.take_zero, List.append_nil]; exact P2⟩
          case round =>
            obtain ⟨k, hk, rfl, hp⟩ := hrel
            rename World => wr2
            clear P2
            by_cases hlt : k < 6
            · obtain ⟨X, hX, ht⟩ := list_at f.tm.list k hlt
              have hc := holds_get hp.out.pk.tm k X hX
              obtain ⟨hr, hz⟩ := hp.out.byte X
              have hl : ((([0, 1, 8, 0, 6, 4, 0, 1] ++ f.ma.list) ++ f.ip.list) ++ f.tm.list.take k).length ≤ 100000 := by
                have := List.length_take_le k f.tm.list
                have hq : ((([0, 1, 8, 0, 6, 4, 0, 1] ++ f.ma.list) ++ f.ip.list)).length ≤ 30 := Nat.le_of_ble_eq_true rfl
                rw [List.length_append]
                omega
              have HT : Hid ((([0, 1, 8, 0, 6, 4, 0, 1] ++ f.ma.list) ++ f.ip.list) ++ f.tm.list.take (k + 1) = ((([0, 1, 8, 0, 6, 4, 0, 1] ++ f.ma.list) ++ f.ip.list) ++ f.tm.list.take k) ++ [X]) := Lib.hid (by rw [ht]; exact (List.append_assoc _ _ _).symm)
              have hcell : (wr2.alloc (.cells #[.int .u8 (X.toNat : Int)] 5)).cell? ⟨wr2.heap.size, 0, none⟩ = some (eb X) := by rw [cell_of_row _ _ 0 _ _ _ (heap_alloc_new wr2 _)]; rfl
              generalize (([0, 1, 8, 0, 6, 4, 0, 1] ++ f.ma.list) ++ f.ip.list) ++ f.tm.list.take k = L at hp hr hl HT
              have HR := Lib.hid hr
              have HL := Lib.hid hl
              have HZ := Lib.hid hz
              have HC := Lib.hid hcell
              clear hX ht hr hl hz hcell
              go_wp2_with (refine wpList_append_byte rfl _ _ rfl (n + 1) _ L rfl HR.out HL.out wr2.heap.size 1 X rfl HC.out HZ.out ?_; intro v' w2 g1 g2; have NX := Lib.hid (hp.out.next g1 g2); clear g1 g2)
              go_roundw
              case rel => exact ⟨k + 1, by omega, by go_num, by rw [HT.out]; exact NX⟩
              case measure => simp [intOf]; omega
            · have hz : k = 6 := by omega
              have hzi : (k : Int) = 6 := by omega
              rw [show f.tm.list.take k = f.tm.list by rw [hz]; rfl] at hp
              rw [hzi]
              have P3 : Hid (PR w wr2 n f _ ((([0, 1, 8, 0, 6, 4, 0, 1] ++ f.ma.list) ++ f.ip.list) ++ f.tm.list)) := hp
              clear hp hk hlt hz hzi
              go_wp2
              go_loopw [4, 8] (fun b i wr => ∃ k : Nat, k ≤ 4 ∧ i = .int .i64 k ∧ Hid (PR w wr n f b (((([0, 1, 8, 0, 6, 4, 0, 1] ++ f.ma.list) ++ f.ip.list) ++ f.tm.list) ++ f.ti.list.take k))) (fun _ i _ => 4 - (intOf i).toNat)
              case atStart => exact ⟨0, by omega, rfl, by rw [List.take_zero, List.append_nil]; exact P3⟩
              case round =>
                obtain ⟨k, hk, rfl, hp⟩ := hrel
                rename World => wr3
                clear P3
                by_cases hlt : k < 4
                · obtain ⟨X, hX, ht⟩ := list_at f.ti.list k hlt
                  have hc := holds_get hp.out.pk.ti k X hX
                  obtain ⟨hr, hz⟩ := hp.out.byte X
                  have hl : (((([0, 1, 8, 0, 6, 4, 0, 1] ++ f.ma.list) ++ f.ip.list) ++ f.tm.list) ++ f.ti.list.take k).length ≤ 100000 := by
                    have := List.length_take_le k f.ti.list
                    have hq : (((([0, 1, 8, 0, 6, 4, 0, 1] ++ f.ma.list) ++ f.ip.list) ++ f.tm.list)).length ≤ 30 := Nat.le_of_ble_eq_true rfl
                    rw [List.length_append]
                    omega
                  have HT : Hid (((([0, 1, 8, 0, 6, 4, 0, 1] ++ f.ma.list) ++ f.ip.list) ++ f.tm.list) ++ f.ti.list.take (k + 1) = (((([0, 1, 8, 0, 6, 4, 0, 1] ++ f.ma.list) ++ f.ip.list) ++ f.tm.list) ++ f.ti.list.take k) ++ [X]) := Lib.hid (by rw [ht]; exact (List.append_assoc _ _ _).symm)
                  have hcell : (wr3.alloc (.cells #[.int .u8 (X.toNat : Int)] 5)).cell? ⟨wr3.heap.size, 0, none⟩ = some (eb X) := by rw [cell_of_row _ _ 0 _ _ _ (heap_alloc_new wr3 _)]; rfl
                  generalize ((([0, 1, 8, 0, 6, 4, 0, 1] ++ f.ma.list) ++ f.ip.list) ++ f.tm.list) ++ f.ti.list.take k = L at hp hr hl HT
                  have HR := Lib.hid hr
                  have HL := Lib.hid hl
                  have HZ := Lib.hid hz
                  have HC := Lib.hid hcell
                  clear hX ht hr hl hz hcell
                  go_wp2_with (refine wpList_append_byte rfl _ _ rfl (n + 1) _ L rfl HR.out HL.out wr3.heap.size 1 X rfl HC.out HZ.out ?_; intro v' w2 g1 g2; have NX := Lib.hid (hp.out.next g1 g2); clear g1 g2)
                  go_roundw
                  case rel => exact ⟨k + 1, by omega, by go_num, by rw [HT.out]; exact NX⟩
                  case measure => simp [intOf]; omega
                · have hz : k = 4 := by omega
                  have hzi : (k : Int) = 4 := by omega
                  rw [show f.ti.list.take k = f.ti.list by rw [hz]; rfl] at hp
                  rw [hzi]
                  have P4 : Hid (PR w wr3 n f _ (((([0, 1, 8, 0, 6, 4, 0, 1] ++ f.ma.list) ++ f.ip.list) ++ f.tm.list) ++ f.ti.list)) := hp
                  clear hp hk hlt hz hzi
                  have hcv := P4.out.row.conv (Nat.zero_lt_succ _)
                  obtain ⟨p, N, c, hv⟩ : ∃ p N c, _ = Value.slice p N c := (let ⟨p, c, h⟩ := P4.out.row.shape; ⟨p, _, c, h⟩)
                  subst hv
                  have HX : Hid ((((([0, 1, 8, 0, 6, 4, 0, 1] ++ f.ma.list) ++ f.ip.list) ++ f.tm.list) ++ f.ti.list) = pkX 1 f) := Lib.hid (by simp [pkX])
                  rw [HX.out] at hcv
                  have BL := Lib.hid P4.out.bl
                  clear P4
                  go_wp2
                  go_ret2
                  exact ⟨rfl, BL.out⟩
set_option maxRecDepth 100000 in
set_option maxHeartbeats 4000000 in
theorem rBytes_yes2 (w : World) (f : Pk) (h1 : f.op = 2) :
    Calls Try.prog 18 #[.agg (pkC f)] w fun e w' => e = .returned (.tuple #[.string ⟨(pkX 2 f).toArray⟩, .int .i64 0]) ∧ Below w.heap.size w w' := by
  have HOP := Lib.hid h1
  clear h1
  go_enter Try.func18, Try.ntmps18
  go_upto_region 1 with fail
  have FA : Hid (PkAt (w.alloc (.cells (pkC f) 27)) w.heap.size f) := Lib.hid (PkAt.of_alloc w _ f rfl)
  have BL : Hid (Below w.heap.size w (w.alloc (.cells (pkC f) 27))) := Lib.hid ((Below.refl _ _).alloc (Nat.le_refl _) _)
  generalize w.alloc _ = W1 at FA BL ⊢
  obtain ⟨n, hn⟩ : ∃ n, n = w.heap.size := ⟨_, rfl⟩
  rw [← hn] at FA ⊢
  have HN := Lib.hid hn
  clear hn
  have c0 := FA.out.op
  rw [HOP.out] at c0
  go_upto_region 4 with fail
  have P0 : Hid (PR w (W1.alloc (.cells #[.int .u8 0, .int .u8 1, .int .u8 8, .int .u8 0, .int .u8 6, .int .u8 4, .int .u8 0, .int .u8 2] 5)) n f (.slice (some ⟨W1.heap.size, 0, none⟩) 8 8) [0, 1, 8, 0, 6, 4, 0, 2]) := Lib.hid (by
    have hlt := lt_of_block FA.out
    refine ⟨FA.out.grow ((Below.refl _ _).alloc (Nat.le_refl _) _), HN.out, BL.out.alloc BL.out.size _, rfl, .inr ⟨W1.heap.size, 8, _, rfl, hlt, heap_alloc_new _ _, Nat.le_refl _, by unfold maxLen; omega, rfl, rfl⟩⟩)
  clear c0 FA BL
  go_wp2
  go_loopw [4, 5] (fun b i wr => ∃ k : Nat, k ≤ 6 ∧ i = .int .i64 k ∧ Hid (PR w wr n f b ([0, 1, 8, 0, 6, 4, 0, 2] ++ f.ma.list.take k))) (fun _ i _ => 6 - (intOf i).toNat)
  case atStart => exact ⟨0, by omega, rfl, by rw [List.take_zero, List.append_nil]; exact P0⟩
  case round =>
    obtain ⟨k, hk, rfl, hp⟩ := hrel
    rename World => wr0
    clear P0
    by_cases hlt : k < 6
    · obtain ⟨X, hX, ht⟩ := list_at f.ma.list k hlt
      have hc := holds_get hp.out.pk.ma k X hX
      obtain ⟨hr, hz⟩ := hp.out.byte X
      have hl : ([0, 1, 8, 0, 6, 4, 0, 2] ++ f.ma.list.take k).length ≤ 100000 := by
        have := List.length_take_le k f.ma.list
        have hq : ([0, 1, 8, 0, 6, 4, 0, 2]).length ≤ 30 := Nat.le_of_ble_eq_true rfl
        rw [List.length_append]
        omega
      have HT : Hid ([0, 1, 8, 0, 6, 4, 0, 2] ++ f.ma.list.take (k + 1) = ([0, 1, 8, 0, 6, 4, 0, 2] ++ f.ma.list.take k) ++ [X]) := Lib.hid (by rw [ht]; exact (List.append_assoc _ _ _).symm)
      have hcell : (wr0.alloc (.cells #[.int .u8 (X.toNat : Int)] 5)).cell? ⟨wr0.heap.size, 0, none⟩ = some (eb X) := by rw [cell_of_row _ _ 0 _ _ _ (heap_alloc_new wr0 _)]; rfl
      generalize [0, 1, 8, 0, 6, 4, 0, 2] ++ f.ma.list.take k = L at hp hr hl HT
      have HR := Lib.hid hr
      have HL := Lib.hid hl
      have HZ := Lib.hid hz
      have HC := Lib.hid hcell
      clear hX ht hr hl hz hcell
      go_wp2_with (refine wpList_append_byte rfl _ _ rfl (n + 1) _ L rfl HR.out HL.out wr0.heap.size 1 X rfl HC.out HZ.out ?_; intro v' w2 g1 g2; have NX := Lib.hid (hp.out.next g1 g2); clear g1 g2)
      go_roundw
      case rel => exact ⟨k + 1, by omega, by go_num, by rw [HT.out]; exact NX⟩
      case measure => simp [intOf]; omega
    · have hz : k = 6 := by omega
      have hzi : (k : Int) = 6 := by omega
      rw [show f.ma.list.take k = f.ma.list by rw [hz]; rfl] at hp
      rw [hzi]
      have P1 : Hid (PR w wr0 n f _ ([0, 1, 8, 0, 6, 4, 0, 2] ++ f.ma.list)) := hp
      clear hp hk hlt hz hzi
      go_wp2
      go_loopw [4, 6] (fun b i wr => ∃ k : Nat, k ≤ 4 ∧ i = .int .i64 k ∧ Hid (PR w wr n f b (([0, 1, 8, 0, 6, 4, 0, 2] ++ f.ma.list) ++ f.ip.list.take k))) (fun _ i _ => 4 - (intOf i).toNat)
      case atStart => exact ⟨0, by omega, rfl, by rw [List.take_zero, List.append_nil]; exact P1⟩
      case round =>
        obtain ⟨k, hk, rfl, hp⟩ := hrel
        rename World => wr1
        clear P1
        by_cases hlt : k < 4
        · obtain ⟨X, hX, ht⟩ := list_at f.ip.list k hlt
          have hc := holds_get hp.out.pk.ip k X hX
          obtain ⟨hr, hz⟩ := hp.out.byte X
          have hl : (([0, 1, 8, 0, 6, 4, 0, 2] ++ f.ma.list) ++ f.ip.list.take k).length ≤ 100000 := by
            have := List.length_take_le k f.ip.list
            have hq : (([0, 1, 8, 0, 6, 4, 0, 2] ++ f.ma.list)).length ≤ 30 := Nat.le_of_ble_eq_true rfl
            rw [List.length_append]
            omega
          have HT : Hid (([0, 1, 8, 0, 6, 4, 0, 2] ++ f.ma.list) ++ f.ip.list.take (k + 1) = (([0, 1, 8, 0, 6, 4, 0, 2] ++ f.ma.list) ++ f.ip.list.take k) ++ [X]) := Lib.hid (by rw [ht]; exact (List.append_assoc _ _ _).symm)
          have hcell : (wr1.alloc (.cells #[.int .u8 (X.toNat : Int)] 5)).cell? ⟨wr1.heap.size, 0, none⟩ = some (eb X) := by rw [cell_of_row _ _ 0 _ _ _ (heap_alloc_new wr1 _)]; rfl
          generalize ([0, 1, 8, 0, 6, 4, 0, 2] ++ f.ma.list) ++ f.ip.list.take k = L at hp hr hl HT
          have HR := Lib.hid hr
          have HL := Lib.hid hl
          have HZ := Lib.hid hz
          have HC := Lib.hid hcell
          clear hX ht hr hl hz hcell
          go_wp2_with (refine wpList_append_byte rfl _ _ rfl (n + 1) _ L rfl HR.out HL.out wr1.heap.size 1 X rfl HC.out HZ.out ?_; intro v' w2 g1 g2; have NX := Lib.hid (hp.out.next g1 g2); clear g1 g2)
          go_roundw
          case rel => exact ⟨k + 1, by omega, by go_num, by rw [HT.out]; exact NX⟩
          case measure => simp [intOf]; omega
        · have hz : k = 4 := by omega
          have hzi : (k : Int) = 4 := by omega
          rw [show f.ip.list.take k = f.ip.list by rw [hz]; rfl] at hp
          rw [hzi]
          have P2 : Hid (PR w wr1 n f _ (([0, 1, 8, 0, 6, 4, 0, 2] ++ f.ma.list) ++ f.ip.list)) := hp
          clear hp hk hlt hz hzi
          go_wp2
          go_loopw [4, 7] (fun b i wr => ∃ k : Nat, k ≤ 6 ∧ i = .int .i64 k ∧ Hid (PR w wr n f b ((([0, 1, 8, 0, 6, 4, 0, 2] ++ f.ma.list) ++ f.ip.list) ++ f.tm.list.take k))) (fun _ i _ => 6 - (intOf i).toNat)
          case atStart => exact ⟨0, by omega, rfl, by rw [List.take_zero, List.append_nil]; exact P2⟩
          case round =>
            obtain ⟨k, hk, rfl, hp⟩ := hrel
            rename World => wr2
            clear P2
            by_cases hlt : k < 6
            · obtain ⟨X, hX, ht⟩ := list_at f.tm.list k hlt
              have hc := holds_get hp.out.pk.tm k X hX
              obtain ⟨hr, hz⟩ := hp.out.byte X
              have hl : ((([0, 1, 8, 0, 6, 4, 0, 2] ++ f.ma.list) ++ f.ip.list) ++ f.tm.list.take k).length ≤ 100000 := by
                have := List.length_take_le k f.tm.list
                have hq : ((([0, 1, 8, 0, 6, 4, 0, 2] ++ f.ma.list) ++ f.ip.list)).length ≤ 30 := Nat.le_of_ble_eq_true rfl
                rw [List.length_append]
                omega
              have HT : Hid ((([0, 1, 8, 0, 6, 4, 0, 2] ++ f.ma.list) ++ f.ip.list) ++ f.tm.list.take (k + 1) = ((([0, 1, 8, 0, 6, 4, 0, 2] ++ f.ma.list) ++ f.ip.list) ++ f.tm.list.take k) ++ [X]) := Lib.hid (by rw [ht]; exact (List.append_assoc _ _ _).symm)
              have hcell : (wr2.alloc (.cells #[.int .u8 (X.toNat : Int)] 5)).cell? ⟨wr2.heap.size, 0, none⟩ = some (eb X) := by rw [cell_of_row _ _ 0 _ _ _ (heap_alloc_new wr2 _)]; rfl
              generalize (([0, 1, 8, 0, 6, 4, 0, 2] ++ f.ma.list) ++ f.ip.list) ++ f.tm.list.take k = L at hp hr hl HT
              have HR := Lib.hid hr
              have HL := Lib.hid hl
              have HZ := Lib.hid hz
              have HC := Lib.hid hcell
              clear hX ht hr hl hz hcell
              go_wp2_with (refine wpList_append_byte rfl _ _ rfl (n + 1) _ L rfl HR.out HL.out wr2.heap.size 1 X rfl HC.out HZ.out ?_; intro v' w2 g1 g2; have NX := Lib.hid (hp.out.next g1 g2); clear g1 g2)
              go_roundw
              case rel => exact ⟨k + 1, by omega, by go_num, by rw [HT.out]; exact NX⟩
              case measure => simp [intOf]; omega
            · have hz : k = 6 := by omega
              have hzi : (k : Int) = 6 := by omega
              rw [show f.tm.list.take k = f.tm.list by rw [hz]; rfl] at hp
              rw [hzi]
              have P3 : Hid (PR w wr2 n f _ ((([0, 1, 8, 0, 6, 4, 0, 2] ++ f.ma.list) ++ f.ip.list) ++ f.tm.list)) := hp
              clear hp hk hlt hz hzi
              go_wp2
              go_loopw [4, 8] (fun b i wr => ∃ k : Nat, k ≤ 4 ∧ i = .int .i64 k ∧ Hid (PR w wr n f b (((([0, 1, 8, 0, 6, 4, 0, 2] ++ f.ma.list) ++ f.ip.list) ++ f.tm.list) ++ f.ti.list.take k))) (fun _ i _ => 4 - (intOf i).toNat)
              case atStart => exact ⟨0, by omega, rfl, by rw [List.take_zero, List.append_nil]; exact P3⟩
              case round =>
                obtain ⟨k, hk, rfl, hp⟩ := hrel
                rename World => wr3
                clear P3
                by_cases hlt : k < 4
                · obtain ⟨X, hX, ht⟩ := list_at f.ti.list k hlt
                  have hc := holds_get hp.out.pk.ti k X hX
                  obtain ⟨hr, hz⟩ := hp.out.byte X
                  have hl : (((([0, 1, 8, 0, 6, 4, 0, 2] ++ f.ma.list) ++ f.ip.list) ++ f.tm.list) ++ f.ti.list.take k).length ≤ 100000 := by
                    have := List.length_take_le k f.ti.list
                    have hq : (((([0, 1, 8, 0, 6, 4, 0, 2] ++ f.ma.list) ++ f.ip.list) ++ f.tm.list)).length ≤ 30 := Nat.le_of_ble_eq_true rfl
                    rw [List.length_append]
                    omega
                  have HT : Hid (((([0, 1, 8, 0, 6, 4, 0, 2] ++ f.ma.list) ++ f.ip.list) ++ f.tm.list) ++ f.ti.list.take (k + 1) = (((([0, 1, 8, 0, 6, 4, 0, 2] ++ f.ma.list) ++ f.ip.list) ++ f.tm.list) ++ f.ti.list.take k) ++ [X]) := Lib.hid (by rw [ht]; exact (List.append_assoc _ _ _).symm)
                  have hcell : (wr3.alloc (.cells #[.int .u8 (X.toNat : Int)] 5)).cell? ⟨wr3.heap.size, 0, none⟩ = some (eb X) := by rw [cell_of_row _ _ 0 _ _ _ (heap_alloc_new wr3 _)]; rfl
                  generalize ((([0, 1, 8, 0, 6, 4, 0, 2] ++ f.ma.list) ++ f.ip.list) ++ f.tm.list) ++ f.ti.list.take k = L at hp hr hl HT
                  have HR := Lib.hid hr
                  have HL := Lib.hid hl
                  have HZ := Lib.hid hz
                  have HC := Lib.hid hcell
                  clear hX ht hr hl hz hcell
                  go_wp2_with (refine wpList_append_byte rfl _ _ rfl (n + 1) _ L rfl HR.out HL.out wr3.heap.size 1 X rfl HC.out HZ.out ?_; intro v' w2 g1 g2; have NX := Lib.hid (hp.out.next g1 g2); clear g1 g2)
                  go_roundw
                  case rel => exact ⟨k + 1, by omega, by go_num, by rw [HT.out]; exact NX⟩
                  case measure => simp [intOf]; omega
                · have hz : k = 4 := by omega
                  have hzi : (k : Int) = 4 := by omega
                  rw [show f.ti.list.take k = f.ti.list by rw [hz]; rfl] at hp
                  rw [hzi]
                  have P4 : Hid (PR w wr3 n f _ (((([0, 1, 8, 0, 6, 4, 0, 2] ++ f.ma.list) ++ f.ip.list) ++ f.tm.list) ++ f.ti.list)) := hp
                  clear hp hk hlt hz hzi
                  have hcv := P4.out.row.conv (Nat.zero_lt_succ _)
                  obtain ⟨p, N, c, hv⟩ : ∃ p N c, _ = Value.slice p N c := (let ⟨p, c, h⟩ := P4.out.row.shape; ⟨p, _, c, h⟩)
                  subst hv
                  have HX : Hid ((((([0, 1, 8, 0, 6, 4, 0, 2] ++ f.ma.list) ++ f.ip.list) ++ f.tm.list) ++ f.ti.list) = pkX 2 f) := Lib.hid (by simp [pkX])
                  rw [HX.out] at hcv
                  have BL := Lib.hid P4.out.bl
                  clear P4
                  go_wp2
                  go_ret2
                  exact ⟨rfl, BL.out⟩

theorem rBytes_any (w : World) (f : Pk) :
    Calls Try.prog 18 #[.agg (pkC f)] w fun e w' => e = .returned (.tuple #[.string (pkS f), .int .i64 (pkE f)]) ∧ Below w.heap.size w w' := by
  by_cases h : f.op = 1 ∨ f.op = 2
  · obtain ⟨x, h1, h2, h3⟩ := pk_bytes f h
    have hs : pkS f = ⟨(pkX x f).toArray⟩ := by
      apply ByteArray.ext
      apply Array.toList_inj.1
      rw [h3]
    rw [hs, (pkE_zero f).2 h]
    rcases h2 with rfl | rfl
    · exact rBytes_yes1 w f h1
    · exact rBytes_yes2 w f h1
  · have e1 : pkE f = 10 := if_neg h
    rw [pkS, e1, if_neg (by decide)]
    exact rBytes_kind w f h

end Go.Proofs.Ytolegdjdppaeoaa
