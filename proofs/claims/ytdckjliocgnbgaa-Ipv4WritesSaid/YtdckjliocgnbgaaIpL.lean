/-
  Layer 8: the document's own bytes of a packet. Conditions: a packet's numbers are numbers of their kind, its data has at most 2^47 bytes.
-/
import Derived.Test.YtdckjliocgnbgaaIpG
namespace Go.Proofs.Ytdckjliocgnbgaa
open Go.RowKit Go.Sort
set_option linter.unusedVariables false

theorem holds_put {w : World} {n : Nat} {cs : Array Value} {t : TypeId} {fz : Nat × Nat} {l : List UInt8} (h : w.heap[n]? = some (.cells cs t fz)) (hh : Holds eb w n 0 l.toArray) (k : Nat) (hk : k < l.length) (y : UInt8) :
    Holds eb (w.setCell ⟨n, k, none⟩ (eb y)) n 0 (l.set k y).toArray ∧ (w.setCell ⟨n, k, none⟩ (eb y)).heap[n]? = some (.cells (cs.setIfInBounds k (eb y)) t fz) := by
  have hc : ∀ j, (hj : j < l.length) → cs[j]? = some (eb l[j]) := fun j hj => by
    have := (hh j (by simpa using hj)).1
    rw [Nat.zero_add, cell_of_row w n j cs t fz h] at this
    rw [this]
    simp [getElem!_pos l.toArray j (by simpa using hj)]
  have hks : k < cs.size := (Array.getElem?_eq_some_iff.1 (hc k hk)).1
  have h2 : (w.setCell ⟨n, k, none⟩ (eb y)).heap[n]? = some (.cells (cs.setIfInBounds k (eb y)) t fz) := by simp [World.setCell, Array.getElem?_modify, h]
  refine ⟨?_, h2⟩
  intro j hj
  have hj' : j < l.length := by simpa using hj
  have hf := (hh j (by simpa using hj')).2
  refine ⟨?_, by simpa [World.frozen?, h2, h] using hf⟩
  rw [Nat.zero_add, cell_of_row _ n j _ t fz h2, Array.getElem?_setIfInBounds, getElem!_pos _ j hj]
  by_cases e : k = j
  · subst e
    rw [if_pos rfl, if_pos hks]
    simp
  · rw [if_neg e, hc j hj']
    simp [e]
theorem ByRow.holds {w : World} {base : Nat} {v : Value} {l : List UInt8} (h : ByRow w base v l) (h0 : 0 < l.length) : ∃ b cap cur, v = .slice (some ⟨b, 0, none⟩) l.length cap ∧ base ≤ b ∧ w.heap[b]? = some (.cells cur 5 (0, 0)) ∧ Holds eb w b 0 l.toArray := by
  rcases h.2 with ⟨_, h1⟩ | ⟨b, cap, cur, rfl, hbs, hb, h1, h2, h3, h4⟩
  · omega
  · refine ⟨b, cap, cur, rfl, hbs, hb, ?_⟩
    intro j hj
    have hj' : j < l.length := by simpa using hj
    refine ⟨?_, by simp [World.frozen?, hb]⟩
    rw [Nat.zero_add, cell_of_row w b j cur _ (0, 0) hb]
    have h5 : (cur.toList.take (l.length * 1))[j]? = (l.map eb)[j]? := by rw [h4]
    rw [List.getElem?_take, if_pos (by omega)] at h5
    rw [← Array.getElem?_toList, h5, List.getElem?_map, List.getElem?_eq_getElem hj']
    simp [getElem!_pos l.toArray j (by simpa using hj')]
theorem u8_wrap (n : Nat) : IntKind.u8.wrap (n : Int) = ((UInt8.ofNat n).toNat : Int) := by
  rw [UInt8.toNat_ofNat']
  unfold IntKind.wrap
  simp [IntKind.bits, IntKind.signed]

/-- A packet and a row beside it. -/
structure PRd (w W : World) (n : Nat) (f : Pd) (v : Value) (l : List UInt8) : Prop where
  pk : PdAt W n f
  nn : n = w.heap.size
  bl : Below w.heap.size w W
  row : ByRow W (n + 1) v l
theorem PRd.byte {w W : World} {n : Nat} {f : Pd} {v : Value} {l : List UInt8} (h : PRd w W n f v l) (X : UInt8) : ByRow (W.alloc (.cells #[.int .u8 (X.toNat : Int)] 5)) (n + 1) v l ∧ n + 1 ≤ (W.alloc (.cells #[.int .u8 (X.toNat : Int)] 5)).heap.size := by
  refine ⟨h.row.kept (row := none) (World.grownBy_alloc _ _ _) (by cases v.ownBlock <;> simp), ?_⟩
  have := lt_of_block h.pk
  simp
  omega
theorem PRd.next {w W W' : World} {n : Nat} {f : Pd} {v v' : Value} {l l' : List UInt8} {X : UInt8} (h : PRd w W n f v l) (h1 : ByRow W' (n + 1) v' l') (h2 : (W.alloc (.cells #[.int .u8 (X.toNat : Int)] 5)).grownBy W' v.ownBlock) : PRd w W' n f v' l' := by
  have hlt := lt_of_block h.pk
  have hs : W.heap.size ≤ W'.heap.size := by have := h2.size; simp at this; omega
  have hold : ∀ k, k ≤ n → W'.heap[k]? = W.heap[k]? := fun k hk => by
    rw [h2.block k (by simp; omega) (fun e => by have := h.row.block e.symm; omega)]
    exact (World.grownBy_alloc W (.cells #[.int .u8 (X.toNat : Int)] 5) none).block k (by omega) (by simp)
  have a2 := World.grownBy_alloc W (.cells #[.int .u8 (X.toNat : Int)] 5) none
  refine ⟨(hold n (Nat.le_refl _)).trans h.pk, h.nn, h.bl.trans ⟨h2.os.trans a2.os, h2.tape.trans a2.tape, h2.output.trans a2.output, hs, fun k hk => hold k (by have := h.nn; omega)⟩, h1⟩

set_option maxRecDepth 100000 in
set_option maxHeartbeats 1000000 in
theorem rBytes8_arg (w : World) (f : Pd) (hz : f.da.size ≤ 140737488355328) (h : mayB f = false) :
    Calls Try.prog 20 #[.agg (pdC f)] w fun e w' => e = .returned (.tuple #[.string ⟨#[]⟩, .int .i64 1]) ∧ Below w.heap.size w w' := by
  have hk := Lib.hid (fun w => rMay_any w f hz)
  rw [h] at hk
  go_enter Try.func20, Try.ntmps20
  go_upto_region 1 with fail
  have FA : Hid (PdAt (w.alloc (.cells (pdC f) 29)) w.heap.size f) := Lib.hid (pd_new w _ f rfl)
  have BL : Hid (Below w.heap.size w (w.alloc (.cells (pdC f) 29))) := Lib.hid ((Below.refl _ _).alloc (Nat.le_refl _) _)
  obtain ⟨n, hn⟩ : ∃ n, n = w.heap.size := ⟨_, rfl⟩
  have HN := Lib.hid hn
  generalize w.alloc _ = W1 at FA BL ⊢
  rw [← hn] at FA ⊢
  clear hn
  have hp := FA.out
  go_wp2_with (refine pd_ld (by rfl) _ rfl n rfl _ hp ?_)
  refine (hk.out _).mono ?_
  rintro e w2 ⟨rfl, b2⟩
  have B2 := bstep BL b2
  have F2 := Lib.hid (FA.out.grow b2)
  clear b2 hp BL FA
  go_wp2_with fail
  go_ret2
  exact ⟨rfl, B2.out⟩
set_option maxRecDepth 100000 in
set_option maxHeartbeats 1000000 in
theorem rBytes8_long (w : World) (f : Pd) (hz : f.da.size ≤ 140737488355328) (h : mayB f = true) (hl : 566 < f.da.size) :
    Calls Try.prog 20 #[.agg (pdC f)] w fun e w' => e = .returned (.tuple #[.string ⟨#[]⟩, .int .i64 3]) ∧ Below w.heap.size w w' := by
  have hk := Lib.hid (fun w => rMay_any w f hz)
  rw [h] at hk
  go_enter Try.func20, Try.ntmps20
  go_upto_region 1 with fail
  have FA : Hid (PdAt (w.alloc (.cells (pdC f) 29)) w.heap.size f) := Lib.hid (pd_new w _ f rfl)
  have BL : Hid (Below w.heap.size w (w.alloc (.cells (pdC f) 29))) := Lib.hid ((Below.refl _ _).alloc (Nat.le_refl _) _)
  obtain ⟨n, hn⟩ : ∃ n, n = w.heap.size := ⟨_, rfl⟩
  have HN := Lib.hid hn
  generalize w.alloc _ = W1 at FA BL ⊢
  rw [← hn] at FA ⊢
  clear hn
  have hp := FA.out
  go_wp2_with (refine pd_ld (by rfl) _ rfl n rfl _ hp ?_)
  refine (hk.out _).mono ?_
  rintro e w2 ⟨rfl, b2⟩
  have B2 := bstep BL b2
  have F2 := Lib.hid (FA.out.grow b2)
  clear b2 hp BL FA
  have c13 := F2.out.da
  go_wp2_with fail
  go_ret2
  exact ⟨rfl, B2.out⟩
theorem lt_of_row {w : World} {b : Nat} {o : Obj} (h : w.heap[b]? = some o) : b < w.heap.size := (Array.getElem?_eq_some_iff.1 h).1
theorem holds_below {w w' : World} {b : Nat} {l : Array UInt8} (h : Below w.heap.size w w') (hb : b < w.heap.size) (hh : Holds eb w b 0 l) : Holds eb w' b 0 l := by
  intro j hj
  obtain ⟨h1, h2⟩ := hh j hj
  refine ⟨(h.cell (p := ⟨b, 0 + j, none⟩) hb).trans h1, ?_⟩
  rw [← h2]
  simp only [World.frozen?, h.block b hb]
set_option maxRecDepth 100000 in
set_option maxHeartbeats 8000000 in
theorem rBytes8_yes (w : World) (f : Pd) (h : mayB f = true) (hz : f.da.size ≤ 566) (b : Bool) (hb : f.mo = b) :
    Calls Try.prog 20 #[.agg (pdC f)] w fun e w' => e = .returned (.tuple #[.string ⟨(hdL f ++ f.da.data.toList).toArray⟩, .int .i64 0]) ∧ Below w.heap.size w w' := by
  have hk := Lib.hid (fun w => rMay_any w f (by omega))
  rw [h] at hk
  obtain ⟨i0, i1, r0, r1, t0, t1, p8, p0, p1, ps, -⟩ := mayB_all h
  obtain ⟨P, hP⟩ : ∃ P, P = plN f := ⟨_, rfl⟩
  have hP2 : P < 16384 := by rw [hP]; exact plN_lt h
  obtain ⟨D, hD⟩ : ∃ D, D = f.ps.toNat / 8 := ⟨_, rfl⟩
  have hq : f.ps / 8 = (D : Int) := by omega
  have hp1 : f.mo = false → (D : Int) = (P : Int) := by intro hm; rw [hP, plN, hm, ← hD]; rfl
  have hp2 : f.mo = true → (D : Int) + 8192 = (P : Int) := by intro hm; rw [hP, plN, hm, ← hD, if_pos rfl]; omega
  have wD : IntKind.i64.wrap ((D : Int) + 8192) = (D : Int) + 8192 := IntWalk.i64_in _ (by omega)
  have wA : IntKind.i64.wrap (20 + (f.da.size : Int)) = 20 + (f.da.size : Int) := IntWalk.i64_in _ (by omega)
  obtain ⟨U1, u1⟩ : ∃ U, U = UInt8.ofNat ((20 + f.da.size) / 256) := ⟨_, rfl⟩
  obtain ⟨U2, u2⟩ : ∃ U, U = UInt8.ofNat ((20 + f.da.size) % 256) := ⟨_, rfl⟩
  obtain ⟨U3, u3⟩ : ∃ U, U = UInt8.ofNat (f.id.toNat / 256) := ⟨_, rfl⟩
  obtain ⟨U4, u4⟩ : ∃ U, U = UInt8.ofNat (f.id.toNat % 256) := ⟨_, rfl⟩
  obtain ⟨U5, u5⟩ : ∃ U, U = UInt8.ofNat (P / 256) := ⟨_, rfl⟩
  obtain ⟨U6, u6⟩ : ∃ U, U = UInt8.ofNat (P % 256) := ⟨_, rfl⟩
  obtain ⟨U7, u7⟩ : ∃ U, U = UInt8.ofNat f.tl.toNat := ⟨_, rfl⟩
  obtain ⟨U8, u8⟩ : ∃ U, U = UInt8.ofNat f.pr.toNat := ⟨_, rfl⟩
  have a1 : IntKind.u8.wrap ((20 + (f.da.size : Int)) / 256) = (U1.toNat : Int) := by rw [u1, ← u8_wrap]; congr 1
  have a2 : IntKind.u8.wrap ((20 + (f.da.size : Int)) % 256) = (U2.toNat : Int) := by rw [u2, ← u8_wrap]; congr 1
  have a3 : IntKind.u8.wrap (f.id / 256) = (U3.toNat : Int) := by rw [u3, ← u8_wrap]; congr 1; omega
  have a4 : IntKind.u8.wrap (f.id % 256) = (U4.toNat : Int) := by rw [u4, ← u8_wrap]; congr 1; omega
  have a5 : IntKind.u8.wrap ((P : Int) / 256) = (U5.toNat : Int) := by rw [u5, ← u8_wrap]; congr 1
  have a6 : IntKind.u8.wrap ((P : Int) % 256) = (U6.toNat : Int) := by rw [u6, ← u8_wrap]; congr 1
  have a7 : IntKind.u8.wrap f.tl = (U7.toNat : Int) := by rw [u7, ← u8_wrap]; congr 1; omega
  have a8 : IntKind.u8.wrap f.pr = (U8.toNat : Int) := by rw [u8, ← u8_wrap]; congr 1; omega
  have hA : ahL f ++ two 0 = [69, 0, U1, U2, U3, U4, U5, U6, U7, U8, 0, 0] := by rw [u1, u2, u3, u4, u5, u6, u7, u8, hP]; rfl
  obtain ⟨K, hK⟩ : ∃ K, sumT (ahL f ++ two 0 ++ bhL f) = K := ⟨_, rfl⟩
  have hK2 : K ≤ 65535 := by rw [← hK]; exact sumT_le _
  obtain ⟨V1, v1⟩ : ∃ U, U = UInt8.ofNat (K / 256) := ⟨_, rfl⟩
  obtain ⟨V2, v2⟩ : ∃ U, U = UInt8.ofNat (K % 256) := ⟨_, rfl⟩
  have y1 : IntKind.u8.wrap ((K : Int) / 256) = (V1.toNat : Int) := by rw [v1, ← u8_wrap]; congr 1
  have y2 : IntKind.u8.wrap ((K : Int) % 256) = (V2.toNat : Int) := by rw [v2, ← u8_wrap]; congr 1
  obtain ⟨HD, hHD⟩ : ∃ L, L = hdL f := ⟨_, rfl⟩
  have hLL : ([69, 0, U1, U2, U3, U4, U5, U6, U7, U8, 0, 0] ++ f.sr.list) ++ f.ds.list = ahL f ++ two 0 ++ bhL f := by rw [hA, bhL, List.append_assoc]
  have HLL : Hid ((([69, 0, U1, U2, U3, U4, U5, U6, U7, U8, 0, 0] ++ f.sr.list) ++ f.ds.list).length = 20 ∧ HD = (((([69, 0, U1, U2, U3, U4, U5, U6, U7, U8, 0, 0] ++ f.sr.list) ++ f.ds.list).set 10 V1).set 11 V2)) := Lib.hid ⟨rfl, by rw [hLL, hHD, hdL, hK, v1, v2]; rfl⟩
  have kS : Hid (∀ w, Calls Try.prog 21 #[.string ⟨(([69, 0, U1, U2, U3, U4, U5, U6, U7, U8, 0, 0] ++ f.sr.list) ++ f.ds.list).toArray⟩] w fun e w' => e = .returned (.int .i64 K) ∧ Below w.heap.size w w') := Lib.hid (fun w => by
    have := rSum_any w ⟨(([69, 0, U1, U2, U3, U4, U5, U6, U7, U8, 0, 0] ++ f.sr.list) ++ f.ds.list).toArray⟩ (by show 20 ≤ 100000; decide)
    rw [show (⟨(([69, 0, U1, U2, U3, U4, U5, U6, U7, U8, 0, 0] ++ f.sr.list) ++ f.ds.list).toArray⟩ : ByteArray).data.toList = ahL f ++ two 0 ++ bhL f from hLL, hK] at this
    exact this)
  obtain ⟨Z, hZ⟩ : ∃ Z, Z = hdL f ++ f.da.data.toList := ⟨_, rfl⟩
  have hZl : Z.length ≤ 70000 := by rw [hZ, List.length_append, hdL_length, size_list]; omega
  have HHD := Lib.hid hHD
  have C1 := Lib.hid (fun w => data_lst w HD Z f.da (by rw [hZ, hHD]) hZl)
  rw [← hZ]
  clear hZ hZl h hLL hHD hK hA u1 u2 u3 u4 u5 u6 u7 u8 v1 v2 hD hP
  go_enter Try.func20, Try.ntmps20
  go_upto_region 1 with fail
  have FA : Hid (PdAt (w.alloc (.cells (pdC f) 29)) w.heap.size f) := Lib.hid (pd_new w _ f rfl)
  have BL : Hid (Below w.heap.size w (w.alloc (.cells (pdC f) 29))) := Lib.hid ((Below.refl _ _).alloc (Nat.le_refl _) _)
  obtain ⟨n, hn⟩ : ∃ n, n = w.heap.size := ⟨_, rfl⟩
  have HN := Lib.hid hn
  generalize w.alloc _ = W1 at FA BL ⊢
  rw [← hn] at FA ⊢
  clear hn
  have hp := FA.out
  go_wp2_with (refine pd_ld (by rfl) _ rfl n rfl _ hp ?_)
  refine (hk.out _).mono ?_
  rintro e w2 ⟨rfl, b2⟩
  have B2 := bstep BL b2
  have F2 := Lib.hid (FA.out.grow b2)
  clear b2 hp BL FA
  obtain ⟨c0, -, -, c9, c10, c11, c12, c13⟩ := F2.out.all
  rw [hb] at c12
  have HP : Hid (b = false → (D : Int) = (P : Int)) := Lib.hid (by rw [← hb]; exact hp1)
  have HP2 : Hid (b = true → (D : Int) + 8192 = (P : Int)) := Lib.hid (by rw [← hb]; exact hp2)
  clear hp1 hp2 hb
  cases b
  all_goals
    go_upto_region 9 with fail
    try rw [hq]
    first | rw [HP.out (by first | rfl | trivial)] | rw [HP2.out (by first | rfl | trivial)]
    clear c11 c12 HP HP2 hq wD
    go_upto_region 10 with fail
    have P0 : Hid (PRd w (w2.alloc (.cells #[.int .u8 69, .int .u8 0, .int .u8 (U1.toNat : Int), .int .u8 (U2.toNat : Int), .int .u8 (U3.toNat : Int), .int .u8 (U4.toNat : Int), .int .u8 (U5.toNat : Int), .int .u8 (U6.toNat : Int), .int .u8 (U7.toNat : Int), .int .u8 (U8.toNat : Int), .int .u8 0, .int .u8 0] 5)) n f (.slice (some ⟨w2.heap.size, 0, none⟩) 12 12) [69, 0, U1, U2, U3, U4, U5, U6, U7, U8, 0, 0]) := Lib.hid (by
      have hlt := lt_of_block F2.out
      refine ⟨F2.out.grow ((Below.refl _ _).alloc (Nat.le_refl _) _), HN.out, B2.out.alloc B2.out.size _, rfl, .inr ⟨w2.heap.size, 12, _, rfl, hlt, heap_alloc_new _ _, Nat.le_refl _, by unfold maxLen; omega, rfl, rfl⟩⟩)
    clear c0 c9 c10 c13 F2 B2 a1 a2 a3 a4 a5 a6 a7 a8
    go_wp2
    go_loopw [6, 7] (fun b i wr => ∃ k : Nat, k ≤ 4 ∧ i = .int .i64 k ∧ Hid (PRd w wr n f b ([69, 0, U1, U2, U3, U4, U5, U6, U7, U8, 0, 0] ++ f.sr.list.take k))) (fun _ i _ => 4 - (intOf i).toNat)
    case atStart => exact ⟨0, by omega, rfl, by rw [List.take_zero, List.append_nil]; exact P0⟩
    case round =>
      obtain ⟨k, hk, rfl, hp⟩ := hrel
      rename World => wr0
      clear P0
      by_cases hlt : k < 4
      · obtain ⟨X, hX, ht⟩ := list_at f.sr.list k hlt
        have hc := holds_get hp.out.pk.sr k X hX
        obtain ⟨hr, hz⟩ := hp.out.byte X
        have hl : ([69, 0, U1, U2, U3, U4, U5, U6, U7, U8, 0, 0] ++ f.sr.list.take k).length ≤ 100000 := by
          have := List.length_take_le k f.sr.list
          have hq : ([69, 0, U1, U2, U3, U4, U5, U6, U7, U8, 0, 0]).length ≤ 30 := Nat.le_of_ble_eq_true rfl
          rw [List.length_append]
          omega
        have HT : Hid ([69, 0, U1, U2, U3, U4, U5, U6, U7, U8, 0, 0] ++ f.sr.list.take (k + 1) = ([69, 0, U1, U2, U3, U4, U5, U6, U7, U8, 0, 0] ++ f.sr.list.take k) ++ [X]) := Lib.hid (by rw [ht]; exact (List.append_assoc _ _ _).symm)
        have hcell : (wr0.alloc (.cells #[.int .u8 (X.toNat : Int)] 5)).cell? ⟨wr0.heap.size, 0, none⟩ = some (eb X) := by rw [cell_of_row _ _ 0 _ _ _ (heap_alloc_new wr0 _)]; rfl
        generalize [69, 0, U1, U2, U3, U4, U5, U6, U7, U8, 0, 0] ++ f.sr.list.take k = L at hp hr hl HT
        have HR := Lib.hid hr
        have HL := Lib.hid hl
        have HZ := Lib.hid hz
        have HC := Lib.hid hcell
        clear hX ht hr hl hz hcell
        go_wp2_with (refine wpList_append_byte rfl _ _ rfl (n + 1) _ L rfl HR.out HL.out wr0.heap.size 1 X rfl HC.out HZ.out ?_; intro v' w2 g1 g2; have NX := Lib.hid (hp.out.next g1 g2); clear g1 g2)
        go_roundw
        case rel => exact ⟨k + 1, by omega, by go_num, by rw [HT.out]; exact NX⟩
        case measure => simp [intOf]; omega
      · have hz : k = 4 := by omega
        have hzi : (k : Int) = 4 := by omega
        rw [show f.sr.list.take k = f.sr.list by rw [hz]; rfl] at hp
        rw [hzi]
        have P1 : Hid (PRd w wr0 n f _ ([69, 0, U1, U2, U3, U4, U5, U6, U7, U8, 0, 0] ++ f.sr.list)) := hp
        clear hp hk hlt hz hzi
        go_wp2
        go_loopw [6, 8] (fun b i wr => ∃ k : Nat, k ≤ 4 ∧ i = .int .i64 k ∧ Hid (PRd w wr n f b (([69, 0, U1, U2, U3, U4, U5, U6, U7, U8, 0, 0] ++ f.sr.list) ++ f.ds.list.take k))) (fun _ i _ => 4 - (intOf i).toNat)
        case atStart => exact ⟨0, by omega, rfl, by rw [List.take_zero, List.append_nil]; exact P1⟩
        case round =>
          obtain ⟨k, hk, rfl, hp⟩ := hrel
          rename World => wr1
          clear P1
          by_cases hlt : k < 4
          · obtain ⟨X, hX, ht⟩ := list_at f.ds.list k hlt
            have hc := holds_get hp.out.pk.ds k X hX
            obtain ⟨hr, hz⟩ := hp.out.byte X
            have hl : (([69, 0, U1, U2, U3, U4, U5, U6, U7, U8, 0, 0] ++ f.sr.list) ++ f.ds.list.take k).length ≤ 100000 := by
              have := List.length_take_le k f.ds.list
              have hq : (([69, 0, U1, U2, U3, U4, U5, U6, U7, U8, 0, 0] ++ f.sr.list)).length ≤ 30 := Nat.le_of_ble_eq_true rfl
              rw [List.length_append]
              omega
            have HT : Hid (([69, 0, U1, U2, U3, U4, U5, U6, U7, U8, 0, 0] ++ f.sr.list) ++ f.ds.list.take (k + 1) = (([69, 0, U1, U2, U3, U4, U5, U6, U7, U8, 0, 0] ++ f.sr.list) ++ f.ds.list.take k) ++ [X]) := Lib.hid (by rw [ht]; exact (List.append_assoc _ _ _).symm)
            have hcell : (wr1.alloc (.cells #[.int .u8 (X.toNat : Int)] 5)).cell? ⟨wr1.heap.size, 0, none⟩ = some (eb X) := by rw [cell_of_row _ _ 0 _ _ _ (heap_alloc_new wr1 _)]; rfl
            generalize ([69, 0, U1, U2, U3, U4, U5, U6, U7, U8, 0, 0] ++ f.sr.list) ++ f.ds.list.take k = L at hp hr hl HT
            have HR := Lib.hid hr
            have HL := Lib.hid hl
            have HZ := Lib.hid hz
            have HC := Lib.hid hcell
            clear hX ht hr hl hz hcell
            go_wp2_with (refine wpList_append_byte rfl _ _ rfl (n + 1) _ L rfl HR.out HL.out wr1.heap.size 1 X rfl HC.out HZ.out ?_; intro v' w2 g1 g2; have NX := Lib.hid (hp.out.next g1 g2); clear g1 g2)
            go_roundw
            case rel => exact ⟨k + 1, by omega, by go_num, by rw [HT.out]; exact NX⟩
            case measure => simp [intOf]; omega
          · have hz : k = 4 := by omega
            have hzi : (k : Int) = 4 := by omega
            rw [show f.ds.list.take k = f.ds.list by rw [hz]; rfl] at hp
            rw [hzi]
            have P2 : Hid (PRd w wr1 n f _ (([69, 0, U1, U2, U3, U4, U5, U6, U7, U8, 0, 0] ++ f.sr.list) ++ f.ds.list)) := hp
            clear hp hk hlt hz hzi
            generalize ([69, 0, U1, U2, U3, U4, U5, U6, U7, U8, 0, 0] ++ f.sr.list) ++ f.ds.list = LL at HLL P2 kS
            obtain ⟨bb, cap, cur, rfl, hbb, hcur, hH⟩ := P2.out.row.holds (by rw [HLL.out.1]; decide)
            have hcv := P2.out.row.conv (by rw [HLL.out.1]; decide)
            rw [HLL.out.1] at hcv ⊢
            have c13 := P2.out.pk.da
            have hbz : bb < wr1.heap.size := lt_of_row hcur
            have HH := Lib.hid hH
            have HCUR := Lib.hid hcur
            have B3 := Lib.hid P2.out.bl
            have HNB : Hid (n + 1 ≤ bb) := Lib.hid hbb
            have PK := Lib.hid P2.out.pk
            clear hbb hH hcur P2
            go_wp2_with fail
            refine (kS.out _).mono ?_
            rintro e w4 ⟨rfl, b4⟩
            have B4 := bstep B3 b4
            have hcur4 := (b4.block bb hbz).trans HCUR.out
            have hH4 := holds_below b4 hbz HH.out
            have P4 := PK.out.grow b4
            have hp5 := holds_put hcur4 hH4 10 (by rw [HLL.out.1]; decide) V1
            have hp6 := holds_put hp5.2 hp5.1 11 (by rw [List.length_set, HLL.out.1]; decide) V2
            have hH6 : Holds eb ((w4.setCell ⟨bb, 10, none⟩ (.int .u8 (V1.toNat : Int))).setCell ⟨bb, 11, none⟩ (.int .u8 (V2.toNat : Int))) bb 0 HD.toArray := by rw [HLL.out.2]; exact hp6.1
            have hcv6 := conv_text ((w4.setCell ⟨bb, 10, none⟩ (.int .u8 (V1.toNat : Int))).setCell ⟨bb, 11, none⟩ (.int .u8 (V2.toNat : Int))) bb 0 20 cap HD (by rw [HHD.out]; rfl) hH6
            have hne : n ≠ bb := by have := HNB.out; omega
            have hle : w.heap.size ≤ bb := by have := HNB.out; have := HN.out; omega
            have P6 : Hid (PdAt ((w4.setCell ⟨bb, 10, none⟩ (.int .u8 (V1.toNat : Int))).setCell ⟨bb, 11, none⟩ (.int .u8 (V2.toNat : Int))) n f) := Lib.hid (P4.kept (by rw [Below.heap_setCell _ _ _ _ hne, Below.heap_setCell _ _ _ _ hne]))
            have B6 : Hid (Below w.heap.size w ((w4.setCell ⟨bb, 10, none⟩ (.int .u8 (V1.toNat : Int))).setCell ⟨bb, 11, none⟩ (.int .u8 (V2.toNat : Int)))) := Lib.hid ((B4.out.setCell hle _).setCell hle _)
            have x1 := (hH4 10 (by rw [List.size_toArray, HLL.out.1]; decide)).1
            have x2 := (hH4 11 (by rw [List.size_toArray, HLL.out.1]; decide)).1
            have z1 := (hH4 10 (by rw [List.size_toArray, HLL.out.1]; decide)).2
            have z2 := (hH4 11 (by rw [List.size_toArray, HLL.out.1]; decide)).2
            rw [Nat.zero_add] at x1 x2 z1 z2
            clear hp5 hp6 hH6 hH4 hcur4 P4 PK hbz hcv B3 B4 HH HCUR hne hle kS c13
            go_upto_region 21 with fail
            clear x1 x2 z1 z2
            generalize ((w4.setCell ⟨bb, 10, none⟩ (.int .u8 (V1.toNat : Int))).setCell ⟨bb, 11, none⟩ (.int .u8 (V2.toNat : Int))) = X6 at hcv6 P6 B6 ⊢
            have c13 := P6.out.da
            have q1 := C1.out X6
            go_wp2_with fail
            go_ret2
            exact ⟨rfl, B6.out⟩
theorem rBytes8_any (w : World) (f : Pd) (hz : f.da.size ≤ 140737488355328) :
    Calls Try.prog 20 #[.agg (pdC f)] w fun e w' => e = .returned (.tuple #[.string (pdS f), .int .i64 (pdE f)]) ∧ Below w.heap.size w w' := by
  cases h : mayB f with
  | false =>
    have e1 : pdE f = 1 := by rw [pdE, if_pos h]
    rw [pdS, e1, if_neg (by decide)]
    exact rBytes8_arg w f hz h
  | true =>
    by_cases h2 : 566 < f.da.size
    · have e1 : pdE f = 3 := by rw [pdE, if_neg (by rw [h]; decide), if_pos h2]
      rw [pdS, e1, if_neg (by decide)]
      exact rBytes8_long w f hz h h2
    · have e1 : pdE f = 0 := by rw [pdE, if_neg (by rw [h]; decide), if_neg h2]
      rw [pdS, e1, if_pos rfl]
      exact rBytes8_yes w f h (by omega) f.mo rfl

end Go.Proofs.Ytdckjliocgnbgaa
