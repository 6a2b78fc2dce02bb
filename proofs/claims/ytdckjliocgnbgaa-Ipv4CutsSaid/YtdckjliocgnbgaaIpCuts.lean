/-
  Ipv4Cuts: a datagram that was cut into pieces is told once from them, in whatever order they come, as it was. Conditions: more than 1200 bytes, 100 cuts or 300 that come are not asked about, as the statement says.
-/
import Derived.Test.YtdckjliocgnbgaaJoN
import Derived.Deep.LoopGhost
import Derived.Deep.DeepCutAuto
import Derived.Deep.CutBlock
import Derived.ProofKit
import Derived.OpenShut
import Derived.ShutString
import Derived.ChangeOld
import Derived.Below
namespace Go.Proofs.Ytdckjliocgnbgaa.icu
open Go.ChangeShapes Go.WideShapes Go.ChangeAt Go.RowKit Go.Sort
open Go.ChangeMaps (open_string shut_string)
set_option linter.unusedVariables false

def bD (id : Int) : Pd := ⟨id, ⟨1, 0, 0, 0⟩, ⟨2, 0, 0, 0⟩, 6, 9, 0, false, ⟨#[]⟩⟩
theorem bD_may (id : Int) (h0 : 0 ≤ id) (h1 : id ≤ 65535) : mayB (bD id) = true := decide_eq_true ⟨h0, h1, (by decide : (0 : Int) ≤ 6), (by decide : (6 : Int) ≤ 255), (by decide : (0 : Int) ≤ 9), (by decide : (9 : Int) ≤ 255), (by decide : (0 : Int) % 8 = 0), (by decide : (0 : Int) ≤ 0), (by decide : (0 : Int) ≤ 65528), (by show (0 : Int) + ((0 : Nat) : Int) ≤ 65515; decide), .inl rfl⟩
theorem pdat_kept {w : World} {n m k : Nat} {v : Value} {f : Pd} (h : PdAt w m f) (hn : m ≠ n) : PdAt (w.setCell ⟨n, k, none⟩ v) m f := h.kept (Below.heap_setCell _ _ _ _ hn)
theorem PdAt.poke {w : World} {n : Nat} {f : Pd} (h : PdAt w n f) {i : Nat} (hi : i < 14) {v : Value} (f' : Pd) (he : (pdC f).setIfInBounds i v = pdC f') : PdAt (w.setCell ⟨n, i, none⟩ v) n f' := (set_cells h v (i := i) hi).trans (by rw [he])
/-- The ith piece that has one behind it. -/
def tp (id : Int) (D : ByteArray) (off : Nat → Nat) (i : Nat) : Pd := ⟨id, ⟨1, 0, 0, 0⟩, ⟨2, 0, 0, 0⟩, 6, 9, (off i : Int), true, D.extract (off i) (off (i + 1))⟩
/-- The places of J pieces, and of what is to come. -/
structure Pre (D : ByteArray) (J a : Nat) (off : Nat → Nat) : Prop where
  zero : off 0 = 0
  here : off J = a
  lt : ∀ i, i < J → off i < off (i + 1)
  eight : ∀ i, i ≤ J → off i % 8 = 0
  more : 0 < J → a < D.size
  le : a ≤ D.size
theorem Pre.step {D : ByteArray} {J a : Nat} {off : Nat → Nat} (h : Pre D J a off) {n : Nat} (h1 : 0 < n) (h8 : n % 8 = 0) (hl : a + n < D.size) : Pre D (J + 1) (a + n) (fun i => if i = J + 1 then a + n else off i) := by
  have e := h.eight J (Nat.le_refl _)
  rw [h.here] at e
  refine ⟨?_, if_pos rfl, fun i hi => ?_, fun i hi => ?_, fun _ => hl, by omega⟩
  · show (if 0 = J + 1 then a + n else off 0) = 0
    rw [if_neg (by omega), h.zero]
  · show (if i = J + 1 then a + n else off i) < (if i + 1 = J + 1 then a + n else off (i + 1))
    rw [if_neg (by omega)]
    by_cases c : i = J
    · subst c; rw [if_pos rfl, h.here]; omega
    · rw [if_neg (by omega)]; exact h.lt i (by omega)
  · show (if i = J + 1 then a + n else off i) % 8 = 0
    split
    · omega
    · exact h.eight i (by omega)
theorem Pre.done {D : ByteArray} {J a : Nat} {off : Nat → Nat} (h : Pre D J a off) (hs : D.size ≤ 1200) : CutOk D (J + 1) (fun i => if i = J + 1 then D.size else off i) := by
  refine ⟨Nat.succ_pos _, ?_, if_pos rfl, fun i hi h2 => ?_, fun i hi => ?_, hs⟩
  · show (if 0 = J + 1 then D.size else off 0) = 0
    rw [if_neg (by omega), h.zero]
  · show (if i = J + 1 then D.size else off i) < (if i + 1 = J + 1 then D.size else off (i + 1))
    rw [if_neg (by omega)]
    by_cases c : i = J
    · subst c; rw [if_pos rfl, h.here]; exact h.more (by omega)
    · rw [if_neg (by omega)]; exact h.lt i (by omega)
  · show (if i = J + 1 then D.size else off i) % 8 = 0
    rw [if_neg (by omega)]; exact h.eight i (by omega)
/-- The packets so far. -/
def tps (id : Int) (D : ByteArray) (J : Nat) (off : Nat → Nat) : List Pd := (List.range J).map (tp id D off)
theorem tps_step (id : Int) (D : ByteArray) (J a n : Nat) (off : Nat → Nat) (h : off J = a) : tps id D J off ++ [⟨id, ⟨1, 0, 0, 0⟩, ⟨2, 0, 0, 0⟩, 6, 9, (a : Int), true, D.extract a (a + n)⟩] = tps id D (J + 1) (fun i => if i = J + 1 then a + n else off i) := by
  unfold tps
  rw [List.range_succ, List.map_append]
  congr 1
  · refine List.map_congr_left (fun i hi => ?_)
    have hi : i < J := List.mem_range.1 hi
    unfold tp
    dsimp only
    rw [if_neg (by omega), if_neg (by omega)]
  · show _ = [tp id D (fun i => if i = J + 1 then a + n else off i) J]
    unfold tp
    dsimp only
    rw [if_neg (by omega), if_pos rfl, h]
theorem tps_done (id : Int) (D : ByteArray) (J a : Nat) (off : Nat → Nat) (h : off J = a) (ha : a ≤ D.size) : tps id D J off ++ [⟨id, ⟨1, 0, 0, 0⟩, ⟨2, 0, 0, 0⟩, 6, 9, (a : Int), false, D.extract a D.size⟩] = (List.range (J + 1)).map (cutD (bD id) D (J + 1) (fun i => if i = J + 1 then D.size else off i)) := by
  unfold tps
  rw [List.range_succ, List.map_append]
  congr 1
  · refine List.map_congr_left (fun i hi => ?_)
    have hi : i < J := List.mem_range.1 hi
    unfold tp cutD bD
    dsimp only
    rw [if_neg (by omega), if_neg (by omega), decide_eq_true (by omega)]
  · show _ = [cutD (bD id) D (J + 1) (fun i => if i = J + 1 then D.size else off i) J]
    unfold cutD bD
    dsimp only
    rw [if_neg (by omega), if_pos rfl, h, decide_eq_false (by omega)]

theorem cutD_size (base : Pd) (D : ByteArray) (m : Nat) (off : Nat → Nat) (i : Nat) : (cutD base D m off i).da.size ≤ D.size := by
  show (D.extract _ _).size ≤ _
  rw [ByteArray.size_extract]; omega
theorem ks_step {ks : List Nat} {m n3 k q : Nat} (h : ks.Nodup ∧ (∀ x ∈ ks, x < m) ∧ ks.length < m ∧ ∀ j, n3 + j < k → j ∈ ks) (hq : q < m) (hqk : n3 ≤ k → q = k - n3) (ht : ¬ (q ∉ ks ∧ ks.length + 1 = m)) :
    (if q ∈ ks then ks else ks ++ [q]).Nodup ∧ (∀ x ∈ (if q ∈ ks then ks else ks ++ [q]), x < m) ∧ (if q ∈ ks then ks else ks ++ [q]).length < m ∧ ∀ j, n3 + j < k + 1 → j ∈ (if q ∈ ks then ks else ks ++ [q]) := by
  obtain ⟨h1, h2, h3, h4⟩ := h
  by_cases c : q ∈ ks
  · rw [if_pos c]
    refine ⟨h1, h2, h3, fun j hj => ?_⟩
    by_cases e : n3 + j < k
    · exact h4 j e
    · have := hqk (by omega)
      rw [show j = q by omega]; exact c
  · rw [if_neg c]
    refine ⟨?_, fun x hx => ?_, ?_, fun j hj => ?_⟩
    · rw [List.nodup_append]
      exact ⟨h1, List.nodup_cons.2 ⟨by simp, List.nodup_nil⟩, fun a ha b hb => by rw [List.mem_singleton] at hb; subst hb; intro e; subst e; exact c ha⟩
    · rcases List.mem_append.1 hx with hx | hx
      · exact h2 x hx
      · rw [List.mem_singleton] at hx; subst hx; exact hq
    · rw [List.length_append]
      have : ks.length + 1 ≠ m := fun e => ht ⟨c, e⟩
      show ks.length + 1 < m
      omega
    · by_cases e : n3 + j < k
      · exact List.mem_append_left _ (h4 j e)
      · have := hqk (by omega)
        exact List.mem_append_right _ (by rw [List.mem_singleton]; omega)
theorem pd_ld_mid {ops : Array Oper} {rest : List Oper} {o : Oper} {a : Act} {w : World} {Q : Exit → Act → World → Prop} (hg : o.guard = none) (x : Operand) (ho : o.op = .load 29 x) (b oo : Nat) (hx : a.eval x = .pointer (some ⟨b, oo, none⟩)) (f : Pd) (hc : w.rangeAt b oo (pdL f)) (h : wpList Try.prog ops Q rest (a.put o.dst (.agg (pdC f))) w) : wpList Try.prog ops Q (o :: rest) a w :=
  wpList_load_mid hg 29 x ho b oo hx (pdL f) _ hc Try.underlying29 rfl (by kernel_rfl) h

def IsU8 (w : World) (p : Option Addr) (len : Nat) (l : List Int) : Prop := IsNums .u8 w p len l
theorem open_u8 {H : Type} {enc : TypeId × Value → H} {w : World} {p : Option Addr} {len cap fuel : Nat} {x : DataW H × List MemPlace} (h : DataW.trod enc Try.prog w 0 (fun _ => true) true fuel 47 (Value.slice p len cap).cells.toList = some x) : ∃ l, IsU8 w p len l :=
  open_nums Try.underlying47 Try.underlying5 (by kernel_rfl) h
set_option maxRecDepth 100000 in
set_option maxHeartbeats 4000000 in
theorem walk_out (id : Int) (D : ByteArray) (hm2 : D.size ≤ 9223372036854775807) (p2 : Option Addr) (n2 c2 : Nat) (p3 : Option Addr) (n3 c3 : Nat) (w : World) (h : 1200 < D.size ∨ (D.size ≤ 1200 ∧ 100 < n2) ∨ (D.size ≤ 1200 ∧ n2 ≤ 100 ∧ 300 < n3)) :
    Calls Try.prog 11 #[.int .u16 id, .string D, .slice p2 n2 c2, .slice p3 n3 c3] w fun e w' => e = .returned (.bool true) ∧ Below w.heap.size w w' := by
  rcases h with h | ⟨h, h2⟩ | ⟨h, h2, h3⟩
  · have e1 : decide ((1200 : Int) < (D.size : Int)) = true := decide_eq_true (by omega)
    go_enter Try.func11, Try.ntmps11
    go_wp2_with fail
    refine (awakeD _).mono ?_
    rintro e w1 ⟨rfl, b1⟩
    have B1 := Lib.hid b1
    clear b1
    go_wp2_with fail
    go_ret
    exact ⟨rfl, B1.out⟩
  · have e1 : decide ((1200 : Int) < (D.size : Int)) = false := decide_eq_false (by omega)
    have e2 : decide ((100 : Int) < (n2 : Int)) = true := decide_eq_true (by omega)
    go_enter Try.func11, Try.ntmps11
    go_wp2_with fail
    refine (awakeD _).mono ?_
    rintro e w1 ⟨rfl, b1⟩
    have B1 := Lib.hid b1
    clear b1
    go_wp2_with fail
    go_ret
    exact ⟨rfl, B1.out⟩
  · have e1 : decide ((1200 : Int) < (D.size : Int)) = false := decide_eq_false (by omega)
    have e2 : decide ((100 : Int) < (n2 : Int)) = false := decide_eq_false (by omega)
    have e3 : decide ((300 : Int) < (n3 : Int)) = true := decide_eq_true (by omega)
    go_enter Try.func11, Try.ntmps11
    go_wp2_with fail
    refine (awakeD _).mono ?_
    rintro e w1 ⟨rfl, b1⟩
    have B1 := Lib.hid b1
    clear b1
    go_wp2_with fail
    go_ret
    exact ⟨rfl, B1.out⟩

set_option maxRecDepth 100000 in
set_option maxHeartbeats 8000000 in
theorem walk_main (id : Int) (hi0 : 0 ≤ id) (hi1 : id ≤ 65535) (D : ByteArray) (hD : D.size ≤ 1200) (p2 : Option Addr) (n2 c2 : Nat) (l2 : List Int) (p3 : Option Addr) (n3 c3 : Nat) (l3 : List Int) (w : World) (h2 : IsNums .u8 w p2 n2 l2) (h3 : IsNums .u8 w p3 n3 l3) (hn2 : n2 ≤ 100) (hn3 : n3 ≤ 300) :
    Calls Try.prog 11 #[.int .u16 id, .string D, .slice p2 n2 c2, .slice p3 n3 c3] w fun e w' => e = .returned (.bool true) ∧ Below w.heap.size w w' := by
  have e1 : ¬ (1200 : Int) < (D.size : Int) := by omega
  have e2 : ¬ (100 : Int) < (n2 : Int) := by omega
  have e3 : ¬ (300 : Int) < (n3 : Int) := by omega
  have hm2 : D.size ≤ 9223372036854775807 := by omega
  have hwi : IntKind.i64.wrap id = id := IntWalk.i64_in _ (by omega)
  have HB := Lib.hid (bD_may id hi0 hi1)
  have HDZ := Lib.hid hD
  have HN2 := Lib.hid h2
  have HN3 := Lib.hid h3
  have HI := Lib.hid (And.intro hi0 hi1)
  clear hi0 hi1 hD h2 h3
  go_enter Try.func11, Try.ntmps11
  go_wp2_with fail
  refine (awakeD _).mono ?_
  rintro e w1 ⟨rfl, b1⟩
  have B1 := Lib.hid b1
  clear b1
  have hst := pd_storeZ w1 (bD id)
  go_upto_region 5 with fail
  go_upto_region 6 with (refine wpList_storeW 29 (.tmp 9) (.tmp 43) rfl rfl (.agg (pdC (bD id))) w1.heap.size (by kernel_rfl) (by kernel_rfl) hst ?_)
  try simp only [Act.put]
  clear hst
  have R0 : Hid (RaG 14 pdL 29 w (w1.alloc (.cells (pdC (bD id)) 29)) [(w1.heap.size, .cells (pdC (bD id)) 29 (0, 0))] (.slice none 0 0) []) := Lib.hid (((RaG.start 14 pdL 29 w).grow B1.out).push _)
  obtain ⟨n9, hn9⟩ : ∃ n, n = w1.heap.size := ⟨_, rfl⟩
  have HN9 : Hid (w.heap.size ≤ n9) := Lib.hid (by rw [hn9]; exact B1.out.size)
  generalize w1.alloc _ = W2 at R0 ⊢
  rw [← hn9] at R0 ⊢
  clear hn9 B1 hwi e1 e2 e3
  go_upto_block 0 with fail
  go_cut [10, 11] from 12 to 81 (fun v10 v11 wx => ∃ (J a : Nat) (off : Nat → Nat), v11 = .int .i64 (a : Int) ∧ J ≤ 100 ∧ Hid (Pre D J a off) ∧ Hid (RaG 14 pdL 29 w wx [(n9, .cells (pdC (bD id)) 29 (0, 0))] v10 (tps id D J off)))
  case first =>
    go_wp2_with fail
    go_loopw [10, 11, 12] (fun v10 v11 i wr => ∃ (J a k : Nat) (off : Nat → Nat), v11 = .int .i64 (a : Int) ∧ i = .int .i64 (k : Int) ∧ J ≤ k ∧ k ≤ n2 ∧ Hid (Pre D J a off) ∧ Hid (RaG 14 pdL 29 w wr [(n9, .cells (pdC (bD id)) 29 (0, 0))] v10 (tps id D J off))) (fun _ _ i _ => n2 - (intOf i).toNat)
    case atStart => exact ⟨0, 0, 0, fun _ => 0, rfl, rfl, Nat.le_refl _, Nat.zero_le _, Lib.hid ⟨rfl, rfl, fun i hi => by omega, fun i _ => rfl, fun h => by omega, Nat.zero_le _⟩, R0⟩
    case round =>
      obtain ⟨J, a, k, off, rfl, rfl, hJk, hk, HP, R⟩ := hrel
      clear R0
      by_cases hlt : k < n2
      · obtain ⟨b2, o2, hp2, hc2, hwf⟩ := (HN2.out.below R.out.bl).at_ k (by rw [HN2.out.1]; exact hlt)
        subst hp2
        obtain ⟨w1z, w2z⟩ : 0 ≤ l2[k]'(by rw [HN2.out.1]; exact hlt) ∧ l2[k]'(by rw [HN2.out.1]; exact hlt) ≤ 255 := by simpa [Lit.wf, IntKind.min, IntKind.max, IntKind.signed, IntKind.bits] using hwf
        generalize l2[k]'(by rw [HN2.out.1]; exact hlt) = z at hc2 w1z w2z hwf
        obtain ⟨Z, rfl⟩ : ∃ Z : Nat, z = (Z : Int) := ⟨z.toNat, by omega⟩
        have hle := HP.out.le
        have hDZ := HDZ.out
        have hj1 : decide ((k : Int) < (n2 : Int)) = true := by simp; omega
        have q1 : (0 : Int) ≤ (k : Int) := by omega
        have q2 : (k : Int) < (n2 : Int) := by omega
        have hwk : IntKind.i64.wrap ((k : Int) + 1) = (k : Int) + 1 := IntWalk.i64_in _ (by omega)
        have hw1 : IntKind.i64.wrap (Z : Int) = (Z : Int) := IntWalk.i64_in _ (by omega)
        have hw2 : IntKind.i64.wrap (1 + (Z : Int)) = 1 + (Z : Int) := IntWalk.i64_in _ (by omega)
        have hw3 : IntKind.i64.wrap (8 * (1 + (Z : Int))) = ((8 * (1 + Z) : Nat) : Int) := by rw [IntWalk.i64_in _ (by omega)]; omega
        obtain ⟨n, hn⟩ : ∃ n, n = 8 * (1 + Z) := ⟨_, rfl⟩
        rw [← hn] at hw3
        have hw4 : IntKind.i64.wrap ((a : Int) + (n : Int)) = ((a + n : Nat) : Int) := by rw [IntWalk.i64_in _ (by omega)]; omega
        have HN := Lib.hid hn
        by_cases hb : a + n < D.size
        · have e4 : decide ((D.size : Int) ≤ ((a + n : Nat) : Int)) = false := decide_eq_false (by omega)
          have e5 : decide (D.size ≤ a + n) = false := decide_eq_false (by omega)
          clear hn hwf
          go_upto_region 13 with fail
          have hst := pd_storeZ wr (bD id)
          have hp : PdAt wr n9 (bD id) := R.out.get (.head _)
          have P14 : Hid (PdAt (wr.alloc (.cells (pdC (bD id)) 29)) wr.heap.size (bD id)) := Lib.hid (pd_new _ _ _ rfl)
          have BB := Lib.hid ((Below.refl wr.heap.size wr).alloc (Nat.le_refl _) (.cells (pdC (bD id)) 29))
          go_upto_region 14 with (first | (refine pd_ld (by rfl) _ rfl n9 rfl _ hp ?_) | (refine wpList_storeW 29 (.tmp 14) (.tmp 63) rfl rfl (.agg (pdC (bD id))) wr.heap.size rfl rfl hst ?_))
          try simp only [Act.put]
          obtain ⟨n14, hn14⟩ : ∃ n, n = wr.heap.size := ⟨_, rfl⟩
          have HN14 : Hid (wr.heap.size ≤ n14) := Lib.hid (by omega)
          generalize wr.alloc _ = WA at P14 BB ⊢
          rw [← hn14] at P14 ⊢
          clear hst hp hn14
          have c1 := P14.out.ps
          have f1 := P14.out.free 11
          go_upto_region 15 with fail
          have P15 := Lib.hid (PdAt.poke P14.out (i := 11) (v := .int .i64 (a : Int)) (by decide) (⟨id, ⟨1, 0, 0, 0⟩, ⟨2, 0, 0, 0⟩, 6, 9, (a : Int), false, ⟨#[]⟩⟩) rfl)
          have BB : Hid (Below wr.heap.size wr (WA.setCell ⟨n14, 11, none⟩ (.int .i64 (a : Int)))) := Lib.hid (BB.out.setCell HN14.out _)
          clear c1 f1 P14
          generalize World.setCell _ _ _ = WB at P15 BB ⊢
          have c1 := P15.out.mo
          have f1 := P15.out.free 12
          go_upto_region 16 with fail
          have P16 := Lib.hid (PdAt.poke P15.out (i := 12) (v := .bool true) (by decide) (⟨id, ⟨1, 0, 0, 0⟩, ⟨2, 0, 0, 0⟩, 6, 9, (a : Int), true, ⟨#[]⟩⟩) rfl)
          have BB : Hid (Below wr.heap.size wr (WB.setCell ⟨n14, 12, none⟩ (.bool true))) := Lib.hid (BB.out.setCell HN14.out _)
          clear c1 f1 P15
          generalize World.setCell _ _ _ = WC at P16 BB ⊢
          have q3 : (0 : Int) ≤ (a : Int) := by omega
          have q4 : (a : Int) ≤ ((a + n : Nat) : Int) := by omega
          have q5 : ((a + n : Nat) : Int) ≤ (D.size : Int) := by omega
          have q6 : a ≤ a + n := by omega
          have q7 : a + n ≤ D.size := by omega
          have c1 := P16.out.da
          have f1 := P16.out.free 13
          go_upto_region 17 with fail
          have P17 := Lib.hid (PdAt.poke P16.out (i := 13) (v := .string (D.extract a (a + n))) (by decide) (⟨id, ⟨1, 0, 0, 0⟩, ⟨2, 0, 0, 0⟩, 6, 9, (a : Int), true, D.extract a (a + n)⟩) rfl)
          have BB : Hid (Below wr.heap.size wr (WC.setCell ⟨n14, 13, none⟩ (.string (D.extract a (a + n))))) := Lib.hid (BB.out.setCell HN14.out _)
          clear c1 f1 P16
          generalize World.setCell _ _ _ = WD at P17 BB ⊢
          have R2 := Lib.hid (R.out.grow BB.out)
          clear R BB q3 q4 q5 q6 q7
          have d0 : WD.cell? ⟨n14, 0, none⟩ = some (.int .i64 id) := by rw [cell_of_block P17.out]; rfl
          have d1 : WD.cell? ⟨n14, 1, none⟩ = some (.int .u8 1) := by rw [cell_of_block P17.out]; rfl
          have d2 : WD.cell? ⟨n14, 2, none⟩ = some (.int .u8 0) := by rw [cell_of_block P17.out]; rfl
          have d3 : WD.cell? ⟨n14, 3, none⟩ = some (.int .u8 0) := by rw [cell_of_block P17.out]; rfl
          have d4 : WD.cell? ⟨n14, 4, none⟩ = some (.int .u8 0) := by rw [cell_of_block P17.out]; rfl
          have d5 : WD.cell? ⟨n14, 5, none⟩ = some (.int .u8 2) := by rw [cell_of_block P17.out]; rfl
          have d6 : WD.cell? ⟨n14, 6, none⟩ = some (.int .u8 0) := by rw [cell_of_block P17.out]; rfl
          have d7 : WD.cell? ⟨n14, 7, none⟩ = some (.int .u8 0) := by rw [cell_of_block P17.out]; rfl
          have d8 : WD.cell? ⟨n14, 8, none⟩ = some (.int .u8 0) := by rw [cell_of_block P17.out]; rfl
          have d9 : WD.cell? ⟨n14, 9, none⟩ = some (.int .i64 6) := by rw [cell_of_block P17.out]; rfl
          have d10 : WD.cell? ⟨n14, 10, none⟩ = some (.int .i64 9) := by rw [cell_of_block P17.out]; rfl
          have d11 : WD.cell? ⟨n14, 11, none⟩ = some (.int .i64 (a : Int)) := by rw [cell_of_block P17.out]; rfl
          have d12 : WD.cell? ⟨n14, 12, none⟩ = some (.bool true) := by rw [cell_of_block P17.out]; rfl
          have d13 : WD.cell? ⟨n14, 13, none⟩ = some (.string (D.extract a (a + n))) := by rw [cell_of_block P17.out]; rfl
          obtain ⟨i0, z0, hi0, hz0, hz1, hz2, hz3⟩ := info_pk
          have HI0 := Lib.hid hi0
          have HZ0 := Lib.hid hz0
          have HZ1 := Lib.hid hz1
          have HZ2 := Lib.hid hz2
          have HZ3 := Lib.hid hz3
          have RA := Lib.hid (R2.out.alloc (.cells #[.int .i64 id, .int .u8 1, .int .u8 0, .int .u8 0, .int .u8 0, .int .u8 2, .int .u8 0, .int .u8 0, .int .u8 0, .int .i64 6, .int .i64 9, .int .i64 (a : Int), .bool true, .string (D.extract a (a + n))] 29))
          have HNW : Hid (∀ (j : Nat) (u : Value), (encA pdL [⟨id, ⟨1, 0, 0, 0⟩, ⟨2, 0, 0, 0⟩, 6, 9, (a : Int), true, D.extract a (a + n)⟩])[j]? = some u → (WD.alloc (.cells #[.int .i64 id, .int .u8 1, .int .u8 0, .int .u8 0, .int .u8 0, .int .u8 2, .int .u8 0, .int .u8 0, .int .u8 0, .int .i64 6, .int .i64 9, .int .i64 (a : Int), .bool true, .string (D.extract a (a + n))] 29)).cell? ((⟨WD.heap.size, 0, none⟩ : Addr).add j) = some u) := Lib.hid (by
            intro j u hu
            rw [add_off, Nat.zero_add, cell_of_block (heap_alloc_new WD _)]
            exact (List.getElem?_toArray).trans hu)
          have hln : (tps id D J off).length + [(⟨id, ⟨1, 0, 0, 0⟩, ⟨2, 0, 0, 0⟩, 6, 9, (a : Int), true, D.extract a (a + n)⟩ : Pd)].length ≤ 100000000 := by rw [tps, List.length_map, List.length_range]; simp; omega
          clear hi0 hz0 hz1 hz2 hz3
          go_upto_region 18 with (refine wpList_append_many pdL_len pdL_one (by decide) rfl (.tmp 74) (.tmp 76) 66 rfl i0 z0 _ Try.underlying66 HI0.out HZ0.out HZ1.out rfl HZ2.out HZ3.out u10 (tps id D J off) rfl RA.out.acc [⟨id, ⟨1, 0, 0, 0⟩, ⟨2, 0, 0, 0⟩, 6, 9, (a : Int), true, D.extract a (a + n)⟩] hln ⟨WD.heap.size, 0, none⟩ 1 1 rfl rfl HNW.out ?_; intro v5 w5 hrow hgr hbl; have R5 := Lib.hid (RA.out.app hgr hrow hbl); clear hrow hgr hbl)
          go_wp2_with fail
          go_roundw
          case rel =>
            have hn2 := HN.out
            exact ⟨J + 1, a + n, k + 1, _, rfl, by go_num, by omega, by omega, Lib.hid (HP.out.step (n := n) (by omega) (by omega) hb), by rw [← tps_step id D J a n off HP.out.here]; exact R5⟩
          case measure => simp [intOf]; omega
        · have e4 : decide ((D.size : Int) ≤ ((a + n : Nat) : Int)) = true := decide_eq_true (by omega)
          have e5 : decide (D.size ≤ a + n) = true := decide_eq_true (by omega)
          clear hn hwf
          go_wp2_with fail
          go_meet
          case rel => exact ⟨J, a, off, rfl, by omega, HP, R⟩
      · obtain rfl : k = n2 := by omega
        have hj1 : decide ((k : Int) < (k : Int)) = false := by simp
        go_wp2_with fail
        go_meet
        case rel => exact ⟨J, a, off, rfl, by omega, HP, R⟩
  case rest =>
    obtain ⟨J, a, off, rfl, hJ, HPRE, R⟩ := hcut
    rename World => wx
    have hle := HPRE.out.le
    have hDZ := HDZ.out
    have hst := pd_storeZ wx (bD id)
    have hp : PdAt wx n9 (bD id) := R.out.get (.head _)
    have P14 : Hid (PdAt (wx.alloc (.cells (pdC (bD id)) 29)) wx.heap.size (bD id)) := Lib.hid (pd_new _ _ _ rfl)
    have BB := Lib.hid ((Below.refl wx.heap.size wx).alloc (Nat.le_refl _) (.cells (pdC (bD id)) 29))
    go_upto_region 20 with (first | (refine pd_ld (by rfl) _ rfl n9 rfl _ hp ?_) | (refine wpList_storeW 29 (.tmp 15) (.tmp 81) rfl rfl (.agg (pdC (bD id))) wx.heap.size rfl rfl hst ?_))
    try simp only [Act.put]
    obtain ⟨n15, hn15⟩ : ∃ n, n = wx.heap.size := ⟨_, rfl⟩
    have HN15 : Hid (wx.heap.size ≤ n15) := Lib.hid (by omega)
    generalize wx.alloc _ = WA at P14 BB ⊢
    rw [← hn15] at P14 ⊢
    clear hst hp hn15
    have c1 := P14.out.ps
    have f1 := P14.out.free 11
    go_upto_region 21 with fail
    have P15 := Lib.hid (PdAt.poke P14.out (i := 11) (v := .int .i64 (a : Int)) (by decide) (⟨id, ⟨1, 0, 0, 0⟩, ⟨2, 0, 0, 0⟩, 6, 9, (a : Int), false, ⟨#[]⟩⟩) rfl)
    have BB : Hid (Below wx.heap.size wx (WA.setCell ⟨n15, 11, none⟩ (.int .i64 (a : Int)))) := Lib.hid (BB.out.setCell HN15.out _)
    clear c1 f1 P14
    generalize World.setCell _ _ _ = WB at P15 BB ⊢
    have q3 : (0 : Int) ≤ (a : Int) := by omega
    have q4 : (a : Int) ≤ (D.size : Int) := by omega
    have q6 : a ≤ D.size := by omega
    have c1 := P15.out.da
    have f1 := P15.out.free 13
    go_upto_region 22 with fail
    have P17 := Lib.hid (PdAt.poke P15.out (i := 13) (v := .string (D.extract a D.size)) (by decide) (⟨id, ⟨1, 0, 0, 0⟩, ⟨2, 0, 0, 0⟩, 6, 9, (a : Int), false, D.extract a D.size⟩) rfl)
    have BB : Hid (Below wx.heap.size wx (WB.setCell ⟨n15, 13, none⟩ (.string (D.extract a D.size)))) := Lib.hid (BB.out.setCell HN15.out _)
    clear c1 f1 P15
    generalize World.setCell _ _ _ = WD at P17 BB ⊢
    have R2 := Lib.hid (R.out.grow BB.out)
    clear R BB q3 q4 q6
    have d0 : WD.cell? ⟨n15, 0, none⟩ = some (.int .i64 id) := by rw [cell_of_block P17.out]; rfl
    have d1 : WD.cell? ⟨n15, 1, none⟩ = some (.int .u8 1) := by rw [cell_of_block P17.out]; rfl
    have d2 : WD.cell? ⟨n15, 2, none⟩ = some (.int .u8 0) := by rw [cell_of_block P17.out]; rfl
    have d3 : WD.cell? ⟨n15, 3, none⟩ = some (.int .u8 0) := by rw [cell_of_block P17.out]; rfl
    have d4 : WD.cell? ⟨n15, 4, none⟩ = some (.int .u8 0) := by rw [cell_of_block P17.out]; rfl
    have d5 : WD.cell? ⟨n15, 5, none⟩ = some (.int .u8 2) := by rw [cell_of_block P17.out]; rfl
    have d6 : WD.cell? ⟨n15, 6, none⟩ = some (.int .u8 0) := by rw [cell_of_block P17.out]; rfl
    have d7 : WD.cell? ⟨n15, 7, none⟩ = some (.int .u8 0) := by rw [cell_of_block P17.out]; rfl
    have d8 : WD.cell? ⟨n15, 8, none⟩ = some (.int .u8 0) := by rw [cell_of_block P17.out]; rfl
    have d9 : WD.cell? ⟨n15, 9, none⟩ = some (.int .i64 6) := by rw [cell_of_block P17.out]; rfl
    have d10 : WD.cell? ⟨n15, 10, none⟩ = some (.int .i64 9) := by rw [cell_of_block P17.out]; rfl
    have d11 : WD.cell? ⟨n15, 11, none⟩ = some (.int .i64 (a : Int)) := by rw [cell_of_block P17.out]; rfl
    have d12 : WD.cell? ⟨n15, 12, none⟩ = some (.bool false) := by rw [cell_of_block P17.out]; rfl
    have d13 : WD.cell? ⟨n15, 13, none⟩ = some (.string (D.extract a D.size)) := by rw [cell_of_block P17.out]; rfl
    obtain ⟨i0, z0, hi0, hz0, hz1, hz2, hz3⟩ := info_pk
    have HI0 := Lib.hid hi0
    have HZ0 := Lib.hid hz0
    have HZ1 := Lib.hid hz1
    have HZ2 := Lib.hid hz2
    have HZ3 := Lib.hid hz3
    have RA := Lib.hid (R2.out.alloc (.cells #[.int .i64 id, .int .u8 1, .int .u8 0, .int .u8 0, .int .u8 0, .int .u8 2, .int .u8 0, .int .u8 0, .int .u8 0, .int .i64 6, .int .i64 9, .int .i64 (a : Int), .bool false, .string (D.extract a D.size)] 29))
    have HNW : Hid (∀ (j : Nat) (u : Value), (encA pdL [⟨id, ⟨1, 0, 0, 0⟩, ⟨2, 0, 0, 0⟩, 6, 9, (a : Int), false, D.extract a D.size⟩])[j]? = some u → (WD.alloc (.cells #[.int .i64 id, .int .u8 1, .int .u8 0, .int .u8 0, .int .u8 0, .int .u8 2, .int .u8 0, .int .u8 0, .int .u8 0, .int .i64 6, .int .i64 9, .int .i64 (a : Int), .bool false, .string (D.extract a D.size)] 29)).cell? ((⟨WD.heap.size, 0, none⟩ : Addr).add j) = some u) := Lib.hid (by
      intro j u hu
      rw [add_off, Nat.zero_add, cell_of_block (heap_alloc_new WD _)]
      exact (List.getElem?_toArray).trans hu)
    have hln : (tps id D J off).length + [(⟨id, ⟨1, 0, 0, 0⟩, ⟨2, 0, 0, 0⟩, 6, 9, (a : Int), false, D.extract a D.size⟩ : Pd)].length ≤ 100000000 := by rw [tps, List.length_map, List.length_range]; simp; omega
    clear hi0 hz0 hz1 hz2 hz3
    go_upto_region 23 with (refine wpList_append_many pdL_len pdL_one (by decide) rfl (.tmp 88) (.tmp 90) 66 rfl i0 z0 _ Try.underlying66 HI0.out HZ0.out HZ1.out rfl HZ2.out HZ3.out u10 (tps id D J off) rfl RA.out.acc [⟨id, ⟨1, 0, 0, 0⟩, ⟨2, 0, 0, 0⟩, 6, 9, (a : Int), false, D.extract a D.size⟩] hln ⟨WD.heap.size, 0, none⟩ 1 1 rfl rfl HNW.out ?_; intro v5 w5 hrow hgr hbl; have R5 := Lib.hid (RA.out.app hgr hrow hbl); clear hrow hgr hbl)
    rw [tps_done id D J a off HPRE.out.here HPRE.out.le] at R5
    have HCUT := Lib.hid (HPRE.out.done HDZ.out)
    obtain ⟨m, hm⟩ : ∃ m, m = J + 1 := ⟨_, rfl⟩
    obtain ⟨of2, hof⟩ : ∃ of2, of2 = (fun i => if i = J + 1 then D.size else off i) := ⟨_, rfl⟩
    rw [← hof, ← hm] at R5 HCUT
    have hm1 : 0 < m := by omega
    have hm101 : m ≤ 101 := by omega
    clear hm hof HPRE hle hDZ hln d0 d1 d2 d3 d4 d5 d6 d7 d8 d9 d10 d11 d12 d13 RA HNW P17 R2 HI0 HZ0 HZ1 HZ2 HZ3
    have hlen5 : ((List.range m).map (cutD (bD id) D m of2)).length = m := by rw [List.length_map, List.length_range]
    obtain ⟨bq, cap, cur, hv5, hbq, hcap, _⟩ := R5.out.acc.block (by rw [hlen5]; exact hm1)
    rw [hlen5] at hv5
    subst hv5
    have hbw : w.heap.size ≤ bq := R5.out.own bq rfl
    have HBQ := Lib.hid hbq
    have HEL : Hid (∀ (q : Nat), q < m → ∀ W : World, W.heap[bq]? = some (.cells cur 29 (0, 0)) → W.rangeAt bq (q * 14) (pdL (cutD (bD id) D m of2 q))) := Lib.hid (fun q hq W hW => by
      obtain ⟨b', cap', hv', _, _, _, _, hE⟩ := RowA.elem pdL_len R5.out.acc (by rw [hlen5]; exact hm1)
      injection hv' with hv'; injection hv' with hv'; injection hv' with hv'
      subst hv'
      have hEq := hE q (by rw [hlen5]; exact hq)
      rw [List.getElem_map, List.getElem_range] at hEq
      intro j u hu
      have h1 := hEq j u hu
      rw [cell_of_block HBQ.out] at h1
      rw [cell_of_block hW]
      exact h1)
    have H9 := Lib.hid (R5.out.get (.head _))
    have HLEN := Lib.hid hlen5
    have BW := Lib.hid R5.out.bl
    have H9N : Hid (bq ≠ n9) := Lib.hid ((R5.out.fx _ (.head _)).2 bq rfl)
    clear hbq hcap hlen5 R5
    go_wp2_with fail
    refine (newS (F := [(n9, .cells (pdC (bD id)) 29 (0, 0)), (bq, .cells cur 29 (0, 0))]) BW.out (fun p hp => by
      rcases List.mem_cons.1 hp with rfl | hp
      · exact H9.out
      · rw [List.mem_singleton] at hp; subst hp; exact HBQ.out) 5 (by decide) (by decide)).mono ?_
    rintro e w6 ⟨g, rfl, hJ6⟩
    have J6 := Lib.hid hJ6
    clear hJ6
    have hmm := @run_makeMap Try.prog
    go_upto_region 26 with fail
    have J7 := Lib.hid (J6.out.alloc (.map #[] 0))
    have T7 : Hid (IsTab (w6.alloc (.map #[] 0)) w6.heap.size []) := Lib.hid (tab_made w6)
    have HNB0 : Hid (w.heap.size ≤ w6.heap.size) := Lib.hid J6.out.bl.size
    have HN9b : Hid (n9 < w6.heap.size) := Lib.hid (blk_lt (J6.out.get (.head _)))
    have HNBb : Hid (bq < w6.heap.size) := Lib.hid (blk_lt (J6.out.get (.tail _ (.head _))))
    go_upto_region 27 with fail
    clear J6 hmm
    obtain ⟨nb, hnb⟩ : ∃ n, n = w6.heap.size := ⟨_, rfl⟩
    rw [← hnb] at J7 T7 HNB0 HN9b HNBb
    generalize World.alloc _ _ = W7 at J7 T7 ⊢
    rw [← hnb]
    clear hnb
    go_wp2_with fail
    go_loopw [19] (fun i wr => ∃ (k : Nat) (ks : List Nat) (o : Obj), i = .int .i64 (k : Int) ∧ k ≤ n3 + m ∧ Hid (ks.Nodup ∧ (∀ x ∈ ks, x < m) ∧ ks.length < m ∧ ∀ j, n3 + j < k → j ∈ ks) ∧ Hid (JoS w wr ((nb, o) :: [(n9, .cells (pdC (bD id)) 29 (0, 0)), (bq, .cells cur 29 (0, 0))]) g 5 (LQ (bD id) D m of2 ks)) ∧ Hid (IsTab wr nb (ks.map fun (j : Nat) => ((j : Int), Value.bool true)))) (fun i _ => n3 + m - (intOf i).toNat)
    case atStart => exact ⟨0, [], _, rfl, Nat.zero_le _, Lib.hid ⟨List.nodup_nil, by simp, hm1, fun j hj => absurd hj (by omega)⟩, J7, T7⟩
    case round =>
      obtain ⟨k, ks, o, rfl, hk, HKS, JW, TW⟩ := hrel
      clear J7 T7
      have hwl : IntKind.i64.wrap ((n3 : Int) + (m : Int)) = ((n3 + m : Nat) : Int) := by rw [IntWalk.i64_in _ (by omega)]; omega
      by_cases hlt : k < n3 + m
      · have hj1 : decide ((k : Int) < ((n3 + m : Nat) : Int)) = true := decide_eq_true (by omega)
        have hj2 : decide (k < n3 + m) = true := decide_eq_true hlt
        have hwk : IntKind.i64.wrap ((k : Int) + 1) = (k : Int) + 1 := IntWalk.i64_in _ (by omega)
        go_upto_if 111 with fail
        clear hj1 hj2 hwl
        go_cut [20] from 112 to 124 (fun v20 wc => ∃ q : Nat, v20 = .int .i64 (q : Int) ∧ q < m ∧ (n3 ≤ k → q = k - n3) ∧ wr = wc)
        case first =>
          by_cases hk3 : k < n3
          · obtain ⟨b3, o3, hp3, hc3, hwf3⟩ := (HN3.out.below JW.out.bl).at_ k (by rw [HN3.out.1]; exact hk3)
            subst hp3
            obtain ⟨w1z, w2z⟩ : 0 ≤ l3[k]'(by rw [HN3.out.1]; exact hk3) ∧ l3[k]'(by rw [HN3.out.1]; exact hk3) ≤ 255 := by simpa [Lit.wf, IntKind.min, IntKind.max, IntKind.signed, IntKind.bits] using hwf3
            generalize l3[k]'(by rw [HN3.out.1]; exact hk3) = z at hc3 w1z w2z hwf3
            obtain ⟨Z, rfl⟩ : ∃ Z : Nat, z = (Z : Int) := ⟨z.toNat, by omega⟩
            have e1 : decide ((k : Int) < (n3 : Int)) = true := decide_eq_true (by omega)
            have q1 : (0 : Int) ≤ (k : Int) := by omega
            have q2 : (k : Int) < (n3 : Int) := by omega
            have hw1 : IntKind.i64.wrap (Z : Int) = (Z : Int) := IntWalk.i64_in _ (by omega)
            have hm0 : ¬ (m : Int) = 0 := by omega
            have hmz : ((m : Int) == 0) = false := by simpa using hm0
            have hml := Nat.mod_lt Z hm1
            have hrem : (Z : Int).tmod (m : Int) = ((Z % m : Nat) : Int) := by rw [Int.tmod_eq_emod_of_nonneg (by omega)]; omega
            have hwr : IntKind.i64.wrap ((Z % m : Nat) : Int) = ((Z % m : Nat) : Int) := IntWalk.i64_in _ (by omega)
            generalize Z % m = ZM at hml hrem hwr
            clear hwf3 w1z w2z
            go_wp2_with fail
            go_meet
            case rel => exact ⟨ZM, rfl, hml, fun h => absurd h (by omega), rfl⟩
          · have e1 : decide ((k : Int) < (n3 : Int)) = false := decide_eq_false (by omega)
            have hws : IntKind.i64.wrap ((k : Int) - (n3 : Int)) = ((k - n3 : Nat) : Int) := by rw [IntWalk.i64_in _ (by omega)]; omega
            go_wp2_with fail
            go_meet
            case rel => exact ⟨k - n3, rfl, by omega, fun _ => rfl, rfl⟩
        case rest =>
          obtain ⟨q, rfl, hq, hqk, rfl⟩ := hcut
          have hE := HEL.out q hq wr (JW.out.get (.tail _ (.tail _ (.head _))))
          have hs3 := (cutD_size (bD id) D m of2 q)
          have q1 : (0 : Int) ≤ (q : Int) := by omega
          have q2 : (q : Int) < (m : Int) := by omega
          have hca := cut_any HCUT.out HB.out HKS.out.1 HKS.out.2.1 HKS.out.2.2.1 hq
          have hz : (cutD (bD id) D m of2 q).da.size ≤ 140737488355328 := by have := HDZ.out; omega
          have HZ := Lib.hid hz
          have HWF : Hid ((Lit.int .i64 (q : Int)).wf = true) := Lib.hid (Go.WalkArith.wf_i64 ⟨by omega, by omega⟩)
          clear hz hs3
          by_cases ht : q ∉ ks ∧ ks.length + 1 = m
          · rw [if_neg ht.1, if_pos ht.2] at hca
            have HCA := Lib.hid hca
            have HT := Lib.hid ht
            clear hca ht
            go_wp2_with (refine pd_ld_mid rfl _ rfl bq (q * 14) rfl (cutD (bD id) D m of2 q) hE ?_)
            refine (putS JW.out (LQ_len ks) (LQ_fine HCUT.out HKS.out.2.1 HKS.out.2.2.1 (by omega)) (cutD (bD id) D m of2 q) HZ.out _ _ _ HCA.out).mono ?_
            rintro e w8 ⟨rfl, hJ8⟩
            have T8 := Lib.hid (TW.out.kept ((hJ8.get (.head _)).trans (JW.out.get (.head _)).symm))
            have J9 := Lib.hid (hJ8.alloc (.cells (pdC (wholeB (bD id) D)) 29 (0, 0)))
            have T9 : Hid (IsTab (w8.alloc (.cells (pdC (wholeB (bD id) D)) 29)) nb (ks.map fun (j : Nat) => ((j : Int), Value.bool true))) := Lib.hid (T8.out.kept (((Below.refl w8.heap.size w8).alloc (Nat.le_refl _) _).block nb T8.out.lt))
            have hst := pd_storeZ w8 (wholeB (bD id) D)
            have HNN : Hid (nb < w8.heap.size) := Lib.hid T8.out.lt
            clear hJ8 hE T8 JW TW
            go_upto_region 35 with (refine wpList_storeW 29 (.tmp 21) (.tmp 131) rfl rfl (.agg (pdC (wholeB (bD id) D))) w8.heap.size rfl rfl hst ?_)
            try simp only [Act.put]
            obtain ⟨n21, hn21⟩ : ∃ n, n = w8.heap.size := ⟨_, rfl⟩
            generalize w8.alloc _ = W9 at J9 T9 ⊢
            rw [← hn21] at J9 HNN ⊢
            clear hst hn21
            go_upto_region 36 with (refine wpList_put_tab rfl (.tmp 133) (.tmp 134) (.const (.bool true)) 67 rfl 3 4 Try.underlying67 Try.underlying3 nb q (.bool true) ks T9.out HWF.out rfl rfl rfl ?_; intro w10 t10 g10)
            have t10b := t10
            obtain ⟨es, clock, hh10, hEn⟩ := t10b
            have J10 : Hid (JoS w w10 ((nb, .map es clock) :: (n21, .cells (pdC (wholeB (bD id) D)) 29 (0, 0)) :: [(n9, .cells (pdC (bD id)) 29 (0, 0)), (bq, .cells cur 29 (0, 0))]) g 5 []) := Lib.hid (JoS.setBlk (o := o) (J9.out.drop (fun p hp => by
              rcases List.mem_cons.1 hp with rfl | hp
              · exact .tail _ (.head _)
              · rcases List.mem_cons.1 hp with rfl | hp
                · exact .head _
                · exact .tail _ (.tail _ hp))) HNB0.out (Turn.of_grown g10 (fun j e => by injection e with e; exact e.symm)) hh10 (fun p hp => by
              have a1 := HNN.out
              have a2 := HN9b.out
              have a3 := HNBb.out
              rcases List.mem_cons.1 hp with rfl | hp
              · show n21 ≠ nb; omega
              · rcases List.mem_cons.1 hp with rfl | hp
                · show n9 ≠ nb; omega
                · rw [List.mem_singleton] at hp; subst hp; show bq ≠ nb; omega))
            have TC := Lib.hid t10
            obtain ⟨cs, hcs⟩ : ∃ cs, cs = (if q ∈ ks then ks else ks ++ [q]).map fun (j : Nat) => ((j : Int), Value.bool true) := ⟨_, rfl⟩
            have tc := t10
            rw [← hcs] at tc
            have hcl : cs.length = (if q ∈ ks then ks else ks ++ [q]).length := by rw [hcs, List.length_map]
            have TL := Lib.hid tc
            clear hcs tc hh10 hEn J9 T9 g10 t10
            have hK : cs.length = m := by rw [hcl, if_neg HT.out.1, List.length_append]; exact HT.out.2
            have eK : ((m : Int) == (m : Int)) = true := by simp
            have tl := TL.out
            have hp9 : PdAt w10 n9 (bD id) := J10.out.get (.tail _ (.tail _ (.head _)))
            have P23 : Hid (PdAt (w10.alloc (.cells (pdC (bD id)) 29)) w10.heap.size (bD id)) := Lib.hid (pd_new _ _ _ rfl)
            have BB := Lib.hid ((Below.refl w10.heap.size w10).alloc (Nat.le_refl _) (.cells (pdC (bD id)) 29))
            have hst9 := pd_storeZ w10 (bD id)
            clear hcl
            go_upto_region 38 with (refine wpList_len_tab _ rfl (.tmp 136) 67 rfl 3 4 Try.underlying67 nb cs tl rfl ?_)
            go_upto_region 39 with fail
            go_upto_region 40 with (first | (refine pd_ld (by rfl) _ rfl n9 rfl _ hp9 ?_) | (refine wpList_storeW 29 (.tmp 23) (.tmp 143) rfl rfl (.agg (pdC (bD id))) w10.heap.size rfl rfl hst9 ?_))
            try simp only [Act.put]
            clear hst9 hp9 tl
            obtain ⟨n23, hn23⟩ : ∃ n, n = w10.heap.size := ⟨_, rfl⟩
            have HN23 : Hid (w10.heap.size ≤ n23) := Lib.hid (by omega)
            generalize w10.alloc _ = WE at P23 BB ⊢
            rw [← hn23] at P23 ⊢
            clear hn23
            have c1 := P23.out.da
            have f1 := P23.out.free 13
            go_upto_region 41 with fail
            have P24 := Lib.hid (PdAt.poke P23.out (i := 13) (v := .string D) (by decide) (wholeB (bD id) D) rfl)
            have BB : Hid (Below w10.heap.size w10 (WE.setCell ⟨n23, 13, none⟩ (.string D))) := Lib.hid (BB.out.setCell HN23.out _)
            clear c1 f1 P23
            generalize World.setCell _ _ _ = WF at P24 BB ⊢
            have J12 := Lib.hid (J10.out.grow BB.out)
            have ha : PdAt WF n21 (wholeB (bD id) D) := J12.out.get (.tail _ (.head _))
            have hb : PdAt WF n23 (wholeB (bD id) D) := P24.out
            have hok : (wholeB (bD id) D).ok := ⟨Go.WalkArith.wf_i64 ⟨by have := HI.out.1; show -9223372036854775808 ≤ id; omega, by have := HI.out.2; show id ≤ 9223372036854775807; omega⟩, by show (Lit.int .i64 6).wf = true; decide, by show (Lit.int .i64 9).wf = true; decide, by show (Lit.int .i64 0).wf = true; decide, by show D.size ≤ maxLen; have := HDZ.out; unfold maxLen; omega⟩
            have hqq := eqld (wholeB (bD id) D) (wholeB (bD id) D) hok hok true (decide_eq_true rfl)
            clear hok
            go_wp2_with (first | (refine pd_ld (by rfl) _ rfl n21 rfl _ ha ?_) | (refine pd_ld (by rfl) _ rfl n23 rfl _ hb ?_) | (refine pd_eq (by rfl) _ _ _ rfl (wholeB (bD id) D) (wholeB (bD id) D) rfl rfl true hqq ?_))
            refine (lenS J12.out (by decide)).mono ?_
            rintro e w13 ⟨rfl, rfl⟩
            go_wp2_with fail
            go_ret
            exact ⟨rfl, J12.out.bl⟩
          · have hca2 : putA (cutD (bD id) D m of2 q) (LQ (bD id) D m of2 ks) = (pdZ, false, LQ (bD id) D m of2 (if q ∈ ks then ks else ks ++ [q])) := by
              rw [hca]
              by_cases c : q ∈ ks
              · rw [if_pos c, if_pos c]
              · rw [if_neg c, if_neg (fun h => ht ⟨c, h⟩), if_neg c]
            have HCA := Lib.hid hca2
            have HT := Lib.hid ht
            clear hca hca2 ht
            go_wp2_with (refine pd_ld_mid rfl _ rfl bq (q * 14) rfl (cutD (bD id) D m of2 q) hE ?_)
            refine (putS JW.out (LQ_len ks) (LQ_fine HCUT.out HKS.out.2.1 HKS.out.2.2.1 (by omega)) (cutD (bD id) D m of2 q) HZ.out _ _ _ HCA.out).mono ?_
            rintro e w8 ⟨rfl, hJ8⟩
            have T8 := Lib.hid (TW.out.kept ((hJ8.get (.head _)).trans (JW.out.get (.head _)).symm))
            have J9 := Lib.hid (hJ8.alloc (.cells (pdC pdZ) 29 (0, 0)))
            have T9 : Hid (IsTab (w8.alloc (.cells (pdC pdZ) 29)) nb (ks.map fun (j : Nat) => ((j : Int), Value.bool true))) := Lib.hid (T8.out.kept (((Below.refl w8.heap.size w8).alloc (Nat.le_refl _) _).block nb T8.out.lt))
            have hst := pd_storeZ w8 pdZ
            have HNN : Hid (nb < w8.heap.size) := Lib.hid T8.out.lt
            clear hJ8 hE T8 JW TW
            go_upto_region 35 with (refine wpList_storeW 29 (.tmp 21) (.tmp 131) rfl rfl (.agg (pdC pdZ)) w8.heap.size rfl rfl hst ?_)
            try simp only [Act.put]
            obtain ⟨n21, hn21⟩ : ∃ n, n = w8.heap.size := ⟨_, rfl⟩
            generalize w8.alloc _ = W9 at J9 T9 ⊢
            rw [← hn21] at J9 HNN ⊢
            clear hst hn21
            go_upto_region 36 with (refine wpList_put_tab rfl (.tmp 133) (.tmp 134) (.const (.bool true)) 67 rfl 3 4 Try.underlying67 Try.underlying3 nb q (.bool true) ks T9.out HWF.out rfl rfl rfl ?_; intro w10 t10 g10)
            have t10b := t10
            obtain ⟨es, clock, hh10, hEn⟩ := t10b
            have J10 : Hid (JoS w w10 ((nb, .map es clock) :: (n21, .cells (pdC pdZ) 29 (0, 0)) :: [(n9, .cells (pdC (bD id)) 29 (0, 0)), (bq, .cells cur 29 (0, 0))]) g 5 (LQ (bD id) D m of2 (if q ∈ ks then ks else ks ++ [q]))) := Lib.hid (JoS.setBlk (o := o) (J9.out.drop (fun p hp => by
              rcases List.mem_cons.1 hp with rfl | hp
              · exact .tail _ (.head _)
              · rcases List.mem_cons.1 hp with rfl | hp
                · exact .head _
                · exact .tail _ (.tail _ hp))) HNB0.out (Turn.of_grown g10 (fun j e => by injection e with e; exact e.symm)) hh10 (fun p hp => by
              have a1 := HNN.out
              have a2 := HN9b.out
              have a3 := HNBb.out
              rcases List.mem_cons.1 hp with rfl | hp
              · show n21 ≠ nb; omega
              · rcases List.mem_cons.1 hp with rfl | hp
                · show n9 ≠ nb; omega
                · rw [List.mem_singleton] at hp; subst hp; show bq ≠ nb; omega))
            have TC := Lib.hid t10
            obtain ⟨cs, hcs⟩ : ∃ cs, cs = (if q ∈ ks then ks else ks ++ [q]).map fun (j : Nat) => ((j : Int), Value.bool true) := ⟨_, rfl⟩
            have tc := t10
            rw [← hcs] at tc
            have hcl : cs.length = (if q ∈ ks then ks else ks ++ [q]).length := by rw [hcs, List.length_map]
            have TL := Lib.hid tc
            clear hcs tc hh10 hEn J9 T9 g10 t10
            obtain ⟨K, hK⟩ : ∃ K, cs.length = K := ⟨_, rfl⟩
            have hKm : K ≠ m := by
              rw [← hK, hcl]
              have hl := HKS.out.2.2.1
              by_cases c : q ∈ ks
              · rw [if_pos c]; omega
              · rw [if_neg c, List.length_append]
                intro h
                exact HT.out ⟨c, h⟩
            have eK : ((K : Int) == (m : Int)) = false := by simp; omega
            have tl := TL.out
            clear hcl
            go_wp2_with (refine wpList_len_tab _ rfl (.tmp 136) 67 rfl 3 4 Try.underlying67 nb cs tl rfl ?_)
            have HKS2 : Hid ((if q ∈ ks then ks else ks ++ [q]).Nodup ∧ (∀ x ∈ (if q ∈ ks then ks else ks ++ [q]), x < m) ∧ (if q ∈ ks then ks else ks ++ [q]).length < m ∧ ∀ j, n3 + j < k + 1 → j ∈ (if q ∈ ks then ks else ks ++ [q])) := Lib.hid (ks_step HKS.out hq hqk HT.out)
            go_roundw
            case rel => exact ⟨k + 1, _, _, by go_num, by omega, HKS2, Lib.hid (J10.out.drop (fun p hp => by
              rcases List.mem_cons.1 hp with rfl | hp
              · exact .head _
              · exact .tail _ (.tail _ hp))), TC⟩
            case measure => simp [intOf]; omega
      · obtain rfl : k = n3 + m := by omega
        obtain ⟨i, hi, hni⟩ := key_lacks HKS.out.1 HKS.out.2.1 HKS.out.2.2.1
        exact absurd (HKS.out.2.2.2 i (by omega)) hni


theorem walk (id : Int) (D : ByteArray) (p2 : Option Addr) (n2 c2 : Nat) (l2 : List Int) (p3 : Option Addr) (n3 c3 : Nat) (l3 : List Int) (w : World) (w0 : (Lit.int .u16 id).wf = true) (w1 : D.size ≤ maxLen) (w2 : IsU8 w p2 n2 l2) (w3 : IsU8 w p3 n3 l3) :
    Calls Try.prog 11 #[.int .u16 id, .string D, .slice p2 n2 c2, .slice p3 n3 c3] w fun e w' => e = .returned (.bool true) ∧ Below w.heap.size w w' := by
  have hm2 : D.size ≤ 9223372036854775807 := by unfold maxLen at w1; omega
  obtain ⟨i0, i1⟩ : 0 ≤ id ∧ id ≤ 65535 := by simpa [Lit.wf, IntKind.min, IntKind.max, IntKind.signed, IntKind.bits] using w0
  by_cases h1 : 1200 < D.size
  · exact walk_out id D hm2 p2 n2 c2 p3 n3 c3 w (.inl h1)
  by_cases h2 : 100 < n2
  · exact walk_out id D hm2 p2 n2 c2 p3 n3 c3 w (.inr (.inl ⟨by omega, h2⟩))
  by_cases h3 : 300 < n3
  · exact walk_out id D hm2 p2 n2 c2 p3 n3 c3 w (.inr (.inr ⟨by omega, by omega, h3⟩))
  exact walk_main id i0 i1 D (by omega) p2 n2 c2 l2 p3 n3 c3 l3 w w2 w3 (by omega) (by omega)

set_option maxRecDepth 100000 in
theorem lifted (os : Os) (started : os.Started) (H : Type) (enc : TypeId × Value → H) :
    ReturnsInHanded {} Try.checked os 11 .any (Rows.ipv4CutsSpec.pre6 enc Try.prog Try.f11 Rows.ipv4CutsRow.domain false) (Rows.ipv4CutsSpec.post enc Try.prog Try.f11 false true false false) := by
  refine returnsInHanded_of_change (C := Try.checked) own started (by kernel_rfl) Try.func11
    (ChangeSpec.witness6 (enc := enc) (C := Try.checked) false ⟨#[], #[.int .u16 0, .string ByteArray.empty, .slice none 0 0, .slice none 0 0], []⟩ 8 (by kernel_rfl) (by kernel_rfl) (by kernel_rfl) (by kernel_rfl)) ?_
  intro W base args ds gs before hval0 hW hcnd _
  have hval : ∀ (j : Nat) t v, Try.f11.params[j]? = some t → args[j]? = some v → Value.okWide Try.prog W .any base t v := hval0
  have hW' := hW
  obtain ⟨p, q, hA0, hV, rfl, hfz, hnd⟩ := hW
  have hA : DataW.TrodAll enc Try.prog W 0 (fun _ => true) true Try.f11.params.toList args.toList ds p := hA0
  rw [Try.params11] at hA hval
  obtain ⟨v0, vs0, d0, ds0, p0, q0, hargs, rfl, rfl, h0, r0⟩ := trodAll_cons hA
  obtain ⟨v1, vs1, d1, ds1, p1, q1, rfl, rfl, rfl, h1, r1⟩ := trodAll_cons r0
  obtain ⟨v2, vs2, d2, ds2, p2, q2, rfl, rfl, rfl, h2, r2⟩ := trodAll_cons r1
  obtain ⟨v3, vs3, d3, ds3, p3, q3, rfl, rfl, rfl, h3, r3⟩ := trodAll_cons r2
  obtain ⟨rfl, rfl, rfl⟩ := trodAll_nil r3
  obtain rfl : args = #[v0, v1, v2, v3] := by cases args; simp_all
  obtain ⟨rfl, rfl⟩ := trodVars_none hV
  obtain ⟨a0, rfl, rfl, rfl, w0⟩ := open_int Try.underlying63 (hval 0 63 v0 rfl rfl) h0
  obtain ⟨a1, rfl, rfl, rfl, w1⟩ := open_string Try.underlying9 (hval 1 9 v1 rfl rfl) h1
  obtain ⟨a2, len2, cap2, rfl⟩ := okWide_slice Try.underlying47 (hval 2 47 v2 rfl rfl)
  have k2 := h2
  have lt2 : ∀ x ∈ p2, x.block < W.heap.size := by obtain ⟨m, hm⟩ := k2; exact DataW.trod_lt m _ _ _ hm
  obtain ⟨l2, w2⟩ : ∃ l, IsU8 W a2 len2 l := by obtain ⟨fuel, hf⟩ := h2; exact open_u8 hf
  obtain ⟨a3, len3, cap3, rfl⟩ := okWide_slice Try.underlying47 (hval 3 47 v3 rfl rfl)
  have k3 := h3
  have lt3 : ∀ x ∈ p3, x.block < W.heap.size := by obtain ⟨m, hm⟩ := k3; exact DataW.trod_lt m _ _ _ hm
  obtain ⟨l3, w3⟩ : ∃ l, IsU8 W a3 len3 l := by obtain ⟨fuel, hf⟩ := h3; exact open_u8 hf
  clear hA0 hval0
  refine (walk a0 a1 a2 len2 cap2 l2 a3 len3 cap3 l3 W w0 w1 w2 w3).mono fun e W' ⟨he, bel⟩ => ?_
  subst he
  exact ⟨_, rfl, _, _, _, [], _, [], hW', trodAll_mk1 (shut_bool Try.underlying4 _), (trodAll_cons_mk (shut_int Try.underlying63 w0) (trodAll_cons_mk (shut_string Try.underlying9 w1) (trodAll_cons_mk (Below.trod laidOut (by kernel_rfl) (of_decide_eq_true (by kernel_rfl)) k2 bel lt2) (trodAll_cons_mk (Below.trod laidOut (by kernel_rfl) (of_decide_eq_true (by kernel_rfl)) k3 bel lt3) trodAll_mk0)))), rfl, bel.frame _, fun h => by cases h⟩

/-- THE STATEMENT. -/
theorem proved : Rows.Ipv4CutsSaid :=
  OpenClaim.holds_of_wide 11 Try.f11 rfl rfl rfl rfl rfl rfl rfl ⟨rfl, rfl, rfl, rfl, rfl⟩ rfl rfl rfl rfl rfl (by kernel_rfl) Try.func11 (by kernel_rfl)
    (of_decide_eq_true (by kernel_rfl)) (by unfold Func.isWrapper; first | (rw [if_pos (by decide +kernel)]; kernel_rfl) | (rw [if_neg (by decide +kernel)]; exact ⟨rfl, rfl⟩))
    (fun os started H enc _ => lifted os started H enc)
#print axioms proved

end Go.Proofs.Ytdckjliocgnbgaa.icu
