/-
  VirtqBack: what a driver offers its device takes, in that order, with the same buffers; what that tells comes back, each once; all descriptors are free then. No conditions.
-/
import Derived.Test.YtkblkojmmjoohaaVBackF
import Derived.ProofKit
import Derived.OpenShut
import Derived.ShutString
import Derived.ChangeOld
import Derived.Below
import Derived.Deep.LoopGhost
import Derived.Deep.DeepCutAuto
import Derived.Deep.CutBlock
namespace Go.Proofs.Ytkblkojmmjoohaa.vback
open Go.ChangeShapes Go.WideShapes Go.ChangeAt Go.RowKit Go.Sort
open Go.ChangeMaps (open_string shut_string)
set_option linter.unusedVariables false

theorem own : ownKnob Try.prog.godebug = none := by kernel_rfl
theorem laidOut : laidOutB Try.prog = true := by kernel_rfl

def PLists (w : World) (p : Option Addr) (len : Nat) (l : List (List Bf)) : Prop := len = l.length ∧ ∃ cap, Lists w (.slice p len cap) l
theorem open_l {H : Type} {enc : TypeId × Value → H} {w : World} {p : Option Addr} {len cap fuel : Nat} {x : DataW H × List MemPlace}
    (h : DataW.trod enc Try.prog w 0 (fun _ => true) true fuel 56 (Value.slice p len cap).cells.toList = some x) : ∃ l, PLists w p len l := by
  obtain ⟨l, hl⟩ := open_lists (v := .slice p len cap) h
  obtain ⟨_, _, e, _⟩ := RowAt.form hl
  injection e with _ e
  exact ⟨l, e, cap, hl⟩
def PBytes (w : World) (p : Option Addr) (len : Nat) (l : List Int) : Prop := len = l.length ∧ ∃ cap, ByteRow w (.slice p len cap) l
theorem open_u {H : Type} {enc : TypeId × Value → H} {w : World} {p : Option Addr} {len cap fuel : Nat} {x : DataW H × List MemPlace}
    (h : DataW.trod enc Try.prog w 0 (fun _ => true) true fuel 37 (Value.slice p len cap).cells.toList = some x) : ∃ l, PBytes w p len l := by
  obtain ⟨l, hl⟩ := open_bytes (v := .slice p len cap) h
  obtain ⟨_, _, e, _⟩ := RowAt.form hl
  injection e with _ e
  exact ⟨l, e, cap, hl⟩

theorem shl_size (a : Int) (h0 : 0 ≤ a) : ∃ n : Nat, isSize n ∧ IntKind.i64.wrap (2 ^ (a % 7).toNat) = (n : Int) := by
  obtain ⟨k, hk, hk7⟩ : ∃ k : Nat, (a % 7).toNat = k ∧ k < 7 := ⟨_, rfl, by omega⟩
  rw [hk]
  match k, hk7 with
  | 0, _ => exact ⟨1, .inl rfl, by decide⟩
  | 1, _ => exact ⟨2, .inr (.inl rfl), by decide⟩
  | 2, _ => exact ⟨4, .inr (.inr (.inl rfl)), by decide⟩
  | 3, _ => exact ⟨8, .inr (.inr (.inr (.inl rfl))), by decide⟩
  | 4, _ => exact ⟨16, .inr (.inr (.inr (.inr (.inl rfl)))), by decide⟩
  | 5, _ => exact ⟨32, .inr (.inr (.inr (.inr (.inr (.inl rfl))))), by decide⟩
  | 6, _ => exact ⟨64, .inr (.inr (.inr (.inr (.inr (.inr rfl))))), by decide⟩

def hs_ (cs : List Oc) : List Int := cs.map fun x => x.c.head
def ms_ (cs : List Oc) : List Int := cs.map fun x => x.c.most

theorem head_cell {B : Nat} {w : World} {g c m : Nat} {cs : List Oc} (h : OwnInts B w (.slice (some ⟨g, 0, none⟩) m c) (hs_ cs)) (k : Nat) (hk : k < cs.length) : w.cell? ⟨g, k, none⟩ = some (.int .i64 cs[k].c.head) := by
  have hk' : k < (hs_ cs).length := by unfold hs_; simpa using hk
  obtain ⟨g', cap, e, _, _, _, _, hc⟩ := h.at_ k hk'
  injection e with e
  injection e with e
  injection e with e
  subst e
  rw [hc k hk']
  simp [hs_]
theorem room_cell {B : Nat} {w : World} {g c m : Nat} {cs : List Oc} (h : OwnInts B w (.slice (some ⟨g, 0, none⟩) m c) (ms_ cs)) (k : Nat) (hk : k < cs.length) : w.cell? ⟨g, k, none⟩ = some (.int .i64 cs[k].c.most) := by
  have hk' : k < (ms_ cs).length := by unfold ms_; simpa using hk
  obtain ⟨g', cap, e, _, _, _, _, hc⟩ := h.at_ k hk'
  injection e with e
  injection e with e
  injection e with e
  subst e
  rw [hc k hk']
  simp [ms_]
theorem heads_inj : ∀ {cs : List Oc} (_ : (cs.map fun x => x.c.head).Nodup) {x y : Oc} (_ : x ∈ cs) (_ : y ∈ cs), y.c.head = x.c.head → y = x
  | [], _, x, y, h, _, _ => by cases h
  | c :: cs, hn, x, y, hx, hy, e => by
    simp only [List.map_cons, List.nodup_cons] at hn
    rcases List.mem_cons.1 hx with h1 | h1 <;> rcases List.mem_cons.1 hy with h2 | h2
    · rw [h1, h2]
    · exact absurd (List.mem_map.2 ⟨y, h2, by rw [e, h1]⟩) hn.1
    · exact absurd (List.mem_map.2 ⟨x, h1, by rw [← e, h2]⟩) hn.1
    · exact heads_inj hn.2 h1 h2 e
theorem wrap_u32 (a : Int) (h0 : 0 ≤ a) (h1 : a ≤ 65536000) : IntKind.u32.wrap a = a := by
  simp [IntKind.wrap, IntKind.bits, IntKind.signed]; omega

theorem hs_erase (cs : List Oc) (k : Nat) : (hs_ cs).eraseIdx k = hs_ (cs.eraseIdx k) := by unfold hs_; rw [map_erase]
theorem ms_erase (cs : List Oc) (k : Nat) : (ms_ cs).eraseIdx k = ms_ (cs.eraseIdx k) := by unfold ms_; rw [map_erase]

/-- What the calls of a queue and its port turn. -/
def BT (q p h mb : Nat) : Nat → Prop := fun k => k = h ∨ k = q ∨ k = mb ∨ k = p
/-- Under way: the chains that are out, their numbers and rooms in two rows of one's own. -/
def Way (w wr : World) (B q p g h n mb : Nat) (v1 v2 : Value) (cs : List Oc) : Prop :=
  (∃ lm off told, VS wr q p g h lm 16 n mb cs off told off told) ∧ OwnInts B wr v1 (hs_ cs) ∧ OwnInts B wr v2 (ms_ cs) ∧ (v1.ownBlock = none ∨ v1.ownBlock ≠ v2.ownBlock) ∧ Below w.heap.size w wr ∧ cs.length ≤ 40 ∧ (∀ x ∈ cs, v1.ownBlock ≠ some x.blk ∧ v2.ownBlock ≠ some x.blk)

set_option maxRecDepth 100000 in
set_option maxHeartbeats 6400000 in
theorem walk (a0 : Int) (a1 : Option Addr) (len1 cap1 : Nat) (L : List (List Bf)) (a2 : Option Addr) (len2 cap2 : Nat) (us : List Int) (w : World) (w0 : (Lit.int .u8 a0).wf = true) (hl : PLists w a1 len1 L) (hu : PBytes w a2 len2 us) :
    Calls Try.prog 4 #[.int .u8 a0, .slice a1 len1 cap1, .slice a2 len2 cap2] w fun e w' => e = .returned (.bool true) ∧ Below w.heap.size w w' := by
  obtain ⟨rfl, cap1', hl⟩ := hl
  obtain ⟨rfl, cap2', hu⟩ := hu
  have hA : Lists w (.slice a1 L.length cap1) L := by
    obtain ⟨p', cap', e, h1, h2⟩ := hl
    injection e with e1 e2 e3
    subst e1
    exact ⟨_, cap1, rfl, h1, h2⟩
  have hU : ByteRow w (.slice a2 us.length cap2) us := by
    obtain ⟨p', cap', e, h1, h2⟩ := hu
    injection e with e1 e2 e3
    subst e1
    exact ⟨_, cap2, rfl, h1, h2⟩
  clear hl hu
  have hm1 : L.length ≤ maxLen := by obtain ⟨_, _, _, h⟩ := RowAt.form hA; exact h
  have hm2 : us.length ≤ maxLen := by obtain ⟨_, _, _, h⟩ := RowAt.form hU; exact h
  unfold maxLen at hm1 hm2
  have HA := Lib.hid hA
  have HU := Lib.hid hU
  clear hA hU
  have h0 : 0 ≤ a0 := by simp [Lit.wf, IntKind.min, IntKind.max, IntKind.bits, IntKind.signed] at w0; omega
  obtain ⟨n, hs, hsh⟩ := shl_size a0 h0
  have h7 : IntKind.u8.wrap (a0 % 7) = a0 % 7 := by simp [Lit.wf] at w0; simp [IntKind.wrap, IntKind.bits, IntKind.signed]; omega
  have hn : 1 ≤ n ∧ n ≤ 64 := by unfold isSize at hs; omega
  have hbar : barOf 8192 16 n = 0 := by unfold isSize at hs; rcases hs with e | e | e | e | e | e | e <;> rw [e] <;> decide +kernel
  have hbn : 16 + bytesOf n ≤ 8192 := by have := bytesOf_bd n; omega
  go_enter Try.func4, Try.ntmps4
  go_wp2_with fail
  refine (vawake_any w).mono ?_
  rintro e w1 ⟨rfl, b1⟩
  by_cases hx1 : 40 < L.length
  · have d1 : decide ((40 : Int) < L.length) = true := decide_eq_true (by omega)
    go_wp2_with fail
    go_ret
    exact ⟨rfl, b1⟩
  have d1 : decide ((40 : Int) < L.length) = false := decide_eq_false (by omega)
  by_cases hx2 : 40 < us.length
  · have d2 : decide ((40 : Int) < us.length) = true := decide_eq_true (by omega)
    go_wp2_with fail
    go_ret
    exact ⟨rfl, b1⟩
  have d2 : decide ((40 : Int) < us.length) = false := decide_eq_false (by omega)
  go_wp2_with fail
  refine (New_ok w1 8192 (by omega) (by omega)).mono ?_
  rintro e w2 ⟨rfl, m2, k2⟩
  have z2 : (List.replicate (8192 : Int).toNat (0 : UInt8)).length = 8192 := by rw [List.length_replicate]; rfl
  generalize List.replicate (8192 : Int).toNat (0 : UInt8) = L2 at m2 z2
  have b2 := b1.grown k2 b1.size (fun j e => by cases e)
  have B1 := b1.size
  clear k2 b1 d1 d2
  obtain ⟨g, hg⟩ : ∃ g, g = w1.heap.size + 1 := ⟨_, rfl⟩
  obtain ⟨h, hh⟩ : ∃ h, h = w1.heap.size := ⟨_, rfl⟩
  rw [← hg, ← hh] at m2
  rw [← hg]
  have hB : w.heap.size ≤ h := by omega
  clear hg hh B1
  go_wp2_with fail
  refine (vNew_ok w2 g h L2 m2 16 n (by rw [z2]; omega) (by rw [z2]; omega) (by omega) (by omega) (by rw [z2]; exact hbar)).mono ?_
  rintro e w3 ⟨q, mb, rfl, hq, hmb, qa, ta, ma, tt⟩
  go_wp2_with fail
  refine (Open_ok w3 g h _ ma 16 n (by rw [wipeL_length, z2]; omega) (by rw [wipeL_length, z2]; omega) (by omega) (by omega) (by rw [wipeL_length, z2]; exact hbar)).mono ?_
  rintro e w4 ⟨p, rfl, hp, pa, ka⟩
  have s4 : VS w4 q p g h (wipeL L2 16 n) 16 n mb [] 0 0 0 0 := vs_made (ma.same ka) (by omega) (qa.kept (ka.block _ (lt_of_block qa) (by simp))) (ta.kept (ka.block _ ta.lt (by simp))) pa (by omega) (by omega) hs
  have hz : w.heap.size ≤ w2.heap.size ∧ w2.heap.size ≤ w3.heap.size := ⟨b2.size, tt.size⟩
  have b4 : Below w.heap.size w w4 := (b2.trans (tt.below b2.size (by rintro k rfl; exact hB))).trans ((Below.of_none ka).mono (by omega))
  have since : ∀ j, BT q p h mb j → w.heap.size ≤ j := by rintro j (rfl | rfl | rfl | rfl) <;> omega
  have lts : ∀ j, BT q p h mb j → j < w4.heap.size := by
    have e1 := s4.both.qs.lts
    have e2 := lt_of_block s4.both.ps.at_
    have e3 := lt_of_block s4.both.qs.mem.2
    rintro j (rfl | rfl | rfl | rfl)
    · exact e3
    · exact e1.1
    · exact e1.2.2.2
    · exact e2
  have way4 : Way w w4 w4.heap.size q p g h n mb (.slice none 0 0) (.slice none 0 0) [] := ⟨⟨_, _, _, s4⟩, OwnInts.nil _ _, OwnInts.nil _ _, .inl rfl, b4, by simp, by simp⟩
  have hBw : w.heap.size ≤ w4.heap.size := b4.size
  have hgl : g < w4.heap.size := lt_of_block s4.both.qs.mem.1
  clear m2 b2 qa ta ma tt pa ka hz hq hmb hp z2 hbar hbn s4 b4 hB
  obtain ⟨B, hBB⟩ : ∃ B, B = w4.heap.size := ⟨_, rfl⟩
  rw [← hBB] at lts way4 hBw hgl
  have hB4 : B ≤ w4.heap.size := by omega
  clear hBB
  have far : ∀ j, B ≤ j → j ≠ q ∧ j ≠ p ∧ j ≠ g ∧ j ≠ h ∧ j ≠ mb := fun j hj => by
    have e1 := lts q (.inr (.inl rfl))
    have e2 := lts p (.inr (.inr (.inr rfl)))
    have e3 := lts h (.inl rfl)
    have e4 := lts mb (.inr (.inr (.inl rfl)))
    omega
  go_wp2_with fail
  go_loopg [14, 15, 16] (L.length) (fun gk v1 v2 iv wr => ∃ (k : Nat) (cs : List Oc), k + gk = L.length ∧ cs.length ≤ k ∧ iv = .int .i64 k ∧ B ≤ wr.heap.size ∧ Way w wr B q p g h n mb v1 v2 cs)
  case atStart => exact ⟨0, [], by omega, by simp, rfl, hB4, way4⟩
  case round =>
    obtain ⟨k, cs, hk, hck, rfl, hBr, Y⟩ := hrel
    clear way4 hB4
    obtain ⟨wq, hwq⟩ : ∃ x, x = wr := ⟨_, rfl⟩
    subst hwq
    by_cases hlt : k < L.length
    · as_aux_lemma =>
        obtain ⟨⟨lm, off, told, S0⟩, O1, O2, hne, bel0, hcs, hap⟩ := Y
        obtain ⟨lb, lo, l, rfl, hlk, v, c0, hrow⟩ := RowAt.at_ HA.out k hlt
        have hlb : lb < w.heap.size := World.block_lt_of_cell? w _ c0
        have ec : wq.cell? ⟨lb, lo + k * 1, none⟩ = some v := by rw [World.cell?_of_block (w := w) (a := ⟨lb, lo + k * 1, none⟩) (bel0.block lb hlb)]; exact c0
        rw [Nat.mul_one] at ec
        have hbd := hrow.bd
        obtain ⟨vp, vc, rfl, hml⟩ := RowAt.form hrow
        unfold maxLen at hml
        have HR := Lib.hid hrow
        have HD := Lib.hid hbd
        clear hrow hbd hlk c0
        by_cases hbig : 100 < l.length
        · have d3 : decide ((100 : Int) < l.length) = true := decide_eq_true (by omega)
          clear S0 O1 O2 HA HU HR HD
          go_wp2_with fail
          go_ret
          exact ⟨rfl, bel0⟩
        have d3 : decide ((100 : Int) < l.length) = false := decide_eq_false (by omega)
        have hbufs := Lib.hid ((BufRow.below HR.out bel0).bufs (by omega))
        by_cases hE : refuseE lm l (freeL (cs.map Oc.c) n).length = 0
        · have AC := Lib.hid (S0.add _ l hbufs.out HD.out hE)
          have HBB : Hid (∀ b ∈ l, 1 ≤ b.n ∧ b.n ≤ 65536) := Lib.hid fun b hb => by
            have hlen := S0.both.qs.len
            obtain ⟨j0, j1, j2⟩ := (refuse_none hE).2.1 b hb
            exact ⟨j1, by omega⟩
          have hlen := S0.both.qs.len
          have hne0 := S0.both.qs.off0
          have hne1 := S0.both.qs.off1
          obtain ⟨_, hn1, hn2, _⟩ := S0.bds
          clear hE hbufs
          go_wp2_with fail
          refine AC.out.mono ?_
          rintro e w5 ⟨x, lm5, rfl, hx, hxb, S5, hoh, hfo, hlm, t5⟩
          have sub5 : Turned (BT q p h mb) wq w5 := t5.mono (by rintro j _ (e | e | e); exact .inl e; exact .inr (.inl e); exact .inr (.inr (.inl e)))
          have hxm : x.c.most = roomOf l := by rw [hx]; rfl
          have HXM := Lib.hid hxm
          have hbl := blk_lt S0
          have hap5 : Hid (∀ y ∈ cs ++ [x], u14.ownBlock ≠ some y.blk ∧ u15.ownBlock ≠ some y.blk) := Lib.hid fun y hy => by
            rcases List.mem_append.1 hy with hy | hy
            · exact hap y hy
            · rw [List.mem_singleton] at hy
              subst hy
              exact ⟨fun e => by have := (O1.lt _ e).2; omega, fun e => by have := (O2.lt _ e).2; omega⟩
          clear AC hx hxm t5 S0 hbl hap
          have NC := Lib.hid (S5.next x.c.head l (by omega) (by omega) hoh hfo)
          clear S5 hoh hfo
          go_wp2_with fail
          refine NC.out.mono ?_
          rintro e w6 ⟨vb, rfl, hvb, S6, t6, _⟩
          have bel6 : Below w.heap.size w w6 := (bel0.trans (sub5.below bel0.size since)).trans (t6.below (Nat.le_trans bel0.size sub5.size) (by rintro j (e | e); exact since _ (.inl e); exact since _ (.inr (.inr (.inr e)))))
          have ec6 : w6.cell? ⟨lb, lo + k, none⟩ = some (.slice vp l.length vc) := by
            rw [World.cell?_of_block (w := w) (a := ⟨lb, lo + k, none⟩) (bel6.block lb hlb), ← World.cell?_of_block (w := w) (w' := wq) (a := ⟨lb, lo + k, none⟩) (bel0.block lb hlb)]
            exact ec
          have hb6 := (BufRow.below HR.out bel6).bufs (by omega)
          have own6 : ∀ {v : Value} {il : List Int}, OwnInts B wq v il → OwnInts B w6 v il := by
            intro v il hO
            have k5 : ∀ j, v.ownBlock = some j → ¬ BT q p h mb j := fun j hj hB => by
              have := (hO.lt j hj).1
              have := lts j hB
              omega
            exact OwnInts.turned (OwnInts.turned hO sub5 k5) (t6.mono (by rintro j _ (e | e); exact .inl e; exact .inr (.inr (.inr e)))) k5
          have O16 := own6 O1
          have O26 := own6 O2
          have hB6 : B ≤ w6.heap.size := by have := sub5.size; have := t6.size; omega
          have SC := Lib.hid (same_any w6 vb _ l hvb hb6)
          obtain ⟨bp, bc, rfl, _⟩ := hvb.form
          have HVB := Lib.hid hvb
          have HS6 := Lib.hid S6
          clear NC S6 t6 hvb hb6 own6 bel0 ec O1 O2 sub5
          go_wp2_with fail
          refine SC.out.mono ?_
          rintro e w7 ⟨rfl, k7⟩
          have bel7 := bel6.grown k7 bel6.size (fun j e => by cases e)
          have O17 := O16.grown k7
          have O27 := O26.grown k7
          have S7 := Lib.hid (HS6.out.grown k7)
          have HV7 := Lib.hid (HVB.out.grown k7)
          have hB7 : B ≤ w7.heap.size := Nat.le_trans hB6 k7.size
          clear SC bel6 O16 O26 HS6 HVB hB6 ec6 k7
          go_wp2_with fail
          go_loop [22, 23] (fun sv jv => ∃ j : Nat, j ≤ l.length ∧ jv = .int .i64 j ∧ sv = .int .i64 (roomOf (l.take j))) (fun _ jv => l.length - (intOf jv).toNat)
          case atStart => exact ⟨0, Nat.zero_le _, rfl, rfl⟩
          case round =>
            obtain ⟨j, hj, rfl, rfl⟩ := hrel
            by_cases hlj : j < l.length
            · obtain ⟨b, bo, y, rfl, hy, y0, y1, y2⟩ := HV7.out.at_ j hlj
              obtain ⟨ya, yn, yw⟩ := y
              simp only at y0 y1 y2
              cases yw with
              | false =>
                have hst := roomOf_at hy
                simp only [Bool.false_eq_true, if_false, Int.add_zero] at hst
                have HST := Lib.hid hst
                clear hst hy
                go_wp2_with fail
                go_round
                case rel => exact ⟨j + 1, by omega, by go_num, by rw [HST.out]⟩
                case measure => simp [intOf]; omega
              | true =>
                have hst := roomOf_at hy
                simp only [if_true] at hst
                have hyn := HBB.out _ (List.mem_of_getElem? hy)
                simp only at hyn
                have hrt := room_take HBB.out (by omega) j
                have HST := Lib.hid hst
                clear hst hy
                go_wp2_with fail
                go_round
                case rel => exact ⟨j + 1, by omega, by go_num, by rw [HST.out]⟩
                case measure => simp [intOf]; omega
            · have hd2 : decide ((j : Int) < l.length) = false := decide_eq_false (by omega)
              have hfin : roomOf (l.take j) = x.c.most := by rw [List.take_of_length_le (by omega)]; exact HXM.out.symm
              rw [hfin]
              clear hfin HV7
              have hcl : (hs_ cs).length ≤ 40 ∧ (ms_ cs).length ≤ 40 := by unfold hs_ ms_; rw [List.length_map, List.length_map]; omega
              obtain ⟨v1', w8, hr1, O18, kg1, nb1⟩ := O17.push hB7 x.c.head (by omega)
              have O28 := O27.beside kg1 hne
              obtain ⟨v2', w9, hr2, O29, kg2, nb2⟩ := O28.push (Nat.le_trans hB7 kg1.size) x.c.most (by omega)
              have hne9 := apart_push hne nb1 nb2 (fun k hk => (O18.lt k hk).2) (fun k hk => (O27.lt k hk).2)
              have hne28 : u15.ownBlock = none ∨ u15.ownBlock ≠ v1'.ownBlock := by
                by_cases h0 : u15.ownBlock = none
                · exact .inl h0
                · refine .inr fun e => ?_
                  obtain ⟨k', hk'⟩ := Option.ne_none_iff_exists'.1 h0
                  have l2 := (O27.lt k' hk').2
                  rcases nb1 with nb1 | ⟨j1, nb1, hj1⟩
                  · rcases hne with hn | hn
                    · rw [e, nb1, hn] at hk'; cases hk'
                    · exact hn (by rw [← nb1, e])
                  · rw [← e, hk'] at nb1
                    injection nb1 with nb1
                    omega
              have O19 := O18.beside kg2 hne28
              have S9 : VS w9 q p g h lm5 16 n mb (cs ++ [x]) ((off + 1) % 65536) told ((off + 1) % 65536) told :=
                (S7.out.kept_row kg1 (fun j hj => far j (O17.lt j hj).1) (fun y hy => (hap5.out y hy).1)).kept_row kg2 (fun j hj => far j (O28.lt j hj).1) (fun y hy => (hap5.out y hy).2)
              have bel9 : Below w.heap.size w w9 := (bel7.grown kg1 bel7.size (fun j hj => Nat.le_trans hBw (O17.lt j hj).1)).grown kg2 (Nat.le_trans bel7.size kg1.size) (fun j hj => Nat.le_trans hBw (O28.lt j hj).1)
              have hb9 := blk_lt S7.out
              have hap9 : ∀ y ∈ cs ++ [x], v1'.ownBlock ≠ some y.blk ∧ v2'.ownBlock ≠ some y.blk := fun y hy => by
                have h7 := hb9 y hy
                have h8 := kg1.size
                refine ⟨fun e => ?_, fun e => ?_⟩
                · rcases nb1 with nb1 | ⟨j1, nb1, hj1⟩
                  · exact (hap5.out y hy).1 (by rw [← nb1, e])
                  · rw [e] at nb1; injection nb1 with nb1; omega
                · rcases nb2 with nb2 | ⟨j2, nb2, hj2⟩
                  · exact (hap5.out y hy).2 (by rw [← nb2, e])
                  · rw [e] at nb2; injection nb2 with nb2; omega
              have Y9 : Way w w9 B q p g h n mb v1' v2' (cs ++ [x]) := ⟨⟨_, _, _, S9⟩, by unfold hs_; rw [List.map_append]; exact O19, by unfold ms_; rw [List.map_append]; exact O29, hne9, bel9, by rw [List.length_append, List.length_singleton]; omega, hap9⟩
              have hB9 : B ≤ w9.heap.size := by have := kg1.size; have := kg2.size; omega
              clear O17 O27 O28 O18 O19 O29 kg1 kg2 nb1 nb2 hne9 hne28 S9 bel9 hap9 hb9 hap5 S7 bel7 hne hxb HXM HBB
              go_wp2_with (at_builtin; first | (refine wpList_append_run _ rfl _ _ 43 rfl _ _ v1' w8 rfl rfl hr1 ?_; clear hr1) | (refine wpList_append_run _ rfl _ _ 43 rfl _ _ v2' w9 rfl rfl hr2 ?_; clear hr2))
              go_roundg (gk - 1)
              case measure => omega
              case rel => exact ⟨k + 1, cs ++ [x], by omega, by rw [List.length_append, List.length_singleton]; omega, by go_num, hB9, Y9⟩
        · have EC := Lib.hid (Add_err wq q g h lm 16 n mb cs _ _ S0.both.qs _ l hbufs.out HD.out _ rfl (by simpa using hE))
          have hE2 : (refuseE lm l (freeL (cs.map Oc.c) n).length != 0) = true := by simpa using hE
          obtain ⟨E, hEE⟩ : ∃ E, E = refuseE lm l (freeL (cs.map Oc.c) n).length := ⟨_, rfl⟩
          rw [← hEE] at EC hE2
          clear hE hEE hbufs
          go_wp2_with fail
          refine EC.out.mono ?_
          rintro e w5 ⟨rfl, k5⟩
          have Y5 : Way w w5 B q p g h n mb u14 u15 cs := ⟨⟨_, _, _, S0.grown k5⟩, O1.grown k5, O2.grown k5, hne, bel0.grown k5 bel0.size (fun j e => by cases e), hcs, hap⟩
          have hB5 : B ≤ w5.heap.size := Nat.le_trans hBr k5.size
          clear EC S0 O1 O2 hne bel0 hap k5
          go_wp2_with fail
          go_roundg (gk - 1)
          case measure => omega
          case rel => exact ⟨k + 1, cs, by omega, by omega, by go_num, hB5, Y5⟩
    · have hk0 : k = L.length := by omega
      have hd : decide ((k : Int) < L.length) = false := decide_eq_false (by omega)
      obtain ⟨⟨lm, off, told, S0⟩, O1, O2, hne, bel0, hcs, hap⟩ := Y
      have hl1 : (hs_ cs).length = cs.length := by unfold hs_; rw [List.length_map]
      have hl2 : (ms_ cs).length = cs.length := by unfold ms_; rw [List.length_map]
      obtain ⟨p1, c1, rfl⟩ := O1.form
      rw [hl1] at O1 hne hap
      rw [hl1]
      have NC := Lib.hid (S0.next_none rfl)
      clear hk0 HA hl1 hl2
      go_wp2_with fail
      refine NC.out.mono ?_
      rintro e w5 ⟨rfl, S5, k5⟩
      have O15 := O1.grown k5
      have O25 := O2.grown k5
      have bel5 := bel0.grown k5 bel0.size (fun j e => by cases e)
      have hB5 : B ≤ w5.heap.size := Nat.le_trans hBr k5.size
      have OC := Out_any w5 q g 16 n mb _ _ _ (cs.map Oc.ent) S5.both.qs.at_ S5.both.qs.tab
      rw [List.length_map] at OC
      have OC2 := Lib.hid OC
      have Y5 : Way w w5 B q p g h n mb (.slice p1 cs.length c1) u15 cs := ⟨⟨_, _, _, S5⟩, O15, O25, hne, bel5, hcs, hap⟩
      clear NC OC S5 O15 O25 O1 O2 bel0 bel5 hne hap S0 k5
      go_wp2_with fail
      refine OC2.out.mono ?_
      rintro e w6 ⟨rfl, rfl⟩
      clear OC2
      go_wp2_with fail
      go_loopg [14, 15, 27] (cs.length) (fun gk v1 v2 iv wr => ∃ (i : Nat) (cs : List Oc), cs.length = gk ∧ i + gk ≤ 40 ∧ iv = .int .i64 i ∧ B ≤ wr.heap.size ∧ Way w wr B q p g h n mb v1 v2 cs)
      case atStart => exact ⟨0, cs, rfl, by omega, rfl, hB5, Y5⟩
      case round =>
        clear Y5 hB5 hBr hcs hck hd
        obtain ⟨i, cs, hlen, hi, rfl, hBr, Y⟩ := hrel
        obtain ⟨w9, hw9⟩ : ∃ x, x = wr := ⟨_, rfl⟩
        subst hw9
        by_cases hz : 0 < cs.length
        · have hz1 : decide ((0 : Int) < cs.length) = true := decide_eq_true (by omega)
          obtain ⟨⟨lm, off, told, S0⟩, O1, O2, hne, bel0, hcs, hap⟩ := Y
          have hl1 : (hs_ cs).length = cs.length := by unfold hs_; rw [List.length_map]
          have hl2 : (ms_ cs).length = cs.length := by unfold ms_; rw [List.length_map]
          obtain ⟨g1, c1, rfl, hc1, hm1', hg1, hg1', _⟩ := O1.at_ 0 (by omega)
          obtain ⟨g2, c2, rfl, hc2, hm2', hg2, hg2', _⟩ := O2.at_ 0 (by omega)
          rw [hl1] at O1 hne hap hc1
          rw [hl2] at O2 hne hap hc2
          rw [hl1, hl2]
          unfold maxLen at hm1' hm2'
          have hz0 : ((cs.length : Int) == 0) = false := beq_eq_false_iff_ne.2 (by omega)
          have HU9 := Lib.hid (ByteRow.below HU.out bel0)
          have HL1 := Lib.hid hl1
          have HL2 := Lib.hid hl2
          have HLEN := Lib.hid hlen
          clear hl1 hl2 hlen
          go_upto_if 161 with fail
          go_cut [28] (fun s28 wx => ∃ kk : Nat, kk < cs.length ∧ s28 = .int .i64 kk ∧ wx = w9)
          case first =>
            by_cases hi2 : i < us.length
            · obtain ⟨ub, uo, xi, rfl, hxi, ⟨hx0, hx1⟩, hxc⟩ := RowAt.at_ HU9.out i hi2
              rw [Nat.mul_one] at hxc
              obtain ⟨xn, rfl⟩ := Int.eq_ofNat_of_zero_le hx0
              clear hxi hx0
              go_wp2_with fail
              go_meet
              case rel => exact ⟨xn % cs.length, Nat.mod_lt _ (by omega), by simp, rfl⟩
            · have hi3 : decide ((i : Int) < us.length) = false := decide_eq_false (by omega)
              go_wp2_with fail
              go_meet
              case rel => exact ⟨0, hz, rfl, rfl⟩
          case rest =>
            obtain ⟨kk, hkk, rfl, rfl⟩ := hcut
            clear HU9
            obtain ⟨x, hx⟩ : ∃ x, x = cs[kk] := ⟨_, rfl⟩
            have hxm : x ∈ cs := by rw [hx]; exact List.getElem_mem _
            have hnd := heads_nodup S0.both.qs
            obtain ⟨hx0, hx1⟩ : 0 ≤ x.c.head ∧ x.c.head ≤ 63 := (S0.both.qs.nums x hxm).2.2 _ (S0.both.qs.heads x hxm)
            obtain ⟨hr0, hr1⟩ := S0.both.qs.rooms x hxm
            have hb0 := S0.both.qs.back0
            have hb1 := S0.both.qs.back1
            have u1 : IntKind.u32.wrap x.c.head = x.c.head := wrap_u32 _ hx0 (by omega)
            have u2 : IntKind.u32.wrap x.c.most = x.c.most := wrap_u32 _ hr0 hr1
            have HX := Lib.hid hx
            have hk2 : (kk : Int) < cs.length := by omega
            clear hx
            go_wp2_with fail
            refine region_tail 11 (by kernel_rfl) (by kernel_rfl) (fun V d => ?_)
            have SV := S0.grown d.grown
            have O1V := O1.grown d.grown
            have O2V := O2.grown d.grown
            have belV := bel0.grown d.grown bel0.size (fun j e => by cases e)
            have a1 : V.cell? ⟨g1, kk, none⟩ = some (.int .i64 x.c.head) := by rw [HX.out]; exact head_cell O1V kk hkk
            have a2 : V.cell? ⟨g2, kk, none⟩ = some (.int .i64 x.c.most) := by rw [HX.out]; exact room_cell O2V kk hkk
            have hBV : B ≤ V.heap.size := Nat.le_trans hBr d.grown.size
            have DC := Lib.hid (SV.done x.c.head x.c.most hx0 (by omega) hr0 (by omega))
            clear S0 O1 O2 bel0 d SV
            simp only [List.take_succ_cons, List.take_zero, List.drop_succ_cons, List.drop_zero]
            repeat still_step
            refine wpStill_nil ?_
            go_wp2_with fail
            refine DC.out.mono ?_
            rintro e w6 ⟨lm6, rfl, S6, hun, hul, hlm6, t6⟩
            have sub6 : Turned (BT q p h mb) V w6 := t6.mono (by rintro j _ (e | e); exact .inl e; exact .inr (.inr (.inr e)))
            have nb1 : ∀ j, (Value.slice (some ⟨g1, 0, none⟩) cs.length c1).ownBlock = some j → ¬ BT q p h mb j := fun j hj hB => by
              have := (O1V.lt j hj).1
              have := lts j hB
              omega
            have nb2 : ∀ j, (Value.slice (some ⟨g2, 0, none⟩) cs.length c2).ownBlock = some j → ¬ BT q p h mb j := fun j hj hB => by
              have := (O2V.lt j hj).1
              have := lts j hB
              omega
            have O16 := O1V.turned sub6 nb1
            have O26 := O2V.turned sub6 nb2
            have bel6 := belV.trans (sub6.below belV.size since)
            have hB6 : B ≤ w6.heap.size := Nat.le_trans hBV sub6.size
            have PC := Lib.hid (S6.pop x.c.head x.c.most (by omega) (by omega) hun hul ⟨x, hxm, rfl⟩ (fun y hy e => by rw [heads_inj hnd hxm hy e]; exact Int.le_refl _))
            clear DC S6 hun hul t6 sub6 O1V O2V belV a1 a2 hBV u1 u2
            go_wp2_with fail
            refine PC.out.mono ?_
            rintro e w7 ⟨rfl, S7, t7⟩
            have sub7 : Turned (BT q p h mb) w6 w7 := t7.mono (by rintro j _ (e | e | e); exact .inl e; exact .inr (.inl e); exact .inr (.inr (.inl e)))
            have O17 := O16.turned sub7 nb1
            have O27 := O26.turned sub7 nb2
            have bel7 := bel6.trans (sub7.below bel6.size since)
            have hB7 : B ≤ w7.heap.size := Nat.le_trans hB6 sub7.size
            have a1 : w7.cell? ⟨g1, kk, none⟩ = some (.int .i64 x.c.head) := by rw [HX.out]; exact head_cell O17 kk hkk
            have a2 : w7.cell? ⟨g2, kk, none⟩ = some (.int .i64 x.c.most) := by rw [HX.out]; exact room_cell O27 kk hkk
            have hF : (cs.filter fun y => y.c.head != x.c.head) = cs.eraseIdx kk := by rw [HX.out]; exact erase_head cs hnd kk hkk
            rw [hF] at S7
            have HS7 := Lib.hid S7
            clear PC t7 sub7 O16 O26 bel6 hB6 nb1 nb2 hF hnd S7
            go_wp2_with fail
            have hc1' : (cs.length : Int) ≤ c1 := by omega
            have hw1 : IntKind.i64.wrap ((kk : Int) + 1) = ((kk + 1 : Nat) : Int) := by rw [IntWalk.i64_in _ (by omega)]; rfl
            have hkc1 : kk ≤ c1 := by omega
            have hkc2 : kk ≤ c2 := by omega
            have hk3 : (kk : Int) + 1 ≤ cs.length := by omega
            have hk4 : (0 : Int) ≤ (kk : Int) + 1 := by omega
            obtain ⟨o1, ho1, ho1'⟩ : ∃ o, (if c1 = kk + 1 then some (⟨g1, 0, none⟩ : Addr) else some ⟨g1, kk + 1, none⟩) = some ⟨g1, o, none⟩ ∧ (o = kk + 1 ∨ c1 = kk + 1) := by
              by_cases h : c1 = kk + 1
              · exact ⟨0, by rw [if_pos h], .inr h⟩
              · exact ⟨kk + 1, by rw [if_neg h], .inl rfl⟩
            obtain ⟨o2, ho2, ho2'⟩ : ∃ o, (if c2 = kk + 1 then some (⟨g2, 0, none⟩ : Addr) else some ⟨g2, kk + 1, none⟩) = some ⟨g2, o, none⟩ ∧ (o = kk + 1 ∨ c2 = kk + 1) := by
              by_cases h : c2 = kk + 1
              · exact ⟨0, by rw [if_pos h], .inr h⟩
              · exact ⟨kk + 1, by rw [if_neg h], .inl rfl⟩
            have hoo1 := Lib.hid ho1'
            have hoo2 := Lib.hid ho2'
            clear ho1' ho2'
            refine wp_region_noPanic ?_
            refine region_held (S := fun _ => True) (by kernel_rfl) (fun _ _ => trivial) (fun V1 d1 hS1 => ?_)
            obtain ⟨x11, X11, x12, X12, r11, r12, OS1, KS1⟩ := (O17.grown d1.grown).strike kk (by rw [HL1.out]; exact hkk) o1 (by rw [HL1.out]; rcases hoo1.out with h | h; exact .inl h; exact .inr (by omega))
            rw [HL1.out] at r12
            refine wpAnyH_take (i := 1) (v := (.slice (some ⟨g1, 0, none⟩) cs.length c1)) rfl (by kernel_rfl) (by kernel_rfl) (by kernel_rfl) (fun _ _ _ h => h) (Or.inl ⟨by rfl, fun w' h' => ?_⟩) hS1 ?_
            · clear h'
              go_simp
            simp only [Act.put]
            refine wpAnyH_take (i := 2) (v := (.int .i64 kk)) rfl (by kernel_rfl) (by kernel_rfl) (by kernel_rfl) (fun _ _ _ h => h) (Or.inl ⟨by rfl, fun w' h' => ?_⟩) hS1 ?_
            · clear h'
              go_simp
            simp only [Act.put]
            refine wpAnyH_take (i := 3) (v := (.slice (some ⟨g1, 0, none⟩) kk c1)) rfl (by kernel_rfl) (by kernel_rfl) (by kernel_rfl) (fun _ _ _ h => h) (Or.inl ⟨by rfl, fun w' h' => ?_⟩) hS1 ?_
            · clear h'
              go_simp
            simp only [Act.put]
            refine wpAnyH_take (i := 5) (v := (.slice (some ⟨g1, 0, none⟩) cs.length c1)) rfl (by kernel_rfl) (by kernel_rfl) (by kernel_rfl) (fun _ _ _ h => h) (Or.inl ⟨by rfl, fun w' h' => ?_⟩) hS1 ?_
            · clear h'
              go_simp
            simp only [Act.put]
            refine wpAnyH_take (i := 6) (v := (.int .i64 kk)) rfl (by kernel_rfl) (by kernel_rfl) (by kernel_rfl) (fun _ _ _ h => h) (Or.inl ⟨by rfl, fun w' h' => ?_⟩) hS1 ?_
            · clear h'
              go_simp
            simp only [Act.put]
            refine wpAnyH_take (i := 7) (v := (.int .i64 (kk + 1 : Nat))) rfl (by kernel_rfl) (by kernel_rfl) (by kernel_rfl) (fun _ _ _ h => h) (Or.inl ⟨by rfl, fun w' h' => ?_⟩) hS1 ?_
            · clear h'
              go_simp
            simp only [Act.put]
            refine wpAnyH_take (i := 8) (v := (.slice (some ⟨g1, o1, none⟩) (cs.length - (kk + 1)) (c1 - (kk + 1)))) rfl (by kernel_rfl) (by kernel_rfl) (by kernel_rfl) (fun _ _ _ h => h) (Or.inl ⟨by rfl, fun w' h' => ?_⟩) hS1 ?_
            · clear h'
              go_simp
            simp only [Act.put]
            refine wpAnyH_ready (rs := [0]) (by kernel_rfl) (by simp) ?_
            refine AllReadyH.cons rfl (fun K hK => ?_) AllReadyH.nil
            go_simp
            refine hK.out _ _ trivial (fun _ => ?_)
            clear hK K
            refine wpAnyH_ready (rs := [4]) (by kernel_rfl) (by simp) ?_
            refine AllReadyH.cons rfl (fun K hK => ?_) AllReadyH.nil
            rw [if_pos (by rfl)]
            refine wp_append_run _ _ _ 43 rfl _ _ x11 X11 rfl rfl r11 ?_
            go_simp
            refine hK.out _ _ trivial (fun _ => ?_)
            clear hK K
            refine wpAnyH_ready (rs := [9]) (by kernel_rfl) (by simp) ?_
            refine AllReadyH.cons rfl (fun K hK => ?_) AllReadyH.nil
            rw [if_pos (by rfl)]
            refine wp_append_run _ _ _ 43 rfl _ _ x12 X12 rfl rfl r12 ?_
            go_simp
            refine hK.out _ _ trivial (fun _ => ?_)
            clear hK K
            refine wpAnyH_take (i := 10) (oi := ⟨some 14, Op.assign (Operand.tmp 215), _, _, _, _⟩) (v := x12) rfl (by kernel_rfl) (by kernel_rfl) (by kernel_rfl) (fun _ _ _ h => h) (Or.inl ⟨by rfl, fun w' h' => ?_⟩) hS1 ?_
            · clear h'
              go_simp
            simp only [Act.put]
            refine wpAnyH_done (by kernel_rfl) (NoPanic.normal ?_) _
            clear r11 r12 hS1
            have O28 := (O27.grown d1.grown).grown KS1
            have HSX := Lib.hid ((HS7.out.grown d1.grown).grown KS1)
            have belX := (bel7.grown d1.grown bel7.size (fun j e => by cases e)).grown KS1 (Nat.le_trans bel7.size d1.grown.size) (fun j e => by cases e)
            have hBX : B ≤ X12.heap.size := Nat.le_trans hB7 (Nat.le_trans d1.grown.size KS1.size)
            have hVX : w7.heap.size ≤ V1.heap.size := d1.grown.size
            have KS1size := KS1.size
            have hbl7 := blk_lt HS7.out
            clear O17 O27 HS7 bel7 KS1 d1 ho1
            go_wp2_with fail
            refine wp_region_noPanic ?_
            refine region_held (S := fun _ => True) (by kernel_rfl) (fun _ _ => trivial) (fun V2 d2 hS2 => ?_)
            obtain ⟨x21, X21, x22, X22, r21, r22, OS2, KS2⟩ := (O28.grown d2.grown).strike kk (by rw [HL2.out]; exact hkk) o2 (by rw [HL2.out]; rcases hoo2.out with h | h; exact .inl h; exact .inr (by omega))
            rw [HL2.out] at r22
            refine wpAnyH_take (i := 1) (v := (.slice (some ⟨g2, 0, none⟩) cs.length c2)) rfl (by kernel_rfl) (by kernel_rfl) (by kernel_rfl) (fun _ _ _ h => h) (Or.inl ⟨by rfl, fun w' h' => ?_⟩) hS2 ?_
            · clear h'
              go_simp
            simp only [Act.put]
            refine wpAnyH_take (i := 2) (v := (.int .i64 kk)) rfl (by kernel_rfl) (by kernel_rfl) (by kernel_rfl) (fun _ _ _ h => h) (Or.inl ⟨by rfl, fun w' h' => ?_⟩) hS2 ?_
            · clear h'
              go_simp
            simp only [Act.put]
            refine wpAnyH_take (i := 3) (v := (.slice (some ⟨g2, 0, none⟩) kk c2)) rfl (by kernel_rfl) (by kernel_rfl) (by kernel_rfl) (fun _ _ _ h => h) (Or.inl ⟨by rfl, fun w' h' => ?_⟩) hS2 ?_
            · clear h'
              go_simp
            simp only [Act.put]
            refine wpAnyH_take (i := 5) (v := (.slice (some ⟨g2, 0, none⟩) cs.length c2)) rfl (by kernel_rfl) (by kernel_rfl) (by kernel_rfl) (fun _ _ _ h => h) (Or.inl ⟨by rfl, fun w' h' => ?_⟩) hS2 ?_
            · clear h'
              go_simp
            simp only [Act.put]
            refine wpAnyH_take (i := 6) (v := (.int .i64 kk)) rfl (by kernel_rfl) (by kernel_rfl) (by kernel_rfl) (fun _ _ _ h => h) (Or.inl ⟨by rfl, fun w' h' => ?_⟩) hS2 ?_
            · clear h'
              go_simp
            simp only [Act.put]
            refine wpAnyH_take (i := 7) (v := (.int .i64 (kk + 1 : Nat))) rfl (by kernel_rfl) (by kernel_rfl) (by kernel_rfl) (fun _ _ _ h => h) (Or.inl ⟨by rfl, fun w' h' => ?_⟩) hS2 ?_
            · clear h'
              go_simp
            simp only [Act.put]
            refine wpAnyH_take (i := 8) (v := (.slice (some ⟨g2, o2, none⟩) (cs.length - (kk + 1)) (c2 - (kk + 1)))) rfl (by kernel_rfl) (by kernel_rfl) (by kernel_rfl) (fun _ _ _ h => h) (Or.inl ⟨by rfl, fun w' h' => ?_⟩) hS2 ?_
            · clear h'
              go_simp
            simp only [Act.put]
            refine wpAnyH_ready (rs := [0]) (by kernel_rfl) (by simp) ?_
            refine AllReadyH.cons rfl (fun K hK => ?_) AllReadyH.nil
            go_simp
            refine hK.out _ _ trivial (fun _ => ?_)
            clear hK K
            refine wpAnyH_ready (rs := [4]) (by kernel_rfl) (by simp) ?_
            refine AllReadyH.cons rfl (fun K hK => ?_) AllReadyH.nil
            rw [if_pos (by rfl)]
            refine wp_append_run _ _ _ 43 rfl _ _ x21 X21 rfl rfl r21 ?_
            go_simp
            refine hK.out _ _ trivial (fun _ => ?_)
            clear hK K
            refine wpAnyH_ready (rs := [9]) (by kernel_rfl) (by simp) ?_
            refine AllReadyH.cons rfl (fun K hK => ?_) AllReadyH.nil
            rw [if_pos (by rfl)]
            refine wp_append_run _ _ _ 43 rfl _ _ x22 X22 rfl rfl r22 ?_
            go_simp
            refine hK.out _ _ trivial (fun _ => ?_)
            clear hK K
            refine wpAnyH_take (i := 10) (oi := ⟨some 15, Op.assign (Operand.tmp 225), _, _, _, _⟩) (v := x22) rfl (by kernel_rfl) (by kernel_rfl) (by kernel_rfl) (fun _ _ _ h => h) (Or.inl ⟨by rfl, fun w' h' => ?_⟩) hS2 ?_
            · clear h'
              go_simp
            simp only [Act.put]
            refine wpAnyH_done (by kernel_rfl) (NoPanic.normal ?_) _
            clear r21 r22 hS2
            have SZ := (HSX.out.grown d2.grown).grown KS2
            have belZ := (belX.grown d2.grown belX.size (fun j e => by cases e)).grown KS2 (Nat.le_trans belX.size d2.grown.size) (fun j e => by cases e)
            have O1Z := ((OS1.grown d2.grown).grown KS2).lower (B := B) (Nat.le_trans hB7 hVX)
            have O2Z := OS2.lower (B := B) (Nat.le_trans hBX d2.grown.size)
            rw [hs_erase] at O1Z
            rw [ms_erase] at O2Z
            have hlz : (cs.eraseIdx kk).length = cs.length - 1 := by rw [List.length_eraseIdx, if_pos hkk]
            have YZ : Way w X22 B q p g h n mb x12 x22 (cs.eraseIdx kk) := by
              have hsz := d2.grown.size
              refine ⟨⟨_, _, _, SZ⟩, O1Z, O2Z, ?_, belZ, by omega, fun y hy => ?_⟩
              · by_cases h0 : x12.ownBlock = none
                · exact .inl h0
                · refine .inr fun e => ?_
                  obtain ⟨j, hj⟩ := Option.ne_none_iff_exists'.1 h0
                  have h3 := (OS1.lt j hj).2
                  have h4 := (OS2.lt j (by rw [← e]; exact hj)).1
                  omega
              · have h2 := hbl7 y hy
                refine ⟨fun e => ?_, fun e => ?_⟩
                · have := (OS1.lt _ e).1
                  omega
                · have := (OS2.lt _ e).1
                  have := KS1size
                  omega
            have hBZ : B ≤ X22.heap.size := Nat.le_trans hBX (Nat.le_trans d2.grown.size KS2.size)
            have hm9 := Lib.hid (show gk - 1 < gk ∧ cs.length - 1 = gk - 1 by have := HLEN.out; omega)
            have HLZ := Lib.hid hlz
            clear SZ belZ O1Z O2Z OS1 OS2 KS2 d2 O28 HSX belX hlz ho2
            go_wp2_with fail
            go_roundg (gk - 1)
            case measure => exact hm9.out.1
            case rel => exact ⟨i + 1, cs.eraseIdx kk, by rw [HLZ.out]; exact hm9.out.2, by have := HLEN.out; omega, by go_num, hBZ, YZ⟩
        · as_aux_lemma =>
            have hc0 : cs = [] := List.eq_nil_of_length_eq_zero (by omega)
            subst hc0
            obtain ⟨⟨lm, off, told, S0⟩, O1, O2, _, bel0, _, _⟩ := Y
            obtain ⟨p1, c1, rfl⟩ := O1.form
            rw [show (hs_ []).length = 0 from rfl]
            have PC := Lib.hid (S0.pop_none rfl)
            clear O1 O2 hlen hz
            go_wp2_with fail
            refine PC.out.mono ?_
            rintro e w5 ⟨rfl, S5, k5⟩
            have bel5 := bel0.grown k5 bel0.size (fun j e => by cases e)
            have FC := Lib.hid (vFree_any w5 q g 16 n mb _ _ _ S5.both.qs.at_ [] S5.both.qs.tab S5.both.qs.nums hn.2)
            rw [show (freeL (([] : List Oc).map Oc.c) n).length = n from free_all n] at FC
            clear PC bel0 S0 k5
            go_wp2_with fail
            refine FC.out.mono ?_
            rintro e w6 ⟨rfl, k6⟩
            have S6 := S5.grown k6
            have bel6 := bel5.grown k6 bel5.size (fun j e => by cases e)
            have OC := Lib.hid (Out_any w6 q g 16 n mb _ _ _ [] S6.both.qs.at_ S6.both.qs.tab)
            clear FC S5 bel5 k6
            go_wp2_with fail
            refine OC.out.mono ?_
            rintro e w7 ⟨rfl, rfl⟩
            go_wp2_with fail
            refine (Broken_any w6 q g 16 n _ _ _ false S6.both.qs.at_).mono ?_
            rintro e w7 ⟨rfl, rfl⟩
            go_wp2_with fail
            go_ret
            exact ⟨rfl, bel6⟩


set_option maxRecDepth 100000 in
theorem lifted (os : Os) (started : os.Started) (H : Type) (enc : TypeId × Value → H) :
    ReturnsInHanded {} Try.checked os 4 .any (Rows.virtqBackSpec.pre6 enc Try.prog Try.f4 Rows.virtqBackRow.domain false) (Rows.virtqBackSpec.post enc Try.prog Try.f4 false true false false) := by
  refine returnsInHanded_of_change (C := Try.checked) own started (by kernel_rfl) Try.func4
    (ChangeSpec.witness6 (enc := enc) (C := Try.checked) false ⟨#[], #[.int .u8 0, .slice none 0 0, .slice none 0 0], []⟩ 8 (by kernel_rfl) (by kernel_rfl) (by kernel_rfl) (by kernel_rfl)) ?_
  intro W base args ds gs before hval0 hW hcnd _
  have hval : ∀ (j : Nat) t v, Try.f4.params[j]? = some t → args[j]? = some v → Value.okWide Try.prog W .any base t v := hval0
  have hW' := hW
  obtain ⟨p, q, hA0, hV, rfl, hfz, hnd⟩ := hW
  have hA : DataW.TrodAll enc Try.prog W 0 (fun _ => true) true Try.f4.params.toList args.toList ds p := hA0
  rw [Try.params4] at hA hval
  obtain ⟨v0, vs0, d0, ds0, p0, q0, hargs, rfl, rfl, h0, r0⟩ := trodAll_cons hA
  obtain ⟨v1, vs1, d1, ds1, p1, q1, rfl, rfl, rfl, h1, r1⟩ := trodAll_cons r0
  obtain ⟨v2, vs2, d2, ds2, p2, q2, rfl, rfl, rfl, h2, r2⟩ := trodAll_cons r1
  obtain ⟨rfl, rfl, rfl⟩ := trodAll_nil r2
  obtain rfl : args = #[v0, v1, v2] := by cases args; simp_all
  obtain ⟨rfl, rfl⟩ := trodVars_none hV
  obtain ⟨a0, rfl, rfl, rfl, w0⟩ := open_int Try.underlying5 (hval 0 5 v0 rfl rfl) h0
  obtain ⟨a1, len1, cap1, rfl⟩ := okWide_slice Try.underlying56 (hval 1 56 v1 rfl rfl)
  have k1 := h1
  have lt1 : ∀ x ∈ p1, x.block < W.heap.size := by obtain ⟨m, hm⟩ := k1; exact DataW.trod_lt m _ _ _ hm
  obtain ⟨l1, w1⟩ : ∃ l, PLists W a1 len1 l := by obtain ⟨fuel, hf⟩ := h1; exact open_l hf
  obtain ⟨a2, len2, cap2, rfl⟩ := okWide_slice Try.underlying37 (hval 2 37 v2 rfl rfl)
  have k2 := h2
  have lt2 : ∀ x ∈ p2, x.block < W.heap.size := by obtain ⟨m, hm⟩ := k2; exact DataW.trod_lt m _ _ _ hm
  obtain ⟨l2, w2⟩ : ∃ l, PBytes W a2 len2 l := by obtain ⟨fuel, hf⟩ := h2; exact open_u hf
  clear hA0 hval0
  refine (walk a0 a1 len1 cap1 l1 a2 len2 cap2 l2 W w0 w1 w2).mono fun e W' ⟨he, bel⟩ => ?_
  subst he
  exact ⟨_, rfl, _, _, _, [], _, [], hW', trodAll_mk1 (shut_bool Try.underlying4 _), (trodAll_cons_mk (shut_int Try.underlying5 w0) (trodAll_cons_mk (Below.trod laidOut (by kernel_rfl) (of_decide_eq_true (by kernel_rfl)) k1 bel lt1) (trodAll_cons_mk (Below.trod laidOut (by kernel_rfl) (of_decide_eq_true (by kernel_rfl)) k2 bel lt2) trodAll_mk0))), rfl, bel.frame _, fun h => by cases h⟩

/-- THE STATEMENT. -/
theorem proved : Rows.VirtqBackSaid :=
  OpenClaim.holds_of_wide 4 Try.f4 rfl rfl rfl rfl rfl rfl rfl ⟨rfl, rfl, rfl, rfl, rfl⟩ rfl rfl rfl rfl rfl (by kernel_rfl) Try.func4 (by kernel_rfl)
    (of_decide_eq_true (by kernel_rfl)) (by unfold Func.isWrapper; first | (rw [if_pos (by decide +kernel)]; kernel_rfl) | (rw [if_neg (by decide +kernel)]; exact ⟨rfl, rfl⟩))
    (fun os started H enc _ => lifted os started H enc)
#print axioms proved

end Go.Proofs.Ytkblkojmmjoohaa.vback
