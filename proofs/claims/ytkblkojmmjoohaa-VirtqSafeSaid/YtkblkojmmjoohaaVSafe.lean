/-
  VirtqSafe: whatever a device writes, what comes back was out, each once, no longer than it may be; a broken queue tells nothing more till it is reset. No conditions.
-/
import Derived.Test.YtkblkojmmjoohaaVSafeK
import Derived.Test.YtkblkojmmjoohaaVLaw
import Derived.ProofKit
import Derived.OpenShut
import Derived.ShutString
import Derived.ChangeOld
import Derived.Below
import Derived.Deep.LoopGhost
import Derived.Deep.DeepCutAuto
import Derived.Deep.CutBlock
namespace Go.Proofs.Ytkblkojmmjoohaa.vsafe
open Go.ChangeShapes Go.WideShapes Go.ChangeAt Go.RowKit Go.Sort
open Go.ChangeMaps (open_string shut_string)
set_option linter.unusedVariables false

theorem own : ownKnob Try.prog.godebug = none := by kernel_rfl
theorem laidOut : laidOutB Try.prog = true := by kernel_rfl

def PAct (w : World) (p : Option Addr) (len : Nat) (l : List Act2) : Prop := ∃ cap, Acts2 w (.slice p len cap) l
theorem open_p {H : Type} {enc : TypeId × Value → H} {w : World} {p : Option Addr} {len cap fuel : Nat} {x : DataW H × List MemPlace}
    (h : DataW.trod enc Try.prog w 0 (fun _ => true) true fuel 22 (Value.slice p len cap).cells.toList = some x) : ∃ l, PAct w p len l := by
  obtain ⟨l, hl⟩ := open_acts2 (v := .slice p len cap) h
  exact ⟨l, cap, hl⟩

theorem shl_size (a : Int) (h0 : 0 ≤ a) : ∃ n : Nat, isSize n ∧ IntKind.i64.wrap (2 ^ (a % 7).toNat) = (n : Int) := by
  obtain ⟨k, hk, hk7⟩ : ∃ k : Nat, (a % 7).toNat = k ∧ k < 7 := ⟨_, rfl, by omega⟩
  rw [hk]
  match k, hk7 with
  | 0, _ => exact ⟨1, .inl rfl, by decide⟩
  | 1, _ => exact ⟨2, .inr (.inl rfl), by decide⟩
  | 2, _ => exact ⟨4, .inr (.inr (.inl rfl)), by decide⟩
  | 3, _ => exact ⟨8, .inr (.inr (.inr (.inl rfl))), by decide⟩
  | 4, _ => exact ⟨16, .inr (.inr (.inr (.inr (.inl rfl)))), by decide⟩
  | 5, _ => exact ⟨32, .inr (.inr (.inr (.inr (.inr (.inl rfl))))), by decide⟩
  | 6, _ => exact ⟨64, .inr (.inr (.inr (.inr (.inr (.inr rfl))))), by decide⟩

def outs (cs : List Oc) : List (Int × Value) := cs.map fun x => (x.c.head, .int .i64 x.c.most)
theorem outs_filter (cs : List Oc) (k : Int) : ((outs cs).filter fun c => c.1 != k) = outs (cs.filter fun y => y.c.head != k) := by
  unfold outs
  rw [List.filter_map]
  rfl
theorem outs_add (cs : List Oc) (x : Oc) (s : Int) (h : s = x.c.most) : outs cs ++ [(x.c.head, Value.int .i64 s)] = outs (cs ++ [x]) := by
  subst h
  unfold outs
  rw [List.map_append]
  rfl
theorem outs_no {cs : List Oc} {k : Int} (h : ∀ y ∈ cs, y.c.head ≠ k) : ∀ c ∈ outs cs, c.1 ≠ k := by
  intro c hc
  obtain ⟨y, hy, rfl⟩ := List.mem_map.1 hc
  exact h y hy
theorem _root_.Go.RowKit.Below.grownO {a w w' : World} (b : Below a.heap.size a w) {o : Nat} (k : w.grownBy w' (some o)) (ho : a.heap.size ≤ o) : Below a.heap.size a w' := b.grown k b.size (fun j e => by injection e with e; omega)

/-- What lies where before the calls. -/
theorem se_lts {w : World} {q p g h n mb o : Nat} {br : Bool} {cs : List Oc} {es : List (Int × Value)} (s : SE w q p g h n mb o br cs es) : (∀ j, ST q p h mb j → j < w.heap.size) ∧ o < w.heap.size := by
  obtain ⟨lm, off, back, taken, told, b, t, hne⟩ := s
  have h1 := b.qs.lts
  have h2 := lt_of_block b.ps.at_
  have h3 := lt_of_block b.qs.mem.2
  refine ⟨?_, t.lt⟩
  rintro j (rfl | rfl | rfl | rfl)
  · exact h3
  · exact h1.1
  · exact h1.2.2.2
  · exact h2

theorem grown_cell {w w' : World} {o A i : Nat} {u : Value} (k : w.grownBy w' (some o)) (h : w.cell? ⟨A, i, none⟩ = some u) (hne : o ≠ A) : w'.cell? ⟨A, i, none⟩ = some u := by
  rw [World.cell?_of_block (w := w) (a := ⟨A, i, none⟩) (k.block A (World.block_lt_of_cell? w _ h) (fun e => hne (by injection e with e; exact e.symm)))]
  exact h
theorem room_take {l : List Bf} (h : ∀ b ∈ l, 1 ≤ b.n ∧ b.n ≤ 65536) (hl : l.length ≤ 100) (j : Nat) : 0 ≤ roomOf (l.take j) ∧ roomOf (l.take j) ≤ 6553600 := by
  have h1 := roomOf_bd (l.take j) fun y hy => by have := h y (List.mem_of_mem_take hy); omega
  have h2 : (l.take j).length ≤ 100 := by rw [List.length_take]; omega
  omega

/-- What the switch leaves. -/
def Left (w wx : World) (q p g h n mb o : Nat) : Prop := ∃ (br : Bool) (cs : List Oc), SE wx q p g h n mb o br cs (outs cs) ∧ Below w.heap.size w wx
/-- The loop that counts a chain's room. -/
def Sums (w wx : World) (q p g h n mb o A : Nat) (br : Bool) (cs : List Oc) (x : Oc) (v : Value) (l : List Bf) (j : Nat) : Prop :=
  SE wx q p g h n mb o br (cs ++ [x]) (outs cs ++ [(x.c.head, .int .i64 (roomOf (l.take j)))]) ∧ Below w.heap.size w wx ∧ wx.cell? ⟨A, 1, none⟩ = some v

set_option maxRecDepth 100000 in
set_option maxHeartbeats 6400000 in
theorem walk (a0 : Int) (a1 : Option Addr) (len1 cap1 : Nat) (l : List Act2) (w : World) (w0 : (Lit.int .u8 a0).wf = true) (hl : PAct w a1 len1 l) :
    Calls Try.prog 5 #[.int .u8 a0, .slice a1 len1 cap1] w fun e w' => e = .returned (.bool true) ∧ Below w.heap.size w w' := by
  obtain ⟨cap1', hl⟩ := hl
  obtain ⟨a1', c1', e1, hmax⟩ := hl.form
  injection e1 with e1 e2 e3
  subst e1 e2 e3
  have hA : Acts2 w (.slice a1 l.length cap1) l := by
    obtain ⟨p', cap', e, h1, h2⟩ := hl
    injection e with e1 e2 e3
    subst e1
    exact ⟨_, cap1, rfl, h1, h2⟩
  clear hl
  have h0 : 0 ≤ a0 := by simp [Lit.wf, IntKind.min, IntKind.max, IntKind.bits, IntKind.signed] at w0; omega
  obtain ⟨n, hs, hsh⟩ := shl_size a0 h0
  have h7 : IntKind.u8.wrap (a0 % 7) = a0 % 7 := by simp [Lit.wf] at w0; simp [IntKind.wrap, IntKind.bits, IntKind.signed]; omega
  have hn : 1 ≤ n ∧ n ≤ 64 := by unfold isSize at hs; omega
  have hbar : barOf 4096 0 n = 0 := by unfold isSize at hs; rcases hs with e | e | e | e | e | e | e <;> rw [e] <;> decide +kernel
  have hbn : bytesOf n ≤ 4096 := by have := bytesOf_bd n; omega
  unfold maxLen at hmax
  go_enter Try.func5, Try.ntmps5
  go_wp2_with fail
  refine (vawake_any w).mono ?_
  rintro e w1 ⟨rfl, b1⟩
  go_wp2_with fail
  refine (Great2_any w1 _ l (hA.below b1)).mono ?_
  rintro e w1' ⟨rfl, rfl⟩
  cases hg : great2 l with
  | true =>
    go_wp2_with fail
    go_ret
    exact ⟨rfl, b1⟩
  | false =>
    obtain ⟨g80, g100⟩ := great2_no hg
    have G100 := Lib.hid g100
    clear hg g100
    go_wp2_with fail
    refine (New_ok w1 4096 (by omega) (by omega)).mono ?_
    rintro e w2 ⟨rfl, m2, k2⟩
    have z2 : (List.replicate (4096 : Int).toNat (0 : UInt8)).length = 4096 := by rw [List.length_replicate]; rfl
    generalize List.replicate (4096 : Int).toNat (0 : UInt8) = L2 at m2 z2
    have b2 := b1.grown k2 b1.size (fun j e => by cases e)
    have B1 := b1.size
    clear k2 b1
    obtain ⟨g, hg⟩ : ∃ g, g = w1.heap.size + 1 := ⟨_, rfl⟩
    obtain ⟨h, hh⟩ : ∃ h, h = w1.heap.size := ⟨_, rfl⟩
    rw [← hg, ← hh] at m2
    rw [← hg]
    have hB : w.heap.size ≤ h := by omega
    clear hg hh B1
    go_wp2_with fail
    refine (vNew_ok w2 g h L2 m2 0 n (by rw [z2]; omega) (by rw [z2]; omega) (by omega) (by omega) (by rw [z2]; exact hbar)).mono ?_
    rintro e w3 ⟨q, mb, rfl, hq, hmb, qa, ta, ma, tt⟩
    go_wp2_with fail
    refine (Open_ok w3 g h _ ma 0 n (by rw [wipeL_length, z2]; omega) (by rw [wipeL_length, z2]; omega) (by omega) (by omega) (by rw [wipeL_length, z2]; exact hbar)).mono ?_
    rintro e w4 ⟨p, rfl, hp, pa, ka⟩
    have s4 : Both w4 q p g h (wipeL L2 0 n) 0 n mb [] 0 0 false 0 0 := both_made (ma.same ka) (by omega) (qa.kept (ka.block _ (lt_of_block qa) (by simp))) (ta.kept (ka.block _ ta.lt (by simp))) pa (by omega) (by omega) hs
    have hz : w.heap.size ≤ w2.heap.size ∧ w2.heap.size ≤ w3.heap.size := ⟨b2.size, tt.size⟩
    have b4 : Below w.heap.size w w4 := (b2.trans (tt.below b2.size (by rintro k rfl; exact hB))).trans ((Below.of_none ka).mono (by omega))
    have since : ∀ j, ST q p h mb j → w.heap.size ≤ j := by rintro j (rfl | rfl | rfl | rfl) <;> omega
    have hmm := @run_makeMap Try.prog
    have hmlt := s4.qs.lts.2.2.2
    clear m2 b2 qa ta ma tt pa ka hz hq hmb hp z2 hbar hbn
    go_wp2_with fail
    have k5 := World.grownBy_alloc w4 (.map #[] 0) none
    have t5 := tab_made w4
    have s5 : SE (w4.alloc (.map #[] 0)) q p g h n mb w4.heap.size false [] (outs []) := ⟨_, _, _, _, _, s4.grown k5, t5, by omega⟩
    have b5 := b4.grown k5 b4.size (fun j e => by cases e)
    have hoB : w.heap.size ≤ w4.heap.size := b4.size
    clear s4 b4 k5 t5 hmm hmlt
    obtain ⟨o, ho⟩ : ∃ o, o = w4.heap.size := ⟨_, rfl⟩
    rw [← ho] at s5 hoB
    rw [← ho]
    generalize w4.alloc (.map #[] 0) = w5 at s5 b5 ⊢
    clear ho
    go_wp2_with fail
    go_loopg [13] (l.length) (fun gk iv wr => ∃ (k : Nat), k + gk = l.length ∧ iv = .int .i64 k ∧ Left w wr q p g h n mb o)
    case atStart => exact ⟨0, by omega, rfl, false, [], s5, b5⟩
    case round =>
      obtain ⟨k, hk, rfl, br, cs, s0, bel0⟩ := hrel
      clear s5 b5
      obtain ⟨wq, hwq⟩ : ∃ x, x = wr := ⟨_, rfl⟩
      subst hwq
      by_cases hlt : k < l.length
      · obtain ⟨ab, ao, c, rfl, hc, hf, c0, ⟨v, c1, hrow⟩, c2, c3, c4, c5, c6, c7⟩ := hA.at_ k hlt
        have hab : ab < w.heap.size := World.block_lt_of_cell? w _ c0
        have ec : ∀ q, wq.cell? ⟨ab, q, none⟩ = w.cell? ⟨ab, q, none⟩ := fun q => World.cell?_of_block (a := ⟨ab, q, none⟩) (bel0.block ab hab)
        rw [← ec] at c0 c1 c2 c3 c4 c5 c6 c7
        clear ec
        obtain ⟨cd, cl, ch, cn, cf, ca, cm, cx⟩ := c
        simp only at c0 c1 c2 c3 c4 c5 c6 c7 hrow
        obtain ⟨f0, f1, f2, f3, f4, f5, f6⟩ := hf
        simp only at f0 f1 f2 f3 f4 f5 f6
        have hcl : cl.length ≤ 100 := G100.out _ (List.mem_of_getElem? hc)
        have hbd := hrow.bd
        obtain ⟨vp, vc, rfl, _⟩ := hrow.form
        have HR := Lib.hid hrow
        have HD := Lib.hid hbd
        clear hc hrow hbd
        have ka := World.grownBy_alloc wq (.cells #[.int .i64 cd, .slice vp cl.length vc, .int .u32 ch, .int .u32 cn, .int .i64 cf, .int .i64 ca, .int .i64 cm, .int .u64 cx] 51) none
        have SA := s0.grown ka
        have BA := bel0.grown ka bel0.size (fun j e => by cases e)
        have LT := (se_lts s0)
        clear s0 bel0 ka
        go_upto_block 2 with fail
        go_cut [] (fun wx => Left w wx q p g h n mb o)
        case first =>
          by_cases h0 : cd = 0
          · subst h0
            as_aux_lemma =>
              have hbufs := (HR.out.below BA).bufs (by omega)
              go_wp2_with fail
              refine (SA.add _ cl hbufs HD.out).mono ?_
              rintro e wn (⟨E, rfl, hE, SB, t1⟩ | ⟨x, rfl, x0, x1, hne, hmost, hbb, SB, t1⟩)
              · have BB := BA.trans (t1.below BA.size since)
                have hE2 : (E != 0) = true := by have := hE.out; simpa using this
                clear t1 BA HR HD SA hbufs hE
                go_wp2_with fail
                go_meet
                case rel => exact ⟨_, _, SB, BB⟩
              · have BB := BA.trans (t1.below BA.size since)
                have hcell : wn.cell? ⟨wq.heap.size, 1, none⟩ = some (.slice vp cl.length vc) := t1.cell (by simp [World.cell?_alloc_new]) (fun e => absurd (LT.1 _ e) (Nat.lt_irrefl _))
                obtain ⟨xh, hxh⟩ : ∃ xh, xh = x.c.head := ⟨_, rfl⟩
                rw [← hxh] at x0 x1 hne
                rw [← hxh]
                have hzr : (zeroValue 3).run Try.prog wn = .ok (.int .i64 0) wn := by kernel_rfl
                have hlook := SB.tab.look_no (P := Try.prog) Try.underlying68 Try.underlying3 hzr (WalkArith.wf_i64 (by omega)) (outs_no hne.out)
                obtain ⟨w2, hrun, tb2, kg2⟩ := SB.tab.add (P := Try.prog) Try.underlying68 Try.underlying3 (WalkArith.wf_i64 (by omega)) (outs_no hne.out) (.int .i64 0)
                have d1 : decide (xh < 0) = false := decide_eq_false (by omega)
                have d2 : decide ((n : Int) ≤ xh) = false := decide_eq_false (by omega)
                have hcell2 : w2.cell? ⟨wq.heap.size, 1, none⟩ = some (.slice vp cl.length vc) := grown_cell kg2 hcell (by have := LT.2; omega)
                have S2 : Sums w w2 q p g h n mb o wq.heap.size br cs x (.slice vp cl.length vc) cl 0 := ⟨SB.map (by rw [← hxh]; exact tb2) kg2, BB.grownO kg2 hoB, hcell2⟩
                clear t1 BA HD SA hbufs BB SB tb2 kg2 hcell hcell2 hzr
                have HX := Lib.hid hxh
                clear hxh
                go_wp2_with (at_lookup; refine wpList_lookup_tab _ rfl _ _ 68 rfl o xh (.int .i64 0) false rfl rfl hlook ?_)
                clear hlook hrun d1 d2
                go_loopw [19] (fun jv wx => ∃ (j : Nat), j ≤ cl.length ∧ jv = .int .i64 j ∧ Sums w wx q p g h n mb o wq.heap.size br cs x (.slice vp cl.length vc) cl j) (fun jv _ => cl.length - (intOf jv).toNat)
                case atStart => exact ⟨0, Nat.zero_le _, rfl, S2⟩
                case round =>
                  obtain ⟨j, hj, rfl, S3, B3, C3⟩ := hrel
                  clear S2
                  by_cases hlj : j < cl.length
                  · obtain ⟨b, bo, y, rfl, hy, y0, y1, y2⟩ := ((HR.out.below B3).bufs (by omega)).at_ j hlj
                    obtain ⟨ya, yn, yw⟩ := y
                    simp only at y0 y1 y2
                    cases yw with
                    | false =>
                      have hst := roomOf_at hy
                      simp only [Bool.false_eq_true, if_false, Int.add_zero] at hst
                      have HST := Lib.hid hst
                      clear hst hy
                      go_wp2_with fail
                      go_roundw
                      case rel => exact ⟨j + 1, by omega, by go_num, by rw [HST.out]; exact S3, B3, C3⟩
                      case measure => simp [intOf]; omega
                    | true =>
                      have hst := roomOf_at hy
                      simp only [if_true] at hst
                      have hyn := hbb.out _ (List.mem_of_getElem? hy)
                      simp only at hyn
                      have hrt := room_take hbb.out hcl j
                      have HST := Lib.hid hst
                      clear hst hy
                      have hwr : IntKind.i64.wrap (roomOf (cl.take j) + yn) = roomOf (cl.take j) + yn := IntWalk.i64_in _ (by omega)
                      have T3 : IsTab wr o (outs cs ++ [(xh, .int .i64 (roomOf (cl.take j)))]) := by rw [HX.out]; exact S3.tab
                      obtain ⟨SS, hSS⟩ : ∃ SS, SS = roomOf (cl.take j) := ⟨_, rfl⟩
                      rw [← hSS] at T3 hwr hrt
                      have HSS := Lib.hid hSS
                      clear hSS
                      go_wp2_with fail
                      refine region_tail 10 (by kernel_rfl) (by kernel_rfl) (fun V d => ?_)
                      have T4 := T3.kept (d.block _)
                      have C4 : V.cell? ⟨wq.heap.size, 1, none⟩ = some (.slice (some ⟨b, bo, none⟩) cl.length vc) := (World.cell?_of_block (w := wr) (a := ⟨wq.heap.size, 1, none⟩) (d.block _)).trans C3
                      have y4 : V.cell? ⟨b, bo + j * 3 + 1, none⟩ = some (.int .i64 yn) := (World.cell?_of_block (w := wr) (a := ⟨b, bo + j * 3 + 1, none⟩) (d.block _)).trans y1
                      have lk := T4.get_yes (P := Try.prog) Try.underlying68 Try.underlying3 (List.mem_append_right _ (List.mem_singleton.2 rfl))
                      obtain ⟨w5, hrun5, tb5, kg5⟩ := T4.put_last (P := Try.prog) Try.underlying68 Try.underlying3 (.int .i64 (SS + yn))
                      have S5 : Sums w w5 q p g h n mb o wq.heap.size br cs x (.slice (some ⟨b, bo, none⟩) cl.length vc) cl (j + 1) :=
                        ⟨(S3.grown d.grown).map (by rw [HST.out, ← HSS.out, ← HX.out]; exact tb5) kg5, (B3.grown d.grown B3.size (fun j e => by cases e)).grownO kg5 hoB, grown_cell kg5 C4 (by have := LT.2; omega)⟩
                      clear T3 T4 tb5 kg5 y0 y1 y2 C3 S3 B3 d
                      simp only [List.take_succ_cons, List.take_zero, List.drop_succ_cons, List.drop_zero]
                      repeat still_step
                      refine wpStill_nil ?_
                      go_wp2_with fail
                      go_roundw
                      case rel => exact ⟨j + 1, by omega, by go_num, S5⟩
                      case measure => simp [intOf]; omega
                  · have hd2 : decide ((j : Int) < cl.length) = false := decide_eq_false (by omega)
                    have hfin : roomOf (cl.take j) = x.c.most := by rw [List.take_of_length_le (by omega)]; exact hmost.out.symm
                    have SZ : SE wr q p g h n mb o br (cs ++ [x]) (outs (cs ++ [x])) := by rw [← outs_add cs x _ hfin]; exact S3
                    clear S3 hfin
                    go_wp2_with fail
                    go_meet
                    case rel => exact ⟨_, _, SZ, B3⟩
          by_cases h1 : cd = 1
          · subst h1
            as_aux_lemma =>
              go_wp2_with fail
              refine SA.broken.mono ?_
              rintro e wb ⟨rfl, rfl⟩
              go_wp2_with fail
              refine SA.pop.mono ?_
              rintro e wn ⟨t1, hP⟩
              have BB := BA.trans (t1.below BA.size since)
              clear t1 SA BA HR HD
              rcases hP with ⟨rfl, hbr, SB⟩ | ⟨rfl, hbr, SB⟩ | ⟨rfl, hbr, SB⟩ | ⟨x, hx, kk, rfl, hbr, k0, k1, SB⟩
              · subst hbr
                go_wp2_with fail
                refine SB.broken.mono ?_
                rintro e wb ⟨rfl, rfl⟩
                go_wp2_with fail
                go_meet
                case rel => exact ⟨_, _, SB, BB⟩
              · subst hbr
                go_wp2_with fail
                refine SB.broken.mono ?_
                rintro e wb ⟨rfl, rfl⟩
                go_wp2_with fail
                go_meet
                case rel => exact ⟨_, _, SB, BB⟩
              · subst hbr
                go_wp2_with fail
                refine SB.broken.mono ?_
                rintro e wb ⟨rfl, rfl⟩
                go_wp2_with fail
                go_meet
                case rel => exact ⟨_, _, SB, BB⟩
              · subst hbr
                have hmem : (x.c.head, Value.int .i64 x.c.most) ∈ outs cs := List.mem_map.2 ⟨x, hx, rfl⟩
                have hrun := SB.tab.look_yes (P := Try.prog) Try.underlying68 Try.underlying3 hmem
                have hwf := (SB.tab.choose_spec.choose_spec).2.wf _ hmem
                have HF := Lib.hid (outs_filter cs x.c.head)
                clear hmem hx
                obtain ⟨xm, hxm⟩ : ∃ xm, xm = x.c.most := ⟨_, rfl⟩
                obtain ⟨xh, hxh⟩ : ∃ xh, xh = x.c.head := ⟨_, rfl⟩
                rw [← hxm] at k1 hrun
                rw [← hxh] at hrun hwf HF SB
                rw [← hxh]
                simp only at hwf
                clear hxm hxh
                have d8 : decide (xm < kk) = false := decide_eq_false (by omega)
                have d9 : decide (kk < 0) = false := decide_eq_false (by omega)
                go_wp2_with fail
                refine SB.broken.mono ?_
                rintro e wb ⟨rfl, rfl⟩
                go_wp2_with (first | (at_lookup; refine wpList_lookup_tab _ rfl _ _ 68 rfl o xh (.int .i64 xm) true rfl rfl hrun ?_) | (at_delete; refine wpList_delete_tab _ rfl _ _ 68 3 rfl 3 Try.underlying68 Try.underlying3 o xh (outs cs) SB.tab hwf rfl rfl ?_; intro w9 b9 k9; rw [HF.out] at b9; have SD := SB.map b9 k9; have BD := BB.grownO k9 hoB; clear b9 k9 SB BB hrun))
                go_meet
                case rel => exact ⟨_, _, SD, BD⟩
          by_cases h2 : cd = 2
          · subst h2
            as_aux_lemma =>
              go_wp2_with fail
              refine SA.next.mono ?_
              rintro e wn ⟨r, rfl, SB, t1⟩
              have BB := BA.trans (t1.below BA.size since)
              clear t1 BA HR HD
              go_wp2_with fail
              go_meet
              case rel => exact ⟨_, _, SB, BB⟩
          by_cases h3 : cd = 3
          · subst h3
            as_aux_lemma =>
              simp [Lit.wf, IntKind.min, IntKind.max, IntKind.bits, IntKind.signed] at f1 f2
              go_wp2_with fail
              refine (SA.done ch cn (by omega) (by omega) (by omega) (by omega)).mono ?_
              rintro e wn ⟨rfl, SB, t1⟩
              have BB := BA.trans (t1.below BA.size since)
              clear t1 BA HR HD
              go_wp2_with fail
              go_meet
              case rel => exact ⟨_, _, SB, BB⟩
          by_cases h5 : cd = 5
          · subst h5
            as_aux_lemma =>
              simp [Lit.wf, IntKind.min, IntKind.max, IntKind.bits, IntKind.signed] at f6
              go_wp2_with fail
              refine (SA.put ca cm cx (by omega)).mono ?_
              rintro e wn ⟨r, rfl, SB, t1⟩
              have BB := BA.trans (t1.below BA.size since)
              clear t1 BA HR HD
              go_wp2_with fail
              go_meet
              case rel => exact ⟨_, _, SB, BB⟩
          as_aux_lemma =>
            have n0 : (cd == 0) = false := by simpa using h0
            have n1 : (cd == 1) = false := by simpa using h1
            have n2 : (cd == 2) = false := by simpa using h2
            have n3 : (cd == 3) = false := by simpa using h3
            have n5 : (cd == 5) = false := by simpa using h5
            clear HR HD
            go_wp2_with fail
            go_meet
            case rel => exact ⟨_, _, SA, BA⟩
        case rest =>
          obtain ⟨br, cs, SA, BA⟩ := hcut
          as_aux_lemma =>
            clear HR HD hA
            have hF := free_le (cs.map Oc.c) n
            have hlo : (outs cs).length = cs.length := by unfold outs; rw [List.length_map]
            have hl2 := SA.tab.len (P := Try.prog) Try.underlying68 3
            rw [hlo] at hl2
            have FC := Lib.hid SA.free
            obtain ⟨F, eF⟩ : ∃ F, F = (freeL (cs.map Oc.c) n).length := ⟨_, rfl⟩
            rw [← eF] at FC hF
            have EF := Lib.hid eF
            clear eF
            have d1 : decide ((F : Int) < 0) = false := decide_eq_false (by omega)
            have d2 : decide ((n : Int) < F) = false := decide_eq_false (by omega)
            go_wp2_with fail
            refine SA.out.mono ?_
            rintro e wq2 ⟨rfl, rfl⟩
            go_wp2_with fail
            refine FC.out.mono ?_
            rintro e wy ⟨rfl, ky⟩
            have S1 := SA.grown ky
            have B1 := BA.grown ky BA.size (fun j e => by cases e)
            have FC1 := Lib.hid S1.free
            rw [← EF.out] at FC1
            have hl3 := S1.tab.len (P := Try.prog) Try.underlying68 3
            rw [hlo] at hl3
            clear FC ky SA BA hl2
            go_wp2_with fail
            refine FC1.out.mono ?_
            rintro e wz ⟨rfl, kz⟩
            have S2 := S1.grown kz
            have B2 := B1.grown kz B1.size (fun j e => by cases e)
            have FC2 := Lib.hid S2.free
            rw [← EF.out] at FC2
            have hl4 := S2.tab.len (P := Try.prog) Try.underlying68 3
            rw [hlo] at hl4
            clear FC1 kz S1 B1 hl3
            by_cases hz : cs.length = 0
            · have e0 : ((cs.length : Int) == 0) = true := by rw [hz]; rfl
              have hFn : F = n := by rw [EF.out, List.eq_nil_of_length_eq_zero hz]; exact free_all n
              rw [hFn] at FC2
              go_wp2_with fail
              refine FC2.out.mono ?_
              rintro e wv ⟨rfl, kv⟩
              have S3 := S2.grown kv
              have B3 := B2.grown kv B2.size (fun j e => by cases e)
              clear FC2 kv S2 B2
              go_wp2_with fail
              go_roundg (gk - 1)
              case measure => omega
              case rel => exact ⟨k + 1, by omega, by go_num, _, _, S3, B3⟩
            · have e0 : ((cs.length : Int) == 0) = false := by simpa using hz
              clear FC2
              go_wp2_with fail
              go_roundg (gk - 1)
              case measure => omega
              case rel => exact ⟨k + 1, by omega, by go_num, _, _, S2, B2⟩
      · have hd : decide ((k : Int) < l.length) = false := decide_eq_false (by omega)
        clear hA G100
        obtain ⟨lm, off, back, taken, told, b, _, _⟩ := s0
        have RC := Lib.hid (Reset_any wq q g h lm b.qs.mem 0 n _ _ _ br b.qs.at_ b.qs.len (by omega))
        have hle := b.qs.len
        have hb1 := b.qs.b1
        have hsz := b.qs.size
        go_wp2_with fail
        refine RC.out.mono ?_
        rintro e v1 ⟨rfl, mb2, hm2, q2, t2, m2, tt2⟩
        have sq : QS v1 q g h (wipeL lm 0 n) 0 n mb2 [] 0 0 false := ⟨m2, by rw [wipeL_length]; exact hle, q2, t2, (fun x hx => by cases hx), (fun x hx => by cases hx), (fun x hx => by cases hx), by omega, by rw [wipeL_length]; exact hb1, hsz, by omega, by omega, by omega, by omega⟩
        have bz := bel0.trans (tt2.below bel0.size (by rintro j (e | e); exact since _ (.inl e); exact since _ (.inr (.inl e))))
        have hui : usedI (wipeL lm 0 n) 0 n = 0 := by
          have e1 : bytesOf n = usedAt n + 4 + 8 * n := by unfold bytesOf; rw [if_pos hsz]
          have hu := used_ge n
          unfold usedI
          rw [get_wiped lm 0 n _ _ (by omega) hb1 (by omega) (by omega)]; rfl
        clear RC q2 t2 m2 tt2 b bel0
        go_wp2_with fail
        refine (Pop_any v1 q g h _ 0 n mb2 [] 0 0 sq).mono ?_
        intro e v2 hP
        rcases hP with ⟨_, rfl, k2⟩ | ⟨e1, _⟩ | ⟨y, hy, _⟩
        rotate_left
        · exact absurd hui e1
        · cases hy
        have sq2 := sq.grown k2
        have bz2 := bz.grown k2 bz.size (fun j e => by cases e)
        have FC := Lib.hid (vFree_any v2 q g 0 n mb2 _ _ _ sq2.at_ [] sq2.tab sq2.nums hn.2)
        rw [show (freeL (([] : List Oc).map Oc.c) n).length = n from free_all n] at FC
        clear k2 sq bz hui
        go_wp2_with fail
        refine FC.out.mono ?_
        rintro e v3 ⟨rfl, k3⟩
        have sq3 := sq2.grown k3
        have bz3 := bz2.grown k3 bz2.size (fun j e => by cases e)
        have OC := Lib.hid (Out_any v3 q g 0 n mb2 _ _ _ [] sq3.at_ sq3.tab)
        clear k3 sq2 bz2 FC
        go_wp2_with fail
        refine OC.out.mono ?_
        rintro e v4 ⟨rfl, rfl⟩
        go_wp2_with fail
        refine (Broken_any v3 q g 0 n _ _ _ false sq3.at_).mono ?_
        rintro e v4 ⟨rfl, rfl⟩
        go_wp2_with fail
        go_ret
        exact ⟨rfl, bz3⟩

set_option maxRecDepth 100000 in
theorem lifted (os : Os) (started : os.Started) (H : Type) (enc : TypeId × Value → H) :
    ReturnsInHanded {} Try.checked os 5 .any (Rows.virtqSafeSpec.pre6 enc Try.prog Try.f5 Rows.virtqSafeRow.domain false) (Rows.virtqSafeSpec.post enc Try.prog Try.f5 false true false false) := by
  refine returnsInHanded_of_change (C := Try.checked) own started (by kernel_rfl) Try.func5
    (ChangeSpec.witness6 (enc := enc) (C := Try.checked) false ⟨#[], #[.int .u8 0, .slice none 0 0], []⟩ 8 (by kernel_rfl) (by kernel_rfl) (by kernel_rfl) (by kernel_rfl)) ?_
  intro W base args ds gs before hval0 hW hcnd _
  have hval : ∀ (j : Nat) t v, Try.f5.params[j]? = some t → args[j]? = some v → Value.okWide Try.prog W .any base t v := hval0
  have hW' := hW
  obtain ⟨p, q, hA0, hV, rfl, hfz, hnd⟩ := hW
  have hA : DataW.TrodAll enc Try.prog W 0 (fun _ => true) true Try.f5.params.toList args.toList ds p := hA0
  rw [Try.params5] at hA hval
  obtain ⟨v0, vs0, d0, ds0, p0, q0, hargs, rfl, rfl, h0, r0⟩ := trodAll_cons hA
  obtain ⟨v1, vs1, d1, ds1, p1, q1, rfl, rfl, rfl, h1, r1⟩ := trodAll_cons r0
  obtain ⟨rfl, rfl, rfl⟩ := trodAll_nil r1
  obtain rfl : args = #[v0, v1] := by cases args; simp_all
  obtain ⟨rfl, rfl⟩ := trodVars_none hV
  obtain ⟨a0, rfl, rfl, rfl, w0⟩ := open_int Try.underlying5 (hval 0 5 v0 rfl rfl) h0
  obtain ⟨a1, len1, cap1, rfl⟩ := okWide_slice Try.underlying22 (hval 1 22 v1 rfl rfl)
  have k1 := h1
  have lt1 : ∀ x ∈ p1, x.block < W.heap.size := by obtain ⟨m, hm⟩ := k1; exact DataW.trod_lt m _ _ _ hm
  obtain ⟨l1, w1⟩ : ∃ l, PAct W a1 len1 l := by obtain ⟨fuel, hf⟩ := h1; exact open_p hf
  clear hA0 hval0
  refine (walk a0 a1 len1 cap1 l1 W w0 w1).mono fun e W' ⟨he, bel⟩ => ?_
  subst he
  exact ⟨_, rfl, _, _, _, [], _, [], hW', trodAll_mk1 (shut_bool Try.underlying4 _), (trodAll_cons_mk (shut_int Try.underlying5 w0) (trodAll_cons_mk (Below.trod laidOut (by kernel_rfl) (of_decide_eq_true (by kernel_rfl)) k1 bel lt1) trodAll_mk0)), rfl, bel.frame _, fun h => by cases h⟩

/-- THE STATEMENT. -/
theorem proved : Rows.VirtqSafeSaid :=
  OpenClaim.holds_of_wide 5 Try.f5 rfl rfl rfl rfl rfl rfl rfl ⟨rfl, rfl, rfl, rfl, rfl⟩ rfl rfl rfl rfl rfl (by kernel_rfl) Try.func5 (by kernel_rfl)
    (of_decide_eq_true (by kernel_rfl)) (by unfold Func.isWrapper; first | (rw [if_pos (by decide +kernel)]; kernel_rfl) | (rw [if_neg (by decide +kernel)]; exact ⟨rfl, rfl⟩))
    (fun os started H enc _ => lifted os started H enc)
#print axioms proved

end Go.Proofs.Ytkblkojmmjoohaa.vsafe
