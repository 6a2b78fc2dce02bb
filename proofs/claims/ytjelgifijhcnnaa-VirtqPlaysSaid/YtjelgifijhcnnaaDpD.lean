/-
  VirtqPlays: whatever is offered, taken, told and popped, and whatever is written into the memory meanwhile: each answer, and each byte, is the document's. Conditions: none beyond the statement's own (a memory of at most 4096 bytes, at most 80 acts, of at most 100 buffers).
-/
import Derived.Test.YtjelgifijhcnnaaDpA
import Derived.Test.YtjelgifijhcnnaaDpB
import Derived.Test.YtjelgifijhcnnaaVD3
import Derived.ProofKit
import Derived.OpenShut
import Derived.ShutString
import Derived.ChangeOld
import Derived.Below
import Derived.Deep.LoopGhost
namespace Go.Proofs.Ytjelgifijhcnnaa
open Go.RowKit Go.Sort
set_option linter.unusedVariables false

theorem wf_u32 {n : Int} (h : (Lit.int .u32 n).wf = true) : 0 ≤ n ∧ n ≤ 4294967295 := by
  simpa [Lit.wf, IntKind.min, IntKind.max, IntKind.signed, IntKind.bits] using h
theorem wf_i64 {n : Int} (h : (Lit.int .i64 n).wf = true) : -9223372036854775808 ≤ n ∧ n ≤ 9223372036854775807 := by
  simpa [Lit.wf, IntKind.min, IntKind.max, IntKind.signed, IntKind.bits] using h
theorem wf_u64 {n : Int} (h : (Lit.int .u64 n).wf = true) : 0 ≤ n ∧ n < 18446744073709551616 := by
  have : 0 ≤ n ∧ n ≤ 18446744073709551615 := by simpa [Lit.wf, IntKind.min, IntKind.max, IntKind.signed, IntKind.bits] using h
  omega

section
variable {w W W' : World} {x q g h : Nat} {base : Int} {n sz : Nat} {s : St} {d : Dt}
theorem DS.grow (D : DS w W x q g h base n sz s d) (k : Below W.heap.size W W') : DS w W' x q g h base n sz s d := ⟨D.bs.grow k, D.tie⟩
theorem does_any (D : DS w W x q g h base n sz s d) (c : Act2) (v : Value) (hv : IsBufs W v c.l) (hbl : c.l.length ≤ 100) (hbd : ∀ x ∈ c.l, x.n ≤ 9223372036854775807) (hf : c.fits) (hH : d.H.length ≤ 90) :
    Calls Try.prog 16 #[.pointer (some ⟨x, 0, none⟩), .agg #[.int .i64 c.d, v, .int .u32 c.hd, .int .u32 c.len, .int .i64 c.f, .int .i64 c.a, .int .i64 c.n, .int .u64 c.x]] W (DP w x q g h base n sz d) := by
  obtain ⟨cd, cl, ch, cn, cf, ca, cm, cx⟩ := c
  obtain ⟨f0, f1, f2, f3, f4, f5, f6⟩ := hf
  simp only at *
  by_cases h0 : cd = 0
  · subst h0; exact does0 D v ch cn cf ca cm cx cl hv hbl hbd
  by_cases h1 : cd = 1
  · subst h1; exact does1 D v ch cn cf ca cm cx
  by_cases h2 : cd = 2
  · subst h2; exact does2 D v ch cn cf ca cm cx hH
  by_cases h3 : cd = 3
  · subst h3; exact does3 D v ch cn cf ca cm cx (wf_u32 f1) (wf_u32 f2) (wf_i64 f3)
  by_cases h4 : cd = 4
  · subst h4; exact does4 D v ch cn cf ca cm cx
  by_cases h5 : cd = 5
  · subst h5; exact does5 D v ch cn cf ca cm cx (wf_u64 f6).1 (wf_u64 f6).2
  · exact does6 D cd v ch cn cf ca cm cx (beq_eq_false_iff_ne.2 h0) (beq_eq_false_iff_ne.2 h1) (beq_eq_false_iff_ne.2 h2) (beq_eq_false_iff_ne.2 h3) (beq_eq_false_iff_ne.2 h4) (beq_eq_false_iff_ne.2 h5)
theorem DS.cFree (D : DS w W x q g h base n sz s d) (F : Int) (hF : F = ((freeL (s.cs.map Oc.c) n).length : Int)) :
    Calls Try.prog 18 #[.pointer (some ⟨q, 0, none⟩)] W fun e W' => e = .returned (.int .i64 F) ∧ Below W.heap.size W W' := by
  subst hF
  have Q := D.bs.cs.both.qs
  exact (vFree_any W q g base n s.mb s.off s.back s.br Q.at_ s.cs Q.tab Q.nums Q.n1.2).mono fun e W' ⟨he, k⟩ => ⟨he, Below.of_none k⟩
theorem DS.rFree (D : DS w W x q g h base n sz s d) (F : Int) (hF : F = ((freeL (s.cs.map Oc.c) n).length : Int)) :
    Calls Try.prog 19 #[.agg #[.int .i64 base, .int .i64 n, .slice d.op d.l.length d.oc, .int .i64 s.off, .int .i64 s.back, .bool s.br]] W fun e W' => e = .returned (.int .i64 F) ∧ Below W.heap.size W W' := by
  subst hF
  rw [← D.tie]
  have hf := tie_few D.bs.cs D.tie
  exact (Free_any base n s.off s.back s.br _ (d.l.map toCh) W D.bs.cs.both.qs.n1.2 (chs_of_row D.bs.out.row D.bs.out.ints (by omega))).mono fun e W' ⟨he, k⟩ => ⟨he, Below.of_none k⟩
theorem DS.cOut (D : DS w W x q g h base n sz s d) :
    Calls Try.prog 20 #[.pointer (some ⟨q, 0, none⟩)] W fun e W' => e = .returned (.int .i64 (d.l.length : Int)) ∧ W = W' := by
  have Q := D.bs.cs.both.qs
  have hl : (s.cs.map Oc.ent).length = d.l.length := by have := congrArg List.length D.tie; simp only [List.length_map] at this ⊢; omega
  have := Out_any W q g base n s.mb s.off s.back s.br (s.cs.map Oc.ent) Q.at_ Q.tab
  rw [hl] at this
  exact this
theorem DS.cBroken (D : DS w W x q g h base n sz s d) :
    Calls Try.prog 21 #[.pointer (some ⟨q, 0, none⟩)] W fun e W' => e = .returned (.bool s.br) ∧ W = W' := Broken_any W q g base n (some s.mb) s.off s.back s.br D.bs.cs.both.qs.at_
theorem DS.text (D : DS w W x q g h base n sz s d) :
    Calls Try.prog 17 #[.pointer (some ⟨g, 0, none⟩), .int .i64 0, .int .i64 sz] W fun e W' => e = .returned (.tuple #[.string ⟨s.lm.toArray⟩, .int .i64 0]) ∧ W = W' := by
  have hl := D.bs.cs.len
  have hz := D.bs.cs.sz
  have := Text_all W g h s.lm D.bs.cs.both.qs.mem (by omega) 0 sz (by omega)
  rw [textS_all _ _ (by omega), textE_all _ _ (by omega)] at this
  exact this
end
/-- The beginning. -/
theorem ds_start {w W : World} {x q p g h mb n : Nat} {base : Int} {L : List UInt8} {sz : Nat} (b : Both W q p g h L base n mb [] 0 0 false 0 0) (bl : Below w.heap.size w W) (since : Since w.heap.size q p h mb) (xge : w.heap.size ≤ x)
    (hx : WAt W x g q p L base n (.slice none 0 0) 0 0 false 0 0 (.slice none 0 0)) (b16 : base % 16 = 0) (hl : L.length = sz) (hz : sz ≤ 4096) :
    DS w W x q g h base n sz ⟨p, mb, L, [], 0, 0, false, 0, 0⟩ ⟨[], none, 0, [], none, 0⟩ :=
  have nm : ∀ {α : Type} {P : α → Prop}, ∀ y ∈ ([] : List α), P y := fun y hy => absurd hy List.not_mem_nil
  ⟨⟨⟨bl, b, List.nodup_nil, since, xge, b16, hl, hz⟩, hx, ⟨World.ownsRow_nil _ _ _ _, nm, nm, nm⟩, OwnInts.nil _ _, nm, fun k e => nomatch e⟩, rfl⟩

end Go.Proofs.Ytjelgifijhcnnaa

namespace Go.Proofs.Ytjelgifijhcnnaa.vpl
open Go.ChangeShapes Go.WideShapes Go.ChangeAt Go.RowKit Go.Sort
open Go.ChangeMaps (open_string shut_string)
set_option linter.unusedVariables false

theorem own : ownKnob Try.prog.godebug = none := by kernel_rfl
theorem laidOut : laidOutB Try.prog = true := by kernel_rfl
def PAct2 (w : World) (p : Option Addr) (len : Nat) (l : List Act2) : Prop := ∃ cap, Acts2 w (.slice p len cap) l
theorem open_pa {H : Type} {enc : TypeId × Value → H} {w : World} {p : Option Addr} {len cap fuel : Nat} {x : DataW H × List MemPlace}
    (h : DataW.trod enc Try.prog w 0 (fun _ => true) true fuel 22 (Value.slice p len cap).cells.toList = some x) : ∃ l, PAct2 w p len l := by
  obtain ⟨l, hl⟩ := open_acts2 (v := .slice p len cap) h
  exact ⟨l, cap, hl⟩
theorem bytes_same (x : ByteArray) : (x != x) = false := by
  obtain ⟨d⟩ := x
  show (!(d == d)) = false
  simp
theorem bar_size {z base n : Int} (h : barOf z base n = 0) : isSize n ∧ 0 ≤ base ∧ base % 16 = 0 ∧ base + bytesOf n ≤ z := by
  unfold barOf at h
  split at h
  · cases h
  · rename_i h1
    split at h
    · cases h
    · rename_i h2
      refine ⟨?_, ?_, ?_, ?_⟩
      · exact Classical.byContradiction fun e => h1 (.inl e)
      · omega
      · exact Classical.byContradiction fun e => h1 (.inr (.inr e))
      · omega

set_option maxRecDepth 100000 in
set_option maxHeartbeats 8000000 in
theorem early (a0 base a2 : Int) (a3 : Option Addr) (len3 cap3 : Nat) (l : List Act2) (w : World) (hA : Acts2 w (.slice a3 len3 cap3) l) (hlen : len3 = l.length) (H : great2 l = true ∨ (great2 l = false ∧ a0 < 1) ∨ (great2 l = false ∧ ¬ a0 < 1 ∧ 4096 < a0)) :
    Calls Try.prog 3 #[.int .i64 a0, .int .i64 base, .int .i64 a2, .slice a3 len3 cap3] w fun e w' => e = .returned (.bool true) ∧ Below w.heap.size w w' := by
  subst hlen
  rcases H with h1 | ⟨h1, h2⟩ | ⟨h1, h2, h3⟩
  · have d0 := h1
    go_enter Try.func3, Try.ntmps3
    go_wp2_with fail
    refine (vawake_any w).mono ?_
    rintro e w1 ⟨rfl, b1⟩
    go_wp2_with fail
    refine (Great2_any w1 _ l (hA.below b1)).mono ?_
    rintro e w1' ⟨rfl, rfl⟩
    rw [h1]
    go_wp2_with fail
    go_ret
    exact ⟨rfl, b1⟩
  · have d1 : decide (a0 < 1) = true := decide_eq_true h2
    go_enter Try.func3, Try.ntmps3
    go_wp2_with fail
    refine (vawake_any w).mono ?_
    rintro e w1 ⟨rfl, b1⟩
    go_wp2_with fail
    refine (Great2_any w1 _ l (hA.below b1)).mono ?_
    rintro e w1' ⟨rfl, rfl⟩
    rw [h1]
    go_wp2_with fail
    go_ret
    exact ⟨rfl, b1⟩
  · have d1 : decide (a0 < 1) = false := decide_eq_false h2
    have d2 : decide (4096 < a0) = true := decide_eq_true h3
    go_enter Try.func3, Try.ntmps3
    go_wp2_with fail
    refine (vawake_any w).mono ?_
    rintro e w1 ⟨rfl, b1⟩
    go_wp2_with fail
    refine (Great2_any w1 _ l (hA.below b1)).mono ?_
    rintro e w1' ⟨rfl, rfl⟩
    rw [h1]
    go_wp2_with fail
    go_ret
    exact ⟨rfl, b1⟩

set_option maxRecDepth 100000 in
set_option maxHeartbeats 8000000 in
theorem bad (a0 base a2 : Int) (a3 : Option Addr) (len3 cap3 : Nat) (l : List Act2) (w : World) (hA : Acts2 w (.slice a3 len3 cap3) l) (hlen : len3 = l.length) (z : Nat) (hz : a0 = z) (hg0 : great2 l = false) (h1 : 1 ≤ z) (h2 : z ≤ 4096) (hb : base ≤ 9223372036854775807) (hn : a2 ≤ 9223372036854775807) (E : Int) (hE : barOf z base a2 = E) (hE0 : (E == 0) = false) :
    Calls Try.prog 3 #[.int .i64 a0, .int .i64 base, .int .i64 a2, .slice a3 len3 cap3] w fun e w' => e = .returned (.bool true) ∧ Below w.heap.size w w' := by
  subst hz hlen
  have d1 : decide ((z : Int) < 1) = false := decide_eq_false (by omega)
  have d2 : decide ((4096 : Int) < (z : Int)) = false := decide_eq_false (by omega)
  have e1 : (E != E) = false := by simp
  have e2 : (E != 0) = true := by simpa using hE0
  go_enter Try.func3, Try.ntmps3
  go_wp2_with fail
  refine (vawake_any w).mono ?_
  rintro e w1 ⟨rfl, b1⟩
  go_wp2_with fail
  refine (Great2_any w1 _ l (hA.below b1)).mono ?_
  rintro e w1' ⟨rfl, rfl⟩
  rw [hg0]
  go_wp2_with fail
  refine (New_ok w1 z (by omega) (by omega)).mono ?_
  rintro e w2 ⟨rfl, m2, k2⟩
  rw [Int.toNat_natCast] at m2
  have z2 : (List.replicate z (0 : UInt8)).length = z := List.length_replicate
  have b2 := b1.grown k2 b1.size (fun j e => by cases e)
  have B1 := b1.size
  clear k2
  obtain ⟨g, hg⟩ : ∃ g, g = w1.heap.size + 1 := ⟨_, rfl⟩
  obtain ⟨h, hh⟩ : ∃ h, h = w1.heap.size := ⟨_, rfl⟩
  rw [← hg, ← hh] at m2
  rw [← hg]
  have hB : w.heap.size ≤ h := by omega
  clear hg hh B1 b1
  clear d1 d2
  go_wp2_with fail
  refine (vNew_err w2 g h _ m2 base a2 (by rw [z2]; omega) (by rw [z2]; omega) hn hb E (by rw [z2]; exact hE) hE0).mono ?_
  rintro e w3 ⟨rfl, k3⟩
  have m3 := m2.same k3
  have b3 := b2.trans ((Below.of_none k3).mono b2.size)
  go_wp2_with fail
  refine (Open_err w3 g h _ m3 base a2 (by rw [z2]; omega) (by rw [z2]; omega) hn hb E (by rw [z2]; exact hE) hE0).mono ?_
  rintro e w4 ⟨rfl, k4⟩
  have b4 := b3.trans ((Below.of_none k4).mono b3.size)
  go_wp2_with fail
  refine (at_any z base a2 w4 (by omega) (by omega)).mono ?_
  rintro e w5 ⟨rfl, rfl⟩
  rw [hE]
  clear m2 m3 k3 k4 b2 b3
  go_wp2_with fail
  go_ret
  exact ⟨rfl, b4⟩

set_option maxRecDepth 100000 in
set_option maxHeartbeats 8000000 in
theorem good (a0 base a2 : Int) (a3 : Option Addr) (len3 cap3 : Nat) (l : List Act2) (w : World) (hA : Acts2 w (.slice a3 len3 cap3) l) (hlen : len3 = l.length) (z : Nat) (hz : a0 = z) (hg0 : great2 l = false) (h1 : 1 ≤ z) (h2 : z ≤ 4096) (n : Nat) (hn : a2 = n) (hE : barOf z base n = 0) :
    Calls Try.prog 3 #[.int .i64 a0, .int .i64 base, .int .i64 a2, .slice a3 len3 cap3] w fun e w' => e = .returned (.bool true) ∧ Below w.heap.size w w' := by
  subst hz hn hlen
  obtain ⟨hs, hb0, hb16, hbz⟩ := bar_size hE
  obtain ⟨n1, n2⟩ := hs.range
  have hbb := (bytesOf_bd (n : Int)).1
  have d1 : decide ((z : Int) < 1) = false := decide_eq_false (by omega)
  have d2 : decide ((4096 : Int) < (z : Int)) = false := decide_eq_false (by omega)
  obtain ⟨g80, g100⟩ := great2_no hg0
  have G100 := Lib.hid g100
  have GA := Lib.hid hA
  clear g100
  go_enter Try.func3, Try.ntmps3
  go_wp2_with fail
  refine (vawake_any w).mono ?_
  rintro e w1 ⟨rfl, b1⟩
  go_wp2_with fail
  refine (Great2_any w1 _ l (hA.below b1)).mono ?_
  rintro e w1' ⟨rfl, rfl⟩
  rw [hg0]
  go_wp2_with fail
  refine (New_ok w1 z (by omega) (by omega)).mono ?_
  rintro e w2 ⟨rfl, m2, k2⟩
  rw [Int.toNat_natCast] at m2
  have z2 : (List.replicate z (0 : UInt8)).length = z := List.length_replicate
  have b2 := b1.grown k2 b1.size (fun j e => by cases e)
  have B1 := b1.size
  clear k2
  obtain ⟨g, hg⟩ : ∃ g, g = w1.heap.size + 1 := ⟨_, rfl⟩
  obtain ⟨h, hh⟩ : ∃ h, h = w1.heap.size := ⟨_, rfl⟩
  rw [← hg, ← hh] at m2
  rw [← hg]
  have hB : w.heap.size ≤ h := by omega
  clear hg hh B1 b1
  clear d1 d2 hA
  go_wp2_with fail
  refine (vNew_ok w2 g h _ m2 base n (by rw [z2]; omega) (by rw [z2]; omega) (by omega) (by omega) (by rw [z2]; exact hE)).mono ?_
  rintro e w3 ⟨q, mb, rfl, hq, hmb, qa, ta, ma, tt⟩
  rw [wipe_zero z base n hb0 hbz] at ma
  go_wp2_with fail
  refine (Open_ok w3 g h _ ma base n (by rw [z2]; omega) (by rw [z2]; omega) (by omega) (by omega) (by rw [z2]; exact hE)).mono ?_
  rintro e w4 ⟨p, rfl, hp, pa, ka⟩
  have s4 : Both w4 q p g h (List.replicate z 0) base n mb [] 0 0 false 0 0 := by
    have := both_made (w := w4) (q := q) (p := p) (g := g) (h := h) (l := List.replicate z 0) (base := base) (n := n) (mb := mb) (by rw [wipe_zero z base n hb0 hbz]; exact ma.same ka) (by omega) (qa.kept (ka.block _ (lt_of_block qa) (by simp))) (ta.kept (ka.block _ ta.lt (by simp))) pa (by omega) (by omega) hs
    rw [wipe_zero z base n hb0 hbz] at this
    exact this
  have hz3 : w.heap.size ≤ w2.heap.size ∧ w2.heap.size ≤ w3.heap.size := ⟨b2.size, tt.size⟩
  have b4 : Below w.heap.size w w4 := (b2.trans (tt.below b2.size (by rintro k rfl; exact hB))).trans ((Below.of_none ka).mono (by omega))
  have since : Since w.heap.size q p h mb := ⟨by omega, by omega, by omega, by omega⟩
  clear m2 b2 qa ta ma tt pa ka hz3 hq hmb hp
  go_wp2_with fail
  refine (at_any z base n w4 (by omega) (by omega)).mono ?_
  rintro e w5 ⟨rfl, rfl⟩
  rw [hE]
  have hmk := make_bytes z (by omega)
  have hcv := conv_zeros w4 z
  obtain ⟨L0, hL0⟩ : ∃ L0, L0 = List.replicate z (0 : UInt8) := ⟨_, rfl⟩
  rw [← hL0] at hcv s4 z2
  clear hL0
  have HS4 := Lib.hid s4
  have HB4 := Lib.hid b4
  have HSI := Lib.hid since
  clear s4 b4 since
  go_upto_region 16 with fail
  clear hmk hcv
  have ka := (Below.refl w4.heap.size w4).alloc (Nat.le_refl _) (.cells (zeros z) 5)
  have hsz : (w4.alloc (.cells (zeros z) 5)).heap.size = w4.heap.size + 1 := by simp
  generalize w4.alloc (.cells (zeros z) 5) = w5 at ka hsz ⊢
  have HS5 := Lib.hid (HS4.out.grown (below_none ka))
  have HB5 := Lib.hid (HB4.out.trans (ka.mono HB4.out.size))
  have D0 : Hid (DS w (w5.alloc (.cells (wdC g q p L0 base n (.slice none 0 0) 0 0 false 0 0 (.slice none 0 0)) 45)) w5.heap.size q g h base n z ⟨p, mb, L0, [], 0, 0, false, 0, 0⟩ ⟨[], none, 0, [], none, 0⟩) :=
    Lib.hid (ds_start (HS5.out.grown (World.grownBy_alloc _ _ _)) (HB5.out.alloc HB5.out.size _) HSI.out HB5.out.size (heap_alloc_new w5 _) hb16 z2 h2)
  rw [hsz] at D0
  obtain ⟨x, hx⟩ : ∃ x, x = w4.heap.size + 1 := ⟨_, rfl⟩
  generalize w5.alloc _ = w6 at D0 ⊢
  rw [← hx] at D0 ⊢
  clear hx hsz ka HS4 HB4 HS5 HB5 HSI hE hs z2 hB
  go_wp2_with fail
  go_loopw [17] (fun i17 wr => ∃ (k : Nat) (s : St) (d : Dt), k ≤ l.length ∧ i17 = .int .i64 k ∧ Hid (DS w wr x q g h base n z s d) ∧ d.H.length ≤ k) (fun i17 _ => l.length - (intOf i17).toNat)
  case atStart => exact ⟨0, _, _, Nat.zero_le _, rfl, D0, Nat.le_refl _⟩
  case round =>
    obtain ⟨k, s, d, hk, rfl, DR, hH⟩ := hrel
    rename World => W3
    clear D0
    by_cases hlt : k < l.length
    · have hd : decide ((k : Int) < (l.length : Int)) = true := decide_eq_true (by omega)
      obtain ⟨ab, ao, c, hpa, hc, hf, c0, ⟨v, c1, hrow⟩, c2, c3, c4, c5, c6, c7⟩ := GA.out.at_ k hlt
      subst hpa
      have hab : ab < w.heap.size := World.block_lt_of_cell? w _ c0
      have ec : ∀ q, W3.cell? ⟨ab, q, none⟩ = w.cell? ⟨ab, q, none⟩ := fun q => World.cell?_of_block (a := ⟨ab, q, none⟩) (DR.out.bs.cs.bl.block ab hab)
      rw [← ec] at c0 c1 c2 c3 c4 c5 c6 c7
      clear ec
      have hcl : c.l.length ≤ 100 := G100.out _ (List.mem_of_getElem? hc)
      have HDo := Lib.hid (does_any DR.out c v ((hrow.below DR.out.bs.cs.bl).bufs (by omega)) hcl hrow.bd hf (by omega))
      have hkb : (k : Int) < (l.length : Int) := by omega
      have hw1 : IntKind.i64.wrap ((k : Int) + 1) = (k : Int) + 1 := IntWalk.i64_in _ (by omega)
      clear hc hf hrow hcl
      go_wp2_with fail
      refine HDo.out.mono ?_
      rintro e w7 ⟨rfl, s', d', D7, hH'⟩
      have D5 := Lib.hid D7
      clear D7 DR HDo c0 c1 c2 c3 c4 c5 c6 c7
      go_wp2_with fail
      refine (DS.text D5.out).mono ?_
      rintro e w8 ⟨rfl, rfl⟩
      go_upto_region 22 with fail
      obtain ⟨FL, hFL⟩ : ∃ z, z = ((freeL (s'.cs.map Oc.c) n).length : Int) := ⟨_, rfl⟩
      have HFL := Lib.hid hFL
      have HSS := Lib.hid (bytes_same ⟨s'.lm.toArray⟩)
      have HFF := Lib.hid (show (FL != FL) = false by simp)
      have HLL := Lib.hid (show ((d'.l.length : Int) != (d'.l.length : Int)) = false by simp)
      have HBB := Lib.hid (show (s'.br != s'.br) = false by cases s'.br <;> rfl)
      clear hFL
      refine wp_region_noPanic ?_
      refine region_held (S := (fun V => WAt V x g q (wdOf s' d').p (wdOf s' d').lm base n (wdOf s' d').o (wdOf s' d').told (wdOf s' d').back (wdOf s' d').br (wdOf s' d').tk (wdOf s' d').td (wdOf s' d').hv)) (by kernel_rfl) (fun V dd => (dd.block _).trans D5.out.bs.bx) (fun V dd hS => ?_)
      have DV := Lib.hid (D5.out.grow (Below.of_none dd.grown))
      clear dd D5
      refine wpAnyH_take (i := 0) (oi := ⟨some 114, Op.move (Operand.tmp 19), _, _, _, none⟩) (v := (.int .i64 0)) rfl (by kernel_rfl) (by kernel_rfl) (by kernel_rfl) (fun _ _ _ h => h) (Or.inl ⟨by rfl, fun w' h' => ?_⟩) hS ?_
      · clear h'
        go_simp
      simp only [Act.put]
      refine wpAnyH_take (i := 1) (oi := ⟨some 115, Op.binOp BinOp.neq 26 (Operand.tmp 114) (Operand.const (Value.int IntKind.i64 0)) 26, _, _, _, none⟩) (v := (.bool false)) rfl (by kernel_rfl) (by kernel_rfl) (by kernel_rfl) (fun _ _ _ h => h) (Or.inl ⟨by rfl, fun w' h' => ?_⟩) hS ?_
      · clear h'
        go_simp
      simp only [Act.put]
      refine wpAnyH_take (i := 2) (oi := ⟨some 116, Op.move (Operand.tmp 115), _, _, _, none⟩) (v := (.bool false)) rfl (by kernel_rfl) (by kernel_rfl) (by kernel_rfl) (fun _ _ _ h => h) (Or.inl ⟨by rfl, fun w' h' => ?_⟩) hS ?_
      · clear h'
        go_simp
      simp only [Act.put]
      refine wpAnyH_take (i := 3) (oi := ⟨some 117, Op.move (Operand.tmp 18), _, _, _, some (2, false)⟩) (v := (.string ⟨s'.lm.toArray⟩)) rfl (by kernel_rfl) (by kernel_rfl) (by kernel_rfl) (fun _ _ _ h => h) (Or.inl ⟨by kernel_rfl, fun w' h' => ?_⟩) hS ?_
      · clear h'
        go_simp
      simp only [Act.put]
      refine wpAnyH_take (i := 4) (oi := ⟨some 118, Op.move (Operand.tmp 16), _, _, _, some (2, false)⟩) (v := (.pointer (some ⟨x, 0, none⟩))) rfl (by kernel_rfl) (by kernel_rfl) (by kernel_rfl) (fun _ _ _ h => h) (Or.inl ⟨by kernel_rfl, fun w' h' => ?_⟩) hS ?_
      · clear h'
        go_simp
      simp only [Act.put]
      refine wpAnyH_take (i := 5) (oi := ⟨some 119, Op.nilCheck (Operand.tmp 118), _, _, _, some (2, false)⟩) (v := (.pointer (some ⟨x, 0, none⟩))) rfl (by kernel_rfl) (by kernel_rfl) (by kernel_rfl) (fun _ _ _ h => h) (Or.inl ⟨by kernel_rfl, fun w' h' => ?_⟩) hS ?_
      · clear h'
        go_simp
      simp only [Act.put]
      refine wpAnyH_take (i := 6) (oi := ⟨some 120, Op.fieldAddr 45 (Operand.tmp 119) 3, _, _, _, some (2, false)⟩) (v := (.pointer (some ⟨x, 3, none⟩))) rfl (by kernel_rfl) (by kernel_rfl) (by kernel_rfl) (fun _ _ _ h => h) (Or.inl ⟨by kernel_rfl, fun w' h' => ?_⟩) hS ?_
      · clear h'
        go_simp
      simp only [Act.put]
      refine wpAnyH_take (i := 7) (oi := ⟨some 121, Op.load 9 (Operand.tmp 120), _, _, _, some (2, false)⟩) (v := (.string ⟨s'.lm.toArray⟩)) rfl (by kernel_rfl) (by kernel_rfl) (by kernel_rfl) (fun _ _ _ h => h) (Or.inl ⟨by kernel_rfl, fun w' h' => ?_⟩) hS ?_
      · have c0 := (show w'.cell? ⟨x, 3, none⟩ = some (.string ⟨s'.lm.toArray⟩) from wd_c3 h')
        clear h'
        go_simp
      simp only [Act.put]
      refine wpAnyH_take (i := 8) (oi := ⟨some 122, Op.binOp BinOp.neq 9 (Operand.tmp 117) (Operand.tmp 121) 9, _, _, _, some (2, false)⟩) (v := (.bool false)) rfl (by kernel_rfl) (by kernel_rfl) (by kernel_rfl) (fun _ _ _ h => h) (Or.inl ⟨by kernel_rfl, fun w' h' => ?_⟩) hS ?_
      · have c0 := HSS.out
        clear h'
        go_simp
      simp only [Act.put]
      refine wpAnyH_take (i := 9) (oi := ⟨some 123, Op.pick (Operand.tmp 116) (Operand.const (Value.bool true)) (Operand.tmp 122), _, _, _, none⟩) (v := (.bool false)) rfl (by kernel_rfl) (by kernel_rfl) (by kernel_rfl) (fun _ _ _ h => h) (Or.inl ⟨by rfl, fun w' h' => ?_⟩) hS ?_
      · clear h'
        go_simp
      simp only [Act.put]
      refine wpAnyH_take (i := 10) (oi := ⟨some 124, Op.move (Operand.tmp 123), _, _, _, none⟩) (v := (.bool false)) rfl (by kernel_rfl) (by kernel_rfl) (by kernel_rfl) (fun _ _ _ h => h) (Or.inl ⟨by rfl, fun w' h' => ?_⟩) hS ?_
      · clear h'
        go_simp
      simp only [Act.put]
      refine wpAnyH_take (i := 11) (oi := ⟨some 125, Op.move (Operand.tmp 11), _, _, _, some (10, false)⟩) (v := (.pointer (some ⟨q, 0, none⟩))) rfl (by kernel_rfl) (by kernel_rfl) (by kernel_rfl) (fun _ _ _ h => h) (Or.inl ⟨by kernel_rfl, fun w' h' => ?_⟩) hS ?_
      · clear h'
        go_simp
      simp only [Act.put]
      refine wpAnyH_take (i := 13) (oi := ⟨some 127, Op.move (Operand.tmp 16), _, _, _, some (10, false)⟩) (v := (.pointer (some ⟨x, 0, none⟩))) rfl (by kernel_rfl) (by kernel_rfl) (by kernel_rfl) (fun _ _ _ h => h) (Or.inl ⟨by kernel_rfl, fun w' h' => ?_⟩) hS ?_
      · clear h'
        go_simp
      simp only [Act.put]
      refine wpAnyH_take (i := 14) (oi := ⟨some 128, Op.nilCheck (Operand.tmp 127), _, _, _, some (10, false)⟩) (v := (.pointer (some ⟨x, 0, none⟩))) rfl (by kernel_rfl) (by kernel_rfl) (by kernel_rfl) (fun _ _ _ h => h) (Or.inl ⟨by kernel_rfl, fun w' h' => ?_⟩) hS ?_
      · clear h'
        go_simp
      simp only [Act.put]
      refine wpAnyH_take (i := 15) (oi := ⟨some 129, Op.fieldAddr 45 (Operand.tmp 128) 4, _, _, _, some (10, false)⟩) (v := (.pointer (some ⟨x, 4, none⟩))) rfl (by kernel_rfl) (by kernel_rfl) (by kernel_rfl) (fun _ _ _ h => h) (Or.inl ⟨by kernel_rfl, fun w' h' => ?_⟩) hS ?_
      · clear h'
        go_simp
      simp only [Act.put]
      refine wpAnyH_take (i := 16) (oi := ⟨some 130, Op.load 40 (Operand.tmp 129), _, _, _, some (10, false)⟩) (v := (.agg #[.int .i64 base, .int .i64 n, .slice d'.op d'.l.length d'.oc, .int .i64 s'.off, .int .i64 s'.back, .bool s'.br])) rfl (by kernel_rfl) (by kernel_rfl) (by kernel_rfl) (fun _ _ _ h => h) (Or.inl ⟨by kernel_rfl, fun w' h' => ?_⟩) hS ?_
      · have c0 := (show w'.cell? ⟨x, 4, none⟩ = some (.int .i64 base) from wd_c4 h')
        have c1 := (show w'.cell? ⟨x, 5, none⟩ = some (.int .i64 n) from wd_c5 h')
        have c2 := (show w'.cell? ⟨x, 6, none⟩ = some (.slice d'.op d'.l.length d'.oc) from wd_c6 h')
        have c3 := (show w'.cell? ⟨x, 7, none⟩ = some (.int .i64 s'.off) from wd_c7 h')
        have c4 := (show w'.cell? ⟨x, 8, none⟩ = some (.int .i64 s'.back) from wd_c8 h')
        have c5 := (show w'.cell? ⟨x, 9, none⟩ = some (.bool s'.br) from wd_c9 h')
        clear h'
        go_simp
      simp only [Act.put]
      refine wpAnyH_ready (rs := [12]) (by kernel_rfl) (by simp) ?_
      refine AllReadyH.cons rfl (fun K hK => ?_) AllReadyH.nil
      go_simp
      refine (DS.cFree DV.out FL HFL.out).mono ?_
      rintro e v1 ⟨rfl, b1⟩
      have D1 := Lib.hid (DV.out.grow b1)
      have S1 : (fun V => WAt V x g q (wdOf s' d').p (wdOf s' d').lm base n (wdOf s' d').o (wdOf s' d').told (wdOf s' d').back (wdOf s' d').br (wdOf s' d').tk (wdOf s' d').td (wdOf s' d').hv) v1 := hS.grow b1
      clear b1 DV
      go_simp
      refine hK.out _ _ S1 (fun _ => ?_)
      clear hK K
      refine wpAnyH_ready (rs := [17]) (by kernel_rfl) (by simp) ?_
      refine AllReadyH.cons rfl (fun K hK => ?_) AllReadyH.nil
      go_simp
      refine (DS.rFree D1.out FL HFL.out).mono ?_
      rintro e v2 ⟨rfl, b2⟩
      have D2 := Lib.hid (D1.out.grow b2)
      have S2 : (fun V => WAt V x g q (wdOf s' d').p (wdOf s' d').lm base n (wdOf s' d').o (wdOf s' d').told (wdOf s' d').back (wdOf s' d').br (wdOf s' d').tk (wdOf s' d').td (wdOf s' d').hv) v2 := S1.grow b2
      clear b2 D1 S1
      go_simp
      refine hK.out _ _ S2 (fun _ => ?_)
      clear hK K
      refine wpAnyH_take (i := 18) (oi := ⟨some 132, Op.binOp BinOp.neq 3 (Operand.tmp 126) (Operand.tmp 131) 3, _, _, _, some (10, false)⟩) (v := (.bool false)) rfl (by kernel_rfl) (by kernel_rfl) (by kernel_rfl) (fun _ _ _ h => h) (Or.inl ⟨by kernel_rfl, fun w' h' => ?_⟩) S2 ?_
      · have c0 := HFF.out
        clear h'
        go_simp
      simp only [Act.put]
      refine wpAnyH_take (i := 19) (oi := ⟨some 133, Op.pick (Operand.tmp 124) (Operand.const (Value.bool true)) (Operand.tmp 132), _, _, _, none⟩) (v := (.bool false)) rfl (by kernel_rfl) (by kernel_rfl) (by kernel_rfl) (fun _ _ _ h => h) (Or.inl ⟨by rfl, fun w' h' => ?_⟩) S2 ?_
      · clear h'
        go_simp
      simp only [Act.put]
      refine wpAnyH_take (i := 20) (oi := ⟨some 134, Op.move (Operand.tmp 133), _, _, _, none⟩) (v := (.bool false)) rfl (by kernel_rfl) (by kernel_rfl) (by kernel_rfl) (fun _ _ _ h => h) (Or.inl ⟨by rfl, fun w' h' => ?_⟩) S2 ?_
      · clear h'
        go_simp
      simp only [Act.put]
      refine wpAnyH_take (i := 21) (oi := ⟨some 135, Op.move (Operand.tmp 11), _, _, _, some (20, false)⟩) (v := (.pointer (some ⟨q, 0, none⟩))) rfl (by kernel_rfl) (by kernel_rfl) (by kernel_rfl) (fun _ _ _ h => h) (Or.inl ⟨by kernel_rfl, fun w' h' => ?_⟩) S2 ?_
      · clear h'
        go_simp
      simp only [Act.put]
      refine wpAnyH_take (i := 23) (oi := ⟨some 137, Op.move (Operand.tmp 16), _, _, _, some (20, false)⟩) (v := (.pointer (some ⟨x, 0, none⟩))) rfl (by kernel_rfl) (by kernel_rfl) (by kernel_rfl) (fun _ _ _ h => h) (Or.inl ⟨by kernel_rfl, fun w' h' => ?_⟩) S2 ?_
      · clear h'
        go_simp
      simp only [Act.put]
      refine wpAnyH_take (i := 24) (oi := ⟨some 138, Op.nilCheck (Operand.tmp 137), _, _, _, some (20, false)⟩) (v := (.pointer (some ⟨x, 0, none⟩))) rfl (by kernel_rfl) (by kernel_rfl) (by kernel_rfl) (fun _ _ _ h => h) (Or.inl ⟨by kernel_rfl, fun w' h' => ?_⟩) S2 ?_
      · clear h'
        go_simp
      simp only [Act.put]
      refine wpAnyH_take (i := 25) (oi := ⟨some 139, Op.fieldAddr 45 (Operand.tmp 138) 4, _, _, _, some (20, false)⟩) (v := (.pointer (some ⟨x, 4, none⟩))) rfl (by kernel_rfl) (by kernel_rfl) (by kernel_rfl) (fun _ _ _ h => h) (Or.inl ⟨by kernel_rfl, fun w' h' => ?_⟩) S2 ?_
      · clear h'
        go_simp
      simp only [Act.put]
      refine wpAnyH_take (i := 26) (oi := ⟨some 140, Op.fieldAddr 40 (Operand.tmp 139) 2, _, _, _, some (20, false)⟩) (v := (.pointer (some ⟨x, 6, none⟩))) rfl (by kernel_rfl) (by kernel_rfl) (by kernel_rfl) (fun _ _ _ h => h) (Or.inl ⟨by kernel_rfl, fun w' h' => ?_⟩) S2 ?_
      · clear h'
        go_simp
      simp only [Act.put]
      refine wpAnyH_take (i := 27) (oi := ⟨some 141, Op.load 38 (Operand.tmp 140), _, _, _, some (20, false)⟩) (v := (.slice d'.op d'.l.length d'.oc)) rfl (by kernel_rfl) (by kernel_rfl) (by kernel_rfl) (fun _ _ _ h => h) (Or.inl ⟨by kernel_rfl, fun w' h' => ?_⟩) S2 ?_
      · have c0 := (show w'.cell? ⟨x, 6, none⟩ = some (.slice d'.op d'.l.length d'.oc) from wd_c6 h')
        clear h'
        go_simp
      simp only [Act.put]
      refine wpAnyH_take (i := 28) (oi := ⟨some 142, Op.call { callee := Callee.builtin Builtin.len, args := #[(Operand.tmp 141)], argTypes := #[38] }, _, _, _, some (20, false)⟩) (v := (.int .i64 (d'.l.length : Int))) rfl (by kernel_rfl) (by kernel_rfl) (by kernel_rfl) (fun _ _ _ h => h) (Or.inl ⟨by kernel_rfl, fun w' h' => ?_⟩) S2 ?_
      · clear h'
        go_simp
      simp only [Act.put]
      refine wpAnyH_ready (rs := [22]) (by kernel_rfl) (by simp) ?_
      refine AllReadyH.cons rfl (fun K hK => ?_) AllReadyH.nil
      go_simp
      refine (DS.cOut D2.out).mono ?_
      rintro e v3 ⟨rfl, rfl⟩
      go_simp
      refine hK.out _ _ S2 (fun _ => ?_)
      clear hK K
      refine wpAnyH_take (i := 29) (oi := ⟨some 143, Op.binOp BinOp.neq 3 (Operand.tmp 136) (Operand.tmp 142) 3, _, _, _, some (20, false)⟩) (v := (.bool false)) rfl (by kernel_rfl) (by kernel_rfl) (by kernel_rfl) (fun _ _ _ h => h) (Or.inl ⟨by kernel_rfl, fun w' h' => ?_⟩) S2 ?_
      · have c0 := HLL.out
        clear h'
        go_simp
      simp only [Act.put]
      refine wpAnyH_take (i := 30) (oi := ⟨some 144, Op.pick (Operand.tmp 134) (Operand.const (Value.bool true)) (Operand.tmp 143), _, _, _, none⟩) (v := (.bool false)) rfl (by kernel_rfl) (by kernel_rfl) (by kernel_rfl) (fun _ _ _ h => h) (Or.inl ⟨by rfl, fun w' h' => ?_⟩) S2 ?_
      · clear h'
        go_simp
      simp only [Act.put]
      refine wpAnyH_take (i := 31) (oi := ⟨some 145, Op.move (Operand.tmp 144), _, _, _, none⟩) (v := (.bool false)) rfl (by kernel_rfl) (by kernel_rfl) (by kernel_rfl) (fun _ _ _ h => h) (Or.inl ⟨by rfl, fun w' h' => ?_⟩) S2 ?_
      · clear h'
        go_simp
      simp only [Act.put]
      refine wpAnyH_take (i := 32) (oi := ⟨some 146, Op.move (Operand.tmp 11), _, _, _, some (31, false)⟩) (v := (.pointer (some ⟨q, 0, none⟩))) rfl (by kernel_rfl) (by kernel_rfl) (by kernel_rfl) (fun _ _ _ h => h) (Or.inl ⟨by kernel_rfl, fun w' h' => ?_⟩) S2 ?_
      · clear h'
        go_simp
      simp only [Act.put]
      refine wpAnyH_take (i := 34) (oi := ⟨some 148, Op.move (Operand.tmp 16), _, _, _, some (31, false)⟩) (v := (.pointer (some ⟨x, 0, none⟩))) rfl (by kernel_rfl) (by kernel_rfl) (by kernel_rfl) (fun _ _ _ h => h) (Or.inl ⟨by kernel_rfl, fun w' h' => ?_⟩) S2 ?_
      · clear h'
        go_simp
      simp only [Act.put]
      refine wpAnyH_take (i := 35) (oi := ⟨some 149, Op.nilCheck (Operand.tmp 148), _, _, _, some (31, false)⟩) (v := (.pointer (some ⟨x, 0, none⟩))) rfl (by kernel_rfl) (by kernel_rfl) (by kernel_rfl) (fun _ _ _ h => h) (Or.inl ⟨by kernel_rfl, fun w' h' => ?_⟩) S2 ?_
      · clear h'
        go_simp
      simp only [Act.put]
      refine wpAnyH_take (i := 36) (oi := ⟨some 150, Op.fieldAddr 45 (Operand.tmp 149) 4, _, _, _, some (31, false)⟩) (v := (.pointer (some ⟨x, 4, none⟩))) rfl (by kernel_rfl) (by kernel_rfl) (by kernel_rfl) (fun _ _ _ h => h) (Or.inl ⟨by kernel_rfl, fun w' h' => ?_⟩) S2 ?_
      · clear h'
        go_simp
      simp only [Act.put]
      refine wpAnyH_take (i := 37) (oi := ⟨some 151, Op.fieldAddr 40 (Operand.tmp 150) 5, _, _, _, some (31, false)⟩) (v := (.pointer (some ⟨x, 9, none⟩))) rfl (by kernel_rfl) (by kernel_rfl) (by kernel_rfl) (fun _ _ _ h => h) (Or.inl ⟨by kernel_rfl, fun w' h' => ?_⟩) S2 ?_
      · clear h'
        go_simp
      simp only [Act.put]
      refine wpAnyH_take (i := 38) (oi := ⟨some 152, Op.load 4 (Operand.tmp 151), _, _, _, some (31, false)⟩) (v := (.bool s'.br)) rfl (by kernel_rfl) (by kernel_rfl) (by kernel_rfl) (fun _ _ _ h => h) (Or.inl ⟨by kernel_rfl, fun w' h' => ?_⟩) S2 ?_
      · have c0 := (show w'.cell? ⟨x, 9, none⟩ = some (.bool s'.br) from wd_c9 h')
        clear h'
        go_simp
      simp only [Act.put]
      refine wpAnyH_ready (rs := [33]) (by kernel_rfl) (by simp) ?_
      refine AllReadyH.cons rfl (fun K hK => ?_) AllReadyH.nil
      go_simp
      refine (DS.cBroken D2.out).mono ?_
      rintro e v3 ⟨rfl, rfl⟩
      go_simp
      refine hK.out _ _ S2 (fun _ => ?_)
      clear hK K
      refine wpAnyH_take (i := 39) (oi := ⟨some 153, Op.binOp BinOp.neq 4 (Operand.tmp 147) (Operand.tmp 152) 4, _, _, _, some (31, false)⟩) (v := (.bool false)) rfl (by kernel_rfl) (by kernel_rfl) (by kernel_rfl) (fun _ _ _ h => h) (Or.inl ⟨by kernel_rfl, fun w' h' => ?_⟩) S2 ?_
      · have c0 := HBB.out
        clear h'
        go_simp
      simp only [Act.put]
      refine wpAnyH_take (i := 40) (oi := ⟨some 154, Op.pick (Operand.tmp 145) (Operand.const (Value.bool true)) (Operand.tmp 153), _, _, _, none⟩) (v := (.bool false)) rfl (by kernel_rfl) (by kernel_rfl) (by kernel_rfl) (fun _ _ _ h => h) (Or.inl ⟨by rfl, fun w' h' => ?_⟩) S2 ?_
      · clear h'
        go_simp
      simp only [Act.put]
      refine wpAnyH_done (by kernel_rfl) (NoPanic.normal ?_) _
      clear hS S2
      try simp only [List.setIfInBounds_toArray, List.set_cons_zero, List.set_cons_succ]
      go_wp2_with fail
      go_roundw
      case rel => exact ⟨k + 1, s', d', by omega, by go_num, D2, by omega⟩
      case measure => simp [intOf]; omega
    · have hd : decide ((k : Int) < (l.length : Int)) = false := decide_eq_false (by omega)
      go_wp2_with fail
      go_ret
      exact ⟨rfl, DR.out.bs.cs.bl⟩

theorem walk (a0 a1 a2 : Int) (a3 : Option Addr) (len3 cap3 : Nat) (l : List Act2) (w : World) (w0 : (Lit.int .i64 a0).wf = true) (w1 : (Lit.int .i64 a1).wf = true) (w2 : (Lit.int .i64 a2).wf = true) (w3 : PAct2 w a3 len3 l) :
    Calls Try.prog 3 #[.int .i64 a0, .int .i64 a1, .int .i64 a2, .slice a3 len3 cap3] w fun e w' => e = .returned (.bool true) ∧ Below w.heap.size w w' := by
  have b0 := wf_i64 w0
  have b1 := wf_i64 w1
  have b2 := wf_i64 w2
  obtain ⟨cap', hl⟩ := w3
  obtain ⟨p', c', e1, hmax⟩ := hl.form
  injection e1 with e1 e2 e3
  subst e1 e2 e3
  have hA : Acts2 w (.slice a3 l.length cap3) l := by
    obtain ⟨p', cap', e, h1, h2⟩ := hl
    injection e with e1 e2 e3
    subst e1
    exact ⟨_, cap3, rfl, h1, h2⟩
  by_cases hg : great2 l = true
  · exact early a0 a1 a2 a3 l.length cap3 l w hA rfl (.inl hg)
  have hg : great2 l = false := by simpa using hg
  by_cases h1 : a0 < 1
  · exact early a0 a1 a2 a3 l.length cap3 l w hA rfl (.inr (.inl ⟨hg, h1⟩))
  by_cases h2 : 4096 < a0
  · exact early a0 a1 a2 a3 l.length cap3 l w hA rfl (.inr (.inr ⟨hg, h1, h2⟩))
  obtain ⟨z, hz⟩ := Int.eq_ofNat_of_zero_le (show (0 : Int) ≤ a0 by omega)
  by_cases hE : barOf z a1 a2 = 0
  · have hs := (bar_size hE).1.range
    obtain ⟨n, hn⟩ := Int.eq_ofNat_of_zero_le (show (0 : Int) ≤ a2 by omega)
    exact good a0 a1 a2 a3 l.length cap3 l w hA rfl z hz hg (by omega) (by omega) n hn (by rw [← hn]; exact hE)
  · exact bad a0 a1 a2 a3 l.length cap3 l w hA rfl z hz hg (by omega) (by omega) b1.2 b2.2 _ rfl (by simpa using hE)
set_option maxRecDepth 100000 in
theorem lifted (os : Os) (started : os.Started) (H : Type) (enc : TypeId × Value → H) :
    ReturnsInHanded {} Try.checked os 3 .any (Rows.virtqPlaysSpec.pre6 enc Try.prog Try.f3 Rows.virtqPlaysRow.domain false) (Rows.virtqPlaysSpec.post enc Try.prog Try.f3 false true false false) := by
  refine returnsInHanded_of_change (C := Try.checked) own started (by kernel_rfl) Try.func3
    (ChangeSpec.witness6 (enc := enc) (C := Try.checked) false ⟨#[], #[.int .i64 0, .int .i64 0, .int .i64 0, .slice none 0 0], []⟩ 8 (by kernel_rfl) (by kernel_rfl) (by kernel_rfl) (by kernel_rfl)) ?_
  intro W base args ds gs before hval0 hW hcnd _
  have hval : ∀ (j : Nat) t v, Try.f3.params[j]? = some t → args[j]? = some v → Value.okWide Try.prog W .any base t v := hval0
  have hW' := hW
  obtain ⟨p, q, hA0, hV, rfl, hfz, hnd⟩ := hW
  have hA : DataW.TrodAll enc Try.prog W 0 (fun _ => true) true Try.f3.params.toList args.toList ds p := hA0
  rw [Try.params3] at hA hval
  obtain ⟨v0, vs0, d0, ds0, p0, q0, hargs, rfl, rfl, h0, r0⟩ := trodAll_cons hA
  obtain ⟨v1, vs1, d1, ds1, p1, q1, rfl, rfl, rfl, h1, r1⟩ := trodAll_cons r0
  obtain ⟨v2, vs2, d2, ds2, p2, q2, rfl, rfl, rfl, h2, r2⟩ := trodAll_cons r1
  obtain ⟨v3, vs3, d3, ds3, p3, q3, rfl, rfl, rfl, h3, r3⟩ := trodAll_cons r2
  obtain ⟨rfl, rfl, rfl⟩ := trodAll_nil r3
  obtain rfl : args = #[v0, v1, v2, v3] := by cases args; simp_all
  obtain ⟨rfl, rfl⟩ := trodVars_none hV
  obtain ⟨a0, rfl, rfl, rfl, w0⟩ := open_int Try.underlying3 (hval 0 3 v0 rfl rfl) h0
  obtain ⟨a1, rfl, rfl, rfl, w1⟩ := open_int Try.underlying3 (hval 1 3 v1 rfl rfl) h1
  obtain ⟨a2, rfl, rfl, rfl, w2⟩ := open_int Try.underlying3 (hval 2 3 v2 rfl rfl) h2
  obtain ⟨a3, len3, cap3, rfl⟩ := okWide_slice Try.underlying22 (hval 3 22 v3 rfl rfl)
  have k3 := h3
  have lt3 : ∀ x ∈ p3, x.block < W.heap.size := by obtain ⟨m, hm⟩ := k3; exact DataW.trod_lt m _ _ _ hm
  obtain ⟨l3, w3⟩ : ∃ l, PAct2 W a3 len3 l := by obtain ⟨fuel, hf⟩ := h3; exact open_pa hf
  clear hA0 hval0
  refine (walk a0 a1 a2 a3 len3 cap3 l3 W w0 w1 w2 w3).mono fun e W' ⟨he, bel⟩ => ?_
  subst he
  exact ⟨_, rfl, _, _, _, [], _, [], hW', trodAll_mk1 (shut_bool Try.underlying4 _), (trodAll_cons_mk (shut_int Try.underlying3 w0) (trodAll_cons_mk (shut_int Try.underlying3 w1) (trodAll_cons_mk (shut_int Try.underlying3 w2) (trodAll_cons_mk (Below.trod laidOut (by kernel_rfl) (of_decide_eq_true (by kernel_rfl)) k3 bel lt3) trodAll_mk0)))), rfl, bel.frame _, fun h => by cases h⟩

/-- THE STATEMENT. -/
theorem proved : Rows.VirtqPlaysSaid :=
  OpenClaim.holds_of_wide 3 Try.f3 rfl rfl rfl rfl rfl rfl rfl ⟨rfl, rfl, rfl, rfl, rfl⟩ rfl rfl rfl rfl rfl (by kernel_rfl) Try.func3 (by kernel_rfl)
    (of_decide_eq_true (by kernel_rfl)) (by unfold Func.isWrapper; first | (rw [if_pos (by decide +kernel)]; kernel_rfl) | (rw [if_neg (by decide +kernel)]; exact ⟨rfl, rfl⟩))
    (fun os started H enc _ => lifted os started H enc)
#print axioms proved

end Go.Proofs.Ytjelgifijhcnnaa.vpl
