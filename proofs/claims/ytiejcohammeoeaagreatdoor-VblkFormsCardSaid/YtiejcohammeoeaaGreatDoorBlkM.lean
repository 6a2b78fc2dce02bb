/-
  Layer 3: the device takes the next order. Conditions: the memory is of at most 65536 bytes; an order is offered, and none of its chain's head is with the device.
-/
import Derived.Test.YtiejcohammeoeaaGreatDoorBlkL
namespace Go.Proofs.YtiejcohammeoeaaGreatDoor
open Go.RowKit Go.Sort

/-- A port with what it has taken. -/
structure RS (w : World) (r g h p u : Nat) (lm : List UInt8) (base taken told : Int) (ts : List (Int × Tkn)) : Prop where
  ra : RAt w r g p u
  ps : PS w p g h lm base 32 taken told
  tab : IsTab w u (ts.map fun t => (t.1, t.2.val))
def RB (h p u : Nat) : Nat → Prop := fun k => k = h ∨ k = p ∨ k = u
section
variable {w w' : World} {r g h p u : Nat} {lm : List UInt8} {base taken told : Int} {ts : List (Int × Tkn)}
theorem RS.grown (s : RS w r g h p u lm base taken told ts) (k : w.grownBy w' none) : RS w' r g h p u lm base taken told ts :=
  ⟨s.ra.kept (k.block _ (lt_of_block s.ra) (by simp)), s.ps.grown k, s.tab.kept (k.block _ s.tab.lt (by simp))⟩
theorem RS.ne (s : RS w r g h p u lm base taken told ts) : r ≠ g ∧ r ≠ h ∧ r ≠ p ∧ u ≠ r ∧ u ≠ g ∧ u ≠ h ∧ u ≠ p := by
  refine ⟨?_, s.ps.mem.not_u8 s.ra.c0 (fun x e => by cases e), ?_, tab_ne s.tab s.ra, tab_ne s.tab s.ps.mem.1, tab_ne s.tab s.ps.mem.2, tab_ne s.tab s.ps.at_⟩
  · rintro rfl
    have h1 := s.ra
    have h2 := s.ps.mem.1
    unfold RAt at h1
    rw [h1] at h2
    injection h2 with h2
    injection h2 with _ h2
    exact absurd h2 (by decide)
  · rintro rfl
    have h1 := s.ra
    have h2 := s.ps.at_
    unfold PAt at h2
    unfold RAt at h1
    rw [h1] at h2
    injection h2 with h2
    injection h2 with _ h2
    exact absurd h2 (by decide)
theorem RS.lts (s : RS w r g h p u lm base taken told ts) : r < w.heap.size ∧ g < w.heap.size ∧ h < w.heap.size ∧ p < w.heap.size ∧ u < w.heap.size := ⟨lt_of_block s.ra, s.ps.mem.lt1, s.ps.mem.lt2, lt_of_block s.ps.at_, s.tab.lt⟩
/-- Another block is written: the port stays. -/
theorem RS.aside (s : RS w r g h p u lm base taken told ts) {b : Nat} (k : w.grownBy w' (some b)) (hb : b ≠ r ∧ b ≠ g ∧ b ≠ h ∧ b ≠ p ∧ b ≠ u) : RS w' r g h p u lm base taken told ts := by
  obtain ⟨h1, h2, h3, h4, h5⟩ := hb
  have keep : ∀ x, x < w.heap.size → b ≠ x → w'.heap[x]? = w.heap[x]? := fun x hx hn => k.block x hx (fun e => hn (by injection e with e; exact e.symm))
  obtain ⟨l1, l2, l3, l4, l5⟩ := s.lts
  exact ⟨s.ra.kept (keep _ l1 h1), { s.ps with mem := ⟨(keep _ l2 h2).trans s.ps.mem.1, (keep _ l3 h3).trans s.ps.mem.2⟩, at_ := s.ps.at_.kept (keep _ l4 h4) }, s.tab.kept (keep _ l5 h5)⟩
end

theorem ask_len {lm : List UInt8} {l : List Bf} {o : Ord} (h : askL lm l = some o) : 2 ≤ l.length ∧ l.length ≤ 3 := by
  unfold askL at h
  split at h
  · rename_i k _
    split at h
    · rename_i hl
      have h1 := like_len hl
      have h2 := chainL_len (shpAt k) 0
      have h3 : 2 ≤ (chainL (shpAt k) 0).length := by
        unfold chainL
        split <;> simp
      omega
    · cases h
  · cases h
theorem follow_all (lm : List UInt8) (base : Int) (n : Nat) (P : Bf → Prop) (hP : ∀ i, (dX lm base i).2 = true → P (bfOf (dX lm base i).1)) : ∀ (f : Nat) (i : Int) (acc l : List Bf), followF lm base n f i acc = some l → (∀ x ∈ acc, P x) → ∀ x ∈ l, P x
  | 0, _, _, _, h, _ => by cases h
  | f + 1, i, acc, l, h, ha => by
    rw [followF_succ] at h
    split at h
    · split at h
      · rename_i hd
        have hacc : ∀ x ∈ acc ++ [bfOf (dX lm base i).1], P x := by
          intro x hx
          rcases List.mem_append.1 hx with hx | hx
          · exact ha x hx
          · rw [List.mem_singleton] at hx; subst hx; exact hP i hd
        split at h
        · split at h
          · injection h with h; subst h; exact hacc
          · cases h
        · exact follow_all lm base n P hP f _ _ l h hacc
      · cases h
    · cases h
theorem follow_bd {lm : List UInt8} {base : Int} {n : Nat} {i : Int} {l : List Bf} (h : followF lm base n n i [] = some l) (l2 : lm.length ≤ 65536) : ∀ x ∈ l, x.n ≤ 65536 := by
  refine follow_all lm base n (fun x => x.n ≤ 65536) (fun i hi => ?_) n i [] l h (by simp)
  unfold dX dbuf at hi ⊢
  split at hi
  · cases hi
  · rename_i hc
    rw [if_neg hc]
    show (getX lm (base + 16 * i + 8) 4 : Int) ≤ 65536
    omega

/-- What the device keeps of an order. -/
def tknOf (o : Ord) (l : List Bf) : Tkn := ⟨o.kind == 1, (l.getD 1 ⟨0, 0, false⟩).a, (l.getD (l.length - 1) ⟨0, 0, false⟩).a⟩
/-- What Next comes to, where there is an order. -/
def RNextPost (w : World) (r g h p u : Nat) (lm : List UInt8) (base taken told : Int) (ts : List (Int × Tkn)) (k : Int) (l : List Bf) (o : Ord) (e : Ending) (w' : World) : Prop :=
  e = .returned (.tuple #[.int .i64 k, o.val, .int .i64 0]) ∧ RS w' r g h p u lm base ((taken + 1) % 65536) told (ts ++ [(k, tknOf o l)]) ∧ Turned (RB h p u) w w'

set_option maxHeartbeats 400000 in
theorem RNext_none (w : World) (q : Option Addr) (hp : NoR w q) :
    Calls Tryz.prog 9 #[.pointer q] w fun e w' => e = .returned (.tuple #[.int .i64 0, .agg #[.int .i64 0, .int .i64 0, .string ⟨#[]⟩], .int .i64 2]) ∧ w.grownBy w' none := by
  have ka := World.grownBy_alloc w (.cells #[.int .i64 0, .int .i64 0, .string ⟨#[]⟩] 35) none
  have hrb := heap_alloc_new w (.cells #[.int .i64 0, .int .i64 0, .string ⟨#[]⟩] 35)
  have hp1 : NoR (w.alloc (.cells #[.int .i64 0, .int .i64 0, .string ⟨#[]⟩] 35)) q := by
    rcases hp with rfl | ⟨g, rfl, hc⟩
    · exact .inl rfl
    · exact .inr ⟨g, rfl, by rw [kept_grown ka ⟨g, 3, none⟩ (by rw [hc]; rfl)]; exact hc⟩
  clear hp
  go_enter Tryz.func9, Tryz.ntmps9
  go_upto_region 1 with fail
  generalize w.alloc _ = W1 at ka hrb hp1 ⊢
  have f0 := frozen_of_block (i := 0) hrb
  have f1 := frozen_of_block (i := 1) hrb
  have f2 := frozen_of_block (i := 2) hrb
  have d0 : W1.cell? ⟨w.heap.size, 0, none⟩ = some (.int .i64 0) := cell_of_block hrb
  have d1 : W1.cell? ⟨w.heap.size, 1, none⟩ = some (.int .i64 0) := cell_of_block hrb
  have d2 : W1.cell? ⟨w.heap.size, 2, none⟩ = some (.string ⟨#[]⟩) := cell_of_block hrb
  have RBK := Lib.hid hrb
  clear hrb
  go_wp2_with (go_at_call 25; refine (rnone_yes _ _ hp1).mono ?_; rintro e w' ⟨rfl, rfl⟩)
  exact ord_out RBK.out ka ⟨0, 0, ⟨#[]⟩⟩ (fun q0 q1 q2 => bodyPost_ret (v := .tuple #[.int .i64 0, .agg #[.int .i64 0, .int .i64 0, .string ⟨#[]⟩], .int .i64 2]) (by simp [results, Tryz.results9, go_sem, q0, q1, q2]) rfl ⟨rfl, ord_grown ka (Nat.le_refl _) _ _ _⟩)

theorem RS.setThree {w : World} {r g h p u : Nat} {lm : List UInt8} {base taken told : Int} {ts : List (Int × Tkn)} (s : RS w r g h p u lm base taken told ts) {b : Nat} (x0 x1 x2 : Value) (hb : b ≠ r ∧ b ≠ g ∧ b ≠ h ∧ b ≠ p ∧ b ≠ u) :
    RS (((w.setCell ⟨b, 0, none⟩ x0).setCell ⟨b, 1, none⟩ x1).setCell ⟨b, 2, none⟩ x2) r g h p u lm base taken told ts :=
  ((s.aside (grown_setCell w b 0 x0) hb).aside (grown_setCell _ b 1 x1) hb).aside (grown_setCell _ b 2 x2) hb
theorem Turned.setThree {S : Nat → Prop} {w v : World} (t : Turned S v w) (x0 x1 x2 : Value) : Turned S v (((w.setCell ⟨v.heap.size, 0, none⟩ x0).setCell ⟨v.heap.size, 1, none⟩ x1).setCell ⟨v.heap.size, 2, none⟩ x2) :=
  ((t.step (grown_setCell w v.heap.size 0 x0) (fun j e => .inr (by injection e with e; omega))).step (grown_setCell _ v.heap.size 1 x1) (fun j e => .inr (by injection e with e; omega))).step (grown_setCell _ v.heap.size 2 x2) (fun j e => .inr (by injection e with e; omega))

set_option maxRecDepth 100000 in
set_option maxHeartbeats 4000000 in
theorem RNext_ok (w : World) (r g h p u : Nat) (lm : List UInt8) (base taken told : Int) (ts : List (Int × Tkn)) (hS : Shapes w) (hp0 : p ≠ 0) (s : RS w r g h p u lm base taken told ts) (k : Int) (l : List Bf) (o : Ord)
    (h0 : offI lm base 32 ≠ taken) (h1 : (offI lm base 32 - taken) % 65536 ≤ 32) (hh : Hid (offHead lm base 32 taken = k)) (hF : Hid (followF lm base 32 32 k [] = some l)) (ho : Hid (askL lm l = some o)) (hn : ∀ t ∈ ts, t.1 ≠ k) :
    Calls Tryz.prog 9 #[.pointer (some ⟨r, 0, none⟩)] w (RNextPost w r g h p u lm base taken told ts k l o) := by
  have ka := World.grownBy_alloc w (.cells #[.int .i64 0, .int .i64 0, .string ⟨#[]⟩] 35) none
  have hrb := heap_alloc_new w (.cells #[.int .i64 0, .int .i64 0, .string ⟨#[]⟩] 35)
  have S1 := Lib.hid (s.grown ka)
  have SH := Lib.hid (hS.grown ka)
  have hll := ask_len ho.out
  have hFo := hF.out
  have hl0 : 0 < l.length := by omega
  have hbd := follow_bd hFo s.ps.len
  obtain ⟨lr, lg, lh, lp, lu⟩ := s.lts
  have LU := Lib.hid lu
  have hk01 := offHead_bd lm base 32 taken
  rw [hh.out] at hk01
  have HK01 := Lib.hid hk01
  have HZ : Hid (p ≠ 0) := Lib.hid hp0
  have H0 := Lib.hid h0
  have H1 := Lib.hid h1
  have HN := Lib.hid hn
  have HBD := Lib.hid hbd
  have RB1 := Lib.hid hrb
  have KA := Lib.hid ka
  clear hS s h0 h1 hn hFo hbd hrb ka
  go_enter Tryz.func9, Tryz.ntmps9
  go_upto_region 1 with fail
  generalize w.alloc _ = W1 at S1 SH RB1 KA ⊢
  have c3 := S1.out.ra.c3
  have c1 := S1.out.ra.c1
  go_wp2_with (go_at_call 25; refine (rnone_no _ _ c3).mono ?_; rintro e w' ⟨rfl, rfl⟩)
--@1
  refine (vNext_any W1 p g h lm base 32 taken told S1.out.ps).mono ?_
  rintro e w2 hpost
  rcases hpost with ⟨a, _, _⟩ | ⟨_, a, _, _⟩ | ⟨l', v, _, _, e3, rfl, bv, ps2, k2⟩
  · exact absurd a H0.out
  · rcases a with a | a
    · exact absurd H1.out (by omega)
    · rw [hh.out, hF.out] at a; cases a
  rw [hh.out, hF.out] at e3
  injection e3 with e3
  subst e3
  rw [hh.out]
  obtain ⟨n1, n2, n3, n4, n5, n6, n7⟩ := S1.out.ne
  have s2 : RS w2 r g h p u lm base ((taken + 1) % 65536) told ts :=
    ⟨S1.out.ra.kept (k2.block _ S1.out.lts.1 (fun e => n3 (by injection e))), ps2, S1.out.tab.kept (k2.block _ S1.out.tab.lt (fun e => n7 (by injection e)))⟩
  have S2 := Lib.hid s2
  have SH2 := Lib.hid (SH.out.kept (k2.block 0 SH.out.pos (fun e => HZ.out (by injection e with e; exact e.symm))))
  have RB2 : Hid (w2.heap[w.heap.size]? = some (.cells #[.int .i64 0, .int .i64 0, .string ⟨#[]⟩] 35 (0, 0))) := Lib.hid ((k2.block _ (lt_of_block RB1.out) (fun e => by injection e with e; omega)).trans RB1.out)
  have T2 : Hid (Turned (RB h p u) w w2) := Lib.hid ((Turned.of KA.out (fun j e => by cases e)).step k2 (fun j e => .inl (.inr (.inl (by injection e with e; exact e.symm)))))
  have BV := Lib.hid bv
  clear c1 c3 k2 ps2 bv s2 S1 SH RB1 KA n1 n2 n3 n4 n5 n6 n7
  obtain ⟨pp, cap, rfl, hle⟩ := BV.out.form
  go_wp2_with fail
--@2
  refine (order_any w2 r g p u h lm SH2.out S2.out.ra S2.out.ps.mem S2.out.ps.len _ l BV.out hl0 (fun x hx => by have := HBD.out x hx; omega)).mono ?_
  rintro e w3 hpost
  obtain ⟨o', e4, rfl, k3⟩ : ∃ o, askL lm l = some o ∧ e = .returned (.tuple #[o.val, .bool true]) ∧ w2.grownBy w3 none := by
    rcases hpost with h | ⟨e4, _⟩
    · exact h
    · rw [ho.out] at e4; cases e4
  rw [ho.out] at e4
  injection e4 with e4
  subst e4
  obtain ⟨ok, os_, od⟩ := o
  unfold Ord.val
  simp only
  have K3 := Lib.hid (k3.trans (World.grownBy_alloc w3 (.cells #[.int .i64 ok, .int .i64 os_, .string od] 35) none))
  have hob3 := heap_alloc_new w3 (.cells #[.int .i64 ok, .int .i64 os_, .string od] 35)
  have z3 := k3.size
  have zb := lt_of_block RB2.out
  obtain ⟨ob, hob⟩ : ∃ ob, ob = w3.heap.size := ⟨_, rfl⟩
  have hobn : ob ≠ w.heap.size := by omega
  have huo : u ≠ ob := by have := LU.out; omega
  rw [← hob] at hob3
  have HOB := Lib.hid hob
  clear k3 hob
  go_upto_region 7 with fail
  rw [← HOB.out]
  generalize w3.alloc _ = W3 at K3 hob3 ⊢
  have S3 := Lib.hid (S2.out.grown K3.out)
  have T3 := Lib.hid (T2.out.step K3.out (fun j e => by cases e))
  have RB3 : Hid (W3.heap[w.heap.size]? = some (.cells #[.int .i64 0, .int .i64 0, .string ⟨#[]⟩] 35 (0, 0))) := Lib.hid ((K3.out.block _ (lt_of_block RB2.out) (by simp)).trans RB2.out)
  have BV3 := Lib.hid (BV.out.grown K3.out)
  have OB3 := Lib.hid hob3
  clear hob3 S2 T2 RB2 BV SH2 K3
  go_wp2_with fail
--@3
  have hwa : IntKind.i64.wrap 1 = 1 := IntWalk.i64_in _ (by omega)
  have hwb : IntKind.i64.wrap 2 = 2 := IntWalk.i64_in _ (by omega)
  rcases (show l.length = 2 ∨ l.length = 3 by omega) with hl2 | hl2
  all_goals rw [hl2]
  all_goals (
  refine region_tail 20 (by kernel_rfl) (by kernel_rfl) (fun V d => ?_)
  have sV := S3.out.grown d.grown
  have bV := BV3.out.grown d.grown
  obtain ⟨b1, o1, y1, rfl, hy1, g0, g1, g2⟩ := bV.at_ 1 (by omega)
  obtain ⟨b2, o2, y2, hb2, hy2, i0, i1, i2⟩ := bV.at_ (l.length - 1) (by omega)
  injection hb2 with hb2
  injection hb2 with hb2a hb2b
  subst hb2a hb2b
  have obV := (d.block ob).trans OB3.out
  have j0 : V.cell? ⟨ob, 0, none⟩ = some (.int .i64 ok) := cell_of_block obV
  have c2 := sV.ra.c2
  have ht : tknOf ⟨ok, os_, od⟩ l = ⟨ok == 1, y1.a, y2.a⟩ := by
    unfold tknOf
    rw [List.getD_eq_getElem?_getD, List.getD_eq_getElem?_getD, hy1, hy2]
    rfl
  obtain ⟨w5, hrun, t5, k5⟩ := sV.tab.add (P := Tryz.prog) (x := k) Tryz.underlying61 Tryz.underlying3 (WalkArith.wf_i64 (by have := HK01.out; omega)) (fun c hc => by obtain ⟨t, ht, rfl⟩ := List.mem_map.1 hc; exact HN.out t ht) (Tkn.val ⟨ok == 1, y1.a, y2.a⟩)
  unfold Tkn.val at hrun
  simp only at hrun
  obtain ⟨n1, n2, n3, n4, n5, n6, n7⟩ := sV.ne
  have s5 : RS w5 r g h p u lm base ((taken + 1) % 65536) told (ts ++ [(k, tknOf ⟨ok, os_, od⟩ l)]) := by
    have keep : ∀ x, x < V.heap.size → u ≠ x → w5.heap[x]? = V.heap[x]? := fun x hx hn => k5.block x hx (fun e => hn (by injection e with e; exact e.symm))
    obtain ⟨l1, l2, l3, l4, l5⟩ := sV.lts
    refine ⟨sV.ra.kept (keep _ l1 n4), { sV.ps with mem := ⟨(keep _ l2 n5).trans sV.ps.mem.1, (keep _ l3 n6).trans sV.ps.mem.2⟩, at_ := sV.ps.at_.kept (keep _ l4 n7) }, ?_⟩
    rw [List.map_append, ht]
    exact t5
  have zV : W3.heap.size = V.heap.size := d.size.symm
  have T5 := Lib.hid ((T3.out.step d.grown (fun j e => by cases e)).step k5 (fun j e => .inl (.inr (.inr (by injection e with e; exact e.symm)))))
  have zob := lt_of_block obV
  have rbV := (d.block w.heap.size).trans RB3.out
  have OB5 := Lib.hid ((k5.block ob zob (fun e => by injection e with e; exact huo e.symm)).trans obV)
  have RB5 : Hid (w5.heap[w.heap.size]? = some (.cells #[.int .i64 0, .int .i64 0, .string ⟨#[]⟩] 35 (0, 0))) := Lib.hid ((k5.block _ (lt_of_block rbV) (fun e => by injection e with e; have := LU.out; omega)).trans rbV)
  have S6 := Lib.hid s5
  have T6 := T5
  have OB6 := OB5
  have RB6 := RB5
  obtain ⟨ya, yn, yw⟩ := y1
  obtain ⟨za, zn, zw⟩ := y2
  simp only [Nat.one_mul] at g0 i0 hrun
  rw [hl2] at i0
  simp only [Nat.reduceSub, Nat.reduceMul, Nat.one_mul] at i0
  have HL2 := Lib.hid hl2
  try (rw [g0] at i0; injection i0 with i0; injection i0 with _ i0; subst i0)
  clear sV bV hy1 hy2 g1 g2 i1 i2 obV t5 k5 n1 n2 n3 n4 n5 n6 n7 s5 T5 OB5 RB5 S3 BV3 d T3 zob rbV OB3 RB3 zV hl2 hll hl0
  simp only [List.take_succ_cons, List.take_zero, List.drop_succ_cons, List.drop_zero]
  repeat still_step
  refine wpStill_nil ?_
  go_wp2_with fail
--@4
  refine wp_region_noPanic ?_
  refine region_held (S := fun w' => w'.heap[ob]? = some (.cells #[.int .i64 ok, .int .i64 os_, .string od] 35 (0, 0))) (by kernel_rfl) (fun V d => (d.block _).trans OB6.out) (fun V d hS => ?_)
  have S7 := Lib.hid (S6.out.grown d.grown)
  have T7 : Turned (RB h p u) w V := T6.out.step d.grown (fun j e => by cases e)
  refine wpAnyH_take (i := 0) (v := (.int .i64 k)) rfl (by kernel_rfl) (by kernel_rfl) (by kernel_rfl) (fun _ _ _ h => h) (Or.inl ⟨by rfl, fun w' h' => ?_⟩) hS ?_
  · clear h'
    go_simp
  simp only [Act.put]
  refine wpAnyH_take (i := 1) (v := (.agg #[.int .i64 ok, .int .i64 os_, .string od])) rfl (by kernel_rfl) (by kernel_rfl) (by kernel_rfl) (fun _ _ _ h => h) (Or.inl ⟨by rfl, fun w' h' => ?_⟩) hS ?_
  · have c0 := (cell_of_block h' : w'.cell? ⟨ob, 0, none⟩ = some (.int .i64 ok))
    have c1 := (cell_of_block h' : w'.cell? ⟨ob, 1, none⟩ = some (.int .i64 os_))
    have c2 := (cell_of_block h' : w'.cell? ⟨ob, 2, none⟩ = some (.string od))
    clear h'
    go_simp
  simp only [Act.put]
  refine wpAnyH_take (i := 2) (oi := ⟨some 2, Op.assign (Operand.tmp 55), _, _, _, none⟩) (v := (.int .i64 k)) rfl (by kernel_rfl) (by kernel_rfl) (by kernel_rfl) (fun _ _ _ h => h) (Or.inl ⟨by rfl, fun w' h' => ?_⟩) hS ?_
  · clear h'
    go_simp
  simp only [Act.put]
  have rb := (d.block _).trans RB6.out
  have f0 := frozen_of_block (i := 0) rb
  have f1 := frozen_of_block (i := 1) rb
  have f2 := frozen_of_block (i := 2) rb
  have d0 : V.cell? ⟨w.heap.size, 0, none⟩ = some (.int .i64 0) := cell_of_block rb
  have d1 : V.cell? ⟨w.heap.size, 1, none⟩ = some (.int .i64 0) := cell_of_block rb
  have d2 : V.cell? ⟨w.heap.size, 2, none⟩ = some (.string ⟨#[]⟩) := cell_of_block rb
  have RB7 := Lib.hid rb
  have jE : (((V.setCell ⟨w.heap.size, 0, none⟩ (.int .i64 ok)).setCell ⟨w.heap.size, 1, none⟩ (.int .i64 os_)).setCell ⟨w.heap.size, 2, none⟩ (.string od)).heap[ob]? = some (.cells #[.int .i64 ok, .int .i64 os_, .string od] 35 (0, 0)) := by
    rw [Below.heap_setCell _ _ _ _ hobn, Below.heap_setCell _ _ _ _ hobn, Below.heap_setCell _ _ _ _ hobn]
    exact hS
  clear rb
  refine wpAnyH_ready (rs := [3]) (by kernel_rfl) (by simp) ?_
  refine AllReadyH.cons rfl (fun K hK => ?_) AllReadyH.nil
  go_simp
  refine hK.out _ _ jE (fun _ => ?_)
  clear hK K
  refine wpAnyH_take (i := 4) (oi := ⟨some 4, Op.assign (Operand.const (Value.int IntKind.i64 0)), _, _, _, none⟩) (v := (.int .i64 0)) rfl (by kernel_rfl) (by kernel_rfl) (by kernel_rfl) (fun _ _ _ h => h) (Or.inl ⟨by rfl, fun w' h' => ?_⟩) jE ?_
  · clear h'
    go_simp
  simp only [Act.put]
  refine wpAnyH_done (by kernel_rfl) (NoPanic.normal ?_) _
  have S8 := Lib.hid (S7.out.setThree (b := w.heap.size) (.int .i64 ok) (.int .i64 os_) (.string od) (by omega))
  have T8 := Lib.hid (T7.setThree (.int .i64 ok) (.int .i64 os_) (.string od))
  clear d0 d1 d2 f0 f1 f2 jE d hS hrun T7
  go_wp2_with fail
  have b9 := three_block RB7.out (.int .i64 ok) (.int .i64 os_) (.string od)
  have q0 : ((((V.setCell ⟨w.heap.size, 0, none⟩ (.int .i64 ok)).setCell ⟨w.heap.size, 1, none⟩ (.int .i64 os_)).setCell ⟨w.heap.size, 2, none⟩ (.string od))).cell? ⟨w.heap.size, 0, none⟩ = some (.int .i64 ok) := cell_of_block b9
  have q1 : ((((V.setCell ⟨w.heap.size, 0, none⟩ (.int .i64 ok)).setCell ⟨w.heap.size, 1, none⟩ (.int .i64 os_)).setCell ⟨w.heap.size, 2, none⟩ (.string od))).cell? ⟨w.heap.size, 1, none⟩ = some (.int .i64 os_) := cell_of_block b9
  have q2 : ((((V.setCell ⟨w.heap.size, 0, none⟩ (.int .i64 ok)).setCell ⟨w.heap.size, 1, none⟩ (.int .i64 os_)).setCell ⟨w.heap.size, 2, none⟩ (.string od))).cell? ⟨w.heap.size, 2, none⟩ = some (.string od) := cell_of_block b9
  exact bodyPost_ret (v := .tuple #[.int .i64 k, .agg #[.int .i64 ok, .int .i64 os_, .string od], .int .i64 0]) (by simp [results, Tryz.results9, go_sem, q0, q1, q2]) rfl ⟨rfl, S8.out, T8.out⟩)

end Go.Proofs.YtiejcohammeoeaaGreatDoor
