/-
  Layer 3: the device answers an order. Conditions: the memory is of at most 65536 bytes; the chain's head is from 0 to 65535.
-/
import Derived.Test.YtiejcohammeoeaaGreatDoorBlkM
namespace Go.Proofs.YtiejcohammeoeaaGreatDoor
open Go.RowKit Go.Sort

set_option maxHeartbeats 400000 in
theorem RDone_none (w : World) (q : Option Addr) (hp : NoR w q) (k : Int) (ok : Bool) (d : ByteArray) :
    Calls Tryz.prog 11 #[.pointer q, .int .i64 k, .bool ok, .string d] w fun e w' => e = .returned (.int .i64 2) ∧ w = w' := by
  go_enter Tryz.func11, Tryz.ntmps11
  go_wp2_with (go_at_call 25; refine (rnone_yes _ _ hp).mono ?_; rintro e w' ⟨rfl, rfl⟩)
  go_ret
  exact ⟨rfl, rfl⟩

/-- The memory behind an answer. -/
def answerL (lm : List UInt8) (base told k : Int) (x : Tkn) (ok : Bool) (d : ByteArray) : List UInt8 :=
  vdoneL (putL (writeL lm x.dat d.data.toList) x.st 1 (if ok then 0 else 1)) base 32 told k (d.size + 1)
theorem answerL_length (lm : List UInt8) (base told k : Int) (x : Tkn) (ok : Bool) (d : ByteArray) : (answerL lm base told k x ok d).length = lm.length := by unfold answerL; rw [vdoneL_length, putL_length, writeL_length]

theorem mayAns_size {x : Tkn} {ok : Bool} {d : ByteArray} (h : mayAns x ok d = true) : d.size ≤ 64 := by
  unfold mayAns at h
  split at h
  · have := of_decide_eq_true h; omega
  · have h1 : d.toList = [] := by simpa using h
    rw [ByteArray.toList_eq] at h1
    have h2 : d.size = 0 := by
      show d.data.size = 0
      rw [← Array.length_toList, h1]
      rfl
    omega

set_option maxRecDepth 100000 in
set_option maxHeartbeats 1000000 in
theorem RDone_absent (w : World) (r g h p u : Nat) (lm : List UInt8) (base taken told : Int) (ts : List (Int × Tkn)) (s : RS w r g h p u lm base taken told ts) (k : Int) (hk : (Lit.int .i64 k).wf = true) (hn : ∀ t ∈ ts, t.1 ≠ k) (ok : Bool) (d : ByteArray) :
    Calls Tryz.prog 11 #[.pointer (some ⟨r, 0, none⟩), .int .i64 k, .bool ok, .string d] w fun e w' => e = .returned (.int .i64 4) ∧ w.grownBy w' none := by
  have c3 := s.ra.c3
  have c2 := s.ra.c2
  have hz : (zeroValue 85).run Tryz.prog w = .ok (.agg #[.bool false, .int .i64 0, .int .i64 0]) w := by kernel_rfl
  have hrun := s.tab.look_no (P := Tryz.prog) Tryz.underlying61 Tryz.underlying3 hz hk (fun c hc => by obtain ⟨t, ht, rfl⟩ := List.mem_map.1 hc; exact hn t ht)
  have ka := World.grownBy_alloc w (.cells #[.bool false, .int .i64 0, .int .i64 0] 85) none
  clear s hn hz hk
  go_enter Tryz.func11, Tryz.ntmps11
  go_wp2_with (first | (go_at_call 25; refine (rnone_no _ _ c3).mono ?_; rintro e w' ⟨rfl, rfl⟩) | (at_lookup; refine wpList_lookup_tab _ rfl _ _ 61 rfl u k (.agg #[.bool false, .int .i64 0, .int .i64 0]) false rfl rfl hrun ?_))
  go_ret
  exact ⟨rfl, ka⟩

/-- What Done comes to, where the answer may be. -/
def RDonePost (w : World) (r g h p u : Nat) (lm : List UInt8) (base taken told : Int) (ts : List (Int × Tkn)) (k : Int) (x : Tkn) (ok : Bool) (d : ByteArray) (e : Ending) (w' : World) : Prop :=
  e = .returned (.int .i64 0) ∧ RS w' r g h p u (answerL lm base told k x ok d) base taken ((told + 1) % 65536) (ts.filter fun t => t.1 != k) ∧ Turned (RB h p u) w w'
theorem tab_filter (ts : List (Int × Tkn)) (k : Int) : (ts.map fun t => (t.1, t.2.val)).filter (fun c => c.1 != k) = (ts.filter fun t => t.1 != k).map fun t => (t.1, t.2.val) := by
  rw [List.filter_map]
  rfl
/-- What stays in Done's regions. -/
def DonS (w : World) (r g p u xb : Nat) (x : Tkn) : Prop := RAt w r g p u ∧ w.heap[xb]? = some (.cells #[.bool x.read, .int .i64 x.dat, .int .i64 x.st] 85 (0, 0))
theorem DonS.c1 {w : World} {r g p u xb : Nat} {x : Tkn} (h : DonS w r g p u xb x) : w.cell? ⟨xb, 1, none⟩ = some (.int .i64 x.dat) := cell_of_block h.2
theorem DonS.c2 {w : World} {r g p u xb : Nat} {x : Tkn} (h : DonS w r g p u xb x) : w.cell? ⟨xb, 2, none⟩ = some (.int .i64 x.st) := cell_of_block h.2
theorem DonS.kept {w w' : World} {r g p u xb : Nat} {x : Tkn} (h : DonS w r g p u xb x) (k1 : w'.heap[r]? = w.heap[r]?) (k2 : w'.heap[xb]? = w.heap[xb]?) : DonS w' r g p u xb x := ⟨h.1.kept k1, k2.trans h.2⟩
/-- The memory is written: the port stays. -/
theorem RS.wrote {w w' : World} {r g h p u : Nat} {lm lm' : List UInt8} {base taken told : Int} {ts : List (Int × Tkn)} (s : RS w r g h p u lm base taken told ts) (m : Mem w' g h lm') (k : w.grownBy w' (some h)) (hl : lm'.length = lm.length) : RS w' r g h p u lm' base taken told ts := by
  obtain ⟨n1, n2, n3, n4, n5, n6, n7⟩ := s.ne
  have keep : ∀ x, x < w.heap.size → x ≠ h → w'.heap[x]? = w.heap[x]? := fun x hx hn => k.block x hx (fun e => hn (by injection e with e))
  obtain ⟨l1, l2, l3, l4, l5⟩ := s.lts
  exact ⟨s.ra.kept (keep _ l1 n2), { s.ps with mem := m, len := by rw [hl]; exact s.ps.len, b1 := by rw [hl]; exact s.ps.b1, at_ := s.ps.at_.kept (keep _ l4 s.ps.ph) }, s.tab.kept (keep _ l5 n6)⟩

set_option maxRecDepth 100000 in
set_option maxHeartbeats 4000000 in
theorem RDone_ok (w : World) (r g h p u : Nat) (lm : List UInt8) (base taken told : Int) (ts : List (Int × Tkn)) (s : RS w r g h p u lm base taken told ts) (k : Int) (k0 : 0 ≤ k) (k1 : k ≤ 65535) (x : Tkn) (hx : (k, x) ∈ ts) (ok : Bool) (d : ByteArray) (hm : mayAns x ok d = true) :
    Calls Tryz.prog 11 #[.pointer (some ⟨r, 0, none⟩), .int .i64 k, .bool ok, .string d] w (RDonePost w r g h p u lm base taken told ts k x ok d) := by
  obtain ⟨n1, n2, n3, n4, n5, n6, n7⟩ := s.ne
  obtain ⟨l1, l2, l3, l4, l5⟩ := s.lts
  have hsz := mayAns_size hm
  have c3 := s.ra.c3
  have c2 := s.ra.c2
  have hlen := s.ps.len
  have hrun := s.tab.look_yes (P := Tryz.prog) Tryz.underlying61 Tryz.underlying3 (x := k) (v := x.val) (List.mem_map.2 ⟨(k, x), hx, rfl⟩)
  obtain ⟨xr, xd, xs⟩ := x
  unfold Tkn.val at hrun
  simp only at hrun
  have ka := World.grownBy_alloc w (.cells #[.bool xr, .int .i64 xd, .int .i64 xs] 85) none
  have hb := heap_alloc_new w (.cells #[.bool xr, .int .i64 xd, .int .i64 xs] 85)
  have S1 := Lib.hid (s.grown ka)
  have T1 : Hid (Turned (RB h p u) w (w.alloc (.cells #[.bool xr, .int .i64 xd, .int .i64 xs] 85))) := Lib.hid (Turned.of ka (fun j e => by cases e))
  have HB := Lib.hid hb
  have HL := Lib.hid l5
  have HL3 := Lib.hid l3
  have HL4 := Lib.hid l4
  have HD := Lib.hid hsz
  have HM := Lib.hid hm
  have hwk : IntKind.u32.wrap k = k := IntWalk.u32_in _ (by omega)
  have hwd : IntKind.i64.wrap ((d.size : Int) + 1) = (d.size : Int) + 1 := IntWalk.i64_in _ (by omega)
  have hwu : IntKind.u32.wrap ((d.size : Int) + 1) = (d.size : Int) + 1 := IntWalk.u32_in _ (by omega)
  have hds : d.size ≤ 9223372036854775807 := by omega
  clear s hx ka hb hm hsz
  go_enter Tryz.func11, Tryz.ntmps11
  go_wp2_with (first | (go_at_call 25; refine (rnone_no _ _ c3).mono ?_; rintro e w' ⟨rfl, rfl⟩) | (at_lookup; refine wpList_lookup_tab _ rfl _ _ 61 rfl u k (.agg #[.bool xr, .int .i64 xd, .int .i64 xs]) true rfl rfl hrun ?_; clear hrun c2 c3))
--@1
  generalize w.alloc _ = W1 at S1 T1 HB ⊢
  have MC := rmayAnswer_any W1 ⟨xr, xd, xs⟩ ok d
  rw [HM.out] at MC
  refine MC.mono ?_
  clear MC
  rintro e w2 ⟨rfl, k2⟩
  have S2 := Lib.hid (S1.out.grown k2)
  have T2 := Lib.hid (T1.out.step k2 (fun j e => by cases e))
  have HB2 : Hid (w2.heap[w.heap.size]? = some (.cells #[.bool xr, .int .i64 xd, .int .i64 xs] 85 (0, 0))) := Lib.hid ((k2.block _ (lt_of_block HB.out) (by simp)).trans HB.out)
  have d2 := S2.out.ra.c2
  have zb := lt_of_block HB2.out
  clear k2 S1 T1 HB
  have hxh : w.heap.size ≠ h := by have := HL3.out; omega
  have hrh := n2
  cases ok with
  | true =>
    go_wp2_with (at_delete; refine wpList_delete_tab _ rfl _ _ 61 3 rfl 85 Tryz.underlying61 Tryz.underlying3 u k (ts.map fun t => (t.1, t.2.val)) S2.out.tab (WalkArith.wf_i64 (by omega)) rfl rfl ?_; intro w3 t3 k3; clear d2)
    rw [tab_filter] at t3
    have s3 : RS w3 r g h p u lm base taken told (ts.filter fun t => t.1 != k) := by
      have keep : ∀ y, y < w2.heap.size → u ≠ y → w3.heap[y]? = w2.heap[y]? := fun y hy hn => k3.block y hy (fun e => hn (by injection e with e; exact e.symm))
      obtain ⟨l1, l2, l3, l4, l5⟩ := S2.out.lts
      exact ⟨S2.out.ra.kept (keep _ l1 n4), { S2.out.ps with mem := ⟨(keep _ l2 n5).trans S2.out.ps.mem.1, (keep _ l3 n6).trans S2.out.ps.mem.2⟩, at_ := S2.out.ps.at_.kept (keep _ l4 n7) }, t3⟩
    have S3 := Lib.hid s3
    have T3 := Lib.hid (T2.out.step k3 (fun j e => .inl (.inr (.inr (by injection e with e; exact e.symm)))))
    have HB3 : Hid (w3.heap[w.heap.size]? = some (.cells #[.bool xr, .int .i64 xd, .int .i64 xs] 85 (0, 0))) := Lib.hid ((k3.block _ zb (fun e => by injection e with e; have := HL.out; omega)).trans HB2.out)
    clear k3 t3 s3 zb S2 T2 HB2
    have HJ : Hid (DonS w3 r g p u w.heap.size ⟨xr, xd, xs⟩) := Lib.hid ⟨S3.out.ra, HB3.out⟩
    clear HB3
--@2true
    refine wp_region_noPanic ?_
    refine region_held (S := fun w' => DonS w' r g p u w.heap.size ⟨xr, xd, xs⟩) (by kernel_rfl) (fun V dd => HJ.out.kept (dd.block _) (dd.block _)) (fun V dd hS => ?_)
    have sV := Lib.hid (S3.out.grown dd.grown)
    have tV := T3.out.step dd.grown (fun j e => by cases e)
    refine wpAnyH_take (i := 0) (v := (.pointer (some ⟨r, 0, none⟩))) rfl (by kernel_rfl) (by kernel_rfl) (by kernel_rfl) (fun _ _ _ h => h) (Or.inl ⟨by rfl, fun w' h' => ?_⟩) hS ?_
    · clear h'
      go_simp
    simp only [Act.put]
    refine wpAnyH_take (i := 1) (v := (.pointer (some ⟨r, 0, none⟩))) rfl (by kernel_rfl) (by kernel_rfl) (by kernel_rfl) (fun _ _ _ h => h) (Or.inl ⟨by rfl, fun w' h' => ?_⟩) hS ?_
    · clear h'
      go_simp
    simp only [Act.put]
    refine wpAnyH_take (i := 2) (v := (.pointer (some ⟨r, 0, none⟩))) rfl (by kernel_rfl) (by kernel_rfl) (by kernel_rfl) (fun _ _ _ h => h) (Or.inl ⟨by rfl, fun w' h' => ?_⟩) hS ?_
    · clear h'
      go_simp
    simp only [Act.put]
    refine wpAnyH_take (i := 3) (v := (.pointer (some ⟨g, 0, none⟩))) rfl (by kernel_rfl) (by kernel_rfl) (by kernel_rfl) (fun _ _ _ h => h) (Or.inl ⟨by rfl, fun w' h' => ?_⟩) hS ?_
    · have c0 := h'.1.c0
      clear h'
      go_simp
    simp only [Act.put]
    refine wpAnyH_take (i := 4) (v := (.pointer (some ⟨w.heap.size, 1, none⟩))) rfl (by kernel_rfl) (by kernel_rfl) (by kernel_rfl) (fun _ _ _ h => h) (Or.inl ⟨by rfl, fun w' h' => ?_⟩) hS ?_
    · clear h'
      go_simp
    simp only [Act.put]
    refine wpAnyH_take (i := 5) (v := (.int .i64 xd)) rfl (by kernel_rfl) (by kernel_rfl) (by kernel_rfl) (fun _ _ _ h => h) (Or.inl ⟨by rfl, fun w' h' => ?_⟩) hS ?_
    · have c0 := h'.c1
      clear h'
      go_simp
    simp only [Act.put]
    refine wpAnyH_take (i := 6) (v := (.string d)) rfl (by kernel_rfl) (by kernel_rfl) (by kernel_rfl) (fun _ _ _ h => h) (Or.inl ⟨by rfl, fun w' h' => ?_⟩) hS ?_
    · clear h'
      go_simp
    simp only [Act.put]
    refine wpAnyH_ready (rs := [7]) (by kernel_rfl) (by simp) ?_
    refine AllReadyH.cons rfl (fun K hK => ?_) AllReadyH.nil
    go_simp
    refine (Write_all V g h lm sV.out.ps.mem (by omega) xd d hds).mono ?_
    rintro e w4 ⟨rfl, m4, k4⟩
    have S4 := Lib.hid (sV.out.wrote m4 k4 (writeL_length _ _ _))
    have j4 := hS.kept (w' := w4) (k4.block _ (lt_of_block hS.1) (fun e => hrh (by injection e))) (k4.block _ (lt_of_block hS.2) (fun e => hxh (by injection e)))
    have T4 := Lib.hid (tV.step k4 (fun j e => .inl (.inl (by injection e with e; exact e.symm))))
    go_simp
    refine hK.out _ _ j4 (fun _ => ?_)
    clear hK K
    refine wpAnyH_done (by kernel_rfl) (NoPanic.normal ?_) _
    clear sV tV hS dd m4 k4 S3 T3 HJ
    obtain ⟨L1, hL1⟩ : ∃ L, L = writeL lm xd d.data.toList := ⟨_, rfl⟩
    rw [← hL1] at S4
    have HL1 := Lib.hid hL1
    clear hL1
    go_wp2_with fail
    refine wp_region_noPanic ?_
    refine region_held (S := fun w' => DonS w' r g p u w.heap.size ⟨xr, xd, xs⟩) (by kernel_rfl) (fun V dd => j4.kept (dd.block _) (dd.block _)) (fun V dd hS => ?_)
    have sV := Lib.hid (S4.out.grown dd.grown)
    have tV := T4.out.step dd.grown (fun j e => by cases e)
    refine wpAnyH_take (i := 0) (v := (.pointer (some ⟨r, 0, none⟩))) rfl (by kernel_rfl) (by kernel_rfl) (by kernel_rfl) (fun _ _ _ h => h) (Or.inl ⟨by rfl, fun w' h' => ?_⟩) hS ?_
    · clear h'
      go_simp
    simp only [Act.put]
    refine wpAnyH_take (i := 1) (v := (.pointer (some ⟨r, 0, none⟩))) rfl (by kernel_rfl) (by kernel_rfl) (by kernel_rfl) (fun _ _ _ h => h) (Or.inl ⟨by rfl, fun w' h' => ?_⟩) hS ?_
    · clear h'
      go_simp
    simp only [Act.put]
    refine wpAnyH_take (i := 2) (v := (.pointer (some ⟨r, 0, none⟩))) rfl (by kernel_rfl) (by kernel_rfl) (by kernel_rfl) (fun _ _ _ h => h) (Or.inl ⟨by rfl, fun w' h' => ?_⟩) hS ?_
    · clear h'
      go_simp
    simp only [Act.put]
    refine wpAnyH_take (i := 3) (v := (.pointer (some ⟨g, 0, none⟩))) rfl (by kernel_rfl) (by kernel_rfl) (by kernel_rfl) (fun _ _ _ h => h) (Or.inl ⟨by rfl, fun w' h' => ?_⟩) hS ?_
    · have c0 := h'.1.c0
      clear h'
      go_simp
    simp only [Act.put]
    refine wpAnyH_take (i := 4) (v := (.pointer (some ⟨w.heap.size, 2, none⟩))) rfl (by kernel_rfl) (by kernel_rfl) (by kernel_rfl) (fun _ _ _ h => h) (Or.inl ⟨by rfl, fun w' h' => ?_⟩) hS ?_
    · clear h'
      go_simp
    simp only [Act.put]
    refine wpAnyH_take (i := 5) (v := (.int .i64 xs)) rfl (by kernel_rfl) (by kernel_rfl) (by kernel_rfl) (fun _ _ _ h => h) (Or.inl ⟨by rfl, fun w' h' => ?_⟩) hS ?_
    · have c0 := h'.c2
      clear h'
      go_simp
    simp only [Act.put]
    refine wpAnyH_take (i := 6) (v := (.int .u64 0)) rfl (by kernel_rfl) (by kernel_rfl) (by kernel_rfl) (fun _ _ _ h => h) (Or.inl ⟨by rfl, fun w' h' => ?_⟩) hS ?_
    · clear h'
      go_simp
    simp only [Act.put]
    refine wpAnyH_ready (rs := [7]) (by kernel_rfl) (by simp) ?_
    refine AllReadyH.cons rfl (fun K hK => ?_) AllReadyH.nil
    go_simp
    refine (Put_all V g h L1 sV.out.ps.mem (by rw [HL1.out, writeL_length]; omega) xs 1 0 (by omega)).mono ?_
    rintro e w5 ⟨rfl, m5, k5⟩
    have S5 := Lib.hid (sV.out.wrote m5 k5 (putL_length _ _ _ _))
    have j5 := hS.kept (w' := w5) (k5.block _ (lt_of_block hS.1) (fun e => hrh (by injection e))) (k5.block _ (lt_of_block hS.2) (fun e => hxh (by injection e)))
    have T5 := Lib.hid (tV.step k5 (fun j e => .inl (.inl (by injection e with e; exact e.symm))))
    go_simp
    refine hK.out _ _ j5 (fun _ => ?_)
    clear hK K
    refine wpAnyH_done (by kernel_rfl) (NoPanic.normal ?_) _
    clear sV tV hS dd m5 k5 S4 T4 j4
    have e1 := j5.1.c1
    clear j5
    go_wp2_with fail
    refine (vDone_any w5 p g h _ base 32 taken told S5.out.ps k (d.size + 1) k0 (by omega) (by omega) (by have := HD.out; omega)).mono ?_
    rintro e w6 ⟨rfl, ps6, t6⟩
    have FIN : Hid (RDonePost w r g h p u lm base taken told ts k ⟨xr, xd, xs⟩ true d (.returned (.int .i64 0)) w6) := Lib.hid ⟨rfl, ⟨S5.out.ra.kept (t6.block _ S5.out.lts.1 (by rintro (e | e); exact n2 e; exact n3 e)), by
      unfold answerL
      rw [← HL1.out]
      exact ps6, S5.out.tab.kept (t6.block _ S5.out.tab.lt (by rintro (e | e); exact n6 e; exact n7 e))⟩, T5.out.trans (t6.mono (fun y _ hy => by rcases hy with e | e; exact .inl e; exact .inr (.inl e)))⟩
    clear ps6 t6 S5 T5 e1
    go_wp2_with fail
    go_ret
    exact FIN.out
  | false =>
    go_wp2_with (at_delete; refine wpList_delete_tab _ rfl _ _ 61 3 rfl 85 Tryz.underlying61 Tryz.underlying3 u k (ts.map fun t => (t.1, t.2.val)) S2.out.tab (WalkArith.wf_i64 (by omega)) rfl rfl ?_; intro w3 t3 k3; clear d2)
    rw [tab_filter] at t3
    have s3 : RS w3 r g h p u lm base taken told (ts.filter fun t => t.1 != k) := by
      have keep : ∀ y, y < w2.heap.size → u ≠ y → w3.heap[y]? = w2.heap[y]? := fun y hy hn => k3.block y hy (fun e => hn (by injection e with e; exact e.symm))
      obtain ⟨l1, l2, l3, l4, l5⟩ := S2.out.lts
      exact ⟨S2.out.ra.kept (keep _ l1 n4), { S2.out.ps with mem := ⟨(keep _ l2 n5).trans S2.out.ps.mem.1, (keep _ l3 n6).trans S2.out.ps.mem.2⟩, at_ := S2.out.ps.at_.kept (keep _ l4 n7) }, t3⟩
    have S3 := Lib.hid s3
    have T3 := Lib.hid (T2.out.step k3 (fun j e => .inl (.inr (.inr (by injection e with e; exact e.symm)))))
    have HB3 : Hid (w3.heap[w.heap.size]? = some (.cells #[.bool xr, .int .i64 xd, .int .i64 xs] 85 (0, 0))) := Lib.hid ((k3.block _ zb (fun e => by injection e with e; have := HL.out; omega)).trans HB2.out)
    clear k3 t3 s3 zb S2 T2 HB2
    have HJ : Hid (DonS w3 r g p u w.heap.size ⟨xr, xd, xs⟩) := Lib.hid ⟨S3.out.ra, HB3.out⟩
    clear HB3
--@2false
    refine wp_region_noPanic ?_
    refine region_held (S := fun w' => DonS w' r g p u w.heap.size ⟨xr, xd, xs⟩) (by kernel_rfl) (fun V dd => HJ.out.kept (dd.block _) (dd.block _)) (fun V dd hS => ?_)
    have sV := Lib.hid (S3.out.grown dd.grown)
    have tV := T3.out.step dd.grown (fun j e => by cases e)
    refine wpAnyH_take (i := 0) (v := (.pointer (some ⟨r, 0, none⟩))) rfl (by kernel_rfl) (by kernel_rfl) (by kernel_rfl) (fun _ _ _ h => h) (Or.inl ⟨by rfl, fun w' h' => ?_⟩) hS ?_
    · clear h'
      go_simp
    simp only [Act.put]
    refine wpAnyH_take (i := 1) (v := (.pointer (some ⟨r, 0, none⟩))) rfl (by kernel_rfl) (by kernel_rfl) (by kernel_rfl) (fun _ _ _ h => h) (Or.inl ⟨by rfl, fun w' h' => ?_⟩) hS ?_
    · clear h'
      go_simp
    simp only [Act.put]
    refine wpAnyH_take (i := 2) (v := (.pointer (some ⟨r, 0, none⟩))) rfl (by kernel_rfl) (by kernel_rfl) (by kernel_rfl) (fun _ _ _ h => h) (Or.inl ⟨by rfl, fun w' h' => ?_⟩) hS ?_
    · clear h'
      go_simp
    simp only [Act.put]
    refine wpAnyH_take (i := 3) (v := (.pointer (some ⟨g, 0, none⟩))) rfl (by kernel_rfl) (by kernel_rfl) (by kernel_rfl) (fun _ _ _ h => h) (Or.inl ⟨by rfl, fun w' h' => ?_⟩) hS ?_
    · have c0 := h'.1.c0
      clear h'
      go_simp
    simp only [Act.put]
    refine wpAnyH_take (i := 4) (v := (.pointer (some ⟨w.heap.size, 1, none⟩))) rfl (by kernel_rfl) (by kernel_rfl) (by kernel_rfl) (fun _ _ _ h => h) (Or.inl ⟨by rfl, fun w' h' => ?_⟩) hS ?_
    · clear h'
      go_simp
    simp only [Act.put]
    refine wpAnyH_take (i := 5) (v := (.int .i64 xd)) rfl (by kernel_rfl) (by kernel_rfl) (by kernel_rfl) (fun _ _ _ h => h) (Or.inl ⟨by rfl, fun w' h' => ?_⟩) hS ?_
    · have c0 := h'.c1
      clear h'
      go_simp
    simp only [Act.put]
    refine wpAnyH_take (i := 6) (v := (.string d)) rfl (by kernel_rfl) (by kernel_rfl) (by kernel_rfl) (fun _ _ _ h => h) (Or.inl ⟨by rfl, fun w' h' => ?_⟩) hS ?_
    · clear h'
      go_simp
    simp only [Act.put]
    refine wpAnyH_ready (rs := [7]) (by kernel_rfl) (by simp) ?_
    refine AllReadyH.cons rfl (fun K hK => ?_) AllReadyH.nil
    go_simp
    refine (Write_all V g h lm sV.out.ps.mem (by omega) xd d hds).mono ?_
    rintro e w4 ⟨rfl, m4, k4⟩
    have S4 := Lib.hid (sV.out.wrote m4 k4 (writeL_length _ _ _))
    have j4 := hS.kept (w' := w4) (k4.block _ (lt_of_block hS.1) (fun e => hrh (by injection e))) (k4.block _ (lt_of_block hS.2) (fun e => hxh (by injection e)))
    have T4 := Lib.hid (tV.step k4 (fun j e => .inl (.inl (by injection e with e; exact e.symm))))
    go_simp
    refine hK.out _ _ j4 (fun _ => ?_)
    clear hK K
    refine wpAnyH_done (by kernel_rfl) (NoPanic.normal ?_) _
    clear sV tV hS dd m4 k4 S3 T3 HJ
    obtain ⟨L1, hL1⟩ : ∃ L, L = writeL lm xd d.data.toList := ⟨_, rfl⟩
    rw [← hL1] at S4
    have HL1 := Lib.hid hL1
    clear hL1
    go_wp2_with fail
    refine wp_region_noPanic ?_
    refine region_held (S := fun w' => DonS w' r g p u w.heap.size ⟨xr, xd, xs⟩) (by kernel_rfl) (fun V dd => j4.kept (dd.block _) (dd.block _)) (fun V dd hS => ?_)
    have sV := Lib.hid (S4.out.grown dd.grown)
    have tV := T4.out.step dd.grown (fun j e => by cases e)
    refine wpAnyH_take (i := 0) (v := (.pointer (some ⟨r, 0, none⟩))) rfl (by kernel_rfl) (by kernel_rfl) (by kernel_rfl) (fun _ _ _ h => h) (Or.inl ⟨by rfl, fun w' h' => ?_⟩) hS ?_
    · clear h'
      go_simp
    simp only [Act.put]
    refine wpAnyH_take (i := 1) (v := (.pointer (some ⟨r, 0, none⟩))) rfl (by kernel_rfl) (by kernel_rfl) (by kernel_rfl) (fun _ _ _ h => h) (Or.inl ⟨by rfl, fun w' h' => ?_⟩) hS ?_
    · clear h'
      go_simp
    simp only [Act.put]
    refine wpAnyH_take (i := 2) (v := (.pointer (some ⟨r, 0, none⟩))) rfl (by kernel_rfl) (by kernel_rfl) (by kernel_rfl) (fun _ _ _ h => h) (Or.inl ⟨by rfl, fun w' h' => ?_⟩) hS ?_
    · clear h'
      go_simp
    simp only [Act.put]
    refine wpAnyH_take (i := 3) (v := (.pointer (some ⟨g, 0, none⟩))) rfl (by kernel_rfl) (by kernel_rfl) (by kernel_rfl) (fun _ _ _ h => h) (Or.inl ⟨by rfl, fun w' h' => ?_⟩) hS ?_
    · have c0 := h'.1.c0
      clear h'
      go_simp
    simp only [Act.put]
    refine wpAnyH_take (i := 4) (v := (.pointer (some ⟨w.heap.size, 2, none⟩))) rfl (by kernel_rfl) (by kernel_rfl) (by kernel_rfl) (fun _ _ _ h => h) (Or.inl ⟨by rfl, fun w' h' => ?_⟩) hS ?_
    · clear h'
      go_simp
    simp only [Act.put]
    refine wpAnyH_take (i := 5) (v := (.int .i64 xs)) rfl (by kernel_rfl) (by kernel_rfl) (by kernel_rfl) (fun _ _ _ h => h) (Or.inl ⟨by rfl, fun w' h' => ?_⟩) hS ?_
    · have c0 := h'.c2
      clear h'
      go_simp
    simp only [Act.put]
    refine wpAnyH_take (i := 6) (v := (.int .u64 1)) rfl (by kernel_rfl) (by kernel_rfl) (by kernel_rfl) (fun _ _ _ h => h) (Or.inl ⟨by rfl, fun w' h' => ?_⟩) hS ?_
    · clear h'
      go_simp
    simp only [Act.put]
    refine wpAnyH_ready (rs := [7]) (by kernel_rfl) (by simp) ?_
    refine AllReadyH.cons rfl (fun K hK => ?_) AllReadyH.nil
    go_simp
    refine (Put_all V g h L1 sV.out.ps.mem (by rw [HL1.out, writeL_length]; omega) xs 1 1 (by omega)).mono ?_
    rintro e w5 ⟨rfl, m5, k5⟩
    have S5 := Lib.hid (sV.out.wrote m5 k5 (putL_length _ _ _ _))
    have j5 := hS.kept (w' := w5) (k5.block _ (lt_of_block hS.1) (fun e => hrh (by injection e))) (k5.block _ (lt_of_block hS.2) (fun e => hxh (by injection e)))
    have T5 := Lib.hid (tV.step k5 (fun j e => .inl (.inl (by injection e with e; exact e.symm))))
    go_simp
    refine hK.out _ _ j5 (fun _ => ?_)
    clear hK K
    refine wpAnyH_done (by kernel_rfl) (NoPanic.normal ?_) _
    clear sV tV hS dd m5 k5 S4 T4 j4
    have e1 := j5.1.c1
    clear j5
    go_wp2_with fail
    refine (vDone_any w5 p g h _ base 32 taken told S5.out.ps k (d.size + 1) k0 (by omega) (by omega) (by have := HD.out; omega)).mono ?_
    rintro e w6 ⟨rfl, ps6, t6⟩
    have FIN : Hid (RDonePost w r g h p u lm base taken told ts k ⟨xr, xd, xs⟩ false d (.returned (.int .i64 0)) w6) := Lib.hid ⟨rfl, ⟨S5.out.ra.kept (t6.block _ S5.out.lts.1 (by rintro (e | e); exact n2 e; exact n3 e)), by
      unfold answerL
      rw [← HL1.out]
      exact ps6, S5.out.tab.kept (t6.block _ S5.out.tab.lt (by rintro (e | e); exact n6 e; exact n7 e))⟩, T5.out.trans (t6.mono (fun y _ hy => by rcases hy with e | e; exact .inl e; exact .inr (.inl e)))⟩
    clear ps6 t6 S5 T5 e1
    go_wp2_with fail
    go_ret
    exact FIN.out

end Go.Proofs.YtiejcohammeoeaaGreatDoor
