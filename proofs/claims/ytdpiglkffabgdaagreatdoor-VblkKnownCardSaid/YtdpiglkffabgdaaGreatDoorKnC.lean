/-
  Layer 3: a driver and its port on one disk of 8 sectors, beside blocks that stay. No conditions.
-/
import Derived.Test.YtdpiglkffabgdaaGreatDoorKnA
import Derived.Test.YtdpiglkffabgdaaGreatDoorShelf
namespace Go.Proofs.YtdpiglkffabgdaaGreatDoor
open Go.RowKit Go.Sort

section
variable {w w' : World} {b g h q u mb r p v : Nat} {lm lm' : List UInt8} {base sectors limit base' taken told : Int} {os : List Snt} {cs : List Oc} {off back : Int} {broken : Bool} {last now : Int} {dead : Bool} {ts : List (Int × Tkn)}
/-- What turns other blocks, and the memory, leaves a port. -/
theorem RS.other (s : RS w r g h p v lm base' taken told ts) {S : Nat → Prop} (t : Turned S w w') (hr : ¬ S r) (hp : ¬ S p) (hv : ¬ S v) (m : Mem w' g h lm') (hl : lm'.length = lm.length) : RS w' r g h p v lm' base' taken told ts :=
  ⟨s.ra.kept (t.block _ s.lts.1 hr), { s.ps with mem := m, len := by rw [hl]; exact s.ps.len, b1 := by rw [hl]; exact s.ps.b1, at_ := s.ps.at_.kept (t.block _ s.lts.2.2.2.1 hp) }, s.tab.kept (t.block _ s.tab.lt hv)⟩
/-- What a port turns leaves a driver. -/
theorem KS.device (s : KS w b g h q u mb lm base sectors limit os cs off back broken last now dead) (rs : RS w r g h p v lm base' taken told ts) (t : Turned (RB h p v) w w') (m : Mem w' g h lm') (hl : lm'.length = lm.length) (n1 : u ≠ v) (n2 : mb ≠ v) :
    KS w' b g h q u mb lm' base sectors limit os cs off back broken last now dead := by
  have bp : b ≠ p := by
    rintro rfl
    have h1 := s.kat
    have h2 := rs.ps.at_
    unfold PAt at h2
    unfold KAt at h1
    rw [h1] at h2
    injection h2 with h2
    injection h2 with _ h2
    exact absurd h2 (by decide)
  have qp : q ≠ p := (s.qs.nep rs.ps.at_).1
  have mp : mb ≠ p := (s.qs.nep rs.ps.at_).2
  have up : u ≠ p := tab_ne s.tab rs.ps.at_
  have bv : b ≠ v := fun e => tab_ne rs.tab s.kat e.symm
  have qv : q ≠ v := fun e => tab_ne rs.tab s.qs.at_ e.symm
  have keep : ∀ x, x < w.heap.size → x ≠ h → x ≠ p → x ≠ v → w'.heap[x]? = w.heap[x]? := fun x hx a1 a2 a3 => t.block x hx (by rintro (e | e | e); exact a1 e; exact a2 e; exact a3 e)
  refine { s with kat := s.kat.kept (keep _ (lt_of_block s.kat) s.bh bp bv), tab := s.tab.kept (keep _ s.tab.lt s.ub.2.2.1 up n1), b1 := by rw [hl]; exact s.b1, qs := { s.qs with mem := m, len := by rw [hl]; exact s.qs.len, b1 := by rw [hl]; exact s.qs.b1, at_ := s.qs.at_.kept (keep _ s.qs.lts.1 s.qs.qh qp qv), tab := s.qs.tab.kept (keep _ s.qs.lts.2.2.2 s.qs.mbne.2.2 mp n2), nums := fun x hx => ?_ } }
  obtain ⟨a1, a2, a3⟩ := s.qs.nums x hx
  refine ⟨a1, fun i hi => ?_, a3⟩
  have hc := a2 i hi
  have h0 := a2 0 (by omega)
  have e1 : x.blk ≠ h := s.qs.mem.not_u8 hc (fun x e => by cases e)
  have e2 : x.blk ≠ p := by
    intro e
    rw [e, rs.ps.at_.c0] at h0
    cases h0
  have e3 : x.blk ≠ v := by
    intro e
    rw [e] at hc
    obtain ⟨es, clock, h1, _⟩ := rs.tab
    simp [World.cell?, h1] at hc
  rw [World.cell?_of_block (w := w) (a := ⟨x.blk, i, none⟩) (keep _ (World.block_lt_of_cell? w _ hc) e1 e2 e3)]
  exact hc
end

/-- A sector of a byte. -/
def fullS (b : UInt8) : ByteArray := ⟨(List.replicate 64 b).toArray⟩
theorem fullS_size (b : UInt8) : (fullS b).size = 64 := by unfold fullS; rw [toArray_size, List.length_replicate]
theorem holds_one (w : World) (b : UInt8) : Holds eb (w.alloc (.cells #[.int .u8 (b.toNat : Int)] 5)) w.heap.size 0 [b].toArray := by
  intro j hj
  have h0 : j = 0 := by simpa using hj
  subst h0
  have hb := heap_alloc_new w (.cells #[.int .u8 (b.toNat : Int)] 5)
  exact ⟨by rw [show (⟨w.heap.size, 0 + 0, none⟩ : Addr) = ⟨w.heap.size, 0, none⟩ from rfl, cell_of_block hb]; rfl, frozen_of_block hb⟩
set_option maxRecDepth 100000 in
set_option maxHeartbeats 1000000 in
theorem full_any (w : World) (b : UInt8) (n : Int) (hn : n = (b.toNat : Int)) :
    Calls Tryz.prog 10 #[.int .u8 n] w fun e w' => e = .returned (.string (fullS b)) ∧ Below w.heap.size w w' := by
  have hcv := conv_text (w.alloc (.cells #[.int .u8 (b.toNat : Int)] 5)) w.heap.size 0 1 1 [b] rfl (holds_one w b)
  rw [← hn] at hcv
  have RC := Tryz.strings_Repeat ⟨[b].toArray⟩ 64 (w.alloc (.cells #[.int .u8 n] 5)) (by omega) (by rw [toArray_size]; show 1 * 64 ≤ 140737488355328; omega)
  have hrl : Lib.repeatL [b] 64 = List.replicate 64 b := rfl
  rw [show (⟨[b].toArray⟩ : ByteArray).data.toList = [b] from rfl, hrl] at RC
  have RC2 := Lib.hid RC
  have ka := World.grownBy_alloc w (.cells #[.int .u8 n] 5) none
  obtain ⟨S, hS⟩ : ∃ S, S = (⟨[b].toArray⟩ : ByteArray) := ⟨_, rfl⟩
  rw [← hS] at hcv RC2
  clear RC hrl hS hn
  go_enter Tryz.func10, Tryz.ntmps10
  go_wp2_with fail
  refine RC2.out.mono ?_
  rintro e w2 ⟨rfl, bel⟩
  have BEL := Lib.hid ((Below.of_none ka).trans (bel.mono ka.size))
  clear bel
  go_wp2_with fail
  go_ret
  exact ⟨rfl, BEL.out⟩

def bM0 : List UInt8 := madeL (List.replicate (4096 : Int).toNat 0) 0
def bO : Ord := ⟨1, 2, ⟨#[]⟩⟩
def bC : List Bf := [⟨848, 16, false⟩, ⟨864, 64, true⟩, ⟨928, 1, true⟩]
def bM1 : List UInt8 := addL (slotL bM0 848 shp1 bO) 0 32 0 [0, 1, 2] bC
def bT : Tkn := ⟨true, 864, 928⟩
def bM2 : List UInt8 := answerL bM1 0 0 0 bT true (fullS 7)
theorem bM0_len : bM0.length = 4096 := by unfold bM0; rw [madeL_length, List.length_replicate]; rfl
theorem bM1_len : bM1.length = 4096 := by unfold bM1; rw [addL_length, slotL_length, bM0_len]
theorem bM2_len : bM2.length = 4096 := by unfold bM2; rw [answerL_length, bM1_len]
theorem b_bar (n : Nat) (h : n = 4096) : blkBar n 0 true = 0 := by rw [h]; decide +kernel
theorem b_chain : chainL (shpAt 0) 848 = bC := by rfl
theorem b_new : newCh [] 32 bC = ⟨0, [0, 1, 2], 65⟩ := by
  unfold newCh
  have h1 : (freeL (List.map Oc.c []) 32).take bC.length = [0, 1, 2] := by decide +kernel
  rw [h1]
  rfl
theorem b_offI : offI bM1 0 32 = 1 := by decide +kernel
theorem b_offHead : offHead bM1 0 32 0 = 0 := by decide +kernel
theorem b_follow : (followF bM1 0 32 32 0 []).map (fun l => l.map fun x => (x.a, x.n, x.wr)) = some [(848, 16, false), (864, 64, true), (928, 1, true)] := by decide +kernel
theorem b_ask : (askL bM1 bC).map (fun o => (o.kind, o.sec, o.data.data.toList)) = some (1, 2, []) := by decide +kernel
theorem b_usedI : usedI bM2 0 32 = 1 := by decide +kernel
theorem b_usedNum : usedNum bM2 0 32 0 = 0 := by decide +kernel
theorem b_usedLen : usedLen bM2 0 32 0 = 65 := by decide +kernel
theorem b_status : ansS bM2 0 0 = 0 := by decide +kernel
theorem b_text : textS bM2 864 64 = List.replicate 64 7 := by decide +kernel

theorem bfs_of {l m : List Bf} (h : l.map (fun x => (x.a, x.n, x.wr)) = m.map fun x => (x.a, x.n, x.wr)) : l = m := by
  induction l generalizing m with
  | nil => cases m with
    | nil => rfl
    | cons b m => cases h
  | cons a l ih => cases m with
    | nil => cases h
    | cons b m =>
      simp only [List.map_cons, List.cons.injEq, Prod.mk.injEq] at h
      obtain ⟨⟨h1, h2, h3⟩, h4⟩ := h
      rw [ih h4]
      obtain ⟨a1, a2, a3⟩ := a
      obtain ⟨b1, b2, b3⟩ := b
      simp only at h1 h2 h3
      subst h1 h2 h3
      rfl
theorem b_follow2 : followF bM1 0 32 32 0 [] = some bC := by
  have h := b_follow
  generalize followF bM1 0 32 32 0 [] = R at h ⊢
  cases R with
  | none => cases h
  | some l =>
    injection h with h
    rw [bfs_of (m := bC) h]
theorem b_ask2 : askL bM1 bC = some bO := by
  have h := b_ask
  generalize askL bM1 bC = R at h ⊢
  cases R with
  | none => cases h
  | some o =>
    injection h with h
    simp only [Prod.mk.injEq] at h
    obtain ⟨h1, h2, h3⟩ := h
    obtain ⟨ok, os_, od⟩ := o
    obtain ⟨od⟩ := od
    simp only at h1 h2 h3
    subst h1 h2
    have : od = #[] := by simpa using h3
    subst this
    rfl
/-- What the device told there. -/
def bD : Dn := ⟨1, true, fullS 7⟩
theorem b_told {y : Snt} {x : Oc} (hy : y.hd = 0) (y1 : y.id = 1) (y2 : y.kind = 1) (y3 : y.slot = 0) (hx : x.c = ⟨0, [0, 1, 2], 65⟩) {l : List Dn} {os' : List Snt} {cs' : List Oc} {back' : Int} {d : Bool} (t : Told bM2 0 [y] [x] 0 l os' cs' back' d) :
    d = false ∧ l = [bD] ∧ os' = [] := by
  cases t with
  | stop _ _ _ h => rw [b_usedI] at h; exact absurd h (by decide)
  | brk _ _ _ h hb =>
    rw [b_usedI, b_usedNum, b_usedLen] at hb
    rcases hb with hb | hb | ⟨z, hz, h1, h2⟩
    · exact absurd hb (by simp)
    · exact absurd (show x.c.head = 0 by rw [hx]) (hb x (by simp))
    · rw [List.mem_singleton] at hz
      subst hz
      rw [hx] at h2
      exact absurd h2 (by simp)
  | step _ _ _ z hz s hs h hc hk hyk hl l2 _ _ _ _ r =>
    rw [List.mem_singleton] at hs
    subst hs
    rw [b_usedNum, b_usedLen] at *
    have e1 : ([s].filter fun z : Snt => z.hd != (0 : Int)) = [] := by simp [hy]
    have e2 : ([x].filter fun z : Oc => z.c.head != (0 : Int)) = [] := by simp [hx]
    rw [e1, e2] at r
    have ea : ansF bM2 0 s 65 = bD := by
      unfold ansF
      rw [y3, b_status, y1, y2, if_neg (by simp), if_pos rfl, show (0 : Int) + 848 + 96 * 0 + 16 = 864 from rfl, b_text]
      rfl
    rw [ea]
    cases r with
    | stop _ _ _ h => exact ⟨rfl, rfl, rfl⟩
    | brk _ _ _ h hb => rw [b_usedI] at h; exact absurd rfl h
    | step _ _ _ z hz s hs h => rw [b_usedI] at h; exact absurd rfl h

end Go.Proofs.YtdpiglkffabgdaaGreatDoor

namespace Go.Proofs.YtdpiglkffabgdaaGreatDoor
open Go.RowKit Go.Sort
set_option linter.unusedVariables false

def kO1 : Ord := ⟨2, 2, fullS 1⟩
def kO2 : Ord := ⟨1, 2, ⟨#[]⟩⟩
def kO3 : Ord := ⟨3, 0, ⟨#[]⟩⟩
def kC1 : List Bf := [⟨848, 16, false⟩, ⟨864, 64, false⟩, ⟨928, 1, true⟩]
def kC2 : List Bf := [⟨944, 16, false⟩, ⟨960, 64, true⟩, ⟨1024, 1, true⟩]
def kC3 : List Bf := chainL shp3 848
def kM1 : List UInt8 := addL (slotL bM0 848 shp2 kO1) 0 32 0 [0, 1, 2] kC1
def kM2 : List UInt8 := addL (slotL kM1 944 shp1 kO2) 0 32 1 [3, 4, 5] kC2
def kT1 : Tkn := ⟨false, 864, 928⟩
def kT2 : Tkn := ⟨true, 960, 1024⟩
def kM3 : List UInt8 := answerL kM2 0 0 3 kT2 true (fullS 1)
def kM4 : List UInt8 := answerL kM3 0 1 0 kT1 false ⟨#[]⟩
theorem kM1_len : kM1.length = 4096 := by unfold kM1; rw [addL_length, slotL_length, bM0_len]
theorem kM2_len : kM2.length = 4096 := by unfold kM2; rw [addL_length, slotL_length, kM1_len]
theorem kM3_len : kM3.length = 4096 := by unfold kM3; rw [answerL_length, kM2_len]
theorem kM4_len : kM4.length = 4096 := by unfold kM4; rw [answerL_length, kM3_len]
theorem k_chain1 : chainL (shpAt 1) 848 = kC1 := by rfl
theorem k_chain2 : chainL (shpAt 0) 944 = kC2 := by rfl
theorem k_new1 : newCh [] 32 kC1 = ⟨0, [0, 1, 2], 1⟩ := by
  unfold newCh
  have h1 : (freeL (List.map Oc.c []) 32).take kC1.length = [0, 1, 2] := by decide +kernel
  rw [h1]
  rfl
theorem k_new2 {x : Oc} (hx : x.c = ⟨0, [0, 1, 2], 1⟩) : newCh [x] 32 kC2 = ⟨3, [3, 4, 5], 65⟩ := by
  unfold newCh
  have h1 : (freeL (List.map Oc.c [x]) 32).take kC2.length = [3, 4, 5] := by
    rw [show List.map Oc.c [x] = [⟨0, [0, 1, 2], 1⟩] from by simp [hx]]
    decide +kernel
  rw [h1]
  rfl
theorem k_offI : offI kM2 0 32 = 2 := by decide +kernel
theorem k_offHead0 : offHead kM2 0 32 0 = 0 := by decide +kernel
theorem k_offHead1 : offHead kM2 0 32 1 = 3 := by decide +kernel
theorem k_follow0 : (followF kM2 0 32 32 0 []).map (fun l => l.map fun x => (x.a, x.n, x.wr)) = some [(848, 16, false), (864, 64, false), (928, 1, true)] := by decide +kernel
theorem k_follow3 : (followF kM2 0 32 32 3 []).map (fun l => l.map fun x => (x.a, x.n, x.wr)) = some [(944, 16, false), (960, 64, true), (1024, 1, true)] := by decide +kernel
theorem k_ask1 : (askL kM2 kC1).map (fun o => (o.kind, o.sec, o.data.data.toList)) = some (2, 2, List.replicate 64 1) := by decide +kernel
theorem k_ask2 : (askL kM2 kC2).map (fun o => (o.kind, o.sec, o.data.data.toList)) = some (1, 2, []) := by decide +kernel
theorem k_usedI3 : usedI kM3 0 32 = 1 := by decide +kernel
theorem k_usedNum3 : usedNum kM3 0 32 0 = 3 := by decide +kernel
theorem k_usedLen3 : usedLen kM3 0 32 0 = 65 := by decide +kernel
theorem k_status3 : ansS kM3 0 1 = 0 := by decide +kernel
theorem k_text3 : textS kM3 960 64 = List.replicate 64 1 := by decide +kernel
theorem k_usedI4 : usedI kM4 0 32 = 2 := by decide +kernel
theorem k_usedNum4 : usedNum kM4 0 32 1 = 0 := by decide +kernel
theorem k_usedLen4 : usedLen kM4 0 32 1 = 1 := by decide +kernel
theorem k_status4 : ansS kM4 0 0 = 1 := by decide +kernel
theorem follow_of {lm : List UInt8} {i : Int} {m : List Bf} (h : (followF lm 0 32 32 i []).map (fun l => l.map fun x => (x.a, x.n, x.wr)) = some (m.map fun x => (x.a, x.n, x.wr))) : followF lm 0 32 32 i [] = some m := by
  generalize followF lm 0 32 32 i [] = R at h ⊢
  cases R with
  | none => cases h
  | some l =>
    injection h with h
    rw [bfs_of (m := m) h]
theorem ask_of {lm : List UInt8} {l : List Bf} {k s : Int} {d : List UInt8} (h : (askL lm l).map (fun o => (o.kind, o.sec, o.data.data.toList)) = some (k, s, d)) : askL lm l = some ⟨k, s, ⟨d.toArray⟩⟩ := by
  generalize askL lm l = R at h ⊢
  cases R with
  | none => cases h
  | some o =>
    injection h with h
    simp only [Prod.mk.injEq] at h
    obtain ⟨h1, h2, h3⟩ := h
    obtain ⟨ok, os_, od⟩ := o
    obtain ⟨od⟩ := od
    simp only at h1 h2 h3
    subst h1 h2 h3
    simp
theorem k_fol0 : followF kM2 0 32 32 0 [] = some kC1 := follow_of k_follow0
theorem k_fol3 : followF kM2 0 32 32 3 [] = some kC2 := follow_of k_follow3
theorem k_askO1 : askL kM2 kC1 = some kO1 := ask_of k_ask1
theorem k_askO2 : askL kM2 kC2 = some kO2 := ask_of k_ask2
def kD2 : Dn := ⟨2, true, fullS 1⟩
def kD1 : Dn := ⟨1, false, ⟨#[]⟩⟩
theorem k_told3 {y z : Snt} {x x2 : Oc} (hy : y.hd = 0 ∧ y.id = 1 ∧ y.kind = 2 ∧ y.slot = 0) (hz : z.hd = 3 ∧ z.id = 2 ∧ z.kind = 1 ∧ z.slot = 1) (hx : x.c = ⟨0, [0, 1, 2], 1⟩) (hx2 : x2.c = ⟨3, [3, 4, 5], 65⟩) {l : List Dn} {os' : List Snt} {cs' : List Oc} {back' : Int} {d : Bool} (t : Told kM3 0 [y, z] [x, x2] 0 l os' cs' back' d) :
    d = false ∧ l = [kD2] ∧ os' = [y] ∧ cs' = [x] ∧ back' = 1 := by
  obtain ⟨y1, y2, y3, y4⟩ := hy
  obtain ⟨z1, z2, z3, z4⟩ := hz
  cases t with
  | stop _ _ _ h => rw [k_usedI3] at h; exact absurd h (by decide)
  | brk _ _ _ h hb =>
    rw [k_usedI3, k_usedNum3, k_usedLen3] at hb
    rcases hb with hb | hb | ⟨s, hs, h1, h2⟩
    · exact absurd hb (by simp)
    · exact absurd (show x2.c.head = 3 by rw [hx2]) (hb x2 (by simp))
    · simp only [List.mem_cons, List.not_mem_nil, or_false] at hs
      rcases hs with rfl | rfl
      · rw [hx] at h1; exact absurd h1 (by decide)
      · rw [hx2] at h2; exact absurd h2 (by simp)
  | step _ _ _ s hs r hr h hc hk hyk hl l2 _ _ _ _ rr =>
    rw [k_usedNum3] at hk hyk
    rw [k_usedNum3, k_usedLen3] at *
    have er : r = z := by
      simp only [List.mem_cons, List.not_mem_nil, or_false] at hr
      rcases hr with rfl | rfl
      · rw [y1] at hyk; exact absurd hyk (by decide)
      · rfl
    subst er
    have e1 : ([y, r].filter fun q : Snt => q.hd != (3 : Int)) = [y] := by simp [y1, z1]
    have e2 : ([x, x2].filter fun q : Oc => q.c.head != (3 : Int)) = [x] := by simp [hx, hx2]
    rw [e1, e2] at rr
    have ea : ansF kM3 0 r 65 = kD2 := by
      unfold ansF
      rw [z4, k_status3, z2, z3, if_neg (by simp), if_pos rfl, show (0 : Int) + 848 + 96 * 1 + 16 = 960 from rfl, k_text3]
      rfl
    rw [ea]
    cases rr with
    | stop _ _ _ h2 => exact ⟨rfl, rfl, rfl, rfl, by omega⟩
    | brk _ _ _ h2 hb => rw [k_usedI3] at h2; exact absurd h2 (by decide)
    | step _ _ _ s hs r hr h2 => rw [k_usedI3] at h2; exact absurd h2 (by decide)
theorem k_told4 {y : Snt} {x : Oc} (hy : y.hd = 0 ∧ y.id = 1 ∧ y.kind = 2 ∧ y.slot = 0) (hx : x.c = ⟨0, [0, 1, 2], 1⟩) {l : List Dn} {os' : List Snt} {cs' : List Oc} {back' : Int} {d : Bool} (t : Told kM4 0 [y] [x] 1 l os' cs' back' d) :
    d = false ∧ l = [kD1] ∧ os' = [] ∧ cs' = [] ∧ back' = 2 := by
  obtain ⟨y1, y2, y3, y4⟩ := hy
  cases t with
  | stop _ _ _ h => rw [k_usedI4] at h; exact absurd h (by decide)
  | brk _ _ _ h hb =>
    rw [k_usedI4, k_usedNum4, k_usedLen4] at hb
    rcases hb with hb | hb | ⟨s, hs, h1, h2⟩
    · exact absurd hb (by simp)
    · exact absurd (show x.c.head = 0 by rw [hx]) (hb x (by simp))
    · rw [List.mem_singleton] at hs
      subst hs
      rw [hx] at h2
      exact absurd h2 (by simp)
  | step _ _ _ s hs r hr h hc hk hyk hl l2 _ _ _ _ rr =>
    rw [List.mem_singleton] at hr
    subst hr
    rw [k_usedNum4, k_usedLen4] at *
    have e1 : ([r].filter fun q : Snt => q.hd != (0 : Int)) = [] := by simp [y1]
    have e2 : ([x].filter fun q : Oc => q.c.head != (0 : Int)) = [] := by simp [hx]
    rw [e1, e2] at rr
    have ea : ansF kM4 0 r 1 = kD1 := by
      unfold ansF
      rw [y4, k_status4, y2, if_pos (.inl (by decide))]
      rfl
    rw [ea]
    cases rr with
    | stop _ _ _ h2 => exact ⟨rfl, rfl, rfl, rfl, by omega⟩
    | brk _ _ _ h2 hb => rw [k_usedI4] at h2; exact absurd h2 (by decide)
    | step _ _ _ s hs r hr h2 => rw [k_usedI4] at h2; exact absurd h2 (by decide)
theorem k_none {l : List Dn} {os' : List Snt} {cs' : List Oc} {back' : Int} {d : Bool} (t : Told kM4 0 [] [] 2 l os' cs' back' d) : d = false ∧ l = [] ∧ os' = [] ∧ cs' = [] ∧ back' = 2 := by
  cases t with
  | stop _ _ _ h => exact ⟨rfl, rfl, rfl, rfl, rfl⟩
  | brk _ _ _ h hb => rw [k_usedI4] at h; exact absurd rfl h
  | step _ _ _ s hs r hr h => rw [k_usedI4] at h; exact absurd rfl h

end Go.Proofs.YtdpiglkffabgdaaGreatDoor

namespace Go.Proofs.YtdpiglkffabgdaaGreatDoor
open Go.RowKit Go.Sort

/-- What stays in awake's last region. -/
def AwkS (w : World) (ob gb : Nat) (s : ByteArray) : Prop :=
  w.heap[ob]? = some (.cells #[.int .i64 1, .int .i64 2, .string ⟨#[]⟩] 36 (0, 0)) ∧ w.cell? ⟨gb, 0, none⟩ = some (.int .i64 1) ∧ w.cell? ⟨gb, 1, none⟩ = some (.bool true) ∧ w.cell? ⟨gb, 2, none⟩ = some (.string s)
theorem AwkS.below {w w' : World} {ob gb : Nat} {s : ByteArray} (h : AwkS w ob gb s) (k : Below w.heap.size w w') : AwkS w' ob gb s := by
  obtain ⟨h1, h2, h3, h4⟩ := h
  have hg := World.block_lt_of_cell? w _ h2
  exact ⟨(k.block _ (lt_of_block h1)).trans h1, (k.cell (p := ⟨gb, 0, none⟩) hg).trans h2, (k.cell (p := ⟨gb, 1, none⟩) hg).trans h3, (k.cell (p := ⟨gb, 2, none⟩) hg).trans h4⟩
theorem AwkS.o0 {w : World} {ob gb : Nat} {s : ByteArray} (h : AwkS w ob gb s) : w.cell? ⟨ob, 0, none⟩ = some (.int .i64 1) := cell_of_block h.1
theorem AwkS.o1 {w : World} {ob gb : Nat} {s : ByteArray} (h : AwkS w ob gb s) : w.cell? ⟨ob, 1, none⟩ = some (.int .i64 2) := cell_of_block h.1
/-- A row of one answer. -/
theorem own_one {B : Nat} {w : World} {v : Value} {x : Dn} (h : OwnDns B w v [x]) : ∃ gb cap, v = .slice (some ⟨gb, 0, none⟩) 1 cap ∧ B ≤ gb ∧ w.cell? ⟨gb, 0, none⟩ = some (.int .i64 x.id) ∧ w.cell? ⟨gb, 1, none⟩ = some (.bool x.ok) ∧ w.cell? ⟨gb, 2, none⟩ = some (.string x.data) := by
  rcases h.1.2 with ⟨_, h0⟩ | ⟨g, cap, cur, rfl, hg, hb, r⟩
  · simp at h0
  · have hc : ∀ j u, (dnCells x)[j]? = some u → w.cell? ⟨g, 0 + j, none⟩ = some u := fun j u hu => by
      have h2 := h.1.cells (g := g) rfl j u (by simpa using hu)
      rw [Addr.add_mid] at h2
      exact h2
    exact ⟨g, cap, rfl, hg, hc 0 _ rfl, hc 1 _ rfl, hc 2 _ rfl⟩

set_option maxRecDepth 100000 in
set_option maxHeartbeats 4000000 in
theorem bawake_any (w : World) (hS : Shapes w) :
    Calls Tryz.prog 17 #[] w fun e w' => e = .returned (.bool true) ∧ Below w.heap.size w w' := by
  have hpos := hS.pos
  have HS := Lib.hid hS
  clear hS
  go_enter Tryz.func17, Tryz.ntmps17
  go_wp2_with fail
  refine (New_ok w 4096 (by omega) (by omega)).mono ?_
  rintro e w1 ⟨rfl, m1, k1⟩
  have z0 : (List.replicate (4096 : Int).toNat (0 : UInt8)).length = 4096 := by rw [List.length_replicate]; rfl
  have bel1 := Below.of_none k1
  have z1 := k1.size
  go_wp2_with fail
  refine (bNew_ok w1 _ _ _ m1 (by rw [z0]; omega) (by rw [z0]; omega) 0 8 3 (by rw [show ((List.replicate (4096 : Int).toNat (0 : UInt8)).length : Int) = 4096 from by rw [z0]; rfl]; decide +kernel) (by omega) (by omega) (by omega) (by omega)).mono ?_
  rintro e w2 ⟨b, q, mb, u, rfl, hb, hq, hmb, hu, s2, t2⟩
  change KS w2 b _ _ q u mb bM0 0 8 3 [] [] 0 0 false 0 0 false at s2
  have bel2 := bel1.trans (t2.below z1 (by rintro k rfl; omega))
  have z2 := t2.size
  have S2 := Lib.hid s2
  clear m1 k1 s2 t2 bel1
  go_wp2_with fail
  refine (bOpen_ok w2 _ _ _ S2.out.qs.mem (by rw [bM0_len]; omega) (by rw [bM0_len]; omega) 0 (b_bar _ bM0_len)).mono ?_
  rintro e w3 ⟨r, p, v, rfl, hr, hp, hv, r3, k3⟩
  have R3 := Lib.hid r3
  have S3 := Lib.hid (S2.out.grown k3)
  obtain ⟨lb, lg, lh, lq, lu, lmb⟩ := S2.out.lts
  have bel3 := bel2.grown k3 bel2.size (fun j e => by cases e)
  have SH3 := Lib.hid (HS.out.kept (bel3.block 0 hpos))
  have z3 := k3.size
  clear r3 k3 S2 bel2
  have HO : Hid (Submit_ok w3 b (w.heap.size + 1) w.heap.size q u mb bM0 0 8 3 [] [] 0 0 false 0 0 false S3.out bO rfl SH3.out 0 (by decide) rfl (by decide) (by decide) rfl (by decide) (by decide) = Submit_ok w3 b (w.heap.size + 1) w.heap.size q u mb bM0 0 8 3 [] [] 0 0 false 0 0 false S3.out bO rfl SH3.out 0 (by decide) rfl (by decide) (by decide) rfl (by decide) (by decide)) := Lib.hid rfl
  clear HO
  have SC := Submit_ok w3 b (w.heap.size + 1) w.heap.size q u mb bM0 0 8 3 [] [] 0 0 false 0 0 false S3.out bO rfl SH3.out 0 (by decide) rfl (by decide) (by decide) rfl (by decide) (by decide)
  unfold bO Ord.val at SC
  simp only at SC
  have SC2 := Lib.hid SC
  clear SC
  go_wp2_with fail
--@1
  refine SC2.out.mono ?_
  clear SC2
  rintro e w4 ⟨y, x, rfl, y1, y2, y3, y4, y5, y6, hx, s4, t4⟩
  have hslot : y.slot = 0 := by
    obtain ⟨a1, a2, a3⟩ := y5
    by_cases h : y.slot = 0
    · exact h
    · obtain ⟨z, hz, _⟩ := y6 0 (by omega)
      cases hz
  rw [hslot] at hx s4
  rw [show (0 : Int) + 848 + 96 * 0 = 848 from rfl, b_chain] at hx s4
  rw [b_new] at hx
  rw [hx] at s4
  change KS w4 b _ _ q u mb bM1 0 8 3 [y] [x] 1 0 false 1 0 false at s4
  have hyhd : y.hd = 0 := by rw [y4, hx]
  have hKB : ∀ k, KB b q w.heap.size mb u k → k < w2.heap.size := by
    intro k hk
    rcases hk with e | e | e | e | e <;> omega
  have hKB2 : ∀ k, KB b q w.heap.size mb u k → w.heap.size ≤ k := by
    intro k hk
    rcases hk with e | e | e | e | e <;> omega
  have R4 := Lib.hid (R3.out.other t4 (fun h => by have := hKB _ h; omega) (fun h => by have := hKB _ h; omega) (fun h => by have := hKB _ h; omega) s4.qs.mem (by rw [bM1_len, bM0_len]))
  have bel4 := bel3.trans (t4.below bel3.size hKB2)
  have SH4 := Lib.hid (HS.out.kept (bel4.block 0 hpos))
  have z4 := t4.size
  have S4 := Lib.hid s4
  have HX := Lib.hid hx
  have HY : Hid (y.hd = 0 ∧ y.id = 1 ∧ y.kind = 1 ∧ y.slot = 0) := Lib.hid ⟨hyhd, y1, y2, hslot⟩
  clear y1 y2 y3 y4 y5 y6 hx s4 t4 hslot hyhd R3 S3 bel3 SH3
  have NC := Lib.hid (RNext_ok w4 r (w.heap.size + 1) w.heap.size p v bM1 0 0 0 [] SH4.out (by omega) R4.out 0 bC bO (by rw [b_offI]; decide) (by rw [b_offI]; decide) (Lib.hid b_offHead) (Lib.hid b_follow2) (Lib.hid b_ask2) (by simp))
  go_wp2_with fail
  refine NC.out.mono ?_
  clear NC
  rintro e w5 ⟨rfl, r5, t5⟩
  unfold bO Ord.val
  simp only
  have hRB2 : ∀ k, RB w.heap.size p v k → w.heap.size ≤ k := by
    intro k hk
    rcases hk with e | e | e <;> omega
  have S5 := Lib.hid (S4.out.device R4.out t5 r5.ps.mem rfl (by omega) (by omega))
  have bel5 := bel4.trans (t5.below bel4.size hRB2)
  have z5 := t5.size
  have k6 := World.grownBy_alloc w5 (.cells #[.int .i64 1, .int .i64 2, .string ⟨#[]⟩] 36) none
  have hob := heap_alloc_new w5 (.cells #[.int .i64 1, .int .i64 2, .string ⟨#[]⟩] 36)
  have R5 := Lib.hid r5
  clear r5 t5 S4 R4 bel4 SH4
  go_upto_region 6 with fail
  obtain ⟨ob, hobe⟩ : ∃ ob, ob = w5.heap.size := ⟨_, rfl⟩
  rw [← hobe] at hob ⊢
  have zob : w2.heap.size ≤ ob := by omega
  generalize w5.alloc _ = w6 at k6 hob ⊢
  have R6 := Lib.hid (R5.out.grown k6)
  have S6 := Lib.hid (S5.out.grown k6)
  have bel6 := bel5.grown k6 bel5.size (fun j e => by cases e)
  have HOB := Lib.hid hob
  clear hobe k6 hob bel5 S5 R5
  go_wp2_with fail
--@2
  refine (full_any w6 7 7 rfl).mono ?_
  rintro e w7 ⟨rfl, bel⟩
  have z6 := lt_of_block HOB.out
  have T7 : Turned (fun _ => False) w6 w7 := ⟨bel.os, bel.tape, bel.output, bel.size, fun k hk _ => bel.block k hk⟩
  have k7 : w6.grownBy w7 none := ⟨bel.os, bel.tape, bel.output, bel.size, fun k hk _ => bel.block k hk⟩
  have R7 := Lib.hid (R6.out.grown k7)
  have S7 := Lib.hid (S6.out.grown k7)
  have bel7 := bel6.grown k7 bel6.size (fun j e => by cases e)
  have HOB7 := Lib.hid ((k7.block _ z6 (by simp)).trans HOB.out)
  have z7 := k7.size
  clear bel T7 k7 R6 S6 bel6 HOB
  have htk : tknOf bO bC = bT := rfl
  have DC := RDone_ok w7 r (w.heap.size + 1) w.heap.size p v bM1 0 ((0 + 1) % 65536) 0 _ R7.out 0 (by omega) (by omega) bT (by rw [htk]; exact List.mem_singleton.2 rfl) true (fullS 7) (by unfold mayAns; rw [fullS_size]; rfl)
  change Calls _ _ _ _ (RDonePost _ _ _ _ _ _ _ _ ((0 + 1) % 65536) _ _ _ _ _ _) at DC
  have DC2 := Lib.hid DC
  clear DC htk
  obtain ⟨FS, hFS⟩ : ∃ FS, FS = fullS 7 := ⟨_, rfl⟩
  rw [← hFS] at DC2 ⊢
  have HFS := Lib.hid hFS
  clear hFS
  go_wp2_with fail
  refine DC2.out.mono ?_
  clear DC2
  rintro e w8 ⟨rfl, r8, t8⟩
  rw [HFS.out] at r8
  change RS w8 r _ _ p v bM2 0 _ _ _ at r8
  have S8 := Lib.hid (S7.out.device R7.out t8 r8.ps.mem (by rw [bM2_len, bM1_len]) (by omega) (by omega))
  have bel8 := bel7.trans (t8.below bel7.size hRB2)
  have HOB8 : Hid (w8.heap[ob]? = some (.cells #[.int .i64 1, .int .i64 2, .string ⟨#[]⟩] 36 (0, 0))) := Lib.hid ((t8.block _ (lt_of_block HOB7.out) (by
    rintro (e | e | e)
    · omega
    · have h1 := R7.out.ps.at_
      have h2 := HOB7.out
      unfold PAt at h1
      rw [e, h1] at h2
      injection h2 with h2
      injection h2 with _ h2
      exact absurd h2 (by decide)
    · exact tab_ne R7.out.tab HOB7.out e.symm)).trans HOB7.out)
  have z8 := t8.size
  clear r8 t8 S7 R7 bel7 HOB7
  have PC := Lib.hid (Poll_live w8 b (w.heap.size + 1) w.heap.size q u mb bM2 0 8 3 [y] [x] 1 0 1 0 S8.out (fun l os' cs' back' d ht => (b_told HY.out.1 HY.out.2.1 HY.out.2.2.1 HY.out.2.2.2 HX.out ht).1))
  go_wp2_with fail
--@3
  refine PC.out.mono ?_
  clear PC
  rintro e w9 ⟨lv, l, os', cs', back', rfl, ho, ht, s9, t9⟩
  obtain ⟨_, hl, _⟩ := b_told HY.out.1 HY.out.2.1 HY.out.2.2.1 HY.out.2.2.2 HX.out ht
  subst hl
  obtain ⟨gb, cap, rfl, hgb, g0, g1, g2⟩ := own_one ho
  have bel9 := Lib.hid (bel8.trans (t9.below bel8.size hKB2))
  have a9 : AwkS w9 ob gb FS := ⟨(t9.block _ (lt_of_block HOB8.out) (by
    intro hk
    have := hKB _ hk
    omega)).trans HOB8.out, g0, g1, by rw [HFS.out]; exact g2⟩
  have A9 := Lib.hid a9
  have z9 := t9.size
  clear ho ht s9 t9 g0 g1 g2 a9 bel8 HOB8 S8 HX HY hgb
  go_wp2_with fail
--@4
  refine wp_region_noPanic ?_
  refine region_held (S := fun w' => AwkS w' ob gb FS) (by kernel_rfl) (fun V d => A9.out.below (Below.of_none d.grown)) (fun V d hS => ?_)
  have BV := Lib.hid (bel9.out.trans ((Below.of_none d.grown).mono bel9.out.size))
  refine wpAnyH_take (i := 0) (oi := ⟨some 46, Op.move (Operand.tmp 2), _, _, _, none⟩) (v := (.int .i64 0)) rfl (by kernel_rfl) (by kernel_rfl) (by kernel_rfl) (fun _ _ _ h => h) (Or.inl ⟨by rfl, fun w' h' => ?_⟩) hS ?_
  · clear h'
    go_simp
  simp only [Act.put]
  refine wpAnyH_take (i := 1) (oi := ⟨some 47, Op.binOp BinOp.eql 23 (Operand.tmp 46) (Operand.const (Value.int IntKind.i64 0)) 23, _, _, _, none⟩) (v := (.bool true)) rfl (by kernel_rfl) (by kernel_rfl) (by kernel_rfl) (fun _ _ _ h => h) (Or.inl ⟨by rfl, fun w' h' => ?_⟩) hS ?_
  · clear h'
    go_simp
  simp only [Act.put]
  refine wpAnyH_take (i := 2) (oi := ⟨some 48, Op.move (Operand.tmp 47), _, _, _, none⟩) (v := (.bool true)) rfl (by kernel_rfl) (by kernel_rfl) (by kernel_rfl) (fun _ _ _ h => h) (Or.inl ⟨by rfl, fun w' h' => ?_⟩) hS ?_
  · clear h'
    go_simp
  simp only [Act.put]
  refine wpAnyH_take (i := 3) (oi := ⟨some 49, Op.move (Operand.tmp 4), _, _, _, some (2, true)⟩) (v := (.int .i64 0)) rfl (by kernel_rfl) (by kernel_rfl) (by kernel_rfl) (fun _ _ _ h => h) (Or.inl ⟨by kernel_rfl, fun w' h' => ?_⟩) hS ?_
  · clear h'
    go_simp
  simp only [Act.put]
  refine wpAnyH_take (i := 4) (oi := ⟨some 50, Op.binOp BinOp.eql 23 (Operand.tmp 49) (Operand.const (Value.int IntKind.i64 0)) 23, _, _, _, some (2, true)⟩) (v := (.bool true)) rfl (by kernel_rfl) (by kernel_rfl) (by kernel_rfl) (fun _ _ _ h => h) (Or.inl ⟨by kernel_rfl, fun w' h' => ?_⟩) hS ?_
  · clear h'
    go_simp
  simp only [Act.put]
  refine wpAnyH_take (i := 5) (oi := ⟨some 51, Op.pick (Operand.tmp 48) (Operand.tmp 50) (Operand.const (Value.bool false)), _, _, _, none⟩) (v := (.bool true)) rfl (by kernel_rfl) (by kernel_rfl) (by kernel_rfl) (fun _ _ _ h => h) (Or.inl ⟨by rfl, fun w' h' => ?_⟩) hS ?_
  · clear h'
    go_simp
  simp only [Act.put]
  refine wpAnyH_take (i := 6) (oi := ⟨some 52, Op.move (Operand.tmp 51), _, _, _, none⟩) (v := (.bool true)) rfl (by kernel_rfl) (by kernel_rfl) (by kernel_rfl) (fun _ _ _ h => h) (Or.inl ⟨by rfl, fun w' h' => ?_⟩) hS ?_
  · clear h'
    go_simp
  simp only [Act.put]
  refine wpAnyH_take (i := 7) (oi := ⟨some 53, Op.move (Operand.tmp 6), _, _, _, some (6, true)⟩) (v := (.int .i64 0)) rfl (by kernel_rfl) (by kernel_rfl) (by kernel_rfl) (fun _ _ _ h => h) (Or.inl ⟨by kernel_rfl, fun w' h' => ?_⟩) hS ?_
  · clear h'
    go_simp
  simp only [Act.put]
  refine wpAnyH_take (i := 8) (oi := ⟨some 54, Op.binOp BinOp.eql 23 (Operand.tmp 53) (Operand.const (Value.int IntKind.i64 0)) 23, _, _, _, some (6, true)⟩) (v := (.bool true)) rfl (by kernel_rfl) (by kernel_rfl) (by kernel_rfl) (fun _ _ _ h => h) (Or.inl ⟨by kernel_rfl, fun w' h' => ?_⟩) hS ?_
  · clear h'
    go_simp
  simp only [Act.put]
  refine wpAnyH_take (i := 9) (oi := ⟨some 55, Op.pick (Operand.tmp 52) (Operand.tmp 54) (Operand.const (Value.bool false)), _, _, _, none⟩) (v := (.bool true)) rfl (by kernel_rfl) (by kernel_rfl) (by kernel_rfl) (fun _ _ _ h => h) (Or.inl ⟨by rfl, fun w' h' => ?_⟩) hS ?_
  · clear h'
    go_simp
  simp only [Act.put]
  refine wpAnyH_take (i := 10) (oi := ⟨some 56, Op.move (Operand.tmp 55), _, _, _, none⟩) (v := (.bool true)) rfl (by kernel_rfl) (by kernel_rfl) (by kernel_rfl) (fun _ _ _ h => h) (Or.inl ⟨by rfl, fun w' h' => ?_⟩) hS ?_
  · clear h'
    go_simp
  simp only [Act.put]
  refine wpAnyH_take (i := 11) (oi := ⟨some 57, Op.move (Operand.tmp 7), _, _, _, some (10, true)⟩) (v := (.int .i64 1)) rfl (by kernel_rfl) (by kernel_rfl) (by kernel_rfl) (fun _ _ _ h => h) (Or.inl ⟨by kernel_rfl, fun w' h' => ?_⟩) hS ?_
  · clear h'
    go_simp
  simp only [Act.put]
  refine wpAnyH_take (i := 12) (oi := ⟨some 58, Op.binOp BinOp.eql 3 (Operand.tmp 57) (Operand.const (Value.int IntKind.i64 1)) 3, _, _, _, some (10, true)⟩) (v := (.bool true)) rfl (by kernel_rfl) (by kernel_rfl) (by kernel_rfl) (fun _ _ _ h => h) (Or.inl ⟨by kernel_rfl, fun w' h' => ?_⟩) hS ?_
  · clear h'
    go_simp
  simp only [Act.put]
  refine wpAnyH_take (i := 13) (oi := ⟨some 59, Op.pick (Operand.tmp 56) (Operand.tmp 58) (Operand.const (Value.bool false)), _, _, _, none⟩) (v := (.bool true)) rfl (by kernel_rfl) (by kernel_rfl) (by kernel_rfl) (fun _ _ _ h => h) (Or.inl ⟨by rfl, fun w' h' => ?_⟩) hS ?_
  · clear h'
    go_simp
  simp only [Act.put]
  refine wpAnyH_take (i := 14) (oi := ⟨some 60, Op.move (Operand.tmp 59), _, _, _, none⟩) (v := (.bool true)) rfl (by kernel_rfl) (by kernel_rfl) (by kernel_rfl) (fun _ _ _ h => h) (Or.inl ⟨by rfl, fun w' h' => ?_⟩) hS ?_
  · clear h'
    go_simp
  simp only [Act.put]
  refine wpAnyH_take (i := 15) (oi := ⟨some 61, Op.move (Operand.tmp 8), _, _, _, some (14, true)⟩) (v := (.int .i64 0)) rfl (by kernel_rfl) (by kernel_rfl) (by kernel_rfl) (fun _ _ _ h => h) (Or.inl ⟨by kernel_rfl, fun w' h' => ?_⟩) hS ?_
  · clear h'
    go_simp
  simp only [Act.put]
  refine wpAnyH_take (i := 16) (oi := ⟨some 62, Op.binOp BinOp.eql 23 (Operand.tmp 61) (Operand.const (Value.int IntKind.i64 0)) 23, _, _, _, some (14, true)⟩) (v := (.bool true)) rfl (by kernel_rfl) (by kernel_rfl) (by kernel_rfl) (fun _ _ _ h => h) (Or.inl ⟨by kernel_rfl, fun w' h' => ?_⟩) hS ?_
  · clear h'
    go_simp
  simp only [Act.put]
  refine wpAnyH_take (i := 17) (oi := ⟨some 63, Op.pick (Operand.tmp 60) (Operand.tmp 62) (Operand.const (Value.bool false)), _, _, _, none⟩) (v := (.bool true)) rfl (by kernel_rfl) (by kernel_rfl) (by kernel_rfl) (fun _ _ _ h => h) (Or.inl ⟨by rfl, fun w' h' => ?_⟩) hS ?_
  · clear h'
    go_simp
  simp only [Act.put]
  refine wpAnyH_take (i := 18) (oi := ⟨some 64, Op.move (Operand.tmp 63), _, _, _, none⟩) (v := (.bool true)) rfl (by kernel_rfl) (by kernel_rfl) (by kernel_rfl) (fun _ _ _ h => h) (Or.inl ⟨by rfl, fun w' h' => ?_⟩) hS ?_
  · clear h'
    go_simp
  simp only [Act.put]
  refine wpAnyH_take (i := 19) (oi := ⟨some 65, Op.fieldAddr 36 (Operand.tmp 10) 0, _, _, _, some (18, true)⟩) (v := (.pointer (some ⟨ob, 0, none⟩))) rfl (by kernel_rfl) (by kernel_rfl) (by kernel_rfl) (fun _ _ _ h => h) (Or.inl ⟨by kernel_rfl, fun w' h' => ?_⟩) hS ?_
  · clear h'
    go_simp
  simp only [Act.put]
  refine wpAnyH_take (i := 20) (oi := ⟨some 66, Op.load 3 (Operand.tmp 65), _, _, _, some (18, true)⟩) (v := (.int .i64 1)) rfl (by kernel_rfl) (by kernel_rfl) (by kernel_rfl) (fun _ _ _ h => h) (Or.inl ⟨by kernel_rfl, fun w' h' => ?_⟩) hS ?_
  · have c0 := h'.o0
    clear h'
    go_simp
  simp only [Act.put]
  refine wpAnyH_take (i := 21) (oi := ⟨some 67, Op.binOp BinOp.eql 3 (Operand.tmp 66) (Operand.const (Value.int IntKind.i64 1)) 3, _, _, _, some (18, true)⟩) (v := (.bool true)) rfl (by kernel_rfl) (by kernel_rfl) (by kernel_rfl) (fun _ _ _ h => h) (Or.inl ⟨by kernel_rfl, fun w' h' => ?_⟩) hS ?_
  · clear h'
    go_simp
  simp only [Act.put]
  refine wpAnyH_take (i := 22) (oi := ⟨some 68, Op.pick (Operand.tmp 64) (Operand.tmp 67) (Operand.const (Value.bool false)), _, _, _, none⟩) (v := (.bool true)) rfl (by kernel_rfl) (by kernel_rfl) (by kernel_rfl) (fun _ _ _ h => h) (Or.inl ⟨by rfl, fun w' h' => ?_⟩) hS ?_
  · clear h'
    go_simp
  simp only [Act.put]
  refine wpAnyH_take (i := 23) (oi := ⟨some 69, Op.move (Operand.tmp 68), _, _, _, none⟩) (v := (.bool true)) rfl (by kernel_rfl) (by kernel_rfl) (by kernel_rfl) (fun _ _ _ h => h) (Or.inl ⟨by rfl, fun w' h' => ?_⟩) hS ?_
  · clear h'
    go_simp
  simp only [Act.put]
  refine wpAnyH_take (i := 24) (oi := ⟨some 70, Op.fieldAddr 36 (Operand.tmp 10) 1, _, _, _, some (23, true)⟩) (v := (.pointer (some ⟨ob, 1, none⟩))) rfl (by kernel_rfl) (by kernel_rfl) (by kernel_rfl) (fun _ _ _ h => h) (Or.inl ⟨by kernel_rfl, fun w' h' => ?_⟩) hS ?_
  · clear h'
    go_simp
  simp only [Act.put]
  refine wpAnyH_take (i := 25) (oi := ⟨some 71, Op.load 3 (Operand.tmp 70), _, _, _, some (23, true)⟩) (v := (.int .i64 2)) rfl (by kernel_rfl) (by kernel_rfl) (by kernel_rfl) (fun _ _ _ h => h) (Or.inl ⟨by kernel_rfl, fun w' h' => ?_⟩) hS ?_
  · have c0 := h'.o1
    clear h'
    go_simp
  simp only [Act.put]
  refine wpAnyH_take (i := 26) (oi := ⟨some 72, Op.binOp BinOp.eql 3 (Operand.tmp 71) (Operand.const (Value.int IntKind.i64 2)) 3, _, _, _, some (23, true)⟩) (v := (.bool true)) rfl (by kernel_rfl) (by kernel_rfl) (by kernel_rfl) (fun _ _ _ h => h) (Or.inl ⟨by kernel_rfl, fun w' h' => ?_⟩) hS ?_
  · clear h'
    go_simp
  simp only [Act.put]
  refine wpAnyH_take (i := 27) (oi := ⟨some 73, Op.pick (Operand.tmp 69) (Operand.tmp 72) (Operand.const (Value.bool false)), _, _, _, none⟩) (v := (.bool true)) rfl (by kernel_rfl) (by kernel_rfl) (by kernel_rfl) (fun _ _ _ h => h) (Or.inl ⟨by rfl, fun w' h' => ?_⟩) hS ?_
  · clear h'
    go_simp
  simp only [Act.put]
  refine wpAnyH_take (i := 28) (oi := ⟨some 74, Op.move (Operand.tmp 73), _, _, _, none⟩) (v := (.bool true)) rfl (by kernel_rfl) (by kernel_rfl) (by kernel_rfl) (fun _ _ _ h => h) (Or.inl ⟨by rfl, fun w' h' => ?_⟩) hS ?_
  · clear h'
    go_simp
  simp only [Act.put]
  refine wpAnyH_take (i := 29) (oi := ⟨some 75, Op.move (Operand.tmp 11), _, _, _, some (28, true)⟩) (v := (.int .i64 0)) rfl (by kernel_rfl) (by kernel_rfl) (by kernel_rfl) (fun _ _ _ h => h) (Or.inl ⟨by kernel_rfl, fun w' h' => ?_⟩) hS ?_
  · clear h'
    go_simp
  simp only [Act.put]
  refine wpAnyH_take (i := 30) (oi := ⟨some 76, Op.binOp BinOp.eql 23 (Operand.tmp 75) (Operand.const (Value.int IntKind.i64 0)) 23, _, _, _, some (28, true)⟩) (v := (.bool true)) rfl (by kernel_rfl) (by kernel_rfl) (by kernel_rfl) (fun _ _ _ h => h) (Or.inl ⟨by kernel_rfl, fun w' h' => ?_⟩) hS ?_
  · clear h'
    go_simp
  simp only [Act.put]
  refine wpAnyH_take (i := 31) (oi := ⟨some 77, Op.pick (Operand.tmp 74) (Operand.tmp 76) (Operand.const (Value.bool false)), _, _, _, none⟩) (v := (.bool true)) rfl (by kernel_rfl) (by kernel_rfl) (by kernel_rfl) (fun _ _ _ h => h) (Or.inl ⟨by rfl, fun w' h' => ?_⟩) hS ?_
  · clear h'
    go_simp
  simp only [Act.put]
  refine wpAnyH_take (i := 32) (oi := ⟨some 78, Op.move (Operand.tmp 77), _, _, _, none⟩) (v := (.bool true)) rfl (by kernel_rfl) (by kernel_rfl) (by kernel_rfl) (fun _ _ _ h => h) (Or.inl ⟨by rfl, fun w' h' => ?_⟩) hS ?_
  · clear h'
    go_simp
  simp only [Act.put]
  refine wpAnyH_take (i := 33) (oi := ⟨some 79, Op.move (Operand.tmp 12), _, _, _, some (32, true)⟩) (v := (.int .i64 0)) rfl (by kernel_rfl) (by kernel_rfl) (by kernel_rfl) (fun _ _ _ h => h) (Or.inl ⟨by kernel_rfl, fun w' h' => ?_⟩) hS ?_
  · clear h'
    go_simp
  simp only [Act.put]
  refine wpAnyH_take (i := 34) (oi := ⟨some 80, Op.binOp BinOp.eql 23 (Operand.tmp 79) (Operand.const (Value.int IntKind.i64 0)) 23, _, _, _, some (32, true)⟩) (v := (.bool true)) rfl (by kernel_rfl) (by kernel_rfl) (by kernel_rfl) (fun _ _ _ h => h) (Or.inl ⟨by kernel_rfl, fun w' h' => ?_⟩) hS ?_
  · clear h'
    go_simp
  simp only [Act.put]
  refine wpAnyH_take (i := 35) (oi := ⟨some 81, Op.pick (Operand.tmp 78) (Operand.tmp 80) (Operand.const (Value.bool false)), _, _, _, none⟩) (v := (.bool true)) rfl (by kernel_rfl) (by kernel_rfl) (by kernel_rfl) (fun _ _ _ h => h) (Or.inl ⟨by rfl, fun w' h' => ?_⟩) hS ?_
  · clear h'
    go_simp
  simp only [Act.put]
  refine wpAnyH_take (i := 36) (oi := ⟨some 82, Op.move (Operand.tmp 81), _, _, _, none⟩) (v := (.bool true)) rfl (by kernel_rfl) (by kernel_rfl) (by kernel_rfl) (fun _ _ _ h => h) (Or.inl ⟨by rfl, fun w' h' => ?_⟩) hS ?_
  · clear h'
    go_simp
  simp only [Act.put]
  refine wpAnyH_take (i := 37) (oi := ⟨some 83, Op.move (Operand.tmp 13), _, _, _, some (36, true)⟩) (v := (.slice (some ⟨gb, 0, none⟩) 1 cap)) rfl (by kernel_rfl) (by kernel_rfl) (by kernel_rfl) (fun _ _ _ h => h) (Or.inl ⟨by kernel_rfl, fun w' h' => ?_⟩) hS ?_
  · clear h'
    go_simp
  simp only [Act.put]
  refine wpAnyH_ready (rs := [38]) (by kernel_rfl) (by simp) ?_
  refine AllReadyH.cons rfl (fun K hK => ?_) AllReadyH.nil
  go_simp
  refine hK.out _ _ hS (fun _ => ?_)
  clear hK K
  refine wpAnyH_take (i := 39) (oi := ⟨some 85, Op.binOp BinOp.eql 3 (Operand.tmp 84) (Operand.const (Value.int IntKind.i64 1)) 3, _, _, _, some (36, true)⟩) (v := (.bool true)) rfl (by kernel_rfl) (by kernel_rfl) (by kernel_rfl) (fun _ _ _ h => h) (Or.inl ⟨by kernel_rfl, fun w' h' => ?_⟩) hS ?_
  · clear h'
    go_simp
  simp only [Act.put]
  refine wpAnyH_take (i := 40) (oi := ⟨some 86, Op.pick (Operand.tmp 82) (Operand.tmp 85) (Operand.const (Value.bool false)), _, _, _, none⟩) (v := (.bool true)) rfl (by kernel_rfl) (by kernel_rfl) (by kernel_rfl) (fun _ _ _ h => h) (Or.inl ⟨by rfl, fun w' h' => ?_⟩) hS ?_
  · clear h'
    go_simp
  simp only [Act.put]
  refine wpAnyH_take (i := 41) (oi := ⟨some 87, Op.move (Operand.tmp 86), _, _, _, none⟩) (v := (.bool true)) rfl (by kernel_rfl) (by kernel_rfl) (by kernel_rfl) (fun _ _ _ h => h) (Or.inl ⟨by rfl, fun w' h' => ?_⟩) hS ?_
  · clear h'
    go_simp
  simp only [Act.put]
  refine wpAnyH_take (i := 42) (oi := ⟨some 88, Op.move (Operand.tmp 13), _, _, _, some (41, true)⟩) (v := (.slice (some ⟨gb, 0, none⟩) 1 cap)) rfl (by kernel_rfl) (by kernel_rfl) (by kernel_rfl) (fun _ _ _ h => h) (Or.inl ⟨by kernel_rfl, fun w' h' => ?_⟩) hS ?_
  · clear h'
    go_simp
  simp only [Act.put]
  refine wpAnyH_take (i := 43) (oi := ⟨some 89, Op.indexAddr 41 (Operand.tmp 88) (Operand.const (Value.int IntKind.i64 0)), _, _, _, some (41, true)⟩) (v := (.pointer (some ⟨gb, 0, none⟩))) rfl (by kernel_rfl) (by kernel_rfl) (by kernel_rfl) (fun _ _ _ h => h) (Or.inl ⟨by kernel_rfl, fun w' h' => ?_⟩) hS ?_
  · clear h'
    go_simp
  simp only [Act.put]
  refine wpAnyH_take (i := 44) (oi := ⟨some 90, Op.load 45 (Operand.tmp 89), _, _, _, some (41, true)⟩) (v := (.agg #[.int .i64 1, .bool true, .string FS])) rfl (by kernel_rfl) (by kernel_rfl) (by kernel_rfl) (fun _ _ _ h => h) (Or.inl ⟨by kernel_rfl, fun w' h' => ?_⟩) hS ?_
  · have c0 := h'.2.1
    have c1 := h'.2.2.1
    have c2 := h'.2.2.2
    clear h'
    go_simp
  simp only [Act.put]
  refine wpAnyH_ready (rs := [45]) (by kernel_rfl) (by simp) ?_
  refine AllReadyH.cons rfl (fun K hK => ?_) AllReadyH.nil
  go_simp
  refine (full_any V 7 7 rfl).mono ?_
  rintro e wa ⟨rfl, bela⟩
  rw [← HFS.out]
  have aa := hS.below bela
  have BELA := Lib.hid (BV.out.trans (bela.mono BV.out.size))
  go_simp
  refine hK.out _ _ aa (fun _ => ?_)
  clear hK K
  refine wpAnyH_take (i := 46) (oi := ⟨some 92, Op.build 45 #[(0, Operand.const (Value.int IntKind.i64 1)), (1, Operand.const (Value.bool true)), (2, (Operand.tmp 91))], _, _, _, some (41, true)⟩) (v := (.agg #[.int .i64 1, .bool true, .string FS])) rfl (by kernel_rfl) (by kernel_rfl) (by kernel_rfl) (fun _ _ _ h => h) (Or.inl ⟨by kernel_rfl, fun w' h' => ?_⟩) aa ?_
  · clear h'
    go_simp
  simp only [Act.put]
  refine wpAnyH_take (i := 47) (oi := ⟨some 93, Op.binOp BinOp.eql 45 (Operand.tmp 90) (Operand.tmp 92) 45, _, _, _, some (41, true)⟩) (v := (.bool true)) rfl (by kernel_rfl) (by kernel_rfl) (by kernel_rfl) (fun _ _ _ h => h) (Or.inl ⟨by kernel_rfl, fun w' h' => ?_⟩) aa ?_
  · clear h'
    go_simp
  simp only [Act.put]
  refine wpAnyH_take (i := 48) (oi := ⟨some 94, Op.pick (Operand.tmp 87) (Operand.tmp 93) (Operand.const (Value.bool false)), _, _, _, none⟩) (v := (.bool true)) rfl (by kernel_rfl) (by kernel_rfl) (by kernel_rfl) (fun _ _ _ h => h) (Or.inl ⟨by rfl, fun w' h' => ?_⟩) aa ?_
  · clear h'
    go_simp
  simp only [Act.put]
  refine wpAnyH_take (i := 49) (oi := ⟨some 0, Op.assign (Operand.tmp 94), _, _, _, none⟩) (v := (.bool true)) rfl (by kernel_rfl) (by kernel_rfl) (by kernel_rfl) (fun _ _ _ h => h) (Or.inl ⟨by rfl, fun w' h' => ?_⟩) aa ?_
  · clear h'
    go_simp
  simp only [Act.put]
  refine wpAnyH_done (by kernel_rfl) (NoPanic.normal ?_) _
  clear hS d aa bela
  go_wp2_with fail
  go_ret
  exact ⟨rfl, BELA.out⟩

end Go.Proofs.YtdpiglkffabgdaaGreatDoor

namespace Go.Proofs.YtdpiglkffabgdaaGreatDoor
open Go.RowKit Go.Sort
set_option linter.unusedVariables false

structure KW (w0 w : World) (B0 b g h q u mb r p v : Nat) (lm : List UInt8) (os : List Snt) (cs : List Oc) (off back last now taken told : Int) (ts : List (Int × Tkn)) : Prop where
  ks : KS w b g h q u mb lm 0 8 3 os cs off back false last now false
  rs : RS w r g h p v lm 0 taken told ts
  bel : Below w0.heap.size w0 w
  kb : ∀ k, KB b q h mb u k → w0.heap.size ≤ k ∧ k < B0
  rb : ∀ k, RB h p v k → w0.heap.size ≤ k ∧ k < B0
  ne : u ≠ v ∧ mb ≠ v
  nr : ¬ KB b q h mb u r ∧ ¬ KB b q h mb u p ∧ ¬ KB b q h mb u v
  B1 : B0 ≤ w.heap.size
  len : lm.length = 4096
  sh : Shapes w0
  p0 : p ≠ 0
section
variable {w0 w w' : World} {B0 b g h q u mb r p v : Nat} {lm lm' : List UInt8} {os os' : List Snt} {cs cs' : List Oc} {off back last now taken told off' back' last' now' taken' told' : Int} {ts ts' : List (Int × Tkn)}
theorem KW.grow (k : KW w0 w B0 b g h q u mb r p v lm os cs off back last now taken told ts) (x : Below w.heap.size w w') : KW w0 w' B0 b g h q u mb r p v lm os cs off back last now taken told ts := by
  have y : w.grownBy w' none := ⟨x.os, x.tape, x.output, x.size, fun j hj _ => x.block j hj⟩
  exact { k with ks := k.ks.grown y, rs := k.rs.grown y, bel := k.bel.trans (x.mono k.bel.size), B1 := Nat.le_trans k.B1 x.size }
theorem KW.driver (k : KW w0 w B0 b g h q u mb r p v lm os cs off back last now taken told ts) (t : Turned (KB b q h mb u) w w') (s' : KS w' b g h q u mb lm' 0 8 3 os' cs' off' back' false last' now' false) (hl : lm'.length = 4096) : KW w0 w' B0 b g h q u mb r p v lm' os' cs' off' back' last' now' taken told ts :=
  { k with ks := s', rs := k.rs.other t k.nr.1 k.nr.2.1 k.nr.2.2 s'.qs.mem (by rw [hl, k.len]), bel := k.bel.trans (t.below k.bel.size (fun j hj => (k.kb j hj).1)), B1 := Nat.le_trans k.B1 t.size, len := hl }
theorem KW.device (k : KW w0 w B0 b g h q u mb r p v lm os cs off back last now taken told ts) (t : Turned (RB h p v) w w') (r' : RS w' r g h p v lm' 0 taken' told' ts') (hl : lm'.length = 4096) : KW w0 w' B0 b g h q u mb r p v lm' os cs off back last now taken' told' ts' :=
  { k with ks := k.ks.device k.rs t r'.ps.mem (by rw [hl, k.len]) k.ne.1 k.ne.2, rs := r', bel := k.bel.trans (t.below k.bel.size (fun j hj => (k.rb j hj).1)), B1 := Nat.le_trans k.B1 t.size, len := hl }
theorem KW.shapes (k : KW w0 w B0 b g h q u mb r p v lm os cs off back last now taken told ts) : Shapes w := k.sh.kept (k.bel.block 0 k.sh.pos)
theorem KW.stayK (k : KW w0 w B0 b g h q u mb r p v lm os cs off back last now taken told ts) (t : Turned (KB b q h mb u) w w') (j : Nat) (h0 : B0 ≤ j) (h1 : j < w.heap.size) : w'.heap[j]? = w.heap[j]? := t.block j h1 (fun e => by have := (k.kb j e).2; omega)
theorem KW.stayR (k : KW w0 w B0 b g h q u mb r p v lm os cs off back last now taken told ts) (t : Turned (RB h p v) w w') (j : Nat) (h0 : B0 ≤ j) (h1 : j < w.heap.size) : w'.heap[j]? = w.heap[j]? := t.block j h1 (fun e => by have := (k.rb j e).2; omega)
end
/-- An answer's cells, in a block of its own. -/
structure At3 (B0 : Nat) (w : World) (g : Nat) (x : Dn) : Prop where
  ge : B0 ≤ g
  lt : g < w.heap.size
  c0 : w.cell? ⟨g, 0, none⟩ = some (.int .i64 x.id)
  c1 : w.cell? ⟨g, 1, none⟩ = some (.bool x.ok)
  c2 : w.cell? ⟨g, 2, none⟩ = some (.string x.data)
theorem At3.kept {B0 : Nat} {w w' : World} {g : Nat} {x : Dn} (a : At3 B0 w g x) (e : w'.heap[g]? = w.heap[g]?) (s : w.heap.size ≤ w'.heap.size) : At3 B0 w' g x :=
  ⟨a.ge, Nat.lt_of_lt_of_le a.lt s, by rw [World.cell?_of_block (w := w) (a := ⟨g, 0, none⟩) e]; exact a.c0, by rw [World.cell?_of_block (w := w) (a := ⟨g, 1, none⟩) e]; exact a.c1, by rw [World.cell?_of_block (w := w) (a := ⟨g, 2, none⟩) e]; exact a.c2⟩
theorem At3.grow {B0 : Nat} {w w' : World} {g : Nat} {x : Dn} (a : At3 B0 w g x) (b : Below w.heap.size w w') : At3 B0 w' g x := a.kept (b.block g a.lt) b.size
/-- An order's box. -/
structure AtO (B0 : Nat) (w : World) (g : Nat) (o : Ord) : Prop where
  ge : B0 ≤ g
  at_ : w.heap[g]? = some (.cells #[.int .i64 o.kind, .int .i64 o.sec, .string o.data] 36 (0, 0))
theorem AtO.kept {B0 : Nat} {w w' : World} {g : Nat} {o : Ord} (a : AtO B0 w g o) (e : w'.heap[g]? = w.heap[g]?) : AtO B0 w' g o := ⟨a.ge, e.trans a.at_⟩
theorem AtO.lt {B0 : Nat} {w : World} {g : Nat} {o : Ord} (a : AtO B0 w g o) : g < w.heap.size := lt_of_block a.at_
theorem AtO.grow {B0 : Nat} {w w' : World} {g : Nat} {o : Ord} (a : AtO B0 w g o) (b : Below w.heap.size w w') : AtO B0 w' g o := a.kept (b.block g a.lt)
theorem slot_one {y z : Snt} (hy : y.slot = 0) (h1 : 0 ≤ z.slot ∧ z.slot < 8 ∧ ∀ t ∈ [y], t.slot ≠ z.slot) (h2 : ∀ j : Nat, (j : Int) < z.slot → ∃ t ∈ [y], t.slot = (j : Int)) : z.slot = 1 := by
  obtain ⟨a1, a2, a3⟩ := h1
  have a4 := a3 y (by simp)
  rw [hy] at a4
  by_cases h : z.slot = 1
  · exact h
  · obtain ⟨t, ht, e⟩ := h2 1 (by omega)
    rw [List.mem_singleton.1 ht, hy] at e
    omega
theorem slot_zero {z : Snt} (h1 : 0 ≤ z.slot ∧ z.slot < 8 ∧ ∀ t ∈ ([] : List Snt), t.slot ≠ z.slot) (h2 : ∀ j : Nat, (j : Int) < z.slot → ∃ t ∈ ([] : List Snt), t.slot = (j : Int)) : z.slot = 0 := by
  by_cases h : z.slot = 0
  · exact h
  · obtain ⟨t, ht, _⟩ := h2 0 (by omega)
    cases ht
end Go.Proofs.YtdpiglkffabgdaaGreatDoor
