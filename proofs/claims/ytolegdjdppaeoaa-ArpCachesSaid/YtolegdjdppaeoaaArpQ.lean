/-
  Layer 7: Tick. Conditions: as said.
-/
import Derived.Test.YtolegdjdppaeoaaArpP
namespace Go.Proofs.Ytolegdjdppaeoaa
open Go.RowKit Go.Sort Go.Shelf
set_option linter.unusedVariables false

def age1 (x : En) : En := ⟨x.ip, x.ma, x.age + 1⟩
/-- The first k entries are one older. -/
def agedU (k : Nat) (l : List En) : List En := (l.take k).map age1 ++ l.drop k
theorem agedU_len (k : Nat) (l : List En) : (agedU k l).length = l.length := by
  unfold agedU
  rw [List.length_append, List.length_map, List.length_take, List.length_drop]
  omega
theorem agedU_get {k : Nat} {l : List En} (h : k < l.length) : (agedU k l)[k]'(by rw [agedU_len]; exact h) = l[k] := by
  have e : (agedU k l)[k]? = l[k]? := by
    unfold agedU
    rw [List.getElem?_append_right (by rw [List.length_map, List.length_take]; omega), List.getElem?_drop]
    congr 1
    rw [List.length_map, List.length_take]
    omega
  rw [List.getElem?_eq_getElem h, List.getElem?_eq_getElem (by rw [agedU_len]; exact h)] at e
  injection e
theorem agedU_succ {k : Nat} {l : List En} (h : k < l.length) : (agedU k l).set k (age1 l[k]) = agedU (k + 1) l := by
  have e := take_succ_get h
  have hl : ((l.take k).map age1).length = k := by rw [List.length_map, List.length_take]; omega
  unfold agedU
  rw [e, List.map_append, List.set_append, if_neg (by rw [hl]; omega), hl, Nat.sub_self, List.drop_eq_getElem_cons h, List.append_assoc]
  rfl
theorem agedU_all (l : List En) : agedU l.length l = l.map age1 := by simp [agedU]
/-- What Tick leaves. -/
def tickL (lim : Int) (l : List En) : List En := (l.map age1).filter fun x => !decide (lim ≤ x.age)

set_option maxRecDepth 100000 in
set_option maxHeartbeats 4000000 in
theorem tick_ok {w : World} {g : Nat} {lim : Int} {v : Value} {l : List En} (h : Ca w g lim v l) (hl : l.length ≤ 1000000) (ha : ∀ x ∈ l, 0 ≤ x.age ∧ x.age ≤ 1048576) :
    Calls Try.prog 13 #[.pointer (some ⟨g, 0, none⟩)] w fun e w' => e = .returned (.tuple #[]) ∧ CaPost w w' g lim v (tickL lim l) := by
  have bl : Below w.heap.size w (w.alloc (.cells #[.pointer (some ⟨g, 0, none⟩)] 31)) := (Below.refl _ _).alloc (Nat.le_refl _) _
  have FC : Hid (Ca (w.alloc (.cells #[.pointer (some ⟨g, 0, none⟩)] 31)) g lim v l) := Lib.hid (h.grow bl)
  have FB : Hid (Below w.heap.size w (w.alloc (.cells #[.pointer (some ⟨g, 0, none⟩)] 31))) := Lib.hid bl
  have FX : Hid ((w.alloc (.cells #[.pointer (some ⟨g, 0, none⟩)] 31)).heap[w.heap.size]? = some (.cells #[.pointer (some ⟨g, 0, none⟩)] 31 (0, 0))) := Lib.hid (heap_alloc_new w _)
  have HR := Lib.hid h.row
  have HG := Lib.hid h.lt
  have HA := Lib.hid ha
  obtain ⟨p, c, hv⟩ := h.row.shape
  have HV := Lib.hid hv
  clear bl h ha hv
  go_enter Try.func13, Try.ntmps13
  go_upto_region 1 with fail
  generalize w.alloc _ = W1 at FC FB FX ⊢
  obtain ⟨n1, h1⟩ : ∃ n, n = w.heap.size := ⟨_, rfl⟩
  rw [← h1] at FX ⊢
  have HN1 := Lib.hid h1
  clear h1
  have b0 : W1.cell? ⟨n1, 0, none⟩ = some (.pointer (some ⟨g, 0, none⟩)) := by rw [cell_of_block FX.out]; rfl
  have c1 := FC.out.c1
  rw [HV.out] at c1
  go_wp2_with (go_at_call 24; refine (cnone_no FC.out).mono ?_; rintro e w' ⟨rfl, rfl⟩)
  clear b0 c1
  have A0 : Hid (EnRow W1 v (agedU 0 l)) := Lib.hid FC.out.row
  have HLT := Lib.hid (Nat.lt_of_lt_of_le FC.out.lt (Nat.le_refl _))
  have HNE : Hid (∀ k, v.ownBlock = some k → k ≠ n1 ∧ k ≠ g) := Lib.hid (fun k hk => ⟨by have := (HR.out.lt k hk).2; have := HN1.out; omega, FC.out.ne k hk⟩)
  go_loopw [10] (fun i wr => ∃ k : Nat, k ≤ l.length ∧ i = .int .i64 k ∧ Hid (EnRow wr v (agedU k l)) ∧ Hid (Turn W1 wr (fun j => v.ownBlock = some j))) (fun i _ => l.length - (intOf i).toNat)
  case atStart => exact ⟨0, by omega, rfl, A0, Lib.hid (Turn.refl _ _)⟩
  case round =>
    obtain ⟨k, hk, rfl, R, T⟩ := hrel
    have b0 : wr.cell? ⟨n1, 0, none⟩ = some (.pointer (some ⟨g, 0, none⟩)) := (cell_turn T.out (lt_of_block FX.out) (fun e => (HNE.out _ e).1 rfl)).trans (by rw [cell_of_block FX.out]; rfl)
    have c1 : wr.cell? ⟨g, 1, none⟩ = some v := (cell_turn T.out FC.out.lt (fun e => (HNE.out _ e).2 rfl)).trans FC.out.c1
    rw [HV.out] at c1
    by_cases hlt : k < l.length
    · obtain ⟨b, cap, hv, hcap, hcm, hbl, hfz, hE0⟩ := RowA.elem enE_len R.out (by rw [agedU_len]; omega)
      rw [HV.out, agedU_len] at hv
      injection hv with hv _ hc
      subst hv hc
      have hE := hE0 k (by rw [agedU_len]; exact hlt)
      rw [agedU_get hlt] at hE
      have cA : wr.cell? ⟨b, k * 11 + 10, none⟩ = some (.int .i64 l[k].age) := hE 10 _ rfl
      have fA : wr.frozen? ⟨b, k * 11 + 10, none⟩ = false := hfz _
      have hag := HA.out l[k] (List.getElem_mem hlt)
      have hw : IntKind.i64.wrap (l[k].age + 1) = l[k].age + 1 := IntWalk.i64_in _ (by omega)
      have hwk : IntKind.i64.wrap ((k : Int) + 1) = (k : Int) + 1 := IntWalk.i64_in _ (by omega)
      have hj1 : decide ((k : Int) < (l.length : Int)) = true := by simp; omega
      have q1 : (0 : Int) ≤ (k : Int) := by omega
      have q2 : (k : Int) < (l.length : Int) := by omega
      have HS : Hid (EnRow (wr.setCell ⟨b, k * 11 + 10, none⟩ (.int .i64 (l[k].age + 1))) v (agedU (k + 1) l) ∧ Turn W1 (wr.setCell ⟨b, k * 11 + 10, none⟩ (.int .i64 (l[k].age + 1))) (fun j => v.ownBlock = some j)) := Lib.hid (by
        have R' : EnRow wr (.slice (some ⟨b, 0, none⟩) (agedU k l).length c) (agedU k l) := by have := R.out; rw [HV.out] at this; rw [agedU_len]; exact this
        have h1 := RowA.set1 enE_len (i := k) (j := 10) R' (by rw [agedU_len]; exact hlt) (by decide) (age1 l[k]) (.int .i64 (l[k].age + 1)) (by rw [agedU_get hlt]; rfl)
        rw [agedU_succ hlt, agedU_len] at h1
        exact ⟨by rw [HV.out]; exact h1, T.out.setCell (by rw [HV.out]; rfl) _ _⟩)
      generalize l[k] = x at cA hag hw HS
      clear hE hE0 hfz R T hcap hcm hbl
      go_wp2_with fail
      go_roundw
      case rel => exact ⟨k + 1, by omega, by go_num, Lib.hid HS.out.1, Lib.hid HS.out.2⟩
      case measure => simp [intOf]; omega
    · obtain rfl : k = l.length := by omega
      have hj1 : decide ((l.length : Int) < (l.length : Int)) = false := by simp
      have f1 : wr.frozen? ⟨g, 1, none⟩ = false := (frozen_turn T.out FC.out.lt (fun e => (HNE.out _ e).2 rfl)).trans (FC.out.f 1)
      have hmm : (l.map age1).length = l.length := List.length_map ..
      have HD : Hid (Calls Try.prog 28 #[.slice p l.length c, .func (.func 29) #[] #[.pointer (some ⟨n1, 0, none⟩)]] wr.drew fun e w' =>
          ∃ n' : Nat, e = .returned (.slice p n' c) ∧ w'.cell? ⟨n1, 0, none⟩ = some (.pointer (some ⟨g, 0, none⟩)) ∧ w'.cell? ⟨g, 1, none⟩ = some (.slice p l.length c) ∧ w'.frozen? ⟨g, 1, none⟩ = false ∧ Hid (CaPost w (w'.setCell ⟨g, 1, none⟩ (.slice p n' c)) g lim v (tickL lim l))) := Lib.hid (by
        have hd : Below wr.heap.size wr wr.drew := (Below.refl _ _).drew
        have r0 : EnRow wr.drew (.slice p (l.map age1).length c) (l.map age1) := by
          have := R.out
          rw [agedU_all, HV.out] at this
          rw [hmm]
          exact this.kept hd.size (fun k hk => hd.block k (this.lt k hk).2)
        have ts : TkS n1 g lim wr.drew := ⟨b0, (cell_turn T.out FC.out.lt (fun e => (HNE.out _ e).2 rfl)).trans FC.out.c0, Nat.lt_of_lt_of_le (lt_of_block FX.out) T.out.size, Nat.lt_of_lt_of_le FC.out.lt T.out.size⟩
        have hb1 : ∀ k, (Value.slice p (l.map age1).length c).ownBlock = some k → v.ownBlock = some k := fun k hk => by rw [HV.out]; cases p <;> exact hk
        have hcall := delfunc_ok r0 (by rw [hmm]; exact hl) ts (fun k hk => HNE.out k (hb1 k hk)) _ rfl
        rw [hmm] at hcall
        refine hcall.mono ?_
        rintro e w' ⟨e1, e2, e3⟩
        have e3' : Turn wr w' (fun k => v.ownBlock = some k) := ⟨e3.os, e3.tape, e3.output, e3.size, fun k hk ho => e3.block k hk (fun x => ho (hb1 k (by rw [hmm]; exact x)))⟩
        have t2 : Turn W1 w' (fun k => v.ownBlock = some k) := T.out.trans e3'
        have g1 := (t2.block g FC.out.lt (fun e => (HNE.out _ e).2 rfl)).trans FC.out.at_
        have n0 := (t2.block n1 (lt_of_block FX.out) (fun e => (HNE.out _ e).1 rfl)).trans FX.out
        have hn3 : ∀ m, (Value.slice p m c).ownBlock = v.ownBlock := fun m => by rw [HV.out]; cases p <;> rfl
        refine ⟨_, e1, by rw [cell_of_block n0]; rfl, by rw [cell_of_block g1, ← HV.out]; rfl, by simp [World.frozen?, g1], Lib.hid ?_⟩
        refine ⟨_, Ca.setRow1 g1 e2 (fun k hk => (HNE.out k (by rw [hn3] at hk; exact hk)).2), ?_, fun k hk => .inl (by rw [hn3] at hk; exact hk)⟩
        exact ((Turn.of_below FB.out).trans' t2 (fun j _ hj => .inr hj)).setCell (O := CaO g v) (.inl rfl) _ _)
      clear R T
      go_upto_region 7 with fail
      go_region_with ((go_at_call 28; refine HD.out.mono ?_; rintro e w4 ⟨n', rfl, k0, k1, k2, K4⟩))
      all_goals
        go_wp2_with fail
        go_end0
        exact ⟨rfl, K4.out⟩

theorem tickL_age {lim : Int} {l : List En} (ha : ∀ x ∈ l, 0 ≤ x.age ∧ x.age ≤ 1048576) (hlim : lim ≤ 1048576) : ∀ x ∈ tickL lim l, 0 ≤ x.age ∧ x.age ≤ 1048576 := by
  intro x hx
  obtain ⟨hx, hq⟩ := List.mem_filter.1 hx
  obtain ⟨y, hy, rfl⟩ := List.mem_map.1 hx
  have h1 := (ha y hy).1
  have hq2 : ¬ lim ≤ y.age + 1 := fun h => by
    have : decide (lim ≤ (age1 y).age) = true := decide_eq_true h
    rw [this] at hq
    cases hq
  show 0 ≤ y.age + 1 ∧ y.age + 1 ≤ 1048576
  constructor <;> omega
theorem tickL_len {lim : Int} {l : List En} : (tickL lim l).length ≤ l.length := Nat.le_trans (List.length_filter_le _ _) (by rw [List.length_map]; exact Nat.le_refl _)
theorem learnL_age {i : Ip4} {m : Mac6} {l : List En} (ha : ∀ x ∈ l, 0 ≤ x.age ∧ x.age ≤ 1048576) : ∀ x ∈ learnL i m l, 0 ≤ x.age ∧ x.age ≤ 1048576 := by
  intro x hx
  have h0 : (0 : Int) ≤ (En.mk i m 0).age ∧ (En.mk i m 0).age ≤ 1048576 := ⟨Int.le_refl 0, by show (0 : Int) ≤ 1048576; decide⟩
  unfold learnL at hx
  split at hx
  · rcases List.mem_or_eq_of_mem_set hx with h | rfl
    · exact ha x h
    · exact h0
  · rcases List.mem_append.1 hx with h | h
    · split at h
      · exact ha x (List.mem_of_mem_eraseIdx h)
      · exact ha x h
    · rw [List.mem_singleton.1 h]; exact h0

end Go.Proofs.Ytolegdjdppaeoaa
