/-
  Layer 7: the document's own Learn. Conditions: as said.
-/
import Derived.Test.YtolegdjdppaeoaaArpT
namespace Go.Proofs.Ytolegdjdppaeoaa
open Go.RowKit Go.Sort Go.Shelf
set_option linter.unusedVariables false

/-- No two entries of one address. -/
def Uq (l : List En) : Prop := l.Pairwise (fun x y => x.ip ≠ y.ip)
def rep (i : Ip4) (m : Mac6) (x : En) : En := if x.ip = i then ⟨i, m, 0⟩ else x
def anyL (i : Ip4) (l : List En) : Bool := l.any fun x => decide (x.ip = i)
theorem rep_none {i : Ip4} {m : Mac6} {l : List En} (h : ∀ x ∈ l, x.ip ≠ i) : l.map (rep i m) = l := by
  conv => rhs; rw [← List.map_id l]
  refine List.map_congr_left (fun x hx => ?_)
  rw [rep, if_neg (h x hx)]
  rfl
theorem rep_some {i : Ip4} {m : Mac6} : ∀ {l : List En}, Uq l → idxL i l < l.length → l.map (rep i m) = l.set (idxL i l) ⟨i, m, 0⟩
  | [], _, h => absurd h (by simp)
  | x :: l, hu, h => by
    obtain ⟨h1, h2⟩ := List.pairwise_cons.1 hu
    by_cases hx : x.ip = i
    · have e : idxL i (x :: l) = 0 := by unfold idxL; rw [List.findIdx_cons]; simp [hx]
      rw [e, List.map_cons, rep_none (fun y hy => by rw [← hx]; exact Ne.symm (h1 y hy)), rep, if_pos hx]
      rfl
    · have e : idxL i (x :: l) = idxL i l + 1 := by unfold idxL; rw [List.findIdx_cons]; simp [hx]
      rw [e] at h ⊢
      rw [List.map_cons, rep_some h2 (by simpa using h), rep, if_neg hx]
      rfl
theorem anyL_iff {i : Ip4} {l : List En} : anyL i l = true ↔ ∃ x ∈ l, x.ip = i := by simp [anyL]
theorem idxL_lt {i : Ip4} {l : List En} (h : ∃ x ∈ l, x.ip = i) : idxL i l < l.length := by
  unfold idxL
  rw [List.findIdx_lt_length]
  obtain ⟨x, hx, e⟩ := h
  exact ⟨x, hx, by simpa using e⟩
theorem learnL_in {i : Ip4} {m : Mac6} {l : List En} (hu : Uq l) (h : anyL i l = true) : l.map (rep i m) = learnL i m l := by
  have h1 := idxL_lt (anyL_iff.1 h)
  rw [learnL, if_pos h1, rep_some hu h1]
theorem anyL_no {i : Ip4} {l : List En} (h : anyL i l = false) : ∀ x ∈ l, x.ip ≠ i := fun x hx e => by
  have := anyL_iff.2 ⟨x, hx, e⟩
  rw [h] at this
  cases this
theorem learnL_out {i : Ip4} {m : Mac6} {l : List En} (h : anyL i l = false) : learnL i m l = (if l.length = 8 then l.eraseIdx (oldU l 8) else l) ++ [⟨i, m, 0⟩] := by
  rw [learnL, idxL_none (anyL_no h), if_neg (Nat.lt_irrefl _)]
theorem Uq.set {i : Ip4} {m : Mac6} : ∀ {l : List En}, Uq l → idxL i l < l.length → Uq (l.map (rep i m)) := by
  intro l hu _
  refine List.pairwise_map.2 (hu.imp (fun {x y} h => ?_))
  have e : ∀ z : En, (rep i m z).ip = z.ip := fun z => by
    unfold rep
    split
    · rename_i hz; exact hz.symm
    · rfl
  rw [e, e]
  exact h
theorem learnL_uq {i : Ip4} {m : Mac6} {l : List En} (hu : Uq l) : Uq (learnL i m l) := by
  cases h : anyL i l with
  | true => rw [← learnL_in hu h]; exact hu.set (idxL_lt (anyL_iff.1 h))
  | false =>
    rw [learnL_out h]
    have hno := anyL_no h
    refine List.pairwise_append.2 ⟨?_, List.pairwise_singleton _ _, fun x hx y hy => ?_⟩
    · split
      · exact hu.sublist (List.eraseIdx_sublist _ _)
      · exact hu
    · rw [List.mem_singleton.1 hy]
      refine hno x ?_
      split at hx
      · exact List.mem_of_mem_eraseIdx hx
      · exact hx
theorem tickL_uq {lim : Int} {l : List En} (hu : Uq l) : Uq (tickL lim l) :=
  (List.pairwise_map.2 (hu.imp (fun {x y} h => h)) : Uq (l.map age1)).sublist List.filter_sublist
theorem erase_step {l : List En} {k o : Nat} (hk : k < l.length) : (l.take (k + 1)).eraseIdx o = (l.take k).eraseIdx o ++ if k = o then [] else [l[k]] := by
  have hl : (l.take k).length = k := by rw [List.length_take]; omega
  rw [take_succ_get hk]
  by_cases h : k = o
  · subst h
    have e1 : (l.take k ++ [l[k]]).eraseIdx k = l.take k := by
      rw [List.eraseIdx_append_of_length_le (Nat.le_of_eq hl), hl, Nat.sub_self]
      simp
    have e2 : (l.take k).eraseIdx k = l.take k := List.eraseIdx_of_length_le (Nat.le_of_eq hl)
    rw [e1, e2, if_pos rfl, List.append_nil]
  · rw [if_neg h]
    by_cases h2 : o < k
    · rw [List.eraseIdx_append_of_lt_length (by omega)]
    · rw [List.eraseIdx_of_length_le (by rw [List.length_append, hl]; simp; omega), List.eraseIdx_of_length_le (by omega)]

set_option maxRecDepth 100000 in
set_option maxHeartbeats 8000000 in
/-- The document's Learn. -/
theorem rLearn {w : World} {p : Option Addr} {c : Nat} {lim : Int} {l : List En} (h : RnRow w (.slice p l.length c) l) (hl : l.length ≤ 8) (hu : Uq l) (i : Ip4) (m : Mac6) :
    Calls Try.prog 21 #[rcV p l.length c lim, .agg #[.int .u8 (i.a.toNat : Int), .int .u8 (i.b.toNat : Int), .int .u8 (i.c.toNat : Int), .int .u8 (i.d.toNat : Int)], .agg #[.int .u8 (m.a.toNat : Int), .int .u8 (m.b.toNat : Int), .int .u8 (m.c.toNat : Int), .int .u8 (m.d.toNat : Int), .int .u8 (m.e.toNat : Int), .int .u8 (m.f.toNat : Int)]] w fun e w' => ∃ p' c', e = .returned (rcV p' (learnL i m l).length c' lim) ∧ RnRow w' (.slice p' (learnL i m l).length c') (learnL i m l) ∧ (∀ k, (Value.slice p' (learnL i m l).length c').ownBlock = some k → w.heap.size ≤ k) ∧ Below w.heap.size w w' := by
  have S0 := ((((RaS.start w).push (.cells #[.slice p l.length c, .int .i64 lim] 52)).push (.cells #[.int .u8 (i.a.toNat : Int), .int .u8 (i.b.toNat : Int), .int .u8 (i.c.toNat : Int), .int .u8 (i.d.toNat : Int)] 25)).push (.cells #[.int .u8 (m.a.toNat : Int), .int .u8 (m.b.toNat : Int), .int .u8 (m.c.toNat : Int), .int .u8 (m.d.toNat : Int), .int .u8 (m.e.toNat : Int), .int .u8 (m.f.toNat : Int)] 23)).push (.cells #[.slice none 0 0, .int .i64 0] 52)
  simp only [World.size_alloc] at S0
  have HS0 := Lib.hid S0
  have HR := Lib.hid h
  have HU := Lib.hid hu
  have HL8 := Lib.hid hl
  clear S0 h hu
  go_enter Try.func21, Try.ntmps21
  go_upto_region 1 with fail
  generalize (((w.alloc _).alloc _).alloc _).alloc _ = W1 at HS0 ⊢
  go_wp2_with fail
  go_loopw [7, 8, 9] (fun va th iv wr => ∃ j : Nat, j ≤ l.length ∧ iv = .int .i64 j ∧ th = .bool (anyL i (l.take j)) ∧ Hid (RaS w wr [(w.heap.size + 1 + 1 + 1, .cells #[.slice none 0 0, .int .i64 0] 52), (w.heap.size + 1 + 1, .cells #[.int .u8 (m.a.toNat : Int), .int .u8 (m.b.toNat : Int), .int .u8 (m.c.toNat : Int), .int .u8 (m.d.toNat : Int), .int .u8 (m.e.toNat : Int), .int .u8 (m.f.toNat : Int)] 23), (w.heap.size + 1, .cells #[.int .u8 (i.a.toNat : Int), .int .u8 (i.b.toNat : Int), .int .u8 (i.c.toNat : Int), .int .u8 (i.d.toNat : Int)] 25), (w.heap.size, .cells #[.slice p l.length c, .int .i64 lim] 52)] va ((l.take j).map (rep i m)))) (fun _ _ iv _ => l.length - (intOf iv).toNat)
  case atStart => exact ⟨0, Nat.zero_le _, rfl, rfl, HS0⟩
  case round =>
    obtain ⟨j, hj, rfl, rfl, SS⟩ := hrel
    by_cases hlt : j < l.length
    · have hj1 : decide ((j : Int) < (l.length : Int)) = true := by simp; omega
      have R := Lib.hid (HR.out.kept SS.out.bl.size (fun k hk => SS.out.bl.block k (HR.out.lt k hk).2))
      obtain ⟨b, cap, hv, hcap, hcm, hbl, hfz, hE0⟩ := RowA.elem enE_len R.out (by omega)
      injection hv with hv _ hc
      subst hv hc
      have hE := Lib.hid (hE0 j hlt)
      have hT : Hid ((l.take (j + 1)).map (rep i m) = (l.take j).map (rep i m) ++ [rep i m l[j]]) := Lib.hid (by rw [take_succ_get hlt, List.map_append]; rfl)
      have hY : Hid (anyL i (l.take (j + 1)) = (anyL i (l.take j) || decide (l[j].ip = i))) := Lib.hid (by rw [take_succ_get hlt]; unfold anyL; rw [List.any_append]; simp)
      generalize l[j] = x at hE hT hY
      have q1 : (0 : Int) ≤ (j : Int) := by omega
      have q2 : (j : Int) < (l.length : Int) := by omega
      have hwj : IntKind.i64.wrap ((j : Int) + 1) = (j : Int) + 1 := IntWalk.i64_in _ (by omega)
      have hll : ((l.take j).map (rep i m)).length ≤ 1000000 := by rw [List.length_map, List.length_take]; omega
      have he : ∀ w, (Op.equalIn 10000 25 (.agg #[.int .u8 (x.ip.a.toNat : Int), .int .u8 (x.ip.b.toNat : Int), .int .u8 (x.ip.c.toNat : Int), .int .u8 (x.ip.d.toNat : Int)]) (.agg #[.int .u8 (i.a.toNat : Int), .int .u8 (i.b.toNat : Int), .int .u8 (i.c.toNat : Int), .int .u8 (i.d.toNat : Int)])).run Try.prog w = .ok (decide (x.ip = i)) w := fun w => run_eql_ip w x.ip i
      obtain ⟨b0, b1, f0, -⟩ := cells2 (SS.out.get (.tail _ (.tail _ (.tail _ (.head _)))))
      obtain ⟨r0, r1, g0, g1⟩ := cells2 (SS.out.get (.head _))
      obtain ⟨i0, i1, i2, i3⟩ := IpAt.all (SS.out.get (.tail _ (.tail _ (.head _))))
      obtain ⟨m0, m1, m2, m3, m4, m5⟩ := MacAt.all (SS.out.get (.tail _ (.head _)))
      clear hE0 hfz hcm
      go_upto_region 7 with (refine wpList_load_mid rfl 58 _ rfl b (j * 11) rfl [.int .u8 (x.ip.a.toNat : Int), .int .u8 (x.ip.b.toNat : Int), .int .u8 (x.ip.c.toNat : Int), .int .u8 (x.ip.d.toNat : Int), .int .u8 (x.ma.a.toNat : Int), .int .u8 (x.ma.b.toNat : Int), .int .u8 (x.ma.c.toNat : Int), .int .u8 (x.ma.d.toNat : Int), .int .u8 (x.ma.e.toNat : Int), .int .u8 (x.ma.f.toNat : Int), .int .i64 x.age] _ hE.out Try.underlying58 rfl (by kernel_rfl) ?_)
      have S5 := Lib.hid (SS.out.alloc (.cells #[.int .u8 (x.ip.a.toNat : Int), .int .u8 (x.ip.b.toNat : Int), .int .u8 (x.ip.c.toNat : Int), .int .u8 (x.ip.d.toNat : Int), .int .u8 (x.ma.a.toNat : Int), .int .u8 (x.ma.b.toNat : Int), .int .u8 (x.ma.c.toNat : Int), .int .u8 (x.ma.d.toNat : Int), .int .u8 (x.ma.e.toNat : Int), .int .u8 (x.ma.f.toNat : Int), .int .i64 x.age] 58))
      have hX : Hid ((wr.alloc (.cells #[.int .u8 (x.ip.a.toNat : Int), .int .u8 (x.ip.b.toNat : Int), .int .u8 (x.ip.c.toNat : Int), .int .u8 (x.ip.d.toNat : Int), .int .u8 (x.ma.a.toNat : Int), .int .u8 (x.ma.b.toNat : Int), .int .u8 (x.ma.c.toNat : Int), .int .u8 (x.ma.d.toNat : Int), .int .u8 (x.ma.e.toNat : Int), .int .u8 (x.ma.f.toNat : Int), .int .i64 x.age] 58)).rangeAt wr.heap.size 0 [.int .u8 (x.ip.a.toNat : Int), .int .u8 (x.ip.b.toNat : Int), .int .u8 (x.ip.c.toNat : Int), .int .u8 (x.ip.d.toNat : Int), .int .u8 (x.ma.a.toNat : Int), .int .u8 (x.ma.b.toNat : Int), .int .u8 (x.ma.c.toNat : Int), .int .u8 (x.ma.d.toNat : Int), .int .u8 (x.ma.e.toNat : Int), .int .u8 (x.ma.f.toNat : Int), .int .i64 x.age]) := Lib.hid (rn_at wr x)
      have hO : Hid ((wr.alloc (.cells #[.int .u8 (x.ip.a.toNat : Int), .int .u8 (x.ip.b.toNat : Int), .int .u8 (x.ip.c.toNat : Int), .int .u8 (x.ip.d.toNat : Int), .int .u8 (x.ma.a.toNat : Int), .int .u8 (x.ma.b.toNat : Int), .int .u8 (x.ma.c.toNat : Int), .int .u8 (x.ma.d.toNat : Int), .int .u8 (x.ma.e.toNat : Int), .int .u8 (x.ma.f.toNat : Int), .int .i64 x.age] 58)).heap[wr.heap.size]? = some (.cells #[.int .u8 (x.ip.a.toNat : Int), .int .u8 (x.ip.b.toNat : Int), .int .u8 (x.ip.c.toNat : Int), .int .u8 (x.ip.d.toNat : Int), .int .u8 (x.ma.a.toNat : Int), .int .u8 (x.ma.b.toNat : Int), .int .u8 (x.ma.c.toNat : Int), .int .u8 (x.ma.d.toNat : Int), .int .u8 (x.ma.e.toNat : Int), .int .u8 (x.ma.f.toNat : Int), .int .i64 x.age] 58 (0, 0))) := Lib.hid (heap_alloc_new wr _)
      have BW : Hid (Below wr.heap.size wr (wr.alloc (.cells #[.int .u8 (x.ip.a.toNat : Int), .int .u8 (x.ip.b.toNat : Int), .int .u8 (x.ip.c.toNat : Int), .int .u8 (x.ip.d.toNat : Int), .int .u8 (x.ma.a.toNat : Int), .int .u8 (x.ma.b.toNat : Int), .int .u8 (x.ma.c.toNat : Int), .int .u8 (x.ma.d.toNat : Int), .int .u8 (x.ma.e.toNat : Int), .int .u8 (x.ma.f.toNat : Int), .int .i64 x.age] 58))) := Lib.hid ((Below.refl _ _).alloc (Nat.le_refl _) _)
      obtain ⟨n5, hn⟩ : ∃ n, n = wr.heap.size := ⟨_, rfl⟩
      clear b0 b1 f0 r0 r1 g0 g1 i0 i1 i2 i3 m0 m1 m2 m3 m4 m5
      generalize wr.alloc _ = W5 at S5 hX hO BW ⊢
      rw [← hn] at hX hO BW ⊢
      have HN := Lib.hid hn
      clear hn
      obtain ⟨b0, b1, f0, -⟩ := cells2 (S5.out.get (.tail _ (.tail _ (.tail _ (.head _)))))
      obtain ⟨r0, r1, g0, g1⟩ := cells2 (S5.out.get (.head _))
      obtain ⟨i0, i1, i2, i3⟩ := IpAt.all (S5.out.get (.tail _ (.tail _ (.head _))))
      obtain ⟨m0, m1, m2, m3, m4, m5⟩ := MacAt.all (S5.out.get (.tail _ (.head _)))
      have x0 : W5.cell? ⟨n5, 0, none⟩ = some (.int .u8 (x.ip.a.toNat : Int)) := hX.out 0 _ rfl
      have x1 : W5.cell? ⟨n5, 1, none⟩ = some (.int .u8 (x.ip.b.toNat : Int)) := hX.out 1 _ rfl
      have x2 : W5.cell? ⟨n5, 2, none⟩ = some (.int .u8 (x.ip.c.toNat : Int)) := hX.out 2 _ rfl
      have x3 : W5.cell? ⟨n5, 3, none⟩ = some (.int .u8 (x.ip.d.toNat : Int)) := hX.out 3 _ rfl
      by_cases hii : x.ip = i
      · have hd1 : decide (x.ip = i) = true := by simpa using hii
        have hrx : rep i m x = ⟨i, m, 0⟩ := by rw [rep, if_pos hii]
        have HT : Hid ((l.take (j + 1)).map (rep i m) = (l.take j).map (rep i m) ++ [⟨i, m, 0⟩] ∧ anyL i (l.take (j + 1)) = true) := Lib.hid ⟨by rw [hT.out, hrx], by rw [hY.out, hd1, Bool.or_true]⟩
        rw [hd1] at he
        have hst : (storeVar 58 ⟨n5, 0, none⟩ (.agg #[.int .u8 (i.a.toNat : Int), .int .u8 (i.b.toNat : Int), .int .u8 (i.c.toNat : Int), .int .u8 (i.d.toNat : Int), .int .u8 (m.a.toNat : Int), .int .u8 (m.b.toNat : Int), .int .u8 (m.c.toNat : Int), .int .u8 (m.d.toNat : Int), .int .u8 (m.e.toNat : Int), .int .u8 (m.f.toNat : Int), .int .i64 0])).run Try.prog W5 = .ok () (W5.setRow n5 #[.int .u8 (i.a.toNat : Int), .int .u8 (i.b.toNat : Int), .int .u8 (i.c.toNat : Int), .int .u8 (i.d.toNat : Int), .int .u8 (m.a.toNat : Int), .int .u8 (m.b.toNat : Int), .int .u8 (m.c.toNat : Int), .int .u8 (m.d.toNat : Int), .int .u8 (m.e.toNat : Int), .int .u8 (m.f.toNat : Int), .int .i64 0]) := run_storeVar_row (P := Try.prog) W5 n5 58 58 _ #[.int .u8 (i.a.toNat : Int), .int .u8 (i.b.toNat : Int), .int .u8 (i.c.toNat : Int), .int .u8 (i.d.toNat : Int), .int .u8 (m.a.toNat : Int), .int .u8 (m.b.toNat : Int), .int .u8 (m.c.toNat : Int), .int .u8 (m.d.toNat : Int), .int .u8 (m.e.toNat : Int), .int .u8 (m.f.toNat : Int), .int .i64 0] hO.out (by kernel_rfl) rfl (by simp [Value.oneCell'])
        have O2 : Hid ((W5.setRow n5 #[.int .u8 (i.a.toNat : Int), .int .u8 (i.b.toNat : Int), .int .u8 (i.c.toNat : Int), .int .u8 (i.d.toNat : Int), .int .u8 (m.a.toNat : Int), .int .u8 (m.b.toNat : Int), .int .u8 (m.c.toNat : Int), .int .u8 (m.d.toNat : Int), .int .u8 (m.e.toNat : Int), .int .u8 (m.f.toNat : Int), .int .i64 0]).heap[n5]? = some (.cells #[.int .u8 (i.a.toNat : Int), .int .u8 (i.b.toNat : Int), .int .u8 (i.c.toNat : Int), .int .u8 (i.d.toNat : Int), .int .u8 (m.a.toNat : Int), .int .u8 (m.b.toNat : Int), .int .u8 (m.c.toNat : Int), .int .u8 (m.d.toNat : Int), .int .u8 (m.e.toNat : Int), .int .u8 (m.f.toNat : Int), .int .i64 0] 58 (0, 0))) := Lib.hid (setRow_heap W5 n5 _ _ _ _ hO.out)
        have S6 := Lib.hid (SS.out.grow (wr' := W5.setRow n5 #[.int .u8 (i.a.toNat : Int), .int .u8 (i.b.toNat : Int), .int .u8 (i.c.toNat : Int), .int .u8 (i.d.toNat : Int), .int .u8 (m.a.toNat : Int), .int .u8 (m.b.toNat : Int), .int .u8 (m.c.toNat : Int), .int .u8 (m.d.toNat : Int), .int .u8 (m.e.toNat : Int), .int .u8 (m.f.toNat : Int), .int .i64 0]) (by rw [← HN.out]; exact below_setRow BW.out (Nat.le_refl _) _))
        clear hii hrx hT hY hX
        go_upto_region 10 with (first | (refine wpList_storeAt 58 _ _ rfl rfl rfl _ n5 0 rfl rfl hst ?_))
        clear hst b0 b1 f0 r0 r1 g0 g1 i0 i1 i2 i3 m0 m1 m2 m3 m4 m5 x0 x1 x2 x3 he S5 BW hO
        generalize W5.setRow _ _ = W6 at S6 O2 ⊢
        have hX : Hid (W6.rangeAt n5 0 [.int .u8 (i.a.toNat : Int), .int .u8 (i.b.toNat : Int), .int .u8 (i.c.toNat : Int), .int .u8 (i.d.toNat : Int), .int .u8 (m.a.toNat : Int), .int .u8 (m.b.toNat : Int), .int .u8 (m.c.toNat : Int), .int .u8 (m.d.toNat : Int), .int .u8 (m.e.toNat : Int), .int .u8 (m.f.toNat : Int), .int .i64 0]) := Lib.hid (fun k u hu => by rw [Nat.zero_add, cell_of_block O2.out]; exact (List.getElem?_toArray ..).trans hu)
        have HA := Lib.hid (S6.out.alloc (.cells #[.int .u8 (i.a.toNat : Int), .int .u8 (i.b.toNat : Int), .int .u8 (i.c.toNat : Int), .int .u8 (i.d.toNat : Int), .int .u8 (m.a.toNat : Int), .int .u8 (m.b.toNat : Int), .int .u8 (m.c.toNat : Int), .int .u8 (m.d.toNat : Int), .int .u8 (m.e.toNat : Int), .int .u8 (m.f.toNat : Int), .int .i64 0] 58))
        have HNW := Lib.hid (rn_new W6 ⟨i, m, 0⟩)
        go_wp2_with (first | (refine wpList_load_mid rfl 58 _ rfl n5 0 rfl [.int .u8 (i.a.toNat : Int), .int .u8 (i.b.toNat : Int), .int .u8 (i.c.toNat : Int), .int .u8 (i.d.toNat : Int), .int .u8 (m.a.toNat : Int), .int .u8 (m.b.toNat : Int), .int .u8 (m.c.toNat : Int), .int .u8 (m.d.toNat : Int), .int .u8 (m.e.toNat : Int), .int .u8 (m.f.toNat : Int), .int .i64 0] _ hX.out Try.underlying58 rfl (by kernel_rfl) ?_) | (refine wpList_append_rn rfl (.tmp 34) (.tmp 36) rfl _ _ rfl HA.out.acc hll ⟨W6.heap.size, 0, none⟩ 1 ⟨i, m, 0⟩ rfl HNW.out ?_; intro v' w2 hrow hgr hbl2; have HS3 := Lib.hid (HA.out.app hgr hrow hbl2); clear hrow hgr hbl2))
        go_roundw
        case rel => exact ⟨j + 1, by omega, by go_num, by rw [HT.out.2], Lib.hid (by rw [HT.out.1]; exact HS3.out)⟩
        case measure => simp [intOf]; omega
      · have hd1 : decide (x.ip = i) = false := by simpa using hii
        have hrx : rep i m x = x := by rw [rep, if_neg hii]
        have HT : Hid ((l.take (j + 1)).map (rep i m) = (l.take j).map (rep i m) ++ [x] ∧ anyL i (l.take (j + 1)) = anyL i (l.take j)) := Lib.hid ⟨by rw [hT.out, hrx], by rw [hY.out, hd1, Bool.or_false]⟩
        rw [hd1] at he
        have HA := Lib.hid (S5.out.alloc (.cells #[.int .u8 (x.ip.a.toNat : Int), .int .u8 (x.ip.b.toNat : Int), .int .u8 (x.ip.c.toNat : Int), .int .u8 (x.ip.d.toNat : Int), .int .u8 (x.ma.a.toNat : Int), .int .u8 (x.ma.b.toNat : Int), .int .u8 (x.ma.c.toNat : Int), .int .u8 (x.ma.d.toNat : Int), .int .u8 (x.ma.e.toNat : Int), .int .u8 (x.ma.f.toNat : Int), .int .i64 x.age] 58))
        have HNW := Lib.hid (rn_new W5 x)
        clear hii hrx hT hY
        go_wp2_with (first | (refine wpList_load_mid rfl 58 _ rfl n5 0 rfl [.int .u8 (x.ip.a.toNat : Int), .int .u8 (x.ip.b.toNat : Int), .int .u8 (x.ip.c.toNat : Int), .int .u8 (x.ip.d.toNat : Int), .int .u8 (x.ma.a.toNat : Int), .int .u8 (x.ma.b.toNat : Int), .int .u8 (x.ma.c.toNat : Int), .int .u8 (x.ma.d.toNat : Int), .int .u8 (x.ma.e.toNat : Int), .int .u8 (x.ma.f.toNat : Int), .int .i64 x.age] _ hX.out Try.underlying58 rfl (by kernel_rfl) ?_) | (refine wpList_append_rn rfl (.tmp 34) (.tmp 36) rfl _ _ rfl HA.out.acc hll ⟨W5.heap.size, 0, none⟩ 1 x rfl HNW.out ?_; intro v' w2 hrow hgr hbl2; have HS3 := Lib.hid (HA.out.app hgr hrow hbl2); clear hrow hgr hbl2))
        go_roundw
        case rel => exact ⟨j + 1, by omega, by go_num, by rw [HT.out.2], Lib.hid (by rw [HT.out.1]; exact HS3.out)⟩
        case measure => simp [intOf]; omega
    · obtain rfl : j = l.length := by omega
      have hj1 : decide ((l.length : Int) < (l.length : Int)) = false := by simp
      obtain ⟨b0, b1, -, -⟩ := cells2 (SS.out.get (.tail _ (.tail _ (.tail _ (.head _)))))
      rw [List.take_length] at SS ⊢
      have hml : (l.map (rep i m)).length = l.length := List.length_map ..
      cases hth : anyL i l with
      | true =>
        rw [learnL_in HU.out hth] at SS
        clear b0 b1 hml
        obtain ⟨b0, b1, -, -⟩ := cells2 (SS.out.get (.tail _ (.tail _ (.tail _ (.head _)))))
        go_upto_region 27 with fail
        clear b0 b1
        obtain ⟨p', c', hv'⟩ := RowA.shape SS.out.acc
        subst hv'
        obtain ⟨b0, b1, f0, -⟩ := cells2 (SS.out.get (.tail _ (.tail _ (.tail _ (.head _)))))
        obtain ⟨r0, r1, g0, g1⟩ := cells2 (SS.out.get (.head _))
        have HL := Lib.hid (SS.out.laid (.tail _ (.tail _ (.tail _ (.head _)))) (.head _) (Nat.le_refl _) (by omega) (.slice p' (learnL i m l).length c') (.slice p' (learnL i m l).length c') (.int .i64 lim))
        go_wp2_with fail
        refine bodyPost_ret (v := rcV p' (learnL i m l).length c' lim) (by simp [results, Try.results21, go_sem, r0, r1]) rfl ⟨p', c', rfl, HL.out.1, SS.out.own, HL.out.2⟩
      | false =>
        rw [rep_none (anyL_no hth)] at SS
        have HLO0 := Lib.hid (learnL_out (m := m) hth)
        obtain ⟨p7, c7, hv7⟩ := RowA.shape SS.out.acc
        subst hv7
        by_cases h8 : l.length = 8
        · have hne : ((l.length : Int) == 8) = true := by simp; omega
          obtain ⟨bb, cap7, cur7, hv7, hb7, hcap, hcm, hcs, hct⟩ := RowA.block SS.out.acc (by omega)
          injection hv7 with hv7 _ hc7
          subst hv7 hc7
          have HLO : Hid (learnL i m l = l.eraseIdx (oldU l 8) ++ [⟨i, m, 0⟩]) := Lib.hid (by rw [HLO0.out, if_pos h8])
          have H8 := Lib.hid h8
          have hlt0 : 0 < l.length := by omega
          have F7 := Lib.hid (SS.out.fresh hb7)
          have HEL : Hid (∀ (k : Nat) (hk : k < l.length), wr.rangeAt bb (k * 11) (enE l[k])) := Lib.hid (by
            obtain ⟨b', cap', hv', _, _, _, _, hE⟩ := RowA.elem enE_len SS.out.acc hlt0
            injection hv' with hv' _ _; injection hv' with hv'; injection hv' with hv'
            subst hv'
            exact hE)
          have hbl := blk_lt hb7
          clear h8 hcm hcs hct HLO0 hml b0 b1
          obtain ⟨b0, b1, -, -⟩ := cells2 (SS.out.get (.tail _ (.tail _ (.tail _ (.head _)))))
          rename World => wo
          go_wp2_with fail
          clear b0 b1
          go_loopw [11, 12] (fun ov iv w2 => ∃ k : Nat, 1 ≤ k ∧ k ≤ l.length ∧ iv = .int .i64 k ∧ ov = .int .i64 (oldU l k) ∧ Hid (Below wo.heap.size wo w2)) (fun _ iv _ => l.length - (intOf iv).toNat)
          case atStart => exact ⟨1, Nat.le_refl _, by omega, rfl, by simp [oldU], Lib.hid (Below.refl _ _)⟩
          case round =>
            obtain ⟨k, hk1, hk, rfl, rfl, B⟩ := hrel
            have h8 := H8.out
            by_cases hlt : k < l.length
            · have hE : Hid (wr.rangeAt bb (k * 11) (enE l[k])) := Lib.hid (fun i u hu => (B.out.cell (p := ⟨bb, k * 11 + i, none⟩) hbl).trans (HEL.out k hlt i u hu))
              have ho := oldU_lt l k hk hlt0
              have hO : Hid (wr.rangeAt bb (oldU l k * 11) (enE l[oldU l k])) := Lib.hid (fun i u hu => (B.out.cell (p := ⟨bb, oldU l k * 11 + i, none⟩) hbl).trans (HEL.out _ ho i u hu))
              have a1 : Hid (ageAt l k = l[k].age) := Lib.hid (ageAt_eq l k hlt)
              have a2 : Hid (ageAt l (oldU l k) = l[oldU l k].age) := Lib.hid (ageAt_eq l _ ho)
              have hs : Hid (oldU l (k + 1) = if ageAt l (oldU l k) < ageAt l k then k else oldU l k) := Lib.hid rfl
              generalize l[k] = x at hE a1
              generalize l[oldU l k] = y at hO a2
              generalize oldU l k = o at ho hO a2 hs ⊢
              have cA : wr.cell? ⟨bb, k * 11 + 10, none⟩ = some (.int .i64 x.age) := hE.out 10 _ rfl
              have cO : wr.cell? ⟨bb, o * 11 + 10, none⟩ = some (.int .i64 y.age) := hO.out 10 _ rfl
              have hk8 : decide ((k : Int) < 8) = true := by simp; omega
              have q1 : (0 : Int) ≤ (o : Int) := by omega
              have q2 : (o : Int) < (l.length : Int) := by omega
              have q3 : (0 : Int) ≤ (k : Int) := by omega
              have q4 : (k : Int) < (l.length : Int) := by omega
              have hwk : IntKind.i64.wrap ((k : Int) + 1) = (k : Int) + 1 := IntWalk.i64_in _ (by omega)
              clear h8 hE hO
              by_cases hage : y.age < x.age
              · have d1 : decide (y.age < x.age) = true := by simpa using hage
                have hs2 : Hid (oldU l (k + 1) = k) := Lib.hid (by rw [hs.out, a1.out, a2.out, if_pos hage])
                clear hage a1 a2 hs
                go_upto_region 16 with fail
                go_quiet (fail)
                go_wp2
                go_roundw
                case rel => exact ⟨k + 1, by omega, by omega, by go_num, by rw [hs2.out], Lib.hid (below_drewN B.out _)⟩
                case measure => simp [intOf]; omega
              · have d1 : decide (y.age < x.age) = false := by simpa using hage
                have hs2 : Hid (oldU l (k + 1) = o) := Lib.hid (by rw [hs.out, a1.out, a2.out, if_neg hage])
                clear hage a1 a2 hs
                go_upto_region 16 with fail
                go_quiet (fail)
                go_wp2
                go_roundw
                case rel => exact ⟨k + 1, by omega, by omega, by go_num, by rw [hs2.out], Lib.hid (below_drewN B.out _)⟩
                case measure => simp [intOf]; omega
            · have hkk : k = l.length := by omega
              have hk8 : decide ((k : Int) < 8) = false := by simp; omega
              have HO : Hid (oldU l k = oldU l 8) := Lib.hid (by rw [hkk, h8])
              rw [HO.out]
              have ho8 : oldU l 8 < l.length := oldU_lt l 8 (by omega) hlt0
              generalize oldU l 8 = o at ho8 HLO ⊢
              have F8 := Lib.hid (F7.out.grow B.out)
              clear hkk HO h8
              go_wp2_with fail
              clear hk8
              go_loopw [13, 14] (fun va iv w3 => ∃ k : Nat, k ≤ l.length ∧ iv = .int .i64 k ∧ Hid (RaS w w3 ((bb, .cells cur7 58 (0, 0)) :: [(w.heap.size + 1 + 1 + 1, .cells #[.slice none 0 0, .int .i64 0] 52), (w.heap.size + 1 + 1, .cells #[.int .u8 (m.a.toNat : Int), .int .u8 (m.b.toNat : Int), .int .u8 (m.c.toNat : Int), .int .u8 (m.d.toNat : Int), .int .u8 (m.e.toNat : Int), .int .u8 (m.f.toNat : Int)] 23), (w.heap.size + 1, .cells #[.int .u8 (i.a.toNat : Int), .int .u8 (i.b.toNat : Int), .int .u8 (i.c.toNat : Int), .int .u8 (i.d.toNat : Int)] 25), (w.heap.size, .cells #[.slice p l.length c, .int .i64 lim] 52)]) va ((l.take k).eraseIdx o))) (fun _ iv _ => l.length - (intOf iv).toNat)
              case atStart => exact ⟨0, Nat.zero_le _, rfl, Lib.hid (by simpa using F8.out)⟩
              case round =>
                obtain ⟨k, hk, rfl, SS3⟩ := hrel
                have h8 := H8.out
                by_cases hlt : k < l.length
                · have hE : Hid (wr.rangeAt bb (k * 11) (enE l[k])) := Lib.hid (fun i u hu => by
                    have e1 := SS3.out.get (.head _)
                    have e2 : wr.cell? ⟨bb, k * 11 + i, none⟩ = wo.cell? ⟨bb, k * 11 + i, none⟩ := by rw [cell_of_block e1, cell_of_block hb7]
                    exact e2.trans (HEL.out k hlt i u hu))
                  have hT := Lib.hid (erase_step (o := o) hlt)
                  generalize l[k] = x at hE hT
                  have hk8 : decide ((k : Int) < 8) = true := by simp; omega
                  have q3 : (0 : Int) ≤ (k : Int) := by omega
                  have q4 : (k : Int) < (l.length : Int) := by omega
                  have hwk : IntKind.i64.wrap ((k : Int) + 1) = (k : Int) + 1 := IntWalk.i64_in _ (by omega)
                  have hll : ((l.take k).eraseIdx o).length ≤ 1000000 := by have h1 := List.length_eraseIdx_le (l := l.take k) (i := o); have h2 := List.length_take_le k l; omega
                  clear h8
                  by_cases hko : k = o
                  · have hd1 : ((k : Int) != (o : Int)) = false := by simp; omega
                    have HT : Hid ((l.take (k + 1)).eraseIdx o = (l.take k).eraseIdx o) := Lib.hid (by rw [hT.out, if_pos hko, List.append_nil])
                    clear hko hT
                    go_wp2_with fail
                    go_roundw
                    case rel => exact ⟨k + 1, by omega, by go_num, Lib.hid (by rw [HT.out]; exact SS3.out)⟩
                    case measure => simp [intOf]; omega
                  · have hd1 : ((k : Int) != (o : Int)) = true := by simp; omega
                    have HT : Hid ((l.take (k + 1)).eraseIdx o = (l.take k).eraseIdx o ++ [x]) := Lib.hid (by rw [hT.out, if_neg hko])
                    have HA := Lib.hid (SS3.out.alloc (.cells #[.int .u8 (x.ip.a.toNat : Int), .int .u8 (x.ip.b.toNat : Int), .int .u8 (x.ip.c.toNat : Int), .int .u8 (x.ip.d.toNat : Int), .int .u8 (x.ma.a.toNat : Int), .int .u8 (x.ma.b.toNat : Int), .int .u8 (x.ma.c.toNat : Int), .int .u8 (x.ma.d.toNat : Int), .int .u8 (x.ma.e.toNat : Int), .int .u8 (x.ma.f.toNat : Int), .int .i64 x.age] 58))
                    have HNW := Lib.hid (rn_new wr x)
                    clear hko hT
                    go_wp2_with (first | (refine wpList_load_mid rfl 58 _ rfl bb (k * 11) rfl [.int .u8 (x.ip.a.toNat : Int), .int .u8 (x.ip.b.toNat : Int), .int .u8 (x.ip.c.toNat : Int), .int .u8 (x.ip.d.toNat : Int), .int .u8 (x.ma.a.toNat : Int), .int .u8 (x.ma.b.toNat : Int), .int .u8 (x.ma.c.toNat : Int), .int .u8 (x.ma.d.toNat : Int), .int .u8 (x.ma.e.toNat : Int), .int .u8 (x.ma.f.toNat : Int), .int .i64 x.age] _ hE.out Try.underlying58 rfl (by kernel_rfl) ?_) | (refine wpList_append_rn rfl (.tmp 68) (.tmp 73) rfl _ _ rfl HA.out.acc hll ⟨wr.heap.size, 0, none⟩ 1 x rfl HNW.out ?_; intro v' w4 hrow hgr hbl2; have HS4 := Lib.hid (HA.out.app hgr hrow hbl2); clear hrow hgr hbl2))
                    go_roundw
                    case rel => exact ⟨k + 1, by omega, by go_num, Lib.hid (by rw [HT.out]; exact HS4.out)⟩
                    case measure => simp [intOf]; omega
                · have hkk : k = l.length := by omega
                  have hk8 : decide ((k : Int) < 8) = false := by simp; omega
                  rw [hkk, List.take_length] at SS3
                  have HLL9 : Hid ((l.eraseIdx o).length ≤ 1000000) := Lib.hid (by have h1 := List.length_eraseIdx_le (l := l) (i := o); omega)
                  clear hkk h8
                  obtain ⟨b0, b1, f0, -⟩ := cells2 (SS3.out.get (.tail _ (.tail _ (.tail _ (.tail _ (.head _))))))
                  obtain ⟨r0, r1, g0, g1⟩ := cells2 (SS3.out.get (.tail _ (.head _)))
                  obtain ⟨i0, i1, i2, i3⟩ := IpAt.all (SS3.out.get (.tail _ (.tail _ (.tail _ (.head _)))))
                  obtain ⟨m0, m1, m2, m3, m4, m5⟩ := MacAt.all (SS3.out.get (.tail _ (.tail _ (.head _))))
                  have HA9 := Lib.hid (SS3.out.alloc (.cells #[.int .u8 (i.a.toNat : Int), .int .u8 (i.b.toNat : Int), .int .u8 (i.c.toNat : Int), .int .u8 (i.d.toNat : Int), .int .u8 (m.a.toNat : Int), .int .u8 (m.b.toNat : Int), .int .u8 (m.c.toNat : Int), .int .u8 (m.d.toNat : Int), .int .u8 (m.e.toNat : Int), .int .u8 (m.f.toNat : Int), .int .i64 0] 58))
                  have HNW9 := Lib.hid (rn_new wr ⟨i, m, 0⟩)
                  go_upto_region 27 with (refine wpList_append_rn rfl (.tmp 78) (.tmp 82) rfl _ _ rfl HA9.out.acc HLL9.out ⟨wr.heap.size, 0, none⟩ 1 ⟨i, m, 0⟩ rfl HNW9.out ?_; intro v9 w9 hrow hgr hbl2; have S9 := Lib.hid (HA9.out.app hgr hrow hbl2); clear hrow hgr hbl2)
                  rw [← HLO.out] at S9
                  clear i0 i1 i2 i3 m0 m1 m2 m3 m4 m5 b0 b1 f0 r0 r1 g0 g1
                  obtain ⟨p', c', hv'⟩ := RowA.shape S9.out.acc
                  subst hv'
                  obtain ⟨b0, b1, f0, -⟩ := cells2 (S9.out.get (.tail _ (.tail _ (.tail _ (.tail _ (.head _))))))
                  obtain ⟨r0, r1, g0, g1⟩ := cells2 (S9.out.get (.tail _ (.head _)))
                  have HL := Lib.hid (S9.out.laid (.tail _ (.tail _ (.tail _ (.tail _ (.head _))))) (.tail _ (.head _)) (Nat.le_refl _) (by omega) (.slice p' (learnL i m l).length c') (.slice p' (learnL i m l).length c') (.int .i64 lim))
                  go_wp2_with fail
                  refine bodyPost_ret (v := rcV p' (learnL i m l).length c' lim) (by simp [results, Try.results21, go_sem, r0, r1]) rfl ⟨p', c', rfl, HL.out.1, S9.out.own, HL.out.2⟩
        · have hne : ((l.length : Int) == 8) = false := by simp; omega
          have HLO : Hid (learnL i m l = l ++ [⟨i, m, 0⟩]) := Lib.hid (by rw [HLO0.out, if_neg h8])
          have HLL9 : Hid (l.length ≤ 1000000) := Lib.hid (by omega)
          clear h8 HLO0 hml b0 b1
          obtain ⟨b0, b1, f0, -⟩ := cells2 (SS.out.get (.tail _ (.tail _ (.tail _ (.head _)))))
          obtain ⟨r0, r1, g0, g1⟩ := cells2 (SS.out.get (.head _))
          obtain ⟨i0, i1, i2, i3⟩ := IpAt.all (SS.out.get (.tail _ (.tail _ (.head _))))
          obtain ⟨m0, m1, m2, m3, m4, m5⟩ := MacAt.all (SS.out.get (.tail _ (.head _)))
          have HA9 := Lib.hid (SS.out.alloc (.cells #[.int .u8 (i.a.toNat : Int), .int .u8 (i.b.toNat : Int), .int .u8 (i.c.toNat : Int), .int .u8 (i.d.toNat : Int), .int .u8 (m.a.toNat : Int), .int .u8 (m.b.toNat : Int), .int .u8 (m.c.toNat : Int), .int .u8 (m.d.toNat : Int), .int .u8 (m.e.toNat : Int), .int .u8 (m.f.toNat : Int), .int .i64 0] 58))
          have HNW9 := Lib.hid (rn_new wr ⟨i, m, 0⟩)
          go_upto_region 27 with (refine wpList_append_rn rfl (.tmp 78) (.tmp 82) rfl _ _ rfl HA9.out.acc HLL9.out ⟨wr.heap.size, 0, none⟩ 1 ⟨i, m, 0⟩ rfl HNW9.out ?_; intro v9 w9 hrow hgr hbl2; have S9 := Lib.hid (HA9.out.app hgr hrow hbl2); clear hrow hgr hbl2)
          rw [← HLO.out] at S9
          clear i0 i1 i2 i3 m0 m1 m2 m3 m4 m5 b0 b1 f0 r0 r1 g0 g1
          obtain ⟨p', c', hv'⟩ := RowA.shape S9.out.acc
          subst hv'
          obtain ⟨b0, b1, f0, -⟩ := cells2 (S9.out.get (.tail _ (.tail _ (.tail _ (.head _)))))
          obtain ⟨r0, r1, g0, g1⟩ := cells2 (S9.out.get (.head _))
          have HL := Lib.hid (S9.out.laid (.tail _ (.tail _ (.tail _ (.head _)))) (.head _) (Nat.le_refl _) (by omega) (.slice p' (learnL i m l).length c') (.slice p' (learnL i m l).length c') (.int .i64 lim))
          go_wp2_with fail
          refine bodyPost_ret (v := rcV p' (learnL i m l).length c' lim) (by simp [results, Try.results21, go_sem, r0, r1]) rfl ⟨p', c', rfl, HL.out.1, S9.out.own, HL.out.2⟩

end Go.Proofs.Ytolegdjdppaeoaa
