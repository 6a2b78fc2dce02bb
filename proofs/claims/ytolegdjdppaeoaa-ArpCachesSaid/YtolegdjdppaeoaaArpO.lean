/-
  Layer 7: Learn where all is taken; Learn, whatever there is. Conditions: as said.
-/
import Derived.Test.YtolegdjdppaeoaaArpN
namespace Go.Proofs.Ytolegdjdppaeoaa
open Go.RowKit Go.Sort Go.Shelf
set_option linter.unusedVariables false

theorem LnF.del {w W3 W4 : World} {g n4 n5 b : Nat} {lim : Int} {v v7 : Value} {l l7 : List En} {i : Ip4} {m : Mac6} (h : LnF w W3 g n4 n5 lim v l i m) (hg : g < w.heap.size) (hv : v.ownBlock = some b) (hb : b < w.heap.size) (t : Turn W3 W4 (fun k => k = b)) (r : EnRow W4 v7 l7) (h7 : v7.ownBlock = some b) :
    W4.cell? ⟨g, 1, none⟩ = some v ∧ W4.frozen? ⟨g, 1, none⟩ = false ∧ Ca (W4.setCell ⟨g, 1, none⟩ v7) g lim v7 l7 ∧ IpAt (W4.setCell ⟨g, 1, none⟩ v7) n4 i ∧ MacAt (W4.setCell ⟨g, 1, none⟩ v7) n5 m ∧ Turn w (W4.setCell ⟨g, 1, none⟩ v7) (CaO g v) := by
  have hgb : g ≠ b := fun e => h.ca.ne b hv e.symm
  have h4 := h.l4
  have h5 := h.l5
  have e := (t.block g h.ca.lt hgb).trans h.ca.at_
  have hca : Ca (W4.setCell ⟨g, 1, none⟩ v7) g lim v7 l7 := Ca.setRow1 e r (fun k hk => by rw [h7] at hk; injection hk with hk; rw [← hk]; exact Ne.symm hgb)
  refine ⟨by rw [cell_of_block e]; rfl, by simp [World.frozen?, e], hca, ?_, ?_, ?_⟩
  · have : n4 ≠ g := by omega
    have x : n4 ≠ b := by omega
    exact (Below.heap_setCell _ _ _ _ this).trans ((t.block n4 (lt_of_block h.ip) x).trans h.ip)
  · have : n5 ≠ g := by omega
    have x : n5 ≠ b := by omega
    exact (Below.heap_setCell _ _ _ _ this).trans ((t.block n5 (lt_of_block h.ma) x).trans h.ma)
  · exact ((Turn.of_below h.bl).trans' t (fun j _ e => .inr (by rw [e]; exact hv))).setCell (.inl rfl) _ _
/-- A call behind what has turned the cache's blocks. -/
theorem CaPost.behind {w W w' : World} {g : Nat} {lim : Int} {v v7 : Value} {l' : List En} (ht : Turn w W (CaO g v)) (hv : v7.ownBlock = v.ownBlock) (h : CaPost W w' g lim v7 l') : CaPost w w' g lim v l' := by
  obtain ⟨v', h1, h2, h3⟩ := h
  refine ⟨v', h1, ht.trans' h2 (fun j _ hj => ?_), fun k hk => ?_⟩
  · rcases hj with hj | hj
    · exact .inl hj
    · exact .inr (by rw [← hv]; exact hj)
  · rcases h3 k hk with h | h
    · exact .inl (by rw [← hv]; exact h)
    · exact .inr (Nat.le_trans ht.size h)

set_option maxRecDepth 100000 in
set_option maxHeartbeats 4000000 in
theorem learn_full {w : World} {g : Nat} {lim : Int} {v : Value} {l : List En} (h : Ca w g lim v l) (hl : l.length = 8) (i : Ip4) (m : Mac6) (hno : ∀ x ∈ l, x.ip ≠ i) :
    Calls Try.prog 12 #[.pointer (some ⟨g, 0, none⟩), .agg #[.int .u8 (i.a.toNat : Int), .int .u8 (i.b.toNat : Int), .int .u8 (i.c.toNat : Int), .int .u8 (i.d.toNat : Int)], .agg #[.int .u8 (m.a.toNat : Int), .int .u8 (m.b.toNat : Int), .int .u8 (m.c.toNat : Int), .int .u8 (m.d.toNat : Int), .int .u8 (m.e.toNat : Int), .int .u8 (m.f.toNat : Int)]] w fun e w' => e = .returned (.tuple #[]) ∧ CaPost w w' g lim v (learnL i m l) := by
  have bl : Below w.heap.size w ((w.alloc (.cells #[.int .u8 (i.a.toNat : Int), .int .u8 (i.b.toNat : Int), .int .u8 (i.c.toNat : Int), .int .u8 (i.d.toNat : Int)] 25)).alloc (.cells #[.int .u8 (m.a.toNat : Int), .int .u8 (m.b.toNat : Int), .int .u8 (m.c.toNat : Int), .int .u8 (m.d.toNat : Int), .int .u8 (m.e.toNat : Int), .int .u8 (m.f.toNat : Int)] 23)) := ((Below.refl _ _).alloc (Nat.le_refl _) _).alloc (by simp) _
  have FR0 : Hid (LnF w ((w.alloc (.cells #[.int .u8 (i.a.toNat : Int), .int .u8 (i.b.toNat : Int), .int .u8 (i.c.toNat : Int), .int .u8 (i.d.toNat : Int)] 25)).alloc (.cells #[.int .u8 (m.a.toNat : Int), .int .u8 (m.b.toNat : Int), .int .u8 (m.c.toNat : Int), .int .u8 (m.d.toNat : Int), .int .u8 (m.e.toNat : Int), .int .u8 (m.f.toNat : Int)] 23)) g w.heap.size (w.heap.size + 1) lim v l i m) := Lib.hid ⟨h.grow bl, (ip_new w w.heap.size i rfl).grow ((Below.refl _ _).alloc (Nat.le_refl _) _), mac_new _ _ m (by simp), bl, Nat.le_refl _, Nat.le_succ _⟩
  have HR := Lib.hid h.row
  have HG := Lib.hid h.lt
  clear bl h
  go_enter Try.func12, Try.ntmps12
  go_upto_region 1 with fail
  generalize (w.alloc _).alloc _ = W1 at FR0 ⊢
  obtain ⟨n5, h5⟩ : ∃ n, n = w.heap.size + 1 := ⟨_, rfl⟩
  rw [← h5] at FR0 ⊢
  clear h5
  obtain ⟨n4, h4⟩ : ∃ n, n = w.heap.size := ⟨_, rfl⟩
  rw [← h4] at FR0 ⊢
  clear h4
  obtain ⟨c0, c1, c2, c3⟩ := FR0.out.ip.all
  have HF := Lib.hid (cfind_ok FR0.out.ca (by omega) i)
  go_upto_region 3 with (first | (go_at_call 24; refine (cnone_no FR0.out.ca).mono ?_; rintro e w' ⟨rfl, rfl⟩) | (go_at_call 25; refine HF.out.mono ?_; rintro e W2 ⟨r, rfl, q1, q2⟩; have Q1 := Lib.hid q1; have Q2 := Lib.hid q2; clear q1 q2))
  have FR := Lib.hid (FR0.out.grow Q2.out)
  clear c0 c1 c2 c3 FR0 HF Q2
  rcases Q1.out with ⟨rfl, _⟩ | ⟨j, hj, rfl, hji, hf⟩
  · obtain ⟨o, ho⟩ : ∃ o, o = oldU l 8 := ⟨_, rfl⟩
    have HL : Hid (learnL i m l = l.eraseIdx o ++ [⟨i, m, 0⟩]) := Lib.hid (by
      rw [learnL, idxL_none hno, if_neg (by omega), if_pos hl, ← ho])
    have hol : o < l.length := by rw [ho]; have := oldU_lt l 8 (by omega) (by omega); exact this
    obtain ⟨b, cap, hv, hcap, hcm, hbl, hfz, hE0⟩ := RowA.elem enE_len FR.out.ca.row (by omega)
    have c1 := FR.out.ca.c1
    rw [hv] at c1
    have hne : ((l.length : Int) == 8) = true := by simp; omega
    have hob : v.ownBlock = some b := by rw [hv]; rfl
    have HB := Lib.hid (HR.out.lt b hob).2
    have HO : Hid (Calls Try.prog 26 #[.pointer (some ⟨g, 0, none⟩)] W2 fun e w' => e = .returned (.int .i64 (o : Int)) ∧ Below W2.heap.size W2 w') := Lib.hid (by
      have := oldest_ok FR.out.ca (by omega) (by omega)
      rw [ho, ← hl]
      exact this)
    have HV := Lib.hid hv
    have HLL := Lib.hid hl
    have HOB := Lib.hid hob
    clear hv hno ho hcap hcm hfz hE0 hob hl
    go_upto_region 7 with (go_at_call 26; refine HO.out.mono ?_; rintro e W3 ⟨rfl, q3⟩; have Q3 := Lib.hid q3; clear q3)
    have FR3 := Lib.hid (FR.out.grow Q3.out)
    have k1 := FR3.out.ca.c1
    rw [HV.out] at k1
    have hw : IntKind.i64.wrap ((o : Int) + 1) = (o : Int) + 1 := IntWalk.i64_in _ (by have := HLL.out; omega)
    have HD : Hid (Calls Try.prog 27 #[.slice (some ⟨b, 0, none⟩) l.length cap, .int .i64 (o : Int), .int .i64 ((o : Int) + 1)] W3 fun e w' => e = .returned (.slice (some ⟨b, 0, none⟩) (l.length - 1) cap) ∧ w'.cell? ⟨g, 1, none⟩ = some (.slice (some ⟨b, 0, none⟩) l.length cap) ∧ w'.frozen? ⟨g, 1, none⟩ = false ∧ Hid (Ca (w'.setCell ⟨g, 1, none⟩ (.slice (some ⟨b, 0, none⟩) (l.length - 1) cap)) g lim (.slice (some ⟨b, 0, none⟩) (l.length - 1) cap) (l.eraseIdx o) ∧ IpAt (w'.setCell ⟨g, 1, none⟩ (.slice (some ⟨b, 0, none⟩) (l.length - 1) cap)) n4 i ∧ MacAt (w'.setCell ⟨g, 1, none⟩ (.slice (some ⟨b, 0, none⟩) (l.length - 1) cap)) n5 m ∧ Turn w (w'.setCell ⟨g, 1, none⟩ (.slice (some ⟨b, 0, none⟩) (l.length - 1) cap)) (CaO g v))) := Lib.hid (by
      refine (delete_ok W3 b cap o l (by have := FR3.out.ca.row; rw [HV.out] at this; exact this) hol (by have := HLL.out; omega)).mono ?_
      rintro e w' ⟨h1, h2, h3⟩
      have hh := LnF.del FR3.out HG.out HOB.out HB.out h3 h2 rfl
      exact ⟨h1, by rw [← HV.out]; exact hh.1, hh.2.1, Lib.hid hh.2.2⟩)
    clear c1
    go_upto_region 8 with (go_at_call 27; refine HD.out.mono ?_; rintro e W4 ⟨rfl, k2, k3, K4⟩)
    clear k1 k2 k3 HD hw
    generalize W4.setCell _ _ = W5 at K4 ⊢
    obtain ⟨c0, c2, c3, c4⟩ := K4.out.2.1.all
    obtain ⟨d0, d1, d2, d3, d4, d5⟩ := K4.out.2.2.1.all
    have f1 := K4.out.1.f 1
    have c1 := K4.out.1.c1
    have HC := Lib.hid K4.out.1
    have HRW : Hid (EnRow ((W5.alloc (.cells #[.int .u8 (i.a.toNat : Int), .int .u8 (i.b.toNat : Int), .int .u8 (i.c.toNat : Int), .int .u8 (i.d.toNat : Int), .int .u8 (m.a.toNat : Int), .int .u8 (m.b.toNat : Int), .int .u8 (m.c.toNat : Int), .int .u8 (m.d.toNat : Int), .int .u8 (m.e.toNat : Int), .int .u8 (m.f.toNat : Int), .int .i64 0] 68)).drew) (.slice (some ⟨b, 0, none⟩) (l.length - 1) cap) (l.eraseIdx o)) := Lib.hid (by
      exact (K4.out.1.grow (((Below.refl _ _).drew).alloc (Nat.le_refl _) _)).row)
    have hl3 : (l.eraseIdx o).length ≤ 1000000 := by rw [List.length_eraseIdx_of_lt hol]; have := HLL.out; omega
    have HNW : Hid (∀ (j : Nat) (u : Value), (enE ⟨i, m, 0⟩)[j]? = some u → ((W5.alloc (.cells #[.int .u8 (i.a.toNat : Int), .int .u8 (i.b.toNat : Int), .int .u8 (i.c.toNat : Int), .int .u8 (i.d.toNat : Int), .int .u8 (m.a.toNat : Int), .int .u8 (m.b.toNat : Int), .int .u8 (m.c.toNat : Int), .int .u8 (m.d.toNat : Int), .int .u8 (m.e.toNat : Int), .int .u8 (m.f.toNat : Int), .int .i64 0] 68)).drew).cell? ((⟨W5.heap.size, 0, none⟩ : Addr).add j) = some u) := Lib.hid (en_new W5.drew ⟨i, m, 0⟩)
    have c9 : (W5.alloc (.cells #[.int .u8 (i.a.toNat : Int), .int .u8 (i.b.toNat : Int), .int .u8 (i.c.toNat : Int), .int .u8 (i.d.toNat : Int), .int .u8 (m.a.toNat : Int), .int .u8 (m.b.toNat : Int), .int .u8 (m.c.toNat : Int), .int .u8 (m.d.toNat : Int), .int .u8 (m.e.toNat : Int), .int .u8 (m.f.toNat : Int), .int .i64 0] 68)).cell? ⟨g, 1, none⟩ = some (.slice (some ⟨b, 0, none⟩) (l.length - 1) cap) := (((Below.refl W5.heap.size W5).alloc (Nat.le_refl _) _).cell (p := ⟨g, 1, none⟩) K4.out.1.lt).trans c1
    go_region_law (refine step_append_en rfl (.tmp 47) (.tmp 51) rfl (.slice (some ⟨b, 0, none⟩) (l.length - 1) cap) (l.eraseIdx o) rfl HRW.out hl3 ⟨W5.heap.size, 0, none⟩ 1 ⟨i, m, 0⟩ rfl HNW.out ?_; intro v' w2 hrow hgr hbl; obtain ⟨p', c', hv'⟩ := RowA.shape hrow; subst hv'; have A1 := Ca.appended HC.out hgr hrow hbl; have k1 := A1.1; have k2 := A1.2.1; have A2 := Lib.hid A1.2.2; clear A1 hrow hgr hbl)
    all_goals
      go_wp2_with fail
      go_end0
      refine ⟨rfl, ?_⟩
      rw [HL.out]
      have A3 := A2.out
      simp only [List.length_append, List.length_cons, List.length_nil, Nat.zero_add] at A3
      exact CaPost.behind K4.out.2.2.2 (by rw [HOB.out]; rfl) A3
  · exact absurd hji (hno _ (List.getElem_mem hj))

/-- Learn, whatever there is. -/
theorem learn_ok {w : World} {g : Nat} {lim : Int} {v : Value} {l : List En} (h : Ca w g lim v l) (hl : l.length ≤ 8) (i : Ip4) (m : Mac6) :
    Calls Try.prog 12 #[.pointer (some ⟨g, 0, none⟩), .agg #[.int .u8 (i.a.toNat : Int), .int .u8 (i.b.toNat : Int), .int .u8 (i.c.toNat : Int), .int .u8 (i.d.toNat : Int)], .agg #[.int .u8 (m.a.toNat : Int), .int .u8 (m.b.toNat : Int), .int .u8 (m.c.toNat : Int), .int .u8 (m.d.toNat : Int), .int .u8 (m.e.toNat : Int), .int .u8 (m.f.toNat : Int)]] w fun e w' => e = .returned (.tuple #[]) ∧ CaPost w w' g lim v (learnL i m l) := by
  by_cases hin : ∃ x ∈ l, x.ip = i
  · exact learn_found h (by omega) i m hin
  · have hno : ∀ x ∈ l, x.ip ≠ i := fun x hx e => hin ⟨x, hx, e⟩
    by_cases h8 : l.length = 8
    · exact learn_full h h8 i m hno
    · exact learn_room h (by omega) i m hno
theorem learnL_len {i : Ip4} {m : Mac6} {l : List En} (hl : l.length ≤ 8) : (learnL i m l).length ≤ 8 := by
  unfold learnL
  split
  · rw [List.length_set]; exact hl
  · split
    · rename_i h
      have := oldU_lt l 8 (by omega) (by omega)
      rw [List.length_append, List.length_eraseIdx_of_lt this]
      simp; omega
    · rw [List.length_append]; simp; omega

end Go.Proofs.Ytolegdjdppaeoaa
