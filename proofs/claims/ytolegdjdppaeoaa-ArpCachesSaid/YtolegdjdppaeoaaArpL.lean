/-
  Layer 7: the oldest entry; slices.Delete of one entry. Conditions: as said.
-/
import Derived.Test.YtolegdjdppaeoaaArpK
import Derived.Deep.RegionLaw
import Derived.Deep.AppendSrc
namespace Go.Proofs.Ytolegdjdppaeoaa
open Go.RowKit Go.Sort Go.Shelf
set_option linter.unusedVariables false

set_option maxRecDepth 100000 in
set_option maxHeartbeats 2000000 in
theorem oldest_ok {w : World} {g : Nat} {lim : Int} {v : Value} {l : List En} (h : Ca w g lim v l) (hl : l.length ≤ 1000000) (h0 : 0 < l.length) :
    Calls Try.prog 26 #[.pointer (some ⟨g, 0, none⟩)] w fun e w' => e = .returned (.int .i64 (oldU l l.length)) ∧ Below w.heap.size w w' := by
  obtain ⟨b, cap, hv, hcap, hcm, hbl, hfz, hE0⟩ := RowA.elem enE_len h.row h0
  have c1 := h.c1
  rw [hv] at c1
  have HC := Lib.hid h
  have HE0 := Lib.hid hE0
  have HV := Lib.hid hv
  have H0 := Lib.hid h0
  have hbw : Below w.heap.size w w := Below.refl _ _
  clear h hv hcap hcm hfz hE0 h0
  go_enter Try.func26, Try.ntmps26
  go_wp2
  clear c1
  go_loopw [3, 11] (fun o i wr => ∃ k : Nat, k ≤ l.length ∧ i = .int .i64 k ∧ o = .int .i64 (oldU l k) ∧ Hid (Below w.heap.size w wr)) (fun _ i _ => l.length - (intOf i).toNat)
  case atStart => exact ⟨0, by omega, rfl, rfl, Lib.hid hbw⟩
  case round =>
    obtain ⟨k, hk, rfl, rfl, bl⟩ := hrel
    by_cases hlt : k < l.length
    · have hE : Hid (wr.rangeAt b (k * 11) (enE l[k])) := Lib.hid (fun i u hu => (bl.out.cell (p := ⟨b, k * 11 + i, none⟩) hbl).trans (HE0.out k hlt i u hu))
      have ho := oldU_lt l k hk H0.out
      have hO : Hid (wr.rangeAt b (oldU l k * 11) (enE l[oldU l k])) := Lib.hid (fun i u hu => (bl.out.cell (p := ⟨b, oldU l k * 11 + i, none⟩) hbl).trans (HE0.out _ ho i u hu))
      have a1 : Hid (ageAt l k = l[k].age) := Lib.hid (ageAt_eq l k hlt)
      have a2 : Hid (ageAt l (oldU l k) = l[oldU l k].age) := Lib.hid (ageAt_eq l _ ho)
      have hs : Hid (oldU l (k + 1) = if ageAt l (oldU l k) < ageAt l k then k else oldU l k) := Lib.hid rfl
      generalize l[k] = x at hE a1
      generalize l[oldU l k] = y at hO a2
      generalize oldU l k = o at ho hO a2 hs ⊢
      have hj1 : decide ((k : Int) < (l.length : Int)) = true := by simp; omega
      have cs := HC.out.c1
      rw [HV.out] at cs
      have hgl := HC.out.lt
      have HK1 := Lib.hid ((bl.out.cell (p := ⟨g, 1, none⟩) hgl).trans cs)
      have HOA : Hid (wr.cell? ⟨b, o * 11 + 10, none⟩ = some (.int .i64 y.age)) := Lib.hid (hO.out 10 _ rfl)
      clear cs hO
      go_upto_region 5 with (refine wpList_load_mid rfl 68 _ rfl b (k * 11) rfl [.int .u8 (x.ip.a.toNat : Int), .int .u8 (x.ip.b.toNat : Int), .int .u8 (x.ip.c.toNat : Int), .int .u8 (x.ip.d.toNat : Int), .int .u8 (x.ma.a.toNat : Int), .int .u8 (x.ma.b.toNat : Int), .int .u8 (x.ma.c.toNat : Int), .int .u8 (x.ma.d.toNat : Int), .int .u8 (x.ma.e.toNat : Int), .int .u8 (x.ma.f.toNat : Int), .int .i64 x.age] _ hE.out Try.underlying68 rfl (by kernel_rfl) ?_)
      have cA : (wr.alloc (.cells #[.int .u8 (x.ip.a.toNat : Int), .int .u8 (x.ip.b.toNat : Int), .int .u8 (x.ip.c.toNat : Int), .int .u8 (x.ip.d.toNat : Int), .int .u8 (x.ma.a.toNat : Int), .int .u8 (x.ma.b.toNat : Int), .int .u8 (x.ma.c.toNat : Int), .int .u8 (x.ma.d.toNat : Int), .int .u8 (x.ma.e.toNat : Int), .int .u8 (x.ma.f.toNat : Int), .int .i64 x.age] 68)).cell? ⟨wr.heap.size, 10, none⟩ = some (.int .i64 x.age) := by rw [cell_of_block (heap_alloc_new wr _)]; rfl
      have B2 := below_step bl ((Below.refl wr.heap.size wr).alloc (Nat.le_refl _) (.cells #[.int .u8 (x.ip.a.toNat : Int), .int .u8 (x.ip.b.toNat : Int), .int .u8 (x.ip.c.toNat : Int), .int .u8 (x.ip.d.toNat : Int), .int .u8 (x.ma.a.toNat : Int), .int .u8 (x.ma.b.toNat : Int), .int .u8 (x.ma.c.toNat : Int), .int .u8 (x.ma.d.toNat : Int), .int .u8 (x.ma.e.toNat : Int), .int .u8 (x.ma.f.toNat : Int), .int .i64 x.age] 68))
      have hb2 : b < wr.heap.size := Nat.lt_of_lt_of_le hbl bl.out.size
      have hg2 : g < wr.heap.size := Nat.lt_of_lt_of_le hgl bl.out.size
      have k1 : (wr.alloc (.cells #[.int .u8 (x.ip.a.toNat : Int), .int .u8 (x.ip.b.toNat : Int), .int .u8 (x.ip.c.toNat : Int), .int .u8 (x.ip.d.toNat : Int), .int .u8 (x.ma.a.toNat : Int), .int .u8 (x.ma.b.toNat : Int), .int .u8 (x.ma.c.toNat : Int), .int .u8 (x.ma.d.toNat : Int), .int .u8 (x.ma.e.toNat : Int), .int .u8 (x.ma.f.toNat : Int), .int .i64 x.age] 68)).cell? ⟨g, 1, none⟩ = some (.slice (some ⟨b, 0, none⟩) l.length cap) := (((Below.refl wr.heap.size wr).alloc (Nat.le_refl _) (.cells #[.int .u8 (x.ip.a.toNat : Int), .int .u8 (x.ip.b.toNat : Int), .int .u8 (x.ip.c.toNat : Int), .int .u8 (x.ip.d.toNat : Int), .int .u8 (x.ma.a.toNat : Int), .int .u8 (x.ma.b.toNat : Int), .int .u8 (x.ma.c.toNat : Int), .int .u8 (x.ma.d.toNat : Int), .int .u8 (x.ma.e.toNat : Int), .int .u8 (x.ma.f.toNat : Int), .int .i64 x.age] 68)).cell (p := ⟨g, 1, none⟩) hg2).trans HK1.out
      have cO : (wr.alloc (.cells #[.int .u8 (x.ip.a.toNat : Int), .int .u8 (x.ip.b.toNat : Int), .int .u8 (x.ip.c.toNat : Int), .int .u8 (x.ip.d.toNat : Int), .int .u8 (x.ma.a.toNat : Int), .int .u8 (x.ma.b.toNat : Int), .int .u8 (x.ma.c.toNat : Int), .int .u8 (x.ma.d.toNat : Int), .int .u8 (x.ma.e.toNat : Int), .int .u8 (x.ma.f.toNat : Int), .int .i64 x.age] 68)).cell? ⟨b, o * 11 + 10, none⟩ = some (.int .i64 y.age) := (((Below.refl wr.heap.size wr).alloc (Nat.le_refl _) (.cells #[.int .u8 (x.ip.a.toNat : Int), .int .u8 (x.ip.b.toNat : Int), .int .u8 (x.ip.c.toNat : Int), .int .u8 (x.ip.d.toNat : Int), .int .u8 (x.ma.a.toNat : Int), .int .u8 (x.ma.b.toNat : Int), .int .u8 (x.ma.c.toNat : Int), .int .u8 (x.ma.d.toNat : Int), .int .u8 (x.ma.e.toNat : Int), .int .u8 (x.ma.f.toNat : Int), .int .i64 x.age] 68)).cell (p := ⟨b, o * 11 + 10, none⟩) hb2).trans HOA.out
      obtain ⟨n5, hn5⟩ : ∃ n, n = wr.heap.size := ⟨_, rfl⟩
      clear hb2 hg2 HK1 HOA hE hgl
      generalize wr.alloc _ = W5 at cA B2 k1 cO ⊢
      rw [← hn5] at cA ⊢
      clear hn5
      have q1 : (0 : Int) ≤ (o : Int) := by omega
      have q2 : (o : Int) < (l.length : Int) := by omega
      have q3 : decide ((o : Int) < (l.length : Int)) = true := by simp; omega
      by_cases hage : y.age < x.age
      · have d1 : decide (y.age < x.age) = true := by simpa using hage
        have hs2 : Hid (oldU l (k + 1) = k) := Lib.hid (by rw [hs.out, a1.out, a2.out, if_pos hage])
        clear hage a1 a2 hs
        go_quiet (fail)
        go_wp2
        go_roundw
        case rel => exact ⟨k + 1, by omega, by go_num, by rw [hs2.out], Lib.hid (below_drewN B2.out _)⟩
        case measure => simp [intOf]; omega
      · have d1 : decide (y.age < x.age) = false := by simpa using hage
        have hs2 : Hid (oldU l (k + 1) = o) := Lib.hid (by rw [hs.out, a1.out, a2.out, if_neg hage])
        clear hage a1 a2 hs
        go_quiet (fail)
        go_wp2
        go_roundw
        case rel => exact ⟨k + 1, by omega, by go_num, by rw [hs2.out], Lib.hid (below_drewN B2.out _)⟩
        case measure => simp [intOf]; omega
    · obtain rfl : k = l.length := by omega
      go_wp2
      go_ret
      exact ⟨rfl, bl.out⟩

end Go.Proofs.Ytolegdjdppaeoaa
