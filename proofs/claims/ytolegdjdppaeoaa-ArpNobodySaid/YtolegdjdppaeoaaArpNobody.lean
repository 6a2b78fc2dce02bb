/-
  ArpNobody: what is none learns nothing. No conditions.
-/
import Derived.Test.YtolegdjdppaeoaaArpJ
import Derived.ProofKit
import Derived.OpenShut
import Derived.ShutString
import Derived.ChangeOld
import Derived.Below
namespace Go.Proofs.Ytolegdjdppaeoaa.ano
open Go.ChangeShapes Go.WideShapes Go.ChangeAt Go.RowKit
open Go.ChangeMaps (open_string shut_string)
set_option linter.unusedVariables false

/-- The two addresses, and a cache of noughts. -/
structure NS (w W : World) (n g : Nat) (i : Ip4) (m : Mac6) : Prop where
  ip : IpAt W n i
  ma : MacAt W (n + 1) m
  no : W.cell? ⟨g, 2, none⟩ = some (.pointer none)
  lt : g < W.heap.size
  bl : Below w.heap.size w W
theorem NS.grow {w W W' : World} {n g : Nat} {i : Ip4} {m : Mac6} (h : NS w W n g i m) (b : Below W.heap.size W W') : NS w W' n g i m :=
  ⟨h.ip.grow b, h.ma.grow b, (b.cell (p := ⟨g, 2, none⟩) h.lt).trans h.no, Nat.lt_of_lt_of_le h.lt b.size, h.bl.trans (b.mono h.bl.size)⟩
theorem NS.nc {w W : World} {n g : Nat} {i : Ip4} {m : Mac6} (h : NS w W n g i m) : NoCa W (some ⟨g, 0, none⟩) := .inr ⟨g, rfl, h.no⟩
theorem NS.ncl {w W : World} {n g : Nat} {i : Ip4} {m : Mac6} (h : NS w W n g i m) : ∀ k, (some ⟨g, 0, none⟩ : Option Addr) = some ⟨k, 0, none⟩ → k < W.heap.size := fun k e => by injection e with e; injection e with e; rw [← e]; exact h.lt
theorem nil_nc (W : World) : NoCa W none := .inl rfl
theorem nil_ncl (W : World) : ∀ k, (none : Option Addr) = some ⟨k, 0, none⟩ → k < W.heap.size := fun k e => by cases e

set_option maxRecDepth 100000 in
set_option maxHeartbeats 4000000 in
theorem walk (i : Ip4) (m : Mac6) (w : World) :
    Calls Try.prog 6 #[.agg #[.int .u8 (i.a.toNat : Int), .int .u8 (i.b.toNat : Int), .int .u8 (i.c.toNat : Int), .int .u8 (i.d.toNat : Int)], .agg #[.int .u8 (m.a.toNat : Int), .int .u8 (m.b.toNat : Int), .int .u8 (m.c.toNat : Int), .int .u8 (m.d.toNat : Int), .int .u8 (m.e.toNat : Int), .int .u8 (m.f.toNat : Int)]] w fun e w' => e = .returned (.bool true) ∧ Below w.heap.size w w' := by
  go_enter Try.func6, Try.ntmps6
  go_upto_region 1 with fail
  have F1 : Hid (IpAt ((w.alloc (.cells #[.int .u8 (i.a.toNat : Int), .int .u8 (i.b.toNat : Int), .int .u8 (i.c.toNat : Int), .int .u8 (i.d.toNat : Int)] 25)).alloc (.cells #[.int .u8 (m.a.toNat : Int), .int .u8 (m.b.toNat : Int), .int .u8 (m.c.toNat : Int), .int .u8 (m.d.toNat : Int), .int .u8 (m.e.toNat : Int), .int .u8 (m.f.toNat : Int)] 23)) w.heap.size i) := Lib.hid ((ip_new w _ i rfl).grow ((Below.refl _ _).alloc (Nat.le_refl _) _))
  have F2 : Hid (MacAt ((w.alloc (.cells #[.int .u8 (i.a.toNat : Int), .int .u8 (i.b.toNat : Int), .int .u8 (i.c.toNat : Int), .int .u8 (i.d.toNat : Int)] 25)).alloc (.cells #[.int .u8 (m.a.toNat : Int), .int .u8 (m.b.toNat : Int), .int .u8 (m.c.toNat : Int), .int .u8 (m.d.toNat : Int), .int .u8 (m.e.toNat : Int), .int .u8 (m.f.toNat : Int)] 23)) (w.heap.size + 1) m) := Lib.hid (mac_new _ _ m (by simp))
  have BL : Hid (Below w.heap.size w ((w.alloc (.cells #[.int .u8 (i.a.toNat : Int), .int .u8 (i.b.toNat : Int), .int .u8 (i.c.toNat : Int), .int .u8 (i.d.toNat : Int)] 25)).alloc (.cells #[.int .u8 (m.a.toNat : Int), .int .u8 (m.b.toNat : Int), .int .u8 (m.c.toNat : Int), .int .u8 (m.d.toNat : Int), .int .u8 (m.e.toNat : Int), .int .u8 (m.f.toNat : Int)] 23))) := Lib.hid (((Below.refl _ _).alloc (Nat.le_refl _) _).alloc (by simp) _)
  obtain ⟨n, hn⟩ : ∃ n, n = w.heap.size := ⟨_, rfl⟩
  generalize (w.alloc _).alloc _ = W1 at F1 F2 BL ⊢
  rw [← hn] at F1 F2 ⊢
  clear hn
  go_wp2_with fail
  refine (awakeP _).mono ?_
  rintro e w1 ⟨rfl, b1⟩
  have G1 := Lib.hid (F1.out.grow b1)
  have G2 := Lib.hid (F2.out.grow b1)
  have B1 := below_step BL b1
  clear b1 F1 F2 BL
  go_upto_region 5 with fail
  have NN : Hid (NS w (w1.alloc (.cells #[.int .i64 0, .slice none 0 0, .pointer none] 62)) n w1.heap.size i m) := Lib.hid
    ⟨G1.out.grow ((Below.refl _ _).alloc (Nat.le_refl _) _), G2.out.grow ((Below.refl _ _).alloc (Nat.le_refl _) _), by rw [cell_of_block (heap_alloc_new w1 _)]; rfl, by simp, B1.out.alloc B1.out.size _⟩
  obtain ⟨g, hg⟩ : ∃ g, g = w1.heap.size := ⟨_, rfl⟩
  clear G1 G2 B1
  generalize w1.alloc _ = W2 at NN ⊢
  rw [← hg] at NN ⊢
  clear hg
  obtain ⟨c0, c1, c2, c3⟩ := NN.out.ip.all
  obtain ⟨d0, d1, d2, d3, d4, d5⟩ := NN.out.ma.all
  go_wp2_with fail
  refine (learn_none _ none (nil_nc _) (nil_ncl _) i m).mono ?_
  rintro e w3 ⟨rfl, b3⟩
  have N3 := Lib.hid (NN.out.grow b3)
  clear b3 NN c0 c1 c2 c3 d0 d1 d2 d3 d4 d5
  obtain ⟨c0, c1, c2, c3⟩ := N3.out.ip.all
  obtain ⟨d0, d1, d2, d3, d4, d5⟩ := N3.out.ma.all
  go_wp2_with fail
  refine (learn_none _ _ N3.out.nc N3.out.ncl i m).mono ?_
  rintro e w4 ⟨rfl, b4⟩
  have N4 := Lib.hid (N3.out.grow b4)
  clear b4 N3 c0 c1 c2 c3 d0 d1 d2 d3 d4 d5
  go_wp2_with fail
  refine (tick_none _ none (nil_nc _) (nil_ncl _)).mono ?_
  rintro e w5 ⟨rfl, b5⟩
  have N5 := Lib.hid (N4.out.grow b5)
  clear b5 N4
  go_wp2_with fail
  refine (tick_none _ _ N5.out.nc N5.out.ncl).mono ?_
  rintro e w6 ⟨rfl, b6⟩
  have N6 := Lib.hid (N5.out.grow b6)
  clear b6 N5
  obtain ⟨c0, c1, c2, c3⟩ := N6.out.ip.all
  go_wp2_with fail
  refine (find_none _ none (nil_nc _) (nil_ncl _) i).mono ?_
  rintro e w7 ⟨rfl, b7⟩
  have N7 := Lib.hid ((N6.out.grow b7).grow ((Below.refl _ _).alloc (Nat.le_refl _) (.cells #[.int .u8 0, .int .u8 0, .int .u8 0, .int .u8 0, .int .u8 0, .int .u8 0] 23)))
  clear b7 N6 c0 c1 c2 c3
  go_upto_region 10 with fail
  generalize w7.alloc _ = W8 at N7 ⊢
  obtain ⟨c0, c1, c2, c3⟩ := N7.out.ip.all
  go_wp2_with fail
  refine (find_none _ _ N7.out.nc N7.out.ncl i).mono ?_
  rintro e w9 ⟨rfl, b9⟩
  have N9 := Lib.hid ((N7.out.grow b9).grow ((Below.refl _ _).alloc (Nat.le_refl _) (.cells #[.int .u8 0, .int .u8 0, .int .u8 0, .int .u8 0, .int .u8 0, .int .u8 0] 23)))
  clear b9 N7 c0 c1 c2 c3
  go_upto_region 11 with fail
  generalize w9.alloc _ = W10 at N9 ⊢
  go_wp2_with fail
  refine (len_none _ none (nil_nc _)).mono ?_
  rintro e w11 ⟨rfl, rfl⟩
  go_wp2_with fail
  refine (len_none _ _ N9.out.nc).mono ?_
  rintro e w12 ⟨rfl, rfl⟩
  go_wp2_with fail
  go_ret
  exact ⟨rfl, N9.out.bl⟩

set_option maxRecDepth 100000 in
theorem lifted (os : Os) (started : os.Started) (H : Type) (enc : TypeId × Value → H) :
    ReturnsInHanded {} Try.checked os 6 .any (Rows.arpNobodySpec.pre6 enc Try.prog Try.f6 Rows.arpNobodyRow.domain false) (Rows.arpNobodySpec.post enc Try.prog Try.f6 false true false false) := by
  refine returnsInHanded_of_change (C := Try.checked) own started (by kernel_rfl) Try.func6
    (ChangeSpec.witness6 (enc := enc) (C := Try.checked) false ⟨#[], #[.agg #[.int .u8 0, .int .u8 0, .int .u8 0, .int .u8 0], .agg #[.int .u8 0, .int .u8 0, .int .u8 0, .int .u8 0, .int .u8 0, .int .u8 0]], []⟩ 8 (by kernel_rfl) (by kernel_rfl) (by kernel_rfl) (by kernel_rfl)) ?_
  intro W base args ds gs before hval0 hW hcnd _
  have hval : ∀ (j : Nat) t v, Try.f6.params[j]? = some t → args[j]? = some v → Value.okWide Try.prog W .any base t v := hval0
  have hW' := hW
  obtain ⟨p, q, hA0, hV, rfl, hfz, hnd⟩ := hW
  have hA : DataW.TrodAll enc Try.prog W 0 (fun _ => true) true Try.f6.params.toList args.toList ds p := hA0
  rw [Try.params6] at hA hval
  obtain ⟨v0, vs0, d0, ds0, p0, q0, hargs, rfl, rfl, h0, r0⟩ := trodAll_cons hA
  obtain ⟨v1, vs1, d1, ds1, p1, q1, rfl, rfl, rfl, h1, r1⟩ := trodAll_cons r0
  obtain ⟨rfl, rfl, rfl⟩ := trodAll_nil r1
  obtain rfl : args = #[v0, v1] := by cases args; simp_all
  obtain ⟨rfl, rfl⟩ := trodVars_none hV
  obtain ⟨a0, rfl⟩ := open_ip (hval 0 25 v0 rfl rfl) h0
  have k0 := h0
  have lt0 : ∀ x ∈ p0, x.block < W.heap.size := by obtain ⟨m, hm⟩ := k0; exact DataW.trod_lt m _ _ _ hm
  obtain ⟨a1, rfl⟩ := open_mac (hval 1 23 v1 rfl rfl) h1
  have k1 := h1
  have lt1 : ∀ x ∈ p1, x.block < W.heap.size := by obtain ⟨m, hm⟩ := k1; exact DataW.trod_lt m _ _ _ hm
  clear hA0 hval0
  refine (walk a0 a1 W).mono fun e W' ⟨he, bel⟩ => ?_
  subst he
  exact ⟨_, rfl, _, _, _, [], _, [], hW', trodAll_mk1 (shut_bool Try.underlying4 _), (trodAll_cons_mk (Below.trod laidOut (by kernel_rfl) (of_decide_eq_true (by kernel_rfl)) k0 bel lt0) (trodAll_cons_mk (Below.trod laidOut (by kernel_rfl) (of_decide_eq_true (by kernel_rfl)) k1 bel lt1) trodAll_mk0)), rfl, bel.frame _, fun h => by cases h⟩

/-- THE STATEMENT. -/
theorem proved : Rows.ArpNobodySaid :=
  OpenClaim.holds_of_wide 6 Try.f6 rfl rfl rfl rfl rfl rfl rfl ⟨rfl, rfl, rfl, rfl, rfl⟩ rfl rfl rfl rfl rfl (by kernel_rfl) Try.func6 (by kernel_rfl)
    (of_decide_eq_true (by kernel_rfl)) (by unfold Func.isWrapper; first | (rw [if_pos (by decide +kernel)]; kernel_rfl) | (rw [if_neg (by decide +kernel)]; exact ⟨rfl, rfl⟩))
    (fun os started H enc _ => lifted os started H enc)
#print axioms proved

end Go.Proofs.Ytolegdjdppaeoaa.ano
