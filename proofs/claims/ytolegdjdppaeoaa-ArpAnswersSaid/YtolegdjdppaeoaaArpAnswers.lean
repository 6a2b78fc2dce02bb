/-
  ArpAnswers: a packet that asks for an address is answered with it, to whom asked; no answer is answered, and what asks for another one is not. No conditions.
-/
import Derived.Test.YtolegdjdppaeoaaArpH
import Derived.ProofKit
import Derived.OpenShut
import Derived.ShutString
import Derived.ChangeOld
import Derived.Below
namespace Go.Proofs.Ytolegdjdppaeoaa.aan
open Go.ChangeShapes Go.WideShapes Go.ChangeAt Go.RowKit
open Go.ChangeMaps (open_string shut_string)
set_option linter.unusedVariables false

theorem ans_all {w : World} {n : Nat} {x : Int} {a b : Mac6} {i j : Ip4} (h : PkAt w n ⟨x, a, i, b, j⟩) : w.cell? ⟨n, 0, none⟩ = some (.int .i64 x) ∧ (w.cell? ⟨n, 1, none⟩ = some (.int .u8 (a.a.toNat : Int)) ∧ w.cell? ⟨n, 2, none⟩ = some (.int .u8 (a.b.toNat : Int)) ∧ w.cell? ⟨n, 3, none⟩ = some (.int .u8 (a.c.toNat : Int)) ∧ w.cell? ⟨n, 4, none⟩ = some (.int .u8 (a.d.toNat : Int)) ∧ w.cell? ⟨n, 5, none⟩ = some (.int .u8 (a.e.toNat : Int)) ∧ w.cell? ⟨n, 6, none⟩ = some (.int .u8 (a.f.toNat : Int))) ∧ (w.cell? ⟨n, 7, none⟩ = some (.int .u8 (i.a.toNat : Int)) ∧ w.cell? ⟨n, 8, none⟩ = some (.int .u8 (i.b.toNat : Int)) ∧ w.cell? ⟨n, 9, none⟩ = some (.int .u8 (i.c.toNat : Int)) ∧ w.cell? ⟨n, 10, none⟩ = some (.int .u8 (i.d.toNat : Int))) ∧ (w.cell? ⟨n, 11, none⟩ = some (.int .u8 (b.a.toNat : Int)) ∧ w.cell? ⟨n, 12, none⟩ = some (.int .u8 (b.b.toNat : Int)) ∧ w.cell? ⟨n, 13, none⟩ = some (.int .u8 (b.c.toNat : Int)) ∧ w.cell? ⟨n, 14, none⟩ = some (.int .u8 (b.d.toNat : Int)) ∧ w.cell? ⟨n, 15, none⟩ = some (.int .u8 (b.e.toNat : Int)) ∧ w.cell? ⟨n, 16, none⟩ = some (.int .u8 (b.f.toNat : Int))) ∧ (w.cell? ⟨n, 17, none⟩ = some (.int .u8 (j.a.toNat : Int)) ∧ w.cell? ⟨n, 18, none⟩ = some (.int .u8 (j.b.toNat : Int)) ∧ w.cell? ⟨n, 19, none⟩ = some (.int .u8 (j.c.toNat : Int)) ∧ w.cell? ⟨n, 20, none⟩ = some (.int .u8 (j.d.toNat : Int))) := h.all
theorem ask_yes (w : World) (f : Pk) (i : Ip4) (m : Mac6) (h1 : f.op = 1) (h2 : f.ti = i) :
    Calls Try.prog 9 #[.agg (pkC f), .agg #[.int .u8 (i.a.toNat : Int), .int .u8 (i.b.toNat : Int), .int .u8 (i.c.toNat : Int), .int .u8 (i.d.toNat : Int)], .agg #[.int .u8 (m.a.toNat : Int), .int .u8 (m.b.toNat : Int), .int .u8 (m.c.toNat : Int), .int .u8 (m.d.toNat : Int), .int .u8 (m.e.toNat : Int), .int .u8 (m.f.toNat : Int)]] w fun e w' => e = .returned (.tuple #[.agg (pkC ⟨2, m, i, f.ma, f.ip⟩), .bool true]) ∧ Below w.heap.size w w' := by
  have h := aAnswer w f i m
  have hq : ask f i = true := by simp [ask, h1, h2]
  rw [ansP, hq, if_pos rfl] at h
  exact h
theorem ask_no (w : World) (f : Pk) (i : Ip4) (m : Mac6) (h : ¬ (f.op = 1 ∧ f.ti = i)) :
    Calls Try.prog 9 #[.agg (pkC f), .agg #[.int .u8 (i.a.toNat : Int), .int .u8 (i.b.toNat : Int), .int .u8 (i.c.toNat : Int), .int .u8 (i.d.toNat : Int)], .agg #[.int .u8 (m.a.toNat : Int), .int .u8 (m.b.toNat : Int), .int .u8 (m.c.toNat : Int), .int .u8 (m.d.toNat : Int), .int .u8 (m.e.toNat : Int), .int .u8 (m.f.toNat : Int)]] w fun e w' => e = .returned (.tuple #[.agg (pkC pkZ), .bool false]) ∧ Below w.heap.size w w' := by
  have k := aAnswer w f i m
  have hq : ask f i = false := by simp only [ask, decide_eq_false_iff_not]; exact h
  rw [ansP, hq, if_neg (by decide)] at k
  exact k
theorem eqlZ (w : World) : (Op.equalIn 10000 27 (.agg (pkC pkZ)) (.agg #[.int .i64 0, .int .u8 0, .int .u8 0, .int .u8 0, .int .u8 0, .int .u8 0, .int .u8 0, .int .u8 0, .int .u8 0, .int .u8 0, .int .u8 0, .int .u8 0, .int .u8 0, .int .u8 0, .int .u8 0, .int .u8 0, .int .u8 0, .int .u8 0, .int .u8 0, .int .u8 0, .int .u8 0])).run Try.prog w = .ok true w := by
  have h := eql_z w pkZ (by show (Lit.int .i64 0).wf = true; decide)
  rw [decide_eq_true rfl] at h
  exact h
theorem eqlM (w : World) (m : Mac6) : (Op.equalIn 10000 23 (.agg #[.int .u8 (m.a.toNat : Int), .int .u8 (m.b.toNat : Int), .int .u8 (m.c.toNat : Int), .int .u8 (m.d.toNat : Int), .int .u8 (m.e.toNat : Int), .int .u8 (m.f.toNat : Int)]) (.agg #[.int .u8 (m.a.toNat : Int), .int .u8 (m.b.toNat : Int), .int .u8 (m.c.toNat : Int), .int .u8 (m.d.toNat : Int), .int .u8 (m.e.toNat : Int), .int .u8 (m.f.toNat : Int)])).run Try.prog w = .ok true w := by
  have h := run_eql_mac w m m
  rw [decide_eq_true rfl] at h
  exact h
theorem eqlI (w : World) (m : Ip4) : (Op.equalIn 10000 25 (.agg #[.int .u8 (m.a.toNat : Int), .int .u8 (m.b.toNat : Int), .int .u8 (m.c.toNat : Int), .int .u8 (m.d.toNat : Int)]) (.agg #[.int .u8 (m.a.toNat : Int), .int .u8 (m.b.toNat : Int), .int .u8 (m.c.toNat : Int), .int .u8 (m.d.toNat : Int)])).run Try.prog w = .ok true w := by
  have h := run_eql_ip w m m
  rw [decide_eq_true rfl] at h
  exact h

/-- What lies ahead of the first call. -/
structure Front (w W : World) (n : Nat) (f : Pk) (i : Ip4) (m : Mac6) : Prop where
  pk : PkAt W n f
  ip : IpAt W (n + 1) i
  ma : MacAt W (n + 1 + 1) m
  bl : Below w.heap.size w W
theorem Front.grow {w W W' : World} {n : Nat} {f : Pk} {i : Ip4} {m : Mac6} (h : Front w W n f i m) (b : Below W.heap.size W W') : Front w W' n f i m :=
  ⟨h.pk.grow b, h.ip.grow b, h.ma.grow b, h.bl.trans (b.mono h.bl.size)⟩
theorem front_new (w : World) (f : Pk) (i : Ip4) (m : Mac6) : Front w (((w.alloc (.cells (pkC f) 27)).alloc (.cells #[.int .u8 (i.a.toNat : Int), .int .u8 (i.b.toNat : Int), .int .u8 (i.c.toNat : Int), .int .u8 (i.d.toNat : Int)] 25)).alloc (.cells #[.int .u8 (m.a.toNat : Int), .int .u8 (m.b.toNat : Int), .int .u8 (m.c.toNat : Int), .int .u8 (m.d.toNat : Int), .int .u8 (m.e.toNat : Int), .int .u8 (m.f.toNat : Int)] 23)) w.heap.size f i m :=
  ⟨((PkAt.of_alloc w _ f rfl).grow ((Below.refl _ _).alloc (Nat.le_refl _) _)).grow ((Below.refl _ _).alloc (Nat.le_refl _) _), (ip_new _ _ _ (by simp)).grow ((Below.refl _ _).alloc (Nat.le_refl _) _), mac_new _ _ _ (by simp), (((Below.refl _ _).alloc (Nat.le_refl _) _).alloc (by simp) _).alloc (by simp <;> omega) _⟩

set_option maxRecDepth 100000 in
set_option maxHeartbeats 4000000 in
theorem walk_no (f : Pk) (i : Ip4) (m : Mac6) (h : ¬ (f.op = 1 ∧ f.ti = i)) (w : World) :
    Calls Try.prog 8 #[.agg (pkC f), .agg #[.int .u8 (i.a.toNat : Int), .int .u8 (i.b.toNat : Int), .int .u8 (i.c.toNat : Int), .int .u8 (i.d.toNat : Int)], .agg #[.int .u8 (m.a.toNat : Int), .int .u8 (m.b.toNat : Int), .int .u8 (m.c.toNat : Int), .int .u8 (m.d.toNat : Int), .int .u8 (m.e.toNat : Int), .int .u8 (m.f.toNat : Int)]] w fun e w' => e = .returned (.bool true) ∧ Below w.heap.size w w' := by
  have HN := Lib.hid h
  have hcase : (f.op == 1) = false ∨ ((f.op == 1) = true ∧ ∀ w, (Op.equalIn 10000 25 (.agg #[.int .u8 (f.ti.a.toNat : Int), .int .u8 (f.ti.b.toNat : Int), .int .u8 (f.ti.c.toNat : Int), .int .u8 (f.ti.d.toNat : Int)]) (.agg #[.int .u8 (i.a.toNat : Int), .int .u8 (i.b.toNat : Int), .int .u8 (i.c.toNat : Int), .int .u8 (i.d.toNat : Int)])).run Try.prog w = .ok false w) := by
    by_cases h1 : f.op = 1
    · have h2 : ¬ f.ti = i := fun h2 => h ⟨h1, h2⟩
      refine .inr ⟨by simpa using h1, fun w => ?_⟩
      have := run_eql_ip w f.ti i
      rw [decide_eq_false h2] at this
      exact this
    · exact .inl (by simpa using h1)
  clear h
  go_enter Try.func8, Try.ntmps8
  go_upto_region 1 with fail
  have FR := Lib.hid (front_new w f i m)
  generalize ((w.alloc _).alloc _).alloc _ = W1 at FR ⊢
  obtain ⟨n, hn⟩ : ∃ n, n = w.heap.size := ⟨_, rfl⟩
  rw [← hn] at FR ⊢
  clear hn
  go_wp2_with fail
  refine (awakeP _).mono ?_
  rintro e w1 ⟨rfl, b1⟩
  have F1 := Lib.hid (FR.out.grow b1)
  clear b1 FR
  have hp := F1.out.pk
  obtain ⟨d0, d1, d2, d3⟩ := F1.out.ip.all
  obtain ⟨e0, e1, e2, e3, e4, e5⟩ := F1.out.ma.all
  go_wp2_with (refine pk_ld (by rfl) _ rfl _ rfl _ (by assumption) ?_)
  refine (ask_no _ f i m HN.out).mono ?_
  rintro e w2 ⟨rfl, b2⟩
  have F2 := Lib.hid (F1.out.grow b2)
  have hst := pk_store w2 pkZ
  clear b2 F1 hp d0 d1 d2 d3 e0 e1 e2 e3 e4 e5
  go_upto_region 4 with (refine wpList_storeW 27 _ _ rfl rfl _ w2.heap.size rfl rfl hst ?_)
  have F3 := Lib.hid (F2.out.grow ((Below.refl _ _).alloc (Nat.le_refl _) (.cells (pkC pkZ) 27)))
  have hz : PkAt (w2.alloc (.cells (pkC pkZ) 27)) w2.heap.size pkZ := PkAt.of_alloc _ _ _ rfl
  obtain ⟨k, hk⟩ : ∃ k, k = w2.heap.size := ⟨_, rfl⟩
  clear F2 hst
  generalize w2.alloc _ = W3 at F3 hz ⊢
  rw [← hk] at hz ⊢
  clear hk
  obtain ⟨c0, -, -, -, ⟨c17, c18, c19, c20⟩⟩ := F3.out.pk.all
  obtain ⟨d0, d1, d2, d3⟩ := F3.out.ip.all
  have hez := fun w => eqlZ w
  rcases hcase with h1 | ⟨h1, h2⟩
  all_goals
    go_wp2_with (first | (refine pk_ld (by rfl) _ rfl k rfl _ hz ?_) | (refine pk_eqz (by rfl) _ _ _ rfl pkZ rfl rfl true hez ?_))
    go_ret
    exact ⟨rfl, F3.out.bl⟩

set_option maxRecDepth 100000 in
set_option maxHeartbeats 4000000 in
theorem walk_yes (f : Pk) (i : Ip4) (m : Mac6) (h1 : f.op = 1) (h2 : f.ti = i) (w : World) :
    Calls Try.prog 8 #[.agg (pkC f), .agg #[.int .u8 (i.a.toNat : Int), .int .u8 (i.b.toNat : Int), .int .u8 (i.c.toNat : Int), .int .u8 (i.d.toNat : Int)], .agg #[.int .u8 (m.a.toNat : Int), .int .u8 (m.b.toNat : Int), .int .u8 (m.c.toNat : Int), .int .u8 (m.d.toNat : Int), .int .u8 (m.e.toNat : Int), .int .u8 (m.f.toNat : Int)]] w fun e w' => e = .returned (.bool true) ∧ Below w.heap.size w w' := by
  have HN := Lib.hid h1
  have HI := Lib.hid h2
  have hx : (f.op == 1) = true := by simpa using h1
  have he : ∀ w, (Op.equalIn 10000 25 (.agg #[.int .u8 (f.ti.a.toNat : Int), .int .u8 (f.ti.b.toNat : Int), .int .u8 (f.ti.c.toNat : Int), .int .u8 (f.ti.d.toNat : Int)]) (.agg #[.int .u8 (i.a.toNat : Int), .int .u8 (i.b.toNat : Int), .int .u8 (i.c.toNat : Int), .int .u8 (i.d.toNat : Int)])).run Try.prog w = .ok true w := fun w => by
    have := run_eql_ip w f.ti i
    rw [decide_eq_true h2] at this
    exact this
  clear h1 h2
  go_enter Try.func8, Try.ntmps8
  go_upto_region 1 with fail
  have FR := Lib.hid (front_new w f i m)
  generalize ((w.alloc _).alloc _).alloc _ = W1 at FR ⊢
  obtain ⟨n, hn⟩ : ∃ n, n = w.heap.size := ⟨_, rfl⟩
  rw [← hn] at FR ⊢
  clear hn
  go_wp2_with fail
  refine (awakeP _).mono ?_
  rintro e w1 ⟨rfl, b1⟩
  have F1 := Lib.hid (FR.out.grow b1)
  clear b1 FR
  have hp := F1.out.pk
  obtain ⟨d0, d1, d2, d3⟩ := F1.out.ip.all
  obtain ⟨e0, e1, e2, e3, e4, e5⟩ := F1.out.ma.all
  go_wp2_with (refine pk_ld (by rfl) _ rfl _ rfl _ (by assumption) ?_)
  refine (ask_yes _ f i m HN.out HI.out).mono ?_
  rintro e w2 ⟨rfl, b2⟩
  have F2 := Lib.hid (F1.out.grow b2)
  have hst := pk_store w2 ⟨2, m, i, f.ma, f.ip⟩
  clear b2 F1 hp d0 d1 d2 d3 e0 e1 e2 e3 e4 e5
  go_upto_region 4 with (refine wpList_storeW 27 _ _ rfl rfl _ w2.heap.size rfl rfl hst ?_)
  have F3 := Lib.hid (F2.out.grow ((Below.refl _ _).alloc (Nat.le_refl _) (.cells (pkC ⟨2, m, i, f.ma, f.ip⟩) 27)))
  have Z3 : Hid (PkAt (w2.alloc (.cells (pkC ⟨2, m, i, f.ma, f.ip⟩) 27)) w2.heap.size ⟨2, m, i, f.ma, f.ip⟩) := Lib.hid (PkAt.of_alloc _ _ _ rfl)
  obtain ⟨k, hk⟩ : ∃ k, k = w2.heap.size := ⟨_, rfl⟩
  clear F2 hst
  generalize w2.alloc _ = W3 at F3 Z3 ⊢
  rw [← hk] at Z3 ⊢
  clear hk
  obtain ⟨c0, -, -, -, ⟨c17, c18, c19, c20⟩⟩ := F3.out.pk.all
  obtain ⟨d0, d1, d2, d3⟩ := F3.out.ip.all
  obtain ⟨e0, e1, e2, e3, e4, e5⟩ := F3.out.ma.all
  have hz := Z3.out
  obtain ⟨g0, -, -, -, ⟨g17, g18, g19, g20⟩⟩ := ans_all Z3.out
  go_wp2_with (refine pk_ld (by rfl) _ rfl k rfl _ hz ?_)
  refine (ask_no _ ⟨2, m, i, f.ma, f.ip⟩ f.ip m (fun h => absurd (show (2 : Int) = 1 from h.1) (by decide))).mono ?_
  rintro e w4 ⟨rfl, b4⟩
  have F4 := Lib.hid (F3.out.grow b4)
  have Z4 := Lib.hid (Z3.out.grow b4)
  have hst := pk_store w4 pkZ
  clear b4 F3 Z3 hz d0 d1 d2 d3 e0 e1 e2 e3 e4 e5 c0 c17 c18 c19 c20 g0 g17 g18 g19 g20 he hx
  go_upto_region 9 with (refine wpList_storeW 27 _ _ rfl rfl _ w4.heap.size rfl rfl hst ?_)
  have F5 := Lib.hid (F4.out.grow ((Below.refl _ _).alloc (Nat.le_refl _) (.cells (pkC pkZ) 27)))
  have Z5 := Lib.hid (Z4.out.grow ((Below.refl _ _).alloc (Nat.le_refl _) (.cells (pkC pkZ) 27)))
  clear F4 Z4 hst
  generalize w4.alloc _ = W5 at F5 Z5 ⊢
  obtain ⟨g0, ⟨g1, g2, g3, g4, g5, g6⟩, ⟨g7, g8, g9, g10⟩, ⟨g11, g12, g13, g14, g15, g16⟩, ⟨g17, g18, g19, g20⟩⟩ := ans_all Z5.out
  obtain ⟨c0, ⟨c1, c2, c3, c4, c5, c6⟩, ⟨c7, c8, c9, c10⟩, -, -⟩ := F5.out.pk.all
  obtain ⟨d0, d1, d2, d3⟩ := F5.out.ip.all
  obtain ⟨e0, e1, e2, e3, e4, e5⟩ := F5.out.ma.all
  have q1 := fun w => eqlM w m
  have q2 := fun w => eqlM w f.ma
  have q3 := fun w => eqlI w i
  have q4 := fun w => eqlI w f.ip
  go_wp2
  go_ret
  exact ⟨rfl, F5.out.bl⟩

theorem walk (f : Pk) (i : Ip4) (m : Mac6) (w0 : f.ok) (w : World) :
    Calls Try.prog 8 #[.agg (pkC f), .agg #[.int .u8 (i.a.toNat : Int), .int .u8 (i.b.toNat : Int), .int .u8 (i.c.toNat : Int), .int .u8 (i.d.toNat : Int)], .agg #[.int .u8 (m.a.toNat : Int), .int .u8 (m.b.toNat : Int), .int .u8 (m.c.toNat : Int), .int .u8 (m.d.toNat : Int), .int .u8 (m.e.toNat : Int), .int .u8 (m.f.toNat : Int)]] w fun e w' => e = .returned (.bool true) ∧ Below w.heap.size w w' := by
  by_cases h : f.op = 1 ∧ f.ti = i
  · exact walk_yes f i m h.1 h.2 w
  · exact walk_no f i m h w

set_option maxRecDepth 100000 in
theorem lifted (os : Os) (started : os.Started) (H : Type) (enc : TypeId × Value → H) :
    ReturnsInHanded {} Try.checked os 8 .any (Rows.arpAnswersSpec.pre6 enc Try.prog Try.f8 Rows.arpAnswersRow.domain false) (Rows.arpAnswersSpec.post enc Try.prog Try.f8 false true false false) := by
  refine returnsInHanded_of_change (C := Try.checked) own started (by kernel_rfl) Try.func8
    (ChangeSpec.witness6 (enc := enc) (C := Try.checked) false ⟨#[], #[.agg #[.int .i64 0, .int .u8 0, .int .u8 0, .int .u8 0, .int .u8 0, .int .u8 0, .int .u8 0, .int .u8 0, .int .u8 0, .int .u8 0, .int .u8 0, .int .u8 0, .int .u8 0, .int .u8 0, .int .u8 0, .int .u8 0, .int .u8 0, .int .u8 0, .int .u8 0, .int .u8 0, .int .u8 0], .agg #[.int .u8 0, .int .u8 0, .int .u8 0, .int .u8 0], .agg #[.int .u8 0, .int .u8 0, .int .u8 0, .int .u8 0, .int .u8 0, .int .u8 0]], []⟩ 8 (by kernel_rfl) (by kernel_rfl) (by kernel_rfl) (by kernel_rfl)) ?_
  intro W base args ds gs before hval0 hW hcnd _
  have hval : ∀ (j : Nat) t v, Try.f8.params[j]? = some t → args[j]? = some v → Value.okWide Try.prog W .any base t v := hval0
  have hW' := hW
  obtain ⟨p, q, hA0, hV, rfl, hfz, hnd⟩ := hW
  have hA : DataW.TrodAll enc Try.prog W 0 (fun _ => true) true Try.f8.params.toList args.toList ds p := hA0
  rw [Try.params8] at hA hval
  obtain ⟨v0, vs0, d0, ds0, p0, q0, hargs, rfl, rfl, h0, r0⟩ := trodAll_cons hA
  obtain ⟨v1, vs1, d1, ds1, p1, q1, rfl, rfl, rfl, h1, r1⟩ := trodAll_cons r0
  obtain ⟨v2, vs2, d2, ds2, p2, q2, rfl, rfl, rfl, h2, r2⟩ := trodAll_cons r1
  obtain ⟨rfl, rfl, rfl⟩ := trodAll_nil r2
  obtain rfl : args = #[v0, v1, v2] := by cases args; simp_all
  obtain ⟨rfl, rfl⟩ := trodVars_none hV
  obtain ⟨a0, rfl, w0⟩ := open_arp (hval 0 27 v0 rfl rfl) h0
  have k0 := h0
  have lt0 : ∀ x ∈ p0, x.block < W.heap.size := by obtain ⟨m, hm⟩ := k0; exact DataW.trod_lt m _ _ _ hm
  obtain ⟨a1, rfl⟩ := open_ip (hval 1 25 v1 rfl rfl) h1
  have k1 := h1
  have lt1 : ∀ x ∈ p1, x.block < W.heap.size := by obtain ⟨m, hm⟩ := k1; exact DataW.trod_lt m _ _ _ hm
  obtain ⟨a2, rfl⟩ := open_mac (hval 2 23 v2 rfl rfl) h2
  have k2 := h2
  have lt2 : ∀ x ∈ p2, x.block < W.heap.size := by obtain ⟨m, hm⟩ := k2; exact DataW.trod_lt m _ _ _ hm
  clear hA0 hval0
  refine (walk a0 a1 a2 w0 W).mono fun e W' ⟨he, bel⟩ => ?_
  subst he
  exact ⟨_, rfl, _, _, _, [], _, [], hW', trodAll_mk1 (shut_bool Try.underlying4 _), (trodAll_cons_mk (Below.trod laidOut (by kernel_rfl) (of_decide_eq_true (by kernel_rfl)) k0 bel lt0) (trodAll_cons_mk (Below.trod laidOut (by kernel_rfl) (of_decide_eq_true (by kernel_rfl)) k1 bel lt1) (trodAll_cons_mk (Below.trod laidOut (by kernel_rfl) (of_decide_eq_true (by kernel_rfl)) k2 bel lt2) trodAll_mk0))), rfl, bel.frame _, fun h => by cases h⟩

/-- THE STATEMENT. -/
theorem proved : Rows.ArpAnswersSaid :=
  OpenClaim.holds_of_wide 8 Try.f8 rfl rfl rfl rfl rfl rfl rfl ⟨rfl, rfl, rfl, rfl, rfl⟩ rfl rfl rfl rfl rfl (by kernel_rfl) Try.func8 (by kernel_rfl)
    (of_decide_eq_true (by kernel_rfl)) (by unfold Func.isWrapper; first | (rw [if_pos (by decide +kernel)]; kernel_rfl) | (rw [if_neg (by decide +kernel)]; exact ⟨rfl, rfl⟩))
    (fun os started H enc _ => lifted os started H enc)
#print axioms proved

end Go.Proofs.Ytolegdjdppaeoaa.aan
