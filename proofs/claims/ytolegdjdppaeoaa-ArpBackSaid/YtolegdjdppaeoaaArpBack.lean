/-
  ArpBack: what has bytes is read from them, whatever stands behind; two packets have one text of bytes just if they are the same. No conditions (beyond 1000 bytes behind the statement asks nothing).
-/
import Derived.Test.YtolegdjdppaeoaaArpI
import Derived.ProofKit
import Derived.OpenShut
import Derived.ShutString
import Derived.ChangeOld
import Derived.Below
namespace Go.Proofs.Ytolegdjdppaeoaa.aba
open Go.ChangeShapes Go.WideShapes Go.ChangeAt Go.RowKit
open Go.ChangeMaps (open_string shut_string)
set_option linter.unusedVariables false

set_option maxRecDepth 100000 in
set_option maxHeartbeats 4000000 in
theorem walk_long (f g : Pk) (s : ByteArray) (hs : 1000 < s.size) (hm : s.size ≤ 9223372036854775807) (w : World) :
    Calls Try.prog 7 #[.agg (pkC f), .agg (pkC g), .string s] w fun e w' => e = .returned (.bool true) ∧ Below w.heap.size w w' := by
  go_enter Try.func7, Try.ntmps7
  go_upto_region 1 with fail
  have FR := Lib.hid (pair_new w f g)
  generalize (w.alloc _).alloc _ = W1 at FR ⊢
  go_wp2_with fail
  refine (awakeP _).mono ?_
  rintro e w1 ⟨rfl, b1⟩
  have F1 := Lib.hid (FR.out.grow b1)
  clear b1 FR
  go_wp2
  go_ret
  exact ⟨rfl, F1.out.bl⟩

set_option maxRecDepth 100000 in
set_option maxHeartbeats 4000000 in
theorem walk_bad (f g : Pk) (s : ByteArray) (hs : ¬ 1000 < s.size) (hm : s.size ≤ 9223372036854775807) (h1 : ¬ f.op = 1) (h2 : ¬ f.op = 2) (w : World) :
    Calls Try.prog 7 #[.agg (pkC f), .agg (pkC g), .string s] w fun e w' => e = .returned (.bool true) ∧ Below w.heap.size w w' := by
  have x1 : (f.op == 1) = false := by simpa using h1
  have x2 : (f.op == 2) = false := by simpa using h2
  have HN : Hid (¬ (f.op = 1 ∨ f.op = 2)) := Lib.hid (by rintro (h | h); exact h1 h; exact h2 h)
  clear h1 h2
  go_enter Try.func7, Try.ntmps7
  go_upto_region 1 with fail
  have FR := Lib.hid (pair_new w f g)
  generalize (w.alloc _).alloc _ = W1 at FR ⊢
  obtain ⟨n, hn⟩ : ∃ n, n = w.heap.size := ⟨_, rfl⟩
  rw [← hn] at FR ⊢
  clear hn
  go_wp2_with fail
  refine (awakeP _).mono ?_
  rintro e w1 ⟨rfl, b1⟩
  have F1 := Lib.hid (FR.out.grow b1)
  clear b1 FR
  have hp := F1.out.a
  go_wp2_with (refine pk_ld (by rfl) _ rfl n rfl _ hp ?_)
  refine (bytes_no _ f HN.out).mono ?_
  rintro e w2 ⟨rfl, b2⟩
  have F2 := Lib.hid (F1.out.grow b2)
  clear b2 F1 hp
  have hp := F2.out.b
  go_wp2_with (refine pk_ld (by rfl) _ rfl (n + 1) rfl _ hp ?_)
  refine (aBytes _ g).mono ?_
  rintro e w3 ⟨rfl, b3⟩
  have F3 := Lib.hid (F2.out.grow b3)
  clear b3 F2 hp
  have c0 := F3.out.a.op
  generalize pkS g = T
  generalize pkE g = G
  go_wp2
  go_ret
  exact ⟨rfl, F3.out.bl⟩

set_option maxRecDepth 100000 in
set_option maxHeartbeats 4000000 in
theorem walk_one (f g : Pk) (o1 : f.ok) (s : ByteArray) (hs : ¬ 1000 < s.size) (hm : s.size ≤ 9223372036854775807) (hf : f.op = 1 ∨ f.op = 2) (hg : ¬ (g.op = 1 ∨ g.op = 2)) (w : World) :
    Calls Try.prog 7 #[.agg (pkC f), .agg (pkC g), .string s] w fun e w' => e = .returned (.bool true) ∧ Below w.heap.size w w' := by
  have hx : (f.op == 1) = true ∨ ((f.op == 1) = false ∧ (f.op == 2) = true) := by
    rcases hf with h | h
    · exact .inl (by simpa using h)
    · exact .inr ⟨by rw [h]; rfl, by simpa using h⟩
  have HF := Lib.hid hf
  have HG := Lib.hid hg
  have HS : Hid (s.size ≤ 1000) := Lib.hid (by omega)
  have hq := eql_dec f f o1 o1 true (decide_eq_true rfl)
  obtain ⟨S, hS⟩ : ∃ S, S = pkS f := ⟨_, rfl⟩
  have hSz : S.size = 28 := by rw [hS]; exact pk_size f hf
  have hsum : ¬ 9223372036854775807 < S.size + s.size := by omega
  have HB := Lib.hid (fun w => bytes_ok w f hf)
  rw [← hS] at HB
  have HSS := Lib.hid hS
  clear hf hg o1 hS
  go_enter Try.func7, Try.ntmps7
  go_upto_region 1 with fail
  have FR := Lib.hid (pair_new w f g)
  generalize (w.alloc _).alloc _ = W1 at FR ⊢
  obtain ⟨n, hn⟩ : ∃ n, n = w.heap.size := ⟨_, rfl⟩
  rw [← hn] at FR ⊢
  clear hn
  go_wp2_with fail
  refine (awakeP _).mono ?_
  rintro e w1 ⟨rfl, b1⟩
  have F1 := Lib.hid (FR.out.grow b1)
  clear b1 FR
  have hp := F1.out.a
  go_wp2_with (refine pk_ld (by rfl) _ rfl n rfl _ hp ?_)
  refine (HB.out _).mono ?_
  rintro e w2 ⟨rfl, b2⟩
  have F2 := Lib.hid (F1.out.grow b2)
  clear b2 F1 hp
  have hp := F2.out.b
  go_wp2_with (refine pk_ld (by rfl) _ rfl (n + 1) rfl _ hp ?_)
  refine (bytes_no _ g HG.out).mono ?_
  rintro e w3 ⟨rfl, b3⟩
  have F3 := Lib.hid (F2.out.grow b3)
  clear b3 F2 hp
  have c0 := F3.out.a.op
  rcases hx with hx | ⟨hx, hy⟩
  all_goals
    go_wp2_with fail
    refine (read_back _ f s HF.out HS.out S HSS.out).mono ?_
    rintro e w4 ⟨rfl, b4⟩
    have F4 := Lib.hid (F3.out.grow b4)
    clear b4 F3 c0
    have hst := pk_store w4 f
    go_upto_region 12 with (refine wpList_storeW 27 _ _ rfl rfl _ w4.heap.size rfl rfl hst ?_)
    have F5 := Lib.hid (F4.out.grow ((Below.refl _ _).alloc (Nat.le_refl _) (.cells (pkC f) 27)))
    have hz : PkAt (w4.alloc (.cells (pkC f) 27)) w4.heap.size f := PkAt.of_alloc _ _ _ rfl
    clear F4 hst
    obtain ⟨k, hk⟩ : ∃ k, k = w4.heap.size := ⟨_, rfl⟩
    generalize w4.alloc _ = W5 at F5 hz ⊢
    rw [← hk] at hz ⊢
    clear hk
    have ha := F5.out.a
    go_wp2_with (first | (refine pk_ld (by rfl) _ rfl k rfl _ hz ?_) | (refine pk_ld (by rfl) _ rfl n rfl _ ha ?_) | (refine pk_eq (by rfl) _ _ _ rfl f f rfl rfl true hq ?_))
    go_ret
    exact ⟨rfl, F5.out.bl⟩

set_option maxRecDepth 100000 in
set_option maxHeartbeats 4000000 in
theorem walk_both (f g : Pk) (o1 : f.ok) (o2 : g.ok) (s : ByteArray) (hs : ¬ 1000 < s.size) (hm : s.size ≤ 9223372036854775807) (hf : f.op = 1 ∨ f.op = 2) (hg : g.op = 1 ∨ g.op = 2) (w : World) :
    Calls Try.prog 7 #[.agg (pkC f), .agg (pkC g), .string s] w fun e w' => e = .returned (.bool true) ∧ Below w.heap.size w w' := by
  have hx : (f.op == 1) = true ∨ ((f.op == 1) = false ∧ (f.op == 2) = true) := by
    rcases hf with h | h
    · exact .inl (by simpa using h)
    · exact .inr ⟨by rw [h]; rfl, by simpa using h⟩
  have HF := Lib.hid hf
  have HS : Hid (s.size ≤ 1000) := Lib.hid (by omega)
  have hq := eql_dec f f o1 o1 true (decide_eq_true rfl)
  obtain ⟨r, hr⟩ : ∃ r, r = decide (f = g) := ⟨_, rfl⟩
  have hqr := eql_dec f g o1 o2 r hr.symm
  obtain ⟨S, hS⟩ : ∃ S, S = pkS f := ⟨_, rfl⟩
  obtain ⟨T, hT⟩ : ∃ T, T = pkS g := ⟨_, rfl⟩
  have hSz : S.size = 28 := by rw [hS]; exact pk_size f hf
  have hsum : ¬ 9223372036854775807 < S.size + s.size := by omega
  have hsame : (S.toList == T.toList) = r := by rw [hS, hT, hr]; exact pk_same f g hf hg
  have HB := Lib.hid (fun w => bytes_ok w f hf)
  have HC := Lib.hid (fun w => bytes_ok w g hg)
  rw [← hS] at HB
  rw [← hT] at HC
  have HSS := Lib.hid hS
  clear hf hg o1 o2 hS hT hr
  go_enter Try.func7, Try.ntmps7
  go_upto_region 1 with fail
  have FR := Lib.hid (pair_new w f g)
  generalize (w.alloc _).alloc _ = W1 at FR ⊢
  obtain ⟨n, hn⟩ : ∃ n, n = w.heap.size := ⟨_, rfl⟩
  rw [← hn] at FR ⊢
  clear hn
  go_wp2_with fail
  refine (awakeP _).mono ?_
  rintro e w1 ⟨rfl, b1⟩
  have F1 := Lib.hid (FR.out.grow b1)
  clear b1 FR
  have hp := F1.out.a
  go_wp2_with (refine pk_ld (by rfl) _ rfl n rfl _ hp ?_)
  refine (HB.out _).mono ?_
  rintro e w2 ⟨rfl, b2⟩
  have F2 := Lib.hid (F1.out.grow b2)
  clear b2 F1 hp
  have hp := F2.out.b
  go_wp2_with (refine pk_ld (by rfl) _ rfl (n + 1) rfl _ hp ?_)
  refine (HC.out _).mono ?_
  rintro e w3 ⟨rfl, b3⟩
  have F3 := Lib.hid (F2.out.grow b3)
  clear b3 F2 hp
  have c0 := F3.out.a.op
  rcases hx with hx | ⟨hx, hy⟩
  all_goals
    go_wp2_with fail
    refine (read_back _ f s HF.out HS.out S HSS.out).mono ?_
    rintro e w4 ⟨rfl, b4⟩
    have F4 := Lib.hid (F3.out.grow b4)
    clear b4 F3 c0
    have hst := pk_store w4 f
    go_upto_region 12 with (refine wpList_storeW 27 _ _ rfl rfl _ w4.heap.size rfl rfl hst ?_)
    have F5 := Lib.hid (F4.out.grow ((Below.refl _ _).alloc (Nat.le_refl _) (.cells (pkC f) 27)))
    have hz : PkAt (w4.alloc (.cells (pkC f) 27)) w4.heap.size f := PkAt.of_alloc _ _ _ rfl
    clear F4 hst
    obtain ⟨k, hk⟩ : ∃ k, k = w4.heap.size := ⟨_, rfl⟩
    generalize w4.alloc _ = W5 at F5 hz ⊢
    rw [← hk] at hz ⊢
    clear hk
    have ha := F5.out.a
    have hb := F5.out.b
    go_wp2_with (first | (refine pk_ld (by rfl) _ rfl k rfl _ hz ?_) | (refine pk_ld (by rfl) _ rfl n rfl _ ha ?_) | (refine pk_ld (by rfl) _ rfl (n + 1) rfl _ hb ?_) | (refine pk_eq (by rfl) _ _ _ rfl f f rfl rfl true hq ?_) | (refine pk_eq (by rfl) _ _ _ rfl f g rfl rfl r hqr ?_))
    go_ret
    exact ⟨by cases r <;> rfl, F5.out.bl⟩

theorem walk (f g : Pk) (s : ByteArray) (w0 : f.ok) (w1 : g.ok) (w2 : s.size ≤ maxLen) (w : World) :
    Calls Try.prog 7 #[.agg (pkC f), .agg (pkC g), .string s] w fun e w' => e = .returned (.bool true) ∧ Below w.heap.size w w' := by
  have hm : s.size ≤ 9223372036854775807 := by unfold maxLen at w2; omega
  by_cases hs : 1000 < s.size
  · exact walk_long f g s hs hm w
  by_cases hf : f.op = 1 ∨ f.op = 2
  · by_cases hg : g.op = 1 ∨ g.op = 2
    · exact walk_both f g w0 w1 s hs hm hf hg w
    · exact walk_one f g w0 s hs hm hf hg w
  · exact walk_bad f g s hs hm (fun h => hf (.inl h)) (fun h => hf (.inr h)) w

set_option maxRecDepth 100000 in
theorem lifted (os : Os) (started : os.Started) (H : Type) (enc : TypeId × Value → H) :
    ReturnsInHanded {} Try.checked os 7 .any (Rows.arpBackSpec.pre6 enc Try.prog Try.f7 Rows.arpBackRow.domain false) (Rows.arpBackSpec.post enc Try.prog Try.f7 false true false false) := by
  refine returnsInHanded_of_change (C := Try.checked) own started (by kernel_rfl) Try.func7
    (ChangeSpec.witness6 (enc := enc) (C := Try.checked) false ⟨#[], #[.agg #[.int .i64 0, .int .u8 0, .int .u8 0, .int .u8 0, .int .u8 0, .int .u8 0, .int .u8 0, .int .u8 0, .int .u8 0, .int .u8 0, .int .u8 0, .int .u8 0, .int .u8 0, .int .u8 0, .int .u8 0, .int .u8 0, .int .u8 0, .int .u8 0, .int .u8 0, .int .u8 0, .int .u8 0], .agg #[.int .i64 0, .int .u8 0, .int .u8 0, .int .u8 0, .int .u8 0, .int .u8 0, .int .u8 0, .int .u8 0, .int .u8 0, .int .u8 0, .int .u8 0, .int .u8 0, .int .u8 0, .int .u8 0, .int .u8 0, .int .u8 0, .int .u8 0, .int .u8 0, .int .u8 0, .int .u8 0, .int .u8 0], .string ByteArray.empty], []⟩ 8 (by kernel_rfl) (by kernel_rfl) (by kernel_rfl) (by kernel_rfl)) ?_
  intro W base args ds gs before hval0 hW hcnd _
  have hval : ∀ (j : Nat) t v, Try.f7.params[j]? = some t → args[j]? = some v → Value.okWide Try.prog W .any base t v := hval0
  have hW' := hW
  obtain ⟨p, q, hA0, hV, rfl, hfz, hnd⟩ := hW
  have hA : DataW.TrodAll enc Try.prog W 0 (fun _ => true) true Try.f7.params.toList args.toList ds p := hA0
  rw [Try.params7] at hA hval
  obtain ⟨v0, vs0, d0, ds0, p0, q0, hargs, rfl, rfl, h0, r0⟩ := trodAll_cons hA
  obtain ⟨v1, vs1, d1, ds1, p1, q1, rfl, rfl, rfl, h1, r1⟩ := trodAll_cons r0
  obtain ⟨v2, vs2, d2, ds2, p2, q2, rfl, rfl, rfl, h2, r2⟩ := trodAll_cons r1
  obtain ⟨rfl, rfl, rfl⟩ := trodAll_nil r2
  obtain rfl : args = #[v0, v1, v2] := by cases args; simp_all
  obtain ⟨rfl, rfl⟩ := trodVars_none hV
  obtain ⟨a0, rfl, w0⟩ := open_arp (hval 0 27 v0 rfl rfl) h0
  have k0 := h0
  have lt0 : ∀ x ∈ p0, x.block < W.heap.size := by obtain ⟨m, hm⟩ := k0; exact DataW.trod_lt m _ _ _ hm
  obtain ⟨a1, rfl, w1⟩ := open_arp (hval 1 27 v1 rfl rfl) h1
  have k1 := h1
  have lt1 : ∀ x ∈ p1, x.block < W.heap.size := by obtain ⟨m, hm⟩ := k1; exact DataW.trod_lt m _ _ _ hm
  obtain ⟨a2, rfl, rfl, rfl, w2⟩ := open_string Try.underlying9 (hval 2 9 v2 rfl rfl) h2
  clear hA0 hval0
  refine (walk a0 a1 a2 w0 w1 w2 W).mono fun e W' ⟨he, bel⟩ => ?_
  subst he
  exact ⟨_, rfl, _, _, _, [], _, [], hW', trodAll_mk1 (shut_bool Try.underlying4 _), (trodAll_cons_mk (Below.trod laidOut (by kernel_rfl) (of_decide_eq_true (by kernel_rfl)) k0 bel lt0) (trodAll_cons_mk (Below.trod laidOut (by kernel_rfl) (of_decide_eq_true (by kernel_rfl)) k1 bel lt1) (trodAll_cons_mk (shut_string Try.underlying9 w2) trodAll_mk0))), rfl, bel.frame _, fun h => by cases h⟩

/-- THE STATEMENT. -/
theorem proved : Rows.ArpBackSaid :=
  OpenClaim.holds_of_wide 7 Try.f7 rfl rfl rfl rfl rfl rfl rfl ⟨rfl, rfl, rfl, rfl, rfl⟩ rfl rfl rfl rfl rfl (by kernel_rfl) Try.func7 (by kernel_rfl)
    (of_decide_eq_true (by kernel_rfl)) (by unfold Func.isWrapper; first | (rw [if_pos (by decide +kernel)]; kernel_rfl) | (rw [if_neg (by decide +kernel)]; exact ⟨rfl, rfl⟩))
    (fun os started H enc _ => lifted os started H enc)
#print axioms proved

end Go.Proofs.Ytolegdjdppaeoaa.aba
