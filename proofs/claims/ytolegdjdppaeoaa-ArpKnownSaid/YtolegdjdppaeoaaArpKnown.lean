/-
  ArpKnown: the chapter's examples hold, and the room. A closed statement: no conditions.
-/
import Derived.Test.YtolegdjdppaeoaaArpR
import Derived.ProofKit
import Derived.OpenShut
import Derived.ShutString
import Derived.ChangeOld
import Derived.Below
namespace Go.Proofs.Ytolegdjdppaeoaa.akn
open Go.ChangeShapes Go.WideShapes Go.ChangeAt Go.RowKit
open Go.ChangeMaps (open_string shut_string)
set_option linter.unusedVariables false

def an1 : Pk := ⟨2, ⟨2, 0, 0, 0, 0, 2⟩, ⟨10, 0, 0, 2⟩, ⟨2, 0, 0, 0, 0, 1⟩, ⟨10, 0, 0, 1⟩⟩
def bad3 : Pk := ⟨3, ⟨0, 0, 0, 0, 0, 0⟩, ⟨0, 0, 0, 0⟩, ⟨0, 0, 0, 0, 0, 0⟩, ⟨0, 0, 0, 0⟩⟩
theorem ans1 (w : World) : Calls Try.prog 9 #[.agg (pkC exP), .agg #[.int .u8 10, .int .u8 0, .int .u8 0, .int .u8 2], .agg #[.int .u8 2, .int .u8 0, .int .u8 0, .int .u8 0, .int .u8 0, .int .u8 2]] w fun e w' => e = .returned (.tuple #[.agg (pkC an1), .bool true]) ∧ Below w.heap.size w w' := by
  have h := aAnswer w exP ⟨10, 0, 0, 2⟩ ⟨2, 0, 0, 0, 0, 2⟩
  rw [show ansP exP ⟨10, 0, 0, 2⟩ ⟨2, 0, 0, 0, 0, 2⟩ = an1 from by decide +kernel, show ask exP ⟨10, 0, 0, 2⟩ = true from by decide +kernel] at h
  exact h
theorem ans2 (w : World) : Calls Try.prog 9 #[.agg (pkC exP), .agg #[.int .u8 10, .int .u8 0, .int .u8 0, .int .u8 3], .agg #[.int .u8 2, .int .u8 0, .int .u8 0, .int .u8 0, .int .u8 0, .int .u8 0]] w fun e w' => e = .returned (.tuple #[.agg (pkC pkZ), .bool false]) ∧ Below w.heap.size w w' := by
  have h := aAnswer w exP ⟨10, 0, 0, 3⟩ ⟨2, 0, 0, 0, 0, 0⟩
  rw [show ansP exP ⟨10, 0, 0, 3⟩ ⟨2, 0, 0, 0, 0, 0⟩ = pkZ from by decide +kernel, show ask exP ⟨10, 0, 0, 3⟩ = false from by decide +kernel] at h
  exact h
theorem ans3 (w : World) : Calls Try.prog 9 #[.agg (pkC an1), .agg #[.int .u8 10, .int .u8 0, .int .u8 0, .int .u8 1], .agg #[.int .u8 2, .int .u8 0, .int .u8 0, .int .u8 0, .int .u8 0, .int .u8 0]] w fun e w' => e = .returned (.tuple #[.agg (pkC pkZ), .bool false]) ∧ Below w.heap.size w w' := by
  have h := aAnswer w an1 ⟨10, 0, 0, 1⟩ ⟨2, 0, 0, 0, 0, 0⟩
  rw [show ansP an1 ⟨10, 0, 0, 1⟩ ⟨2, 0, 0, 0, 0, 0⟩ = pkZ from by decide +kernel, show ask an1 ⟨10, 0, 0, 1⟩ = false from by decide +kernel] at h
  exact h
theorem byt3 (w : World) : Calls Try.prog 15 #[.agg #[.int .i64 3, .int .u8 0, .int .u8 0, .int .u8 0, .int .u8 0, .int .u8 0, .int .u8 0, .int .u8 0, .int .u8 0, .int .u8 0, .int .u8 0, .int .u8 0, .int .u8 0, .int .u8 0, .int .u8 0, .int .u8 0, .int .u8 0, .int .u8 0, .int .u8 0, .int .u8 0, .int .u8 0]] w fun e w' => ∃ S : ByteArray, e = .returned (.tuple #[.string S, .int .i64 10]) ∧ Below w.heap.size w w' := by
  have h := aBytes w bad3
  rw [show pkE bad3 = 10 from by decide +kernel] at h
  exact h.mono fun e w' ⟨h1, h2⟩ => ⟨_, h1, h2⟩
theorem eqA (w : World) : (Op.equalIn 10000 27 (.agg (pkC an1)) (.agg (pkC an1))).run Try.prog w = .ok true w := by
  have h := eql_pk w an1 an1 (by show (Lit.int .i64 2).wf = true; decide) (by show (Lit.int .i64 2).wf = true; decide)
  rw [decide_eq_true rfl] at h
  exact h
theorem eqM (w : World) : (Op.equalIn 10000 23 (.agg #[.int .u8 9, .int .u8 0, .int .u8 0, .int .u8 0, .int .u8 0, .int .u8 0]) (.agg #[.int .u8 9, .int .u8 0, .int .u8 0, .int .u8 0, .int .u8 0, .int .u8 0])).run Try.prog w = .ok true w := by
  have h := run_eql_mac w ⟨9, 0, 0, 0, 0, 0⟩ ⟨9, 0, 0, 0, 0, 0⟩
  rw [decide_eq_true rfl] at h
  exact h
/-- How the cache stands ahead of the loop, and in it. -/
def l1 : List En := learnL ⟨10, 0, 0, 1⟩ ⟨9, 0, 0, 0, 0, 0⟩ []
def stL : Nat → List En
  | 0 => tickL 2 (tickL 2 l1)
  | k + 1 => learnL ⟨UInt8.ofNat k, 0, 0, 0⟩ ⟨UInt8.ofNat k, 0, 0, 0, 0, 0⟩ (stL k)
theorem stL_len : ∀ k, (stL k).length ≤ 8
  | 0 => by decide +kernel
  | k + 1 => learnL_len (stL_len k)
abbrev mB (m : Mac6) : Obj := .cells #[.int .u8 (m.a.toNat : Int), .int .u8 (m.b.toNat : Int), .int .u8 (m.c.toNat : Int), .int .u8 (m.d.toNat : Int), .int .u8 (m.e.toNat : Int), .int .u8 (m.f.toNat : Int)] 23
section
variable {w W : World} {F : List (Nat × Obj)} {g : Nat} {v : Value} {l : List En}
theorem lrn1 (h : CaS w W F g 2 v []) : Calls Try.prog 12 #[.pointer (some ⟨g, 0, none⟩), .agg #[.int .u8 10, .int .u8 0, .int .u8 0, .int .u8 1], .agg #[.int .u8 9, .int .u8 0, .int .u8 0, .int .u8 0, .int .u8 0, .int .u8 0]] W fun e w' => e = .returned (.tuple #[]) ∧ ∃ v', CaS w w' F g 2 v' l1 :=
  learnS h (by decide) ⟨10, 0, 0, 1⟩ ⟨9, 0, 0, 0, 0, 0⟩
theorem lrnk (k : Nat) (hk : k < 9) (h : CaS w W F g 2 v (stL k)) : Calls Try.prog 12 #[.pointer (some ⟨g, 0, none⟩), .agg #[.int .u8 (k : Int), .int .u8 0, .int .u8 0, .int .u8 0], .agg #[.int .u8 (k : Int), .int .u8 0, .int .u8 0, .int .u8 0, .int .u8 0, .int .u8 0]] W fun e w' => e = .returned (.tuple #[]) ∧ ∃ v', CaS w w' F g 2 v' (stL (k + 1)) := by
  have h := learnS h (stL_len k) ⟨UInt8.ofNat k, 0, 0, 0⟩ ⟨UInt8.ofNat k, 0, 0, 0, 0, 0⟩
  have e : ((UInt8.ofNat k).toNat : Int) = (k : Int) := by rw [UInt8.toNat_ofNat']; omega
  simp only [e] at h
  exact h
theorem tck1 (h : CaS w W F g 2 v l1) : Calls Try.prog 13 #[.pointer (some ⟨g, 0, none⟩)] W fun e w' => e = .returned (.tuple #[]) ∧ ∃ v', CaS w w' F g 2 v' (tickL 2 l1) :=
  tickS h (by decide +kernel) (by decide +kernel)
theorem tck2 (h : CaS w W F g 2 v (tickL 2 l1)) : Calls Try.prog 13 #[.pointer (some ⟨g, 0, none⟩)] W fun e w' => e = .returned (.tuple #[]) ∧ ∃ v', CaS w w' F g 2 v' (stL 0) :=
  tickS h (by decide +kernel) (by decide +kernel)
theorem fnd1 (h : CaS w W F g 2 v (tickL 2 l1)) : Calls Try.prog 14 #[.pointer (some ⟨g, 0, none⟩), .agg #[.int .u8 10, .int .u8 0, .int .u8 0, .int .u8 1]] W fun e w' => e = .returned (.tuple #[.agg #[.int .u8 9, .int .u8 0, .int .u8 0, .int .u8 0, .int .u8 0, .int .u8 0], .bool true]) ∧ CaS w w' F g 2 v (tickL 2 l1) :=
  findS h (by decide +kernel) ⟨10, 0, 0, 1⟩ ⟨9, 0, 0, 0, 0, 0⟩ true (by decide +kernel) (by decide +kernel)
theorem fnd2 (h : CaS w W F g 2 v (stL 0)) : Calls Try.prog 14 #[.pointer (some ⟨g, 0, none⟩), .agg #[.int .u8 10, .int .u8 0, .int .u8 0, .int .u8 1]] W fun e w' => e = .returned (.tuple #[.agg #[.int .u8 0, .int .u8 0, .int .u8 0, .int .u8 0, .int .u8 0, .int .u8 0], .bool false]) ∧ CaS w w' F g 2 v (stL 0) :=
  findS h (by decide +kernel) ⟨10, 0, 0, 1⟩ ⟨0, 0, 0, 0, 0, 0⟩ false (by decide +kernel) (by decide +kernel)
theorem fnd3 (h : CaS w W F g 2 v (stL 9)) : Calls Try.prog 14 #[.pointer (some ⟨g, 0, none⟩), .agg #[.int .u8 0, .int .u8 0, .int .u8 0, .int .u8 0]] W fun e w' => e = .returned (.tuple #[.agg #[.int .u8 0, .int .u8 0, .int .u8 0, .int .u8 0, .int .u8 0, .int .u8 0], .bool false]) ∧ CaS w w' F g 2 v (stL 9) :=
  findS h (by decide +kernel) ⟨0, 0, 0, 0⟩ ⟨0, 0, 0, 0, 0, 0⟩ false (by decide +kernel) (by decide +kernel)
theorem fnd4 (h : CaS w W F g 2 v (stL 9)) : Calls Try.prog 14 #[.pointer (some ⟨g, 0, none⟩), .agg #[.int .u8 1, .int .u8 0, .int .u8 0, .int .u8 0]] W fun e w' => e = .returned (.tuple #[.agg #[.int .u8 1, .int .u8 0, .int .u8 0, .int .u8 0, .int .u8 0, .int .u8 0], .bool true]) ∧ CaS w w' F g 2 v (stL 9) :=
  findS h (by decide +kernel) ⟨1, 0, 0, 0⟩ ⟨1, 0, 0, 0, 0, 0⟩ true (by decide +kernel) (by decide +kernel)
theorem len9 (h : CaS w W F g 2 v (stL 9)) : Calls Try.prog 17 #[.pointer (some ⟨g, 0, none⟩)] W fun e w' => e = .returned (.int .i64 8) ∧ W = w' := by
  have := lenS h (by decide +kernel)
  rw [show (stL 9).length = 8 from by decide +kernel] at this
  exact this
end

set_option maxRecDepth 100000 in
set_option maxHeartbeats 8000000 in
theorem walk (w : World) :
    Calls Try.prog 3 #[] w fun e w' => e = .returned (.bool true) ∧ Below w.heap.size w w' := by
  have BL : Hid (Below w.heap.size w w) := Lib.hid (Below.refl _ _)
  go_enter Try.func3, Try.ntmps3
  go_wp2_with fail
  refine (exampleP _).mono ?_
  rintro e w1 ⟨rfl, b1⟩
  have B1 := below_step BL b1
  clear b1 BL
  go_wp2_with fail
  refine (ans1 _).mono ?_
  rintro e w2 ⟨rfl, b2⟩
  have B2 := below_step B1 b2
  clear b2 B1
  have hst := pk_store w2 an1
  go_upto_region 2 with (refine wpList_storeW 27 _ _ rfl rfl _ w2.heap.size rfl rfl hst ?_)
  have B3 := below_step B2 ((Below.refl _ _).alloc (Nat.le_refl _) (.cells (pkC an1) 27))
  have P3 : Hid (PkAt (w2.alloc (.cells (pkC an1) 27)) w2.heap.size an1) := Lib.hid (PkAt.of_alloc _ _ _ rfl)
  obtain ⟨n1, hn⟩ : ∃ n, n = w2.heap.size := ⟨_, rfl⟩
  clear hst B2
  generalize w2.alloc _ = w3 at B3 P3 ⊢
  rw [← hn] at P3 ⊢
  clear hn
  go_wp2_with fail
  refine (exampleP _).mono ?_
  rintro e w4 ⟨rfl, b4⟩
  have B4 := below_step B3 b4
  have P4 := Lib.hid (P3.out.grow b4)
  clear b4 B3 P3
  go_wp2_with fail
  refine (ans2 _).mono ?_
  rintro e w5 ⟨rfl, b5⟩
  have B5 := below_step B4 b5
  have P5 := Lib.hid (P4.out.grow b5)
  clear b5 B4 P4
  have hst := pk_store w5 pkZ
  go_upto_region 3 with (refine wpList_storeW 27 _ _ rfl rfl _ w5.heap.size rfl rfl hst ?_)
  have a6 : Below w5.heap.size w5 (w5.alloc (.cells (pkC pkZ) 27)) := (Below.refl _ _).alloc (Nat.le_refl _) _
  have B6 := below_step B5 a6
  have P6 := Lib.hid (P5.out.grow a6)
  clear hst B5 P5 a6
  generalize w5.alloc _ = w6 at B6 P6 ⊢
  have hp := P6.out
  obtain ⟨c0, -, -, -, ⟨c17, c18, c19, c20⟩⟩ := P6.out.all
  have k17 : w6.cell? ⟨n1, 17, none⟩ = some (.int .u8 10) := c17
  have k18 : w6.cell? ⟨n1, 18, none⟩ = some (.int .u8 0) := c18
  have k19 : w6.cell? ⟨n1, 19, none⟩ = some (.int .u8 0) := c19
  have k20 : w6.cell? ⟨n1, 20, none⟩ = some (.int .u8 1) := c20
  clear c0 c17 c18 c19 c20
  go_wp2_with (refine pk_ld (by rfl) _ rfl _ rfl _ (by assumption) ?_)
  refine (ans3 _).mono ?_
  rintro e w7 ⟨rfl, b7⟩
  have B7 := below_step B6 b7
  have P7 := Lib.hid (P6.out.grow b7)
  clear b7 B6 P6 hp k17 k18 k19 k20
  have hst := pk_store w7 pkZ
  go_upto_region 4 with (refine wpList_storeW 27 _ _ rfl rfl _ w7.heap.size rfl rfl hst ?_)
  have a8 : Below w7.heap.size w7 (w7.alloc (.cells (pkC pkZ) 27)) := (Below.refl _ _).alloc (Nat.le_refl _) _
  have B8 := below_step B7 a8
  have P8 := Lib.hid (P7.out.grow a8)
  clear hst B7 P7 a8
  generalize w7.alloc _ = w8 at B8 P8 ⊢
  go_wp2_with fail
  refine (newS (F := [(n1, .cells (pkC an1) 27)]) B8.out (fun p hp => by rw [List.mem_singleton.1 hp]; exact P8.out) 2 (by decide) (by decide)).mono ?_
  rintro e w9 ⟨g, rfl, k⟩
  have K9 := Lib.hid k
  clear k B8 P8
  go_upto_region 6 with fail
  have K10 := Lib.hid (K9.out.alloc (mB ⟨9, 0, 0, 0, 0, 0⟩))
  obtain ⟨n2, hn⟩ : ∃ n, n = w9.heap.size := ⟨_, rfl⟩
  have hz : (w9.alloc (mB ⟨9, 0, 0, 0, 0, 0⟩)) = (w9.alloc (.cells #[.int .u8 9, .int .u8 0, .int .u8 0, .int .u8 0, .int .u8 0, .int .u8 0] 23)) := rfl
  rw [hz] at K10
  clear K9 hz
  generalize w9.alloc _ = w10 at K10 ⊢
  rw [← hn] at K10 ⊢
  clear hn
  have m0 : w10.heap[n2]? = some (mB ⟨9, 0, 0, 0, 0, 0⟩) := K10.out.get (.head _)
  have d0 : w10.cell? ⟨n2, 0, none⟩ = some (.int .u8 9) := by rw [cell_of_block m0]; rfl
  have d1 : w10.cell? ⟨n2, 1, none⟩ = some (.int .u8 0) := by rw [cell_of_block m0]; rfl
  have d2 : w10.cell? ⟨n2, 2, none⟩ = some (.int .u8 0) := by rw [cell_of_block m0]; rfl
  have d3 : w10.cell? ⟨n2, 3, none⟩ = some (.int .u8 0) := by rw [cell_of_block m0]; rfl
  have d4 : w10.cell? ⟨n2, 4, none⟩ = some (.int .u8 0) := by rw [cell_of_block m0]; rfl
  have d5 : w10.cell? ⟨n2, 5, none⟩ = some (.int .u8 0) := by rw [cell_of_block m0]; rfl
  clear m0
  go_wp2_with fail
  refine (lrn1 K10.out).mono ?_
  rintro e w11 ⟨rfl, v1, k⟩
  have K11 := Lib.hid k
  clear k K10 d0 d1 d2 d3 d4 d5
  go_wp2_with fail
  refine (tck1 K11.out).mono ?_
  rintro e w12 ⟨rfl, v2, k⟩
  have K12 := Lib.hid k
  clear k K11
  go_wp2_with fail
  refine (fnd1 K12.out).mono ?_
  rintro e w13 ⟨rfl, k⟩
  have K13 := Lib.hid (k.alloc (.cells #[.int .u8 9, .int .u8 0, .int .u8 0, .int .u8 0, .int .u8 0, .int .u8 0] 23))
  clear k K12
  go_upto_region 9 with fail
  obtain ⟨n3, hn⟩ : ∃ n, n = w13.heap.size := ⟨_, rfl⟩
  generalize w13.alloc _ = w14 at K13 ⊢
  rw [← hn] at K13 ⊢
  clear hn
  go_wp2_with fail
  refine (tck2 K13.out).mono ?_
  rintro e w15 ⟨rfl, v3, k⟩
  have K15 := Lib.hid k
  clear k K13
  go_wp2_with fail
  refine (fnd2 K15.out).mono ?_
  rintro e w16 ⟨rfl, k⟩
  have K16 := Lib.hid (k.grow ((Below.refl _ _).alloc (Nat.le_refl _) (.cells #[.int .u8 0, .int .u8 0, .int .u8 0, .int .u8 0, .int .u8 0, .int .u8 0] 23)))
  clear k K15
  go_upto_region 11 with fail
  obtain ⟨n4, hn⟩ : ∃ n, n = w16.heap.size := ⟨_, rfl⟩
  generalize w16.alloc _ = w17 at K16 ⊢
  rw [← hn]
  clear hn
  go_wp2_with fail
  go_loopw [14] (fun i wr => ∃ k : Nat, k ≤ 9 ∧ i = .int .u8 k ∧ ∃ v, Hid (CaS w wr [(n3, .cells #[.int .u8 9, .int .u8 0, .int .u8 0, .int .u8 0, .int .u8 0, .int .u8 0] 23), (n2, mB ⟨9, 0, 0, 0, 0, 0⟩), (n1, .cells (pkC an1) 27)] g 2 v (stL k))) (fun i _ => 9 - (intOf i).toNat)
  case atStart => exact ⟨0, by omega, rfl, _, K16⟩
  case round =>
    obtain ⟨k, hk, rfl, v, K⟩ := hrel
    by_cases hlt : k < 9
    · have hj1 : decide ((k : Int) < 9) = true := by simp; omega
      have hw : IntKind.u8.wrap ((k : Int) + 1) = (k : Int) + 1 := IntWalk.u8_in _ (by omega)
      go_wp2_with fail
      refine (lrnk k hlt K.out).mono ?_
      rintro e w18 ⟨rfl, v', k18⟩
      have K18 := Lib.hid k18
      clear k18 K
      go_wp2_with fail
      go_roundw
      case rel => exact ⟨k + 1, by omega, by go_num, _, K18⟩
      case measure => simp [intOf]; omega
    · obtain rfl : k = 9 := by omega
      go_wp2_with fail
      refine (fnd3 K.out).mono ?_
      rintro e w19 ⟨rfl, k⟩
      have K19 := Lib.hid (k.grow ((Below.refl _ _).alloc (Nat.le_refl _) (.cells #[.int .u8 0, .int .u8 0, .int .u8 0, .int .u8 0, .int .u8 0, .int .u8 0] 23)))
      clear k K
      go_upto_region 16 with fail
      obtain ⟨n5, hn⟩ : ∃ n, n = w19.heap.size := ⟨_, rfl⟩
      generalize w19.alloc _ = w20 at K19 ⊢
      rw [← hn]
      clear hn
      go_wp2_with fail
      refine (fnd4 K19.out).mono ?_
      rintro e w21 ⟨rfl, k⟩
      have K21 := Lib.hid (k.grow ((Below.refl _ _).alloc (Nat.le_refl _) (.cells #[.int .u8 1, .int .u8 0, .int .u8 0, .int .u8 0, .int .u8 0, .int .u8 0] 23)))
      clear k K19
      go_upto_region 17 with fail
      obtain ⟨n6, hn⟩ : ∃ n, n = w21.heap.size := ⟨_, rfl⟩
      generalize w21.alloc _ = w22 at K21 ⊢
      rw [← hn]
      clear hn
      go_wp2_with fail
      refine (byt3 _).mono ?_
      rintro e w23 ⟨S, rfl, b⟩
      have K23 := Lib.hid (K21.out.grow b)
      clear b K21
      go_wp2_with fail
      refine (awakeP _).mono ?_
      rintro e w24 ⟨rfl, b⟩
      have K24 := Lib.hid (K23.out.grow b)
      clear b K23
      have hp : PkAt w24 n1 an1 := K24.out.get (.tail _ (.tail _ (.head _)))
      have x0 : w24.heap[n3]? = some (.cells #[.int .u8 9, .int .u8 0, .int .u8 0, .int .u8 0, .int .u8 0, .int .u8 0] 23) := K24.out.get (.head _)
      have m0 : w24.heap[n2]? = some (.cells #[.int .u8 9, .int .u8 0, .int .u8 0, .int .u8 0, .int .u8 0, .int .u8 0] 23) := K24.out.get (.tail _ (.head _))
      have d0 : w24.cell? ⟨n2, 0, none⟩ = some (.int .u8 9) := by rw [cell_of_block m0]; rfl
      have d1 : w24.cell? ⟨n2, 1, none⟩ = some (.int .u8 0) := by rw [cell_of_block m0]; rfl
      have d2 : w24.cell? ⟨n2, 2, none⟩ = some (.int .u8 0) := by rw [cell_of_block m0]; rfl
      have d3 : w24.cell? ⟨n2, 3, none⟩ = some (.int .u8 0) := by rw [cell_of_block m0]; rfl
      have d4 : w24.cell? ⟨n2, 4, none⟩ = some (.int .u8 0) := by rw [cell_of_block m0]; rfl
      have d5 : w24.cell? ⟨n2, 5, none⟩ = some (.int .u8 0) := by rw [cell_of_block m0]; rfl
      have e0 : w24.cell? ⟨n3, 0, none⟩ = some (.int .u8 9) := by rw [cell_of_block x0]; rfl
      have e1 : w24.cell? ⟨n3, 1, none⟩ = some (.int .u8 0) := by rw [cell_of_block x0]; rfl
      have e2 : w24.cell? ⟨n3, 2, none⟩ = some (.int .u8 0) := by rw [cell_of_block x0]; rfl
      have e3 : w24.cell? ⟨n3, 3, none⟩ = some (.int .u8 0) := by rw [cell_of_block x0]; rfl
      have e4 : w24.cell? ⟨n3, 4, none⟩ = some (.int .u8 0) := by rw [cell_of_block x0]; rfl
      have e5 : w24.cell? ⟨n3, 5, none⟩ = some (.int .u8 0) := by rw [cell_of_block x0]; rfl
      have hem := fun w => eqM w
      clear m0 x0
      go_wp2_with (first | (refine pk_ld (by rfl) _ rfl n1 rfl _ hp ?_) | (refine pk_eq (by rfl) _ _ _ rfl an1 an1 rfl rfl true eqA ?_) | (go_at_call 17; refine (len9 K24.out).mono ?_; rintro e w25 ⟨rfl, rfl⟩))
      go_ret
      exact ⟨rfl, K24.out.bl⟩

set_option maxRecDepth 100000 in
theorem lifted (os : Os) (started : os.Started) (H : Type) (enc : TypeId × Value → H) :
    ReturnsInHanded {} Try.checked os 3 .any (Rows.arpKnownSpec.pre6 enc Try.prog Try.f3 Rows.arpKnownRow.domain false) (Rows.arpKnownSpec.post enc Try.prog Try.f3 false true false false) := by
  refine returnsInHanded_of_change (C := Try.checked) own started (by kernel_rfl) Try.func3
    (ChangeSpec.witness6 (enc := enc) (C := Try.checked) false ⟨#[], #[], []⟩ 8 (by kernel_rfl) (by kernel_rfl) (by kernel_rfl) (by kernel_rfl)) ?_
  intro W base args ds gs before hval0 hW hcnd _
  have hval : ∀ (j : Nat) t v, Try.f3.params[j]? = some t → args[j]? = some v → Value.okWide Try.prog W .any base t v := hval0
  have hW' := hW
  obtain ⟨p, q, hA0, hV, rfl, hfz, hnd⟩ := hW
  have hA : DataW.TrodAll enc Try.prog W 0 (fun _ => true) true Try.f3.params.toList args.toList ds p := hA0
  rw [Try.params3] at hA hval
  obtain ⟨rfl, rfl, rfl⟩ := trodAll_none hA
  obtain ⟨rfl, rfl⟩ := trodVars_none hV
  clear hA0 hval0
  refine (walk W).mono fun e W' ⟨he, bel⟩ => ?_
  subst he
  exact ⟨_, rfl, _, _, _, [], _, [], hW', trodAll_mk1 (shut_bool Try.underlying4 _), trodAll_mk0, rfl, bel.frame _, fun h => by cases h⟩

/-- THE STATEMENT. -/
theorem proved : Rows.ArpKnownSaid :=
  OpenClaim.holds_of_wide 3 Try.f3 rfl rfl rfl rfl rfl rfl rfl ⟨rfl, rfl, rfl, rfl, rfl⟩ rfl rfl rfl rfl rfl (by kernel_rfl) Try.func3 (by kernel_rfl)
    (of_decide_eq_true (by kernel_rfl)) (by unfold Func.isWrapper; first | (rw [if_pos (by decide +kernel)]; kernel_rfl) | (rw [if_neg (by decide +kernel)]; exact ⟨rfl, rfl⟩))
    (fun os started H enc _ => lifted os started H enc)
#print axioms proved

end Go.Proofs.Ytolegdjdppaeoaa.akn
