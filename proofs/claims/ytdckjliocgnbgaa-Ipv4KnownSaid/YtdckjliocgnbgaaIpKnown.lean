/-
  Ipv4Known: the chapter's examples hold; the limits. A closed statement: no conditions.
-/
import Derived.Test.YtdckjliocgnbgaaJoL
import Derived.Test.YtdckjliocgnbgaaShelfR
import Derived.ProofKit
import Derived.OpenShut
import Derived.ShutString
import Derived.ChangeOld
import Derived.Below
namespace Go.Proofs.Ytdckjliocgnbgaa.iko
open Go.ChangeShapes Go.WideShapes Go.ChangeAt Go.RowKit
open Go.ChangeMaps (open_string shut_string)
set_option linter.unusedVariables false

theorem rep_any (c : Nat) (w : World) (hc : c ≤ 1000) :
    Calls Try.prog 15 #[.string ⟨#[120]⟩, .int .i64 (c : Int)] w fun e w' => ∃ X : ByteArray, e = .returned (.string X) ∧ X.size = c ∧ Below w.heap.size w w' := by
  refine (Try.strings_Repeat ⟨#[120]⟩ c w (by omega) (by show 1 * c ≤ _; omega)).mono ?_
  rintro e w' ⟨rfl, b⟩
  refine ⟨_, rfl, ?_, b⟩
  show (Lib.repeatL [120] c).toArray.size = c
  rw [List.size_toArray, Lib.repeatL_length]
  show c * 1 = c
  omega
def exA0 : Pd := ⟨1, ⟨10, 0, 0, 1⟩, ⟨10, 0, 0, 2⟩, 6, 64, 8, false, ⟨#[104, 105]⟩⟩
def exA : Pd := ⟨1, ⟨10, 0, 0, 1⟩, ⟨10, 0, 0, 2⟩, 6, 64, 8, false, ⟨#[98, 101, 104, 105, 110, 100, 32, 56]⟩⟩
def exB0 : Pd := ⟨1, ⟨10, 0, 0, 1⟩, ⟨10, 0, 0, 2⟩, 6, 64, 0, true, ⟨#[104, 105]⟩⟩
def exB : Pd := ⟨1, ⟨10, 0, 0, 1⟩, ⟨10, 0, 0, 2⟩, 6, 64, 0, true, ⟨#[97, 104, 101, 97, 100, 32, 56, 46]⟩⟩
def exW : Pd := ⟨1, ⟨10, 0, 0, 1⟩, ⟨10, 0, 0, 2⟩, 6, 64, 0, false, ⟨#[97, 104, 101, 97, 100, 32, 56, 46, 98, 101, 104, 105, 110, 100, 32, 56]⟩⟩
def exL (X : ByteArray) : Pd := ⟨1, ⟨10, 0, 0, 1⟩, ⟨10, 0, 0, 2⟩, 6, 64, 0, false, X⟩
def exH (X : ByteArray) : Pd := ⟨1, ⟨10, 0, 0, 1⟩, ⟨10, 0, 0, 2⟩, 6, 64, 65528, false, X⟩
theorem ko1 : (putA exA []).1 = pdZ := by decide +kernel
theorem ko2 : (putA exA []).2.1 = false := by decide +kernel
theorem ko3 : (putA exB (putA exA []).2.2).1 = exW := by decide +kernel
theorem ko4 : (putA exB (putA exA []).2.2).2.1 = true := by decide +kernel
theorem ko5 : (putA exB (putA exA []).2.2).2.2 = [] := List.length_eq_zero_iff.1 (by decide +kernel)
theorem exW_ok : exW.ok := ⟨by show (Lit.int .i64 1).wf = true; decide, by show (Lit.int .i64 6).wf = true; decide, by show (Lit.int .i64 64).wf = true; decide, by show (Lit.int .i64 0).wf = true; decide, by show 16 ≤ maxLen; unfold maxLen; omega⟩
theorem pdE_L1 (X : ByteArray) (h : X.size = 567) : pdE (exL X) = 3 := by
  have h1 : mayB (exL X) = true := decide_eq_true ⟨(by decide : (0 : Int) ≤ 1), (by decide : (1 : Int) ≤ 65535), (by decide : (0 : Int) ≤ 6), (by decide : (6 : Int) ≤ 255), (by decide : (0 : Int) ≤ 64), (by decide : (64 : Int) ≤ 255), (by decide : (0 : Int) % 8 = 0), (by decide : (0 : Int) ≤ 0), (by decide : (0 : Int) ≤ 65528), by show (0 : Int) + (X.size : Int) ≤ 65515; omega, .inl rfl⟩
  unfold pdE
  rw [h1, if_neg (by decide), if_pos (by show 566 < X.size; omega)]
theorem pdE_L2 (X : ByteArray) (h : X.size = 566) : pdE (exL X) = 0 := by
  have h1 : mayB (exL X) = true := decide_eq_true ⟨(by decide : (0 : Int) ≤ 1), (by decide : (1 : Int) ≤ 65535), (by decide : (0 : Int) ≤ 6), (by decide : (6 : Int) ≤ 255), (by decide : (0 : Int) ≤ 64), (by decide : (64 : Int) ≤ 255), (by decide : (0 : Int) % 8 = 0), (by decide : (0 : Int) ≤ 0), (by decide : (0 : Int) ≤ 65528), by show (0 : Int) + (X.size : Int) ≤ 65515; omega, .inl rfl⟩
  unfold pdE
  rw [h1, if_neg (by decide), if_neg (by show ¬ 566 < X.size; omega)]
theorem pdE_H (X : ByteArray) (h : X.size = 566) : pdE (exH X) = 1 := by
  have h1 : mayB (exH X) = false := decide_eq_false (fun hh => by
    have h2 : (65528 : Int) + (X.size : Int) ≤ 65515 := hh.2.2.2.2.2.2.2.2.2.1
    omega)
  unfold pdE
  rw [h1, if_pos rfl]
theorem bytes_at (w : World) (f : Pd) (hz : f.da.size ≤ 140737488355328) (E : Int) (hE : pdE f = E) : Calls Try.prog 16 #[.agg (pdC f)] w fun e w' => e = .returned (.tuple #[.string (pdS f), .int .i64 E]) ∧ Below w.heap.size w w' := by
  have := pdBytes_any w f hz
  rw [hE] at this
  exact this
theorem sum_ex (w : World) (s : ByteArray) (hs : s.size ≤ 1000) (K : Nat) (hK : sumT s.data.toList = K) : Calls Try.prog 18 #[.string s] w fun e w' => e = .returned (.int .i64 (K : Int)) ∧ Below w.heap.size w w' := by
  have := Sum_any w s (by omega)
  rw [hK] at this
  exact this
theorem pdat_kept {w : World} {n m k : Nat} {v : Value} {f : Pd} (h : PdAt w m f) (hn : m ≠ n) : PdAt (w.setCell ⟨n, k, none⟩ v) m f := h.kept (Below.heap_setCell _ _ _ _ hn)
theorem PdAt.poke {w : World} {n : Nat} {f : Pd} (h : PdAt w n f) {i : Nat} (hi : i < 14) {v : Value} (f' : Pd) (he : (pdC f).setIfInBounds i v = pdC f') : PdAt (w.setCell ⟨n, i, none⟩ v) n f' := (set_cells h v (i := i) hi).trans (by rw [he])
theorem grow_more {w W1 W : World} {F : List (Nat × Obj)} {g : Nat} {lim : Int} {L : List Da} (h : JoS w W1 F g lim L) (b : Below W1.heap.size W1 W) {n : Nat} {o : Obj} (hn : W1.heap.size ≤ n) (ho : W.heap[n]? = some o) : JoS w W ((n, o) :: F) g lim L := by
  obtain ⟨v, l, h1, h2, h3, h4, h5⟩ := h
  refine ⟨v, l, h1.grow b, h2, h3.trans (b.mono h3.size), h4, fun p hp => ?_⟩
  rcases List.mem_cons.1 hp with rfl | hp
  · exact ⟨ho, fun e => by have := h1.inn e; have e2 : n < W1.heap.size := this; omega⟩
  · exact ⟨(b.block p.1 (blk_lt (h5 p hp).1)).trans (h5 p hp).1, (h5 p hp).2⟩

set_option maxRecDepth 100000 in
set_option maxHeartbeats 8000000 in
theorem walk (w : World) :
    Calls Try.prog 3 #[] w fun e w' => e = .returned (.bool true) ∧ Below w.heap.size w w' := by
  have HP1 := Lib.hid (show putA exA [] = (pdZ, false, (putA exA []).2.2) from Prod.ext ko1 (Prod.ext ko2 rfl))
  have HP2 := Lib.hid (show putA exB (putA exA []).2.2 = (exW, true, []) from Prod.ext ko3 (Prod.ext ko4 ko5))
  have HF1 := Lib.hid (putA_fine exA (n := 0) (L := []) (by decide) (fun x hx => (by cases hx)))
  generalize (putA exA []).2.2 = L1 at HP1 HP2 HF1
  go_enter Try.func3, Try.ntmps3
  go_wp2_with fail
  refine (newS (F := []) (Below.refl _ _) (fun p hp => (by cases hp)) 5 (by decide) (by decide)).mono ?_
  rintro e w1 ⟨g, rfl, hJ⟩
  have J1 := Lib.hid hJ
  clear hJ
  go_upto_region 2 with fail
  go_wp2_with fail
  refine (exampleD _).mono ?_
  rintro e w2 ⟨rfl, b2⟩
  have J2 := Lib.hid (J1.out.grow b2)
  clear b2 J1
  go_wp2_with fail
  refine (exampleD _).mono ?_
  rintro e w3 ⟨rfl, b3⟩
  have J3 := Lib.hid (J2.out.grow b3)
  clear b3 J2
  have RM3 := (pdroom_new w3 _ #[.int .i64 0, .int .u8 0, .int .u8 0, .int .u8 0, .int .u8 0, .int .u8 0, .int .u8 0, .int .u8 0, .int .u8 0, .int .i64 0, .int .i64 0, .int .i64 0, .bool false, .string ⟨#[]⟩] rfl rfl).grow ((Below.refl _ _).alloc (Nat.le_refl _) (.cells #[.int .i64 0, .int .u8 0, .int .u8 0, .int .u8 0, .int .u8 0, .int .u8 0, .int .u8 0, .int .u8 0, .int .u8 0, .int .i64 0, .int .i64 0, .int .i64 0, .bool false, .string ⟨#[]⟩] 29))
  have RM4 : PdRoom ((w3.alloc (.cells #[.int .i64 0, .int .u8 0, .int .u8 0, .int .u8 0, .int .u8 0, .int .u8 0, .int .u8 0, .int .u8 0, .int .u8 0, .int .i64 0, .int .i64 0, .int .i64 0, .bool false, .string ⟨#[]⟩] 29)).alloc (.cells #[.int .i64 0, .int .u8 0, .int .u8 0, .int .u8 0, .int .u8 0, .int .u8 0, .int .u8 0, .int .u8 0, .int .u8 0, .int .i64 0, .int .i64 0, .int .i64 0, .bool false, .string ⟨#[]⟩] 29)) (w3.heap.size + 1) := pdroom_new _ _ _ rfl (by simp)
  have BB0 : Below w3.heap.size w3 ((w3.alloc (.cells #[.int .i64 0, .int .u8 0, .int .u8 0, .int .u8 0, .int .u8 0, .int .u8 0, .int .u8 0, .int .u8 0, .int .u8 0, .int .i64 0, .int .i64 0, .int .i64 0, .bool false, .string ⟨#[]⟩] 29)).alloc (.cells #[.int .i64 0, .int .u8 0, .int .u8 0, .int .u8 0, .int .u8 0, .int .u8 0, .int .u8 0, .int .u8 0, .int .u8 0, .int .i64 0, .int .i64 0, .int .i64 0, .bool false, .string ⟨#[]⟩] 29)) := ((Below.refl _ _).alloc (Nat.le_refl _) _).alloc (by simp) _
  obtain ⟨hst3, P3⟩ := RM3.put exD
  have RM5 := RM4.kept (setRow_other _ w3.heap.size (w3.heap.size + 1) (pdC exD) (by omega))
  obtain ⟨hst4, P4⟩ := RM5.put exD
  have P3b := P3.kept (setRow_other _ (w3.heap.size + 1) w3.heap.size (pdC exD) (by omega))
  have BB1 := below_setRow (below_setRow (Lib.hid BB0).out (Nat.le_refl _) (pdC exD)) (show w3.heap.size ≤ w3.heap.size + 1 by omega) (pdC exD)
  have BB := Lib.hid BB1
  have P3 := Lib.hid P3b
  have P4 := Lib.hid P4
  clear RM3 RM4 RM5 BB0 BB1 P3b
  go_upto_region 3 with (first | (refine wpList_storeW 29 (.tmp 3) (.tmp 23) rfl rfl (.agg (pdC exD)) w3.heap.size rfl rfl hst3 ?_) | (refine wpList_storeW 29 (.tmp 4) (.tmp 24) rfl rfl (.agg (pdC exD)) (w3.heap.size + 1) rfl rfl hst4 ?_))
  try simp only [Act.put]
  clear hst3 hst4
  generalize World.setRow _ _ _ = W4 at P3 P4 BB ⊢
  obtain ⟨n4, hn4⟩ : ∃ n, n = w3.heap.size + 1 := ⟨_, rfl⟩
  obtain ⟨n3, hn3⟩ : ∃ n, n = w3.heap.size := ⟨_, rfl⟩
  rw [← hn3] at P3
  rw [← hn4] at P4
  rw [← hn4, ← hn3]
  have HN3 : Hid (w3.heap.size ≤ n3) := Lib.hid (by omega)
  have HN4 : Hid (w3.heap.size ≤ n4) := Lib.hid (by omega)
  have HNE : Hid (n3 ≠ n4) := Lib.hid (by omega)
  clear hn3 hn4
  have c1 := P3.out.ps
  have f1 := P3.out.free 11
  go_upto_region 4 with fail
  have P3a := Lib.hid (PdAt.poke P3.out (i := 11) (v := .int .i64 8) (by decide) (exA0) rfl)
  have P4a := Lib.hid (pdat_kept (k := 11) (v := .int .i64 8) P4.out HNE.out.symm)
  have BB : Hid (Below w3.heap.size w3 (W4.setCell ⟨n3, 11, none⟩ (.int .i64 8))) := Lib.hid (BB.out.setCell HN3.out _)
  clear c1 f1
  generalize World.setCell _ _ _ = W5 at P3a BB P4a ⊢
  try clear P3 P4
  have c1 := P3a.out.da
  have f1 := P3a.out.free 13
  go_upto_region 5 with fail
  have P3c := Lib.hid (PdAt.poke P3a.out (i := 13) (v := .string ⟨#[98, 101, 104, 105, 110, 100, 32, 56]⟩) (by decide) (exA) rfl)
  have P4c := Lib.hid (pdat_kept (k := 13) (v := .string ⟨#[98, 101, 104, 105, 110, 100, 32, 56]⟩) P4a.out HNE.out.symm)
  have BB : Hid (Below w3.heap.size w3 (W5.setCell ⟨n3, 13, none⟩ (.string ⟨#[98, 101, 104, 105, 110, 100, 32, 56]⟩))) := Lib.hid (BB.out.setCell HN3.out _)
  clear c1 f1
  generalize World.setCell _ _ _ = W6 at P3c BB P4c ⊢
  try clear P3a P4a
  have c1 := P4c.out.mo
  have f1 := P4c.out.free 12
  go_upto_region 6 with fail
  have P4d := Lib.hid (PdAt.poke P4c.out (i := 12) (v := .bool true) (by decide) (exB0) rfl)
  have P3d := Lib.hid (pdat_kept (k := 12) (v := .bool true) P3c.out HNE.out)
  have BB : Hid (Below w3.heap.size w3 (W6.setCell ⟨n4, 12, none⟩ (.bool true))) := Lib.hid (BB.out.setCell HN4.out _)
  clear c1 f1
  generalize World.setCell _ _ _ = W7 at P4d BB P3d ⊢
  try clear P4c P3c
  have c1 := P4d.out.da
  have f1 := P4d.out.free 13
  go_upto_region 7 with fail
  have P4e := Lib.hid (PdAt.poke P4d.out (i := 13) (v := .string ⟨#[97, 104, 101, 97, 100, 32, 56, 46]⟩) (by decide) (exB) rfl)
  have P3e := Lib.hid (pdat_kept (k := 13) (v := .string ⟨#[97, 104, 101, 97, 100, 32, 56, 46]⟩) P3d.out HNE.out)
  have BB : Hid (Below w3.heap.size w3 (W7.setCell ⟨n4, 13, none⟩ (.string ⟨#[97, 104, 101, 97, 100, 32, 56, 46]⟩))) := Lib.hid (BB.out.setCell HN4.out _)
  clear c1 f1
  generalize World.setCell _ _ _ = W8 at P4e BB P3e ⊢
  try clear P4d P3d
  have J8 := Lib.hid (grow_more J3.out BB.out HN4.out P4e.out)
  clear J3 BB P4e HN3 HN4 HNE
  have hp := P3e.out
  go_wp2_with (refine pd_ld (by rfl) _ rfl n3 rfl _ hp ?_)
  refine (putS J8.out (by decide) (fun x hx => (by cases hx)) exA (by decide) pdZ false L1 HP1.out).mono ?_
  rintro e w9 ⟨rfl, hJ9⟩
  have J9 := Lib.hid (hJ9.grow ((Below.refl w9.heap.size w9).alloc (Nat.le_refl _) (.cells (pdC pdZ) 29)))
  have hst := pd_storeZ w9 pdZ
  clear hJ9 J8 hp P3e
  go_upto_region 8 with (refine wpList_storeW 29 (.tmp 5) (.tmp 33) rfl rfl (.agg (pdC pdZ)) w9.heap.size rfl rfl hst ?_)
  try simp only [Act.put]
  generalize w9.alloc _ = W10 at J9 ⊢
  clear hst
  have hp : PdAt W10 n4 exB := J9.out.get (.head _)
  go_wp2_with (refine pd_ld (by rfl) _ rfl n4 rfl _ hp ?_)
  refine (putS J9.out HF1.out.1 (HF1.out.2.mono (by decide)) exB (by decide) exW true [] HP2.out).mono ?_
  rintro e w11 ⟨rfl, hJ11⟩
  have bal := (Below.refl w11.heap.size w11).alloc (Nat.le_refl _) (.cells (pdC exW) 29)
  have J11 := Lib.hid (hJ11.grow bal)
  have P7 : Hid (PdAt (w11.alloc (.cells (pdC exW) 29)) w11.heap.size exW) := Lib.hid (pd_new _ _ _ rfl)
  have hst := pd_storeZ w11 exW
  clear hJ11 J9 hp bal
  go_upto_region 9 with (refine wpList_storeW 29 (.tmp 7) (.tmp 39) rfl rfl (.agg (pdC exW)) w11.heap.size rfl rfl hst ?_)
  try simp only [Act.put]
  obtain ⟨n7, hn7⟩ : ∃ n, n = w11.heap.size := ⟨_, rfl⟩
  generalize w11.alloc _ = W12 at J11 P7 ⊢
  rw [← hn7] at P7 ⊢
  clear hst hn7
  go_wp2_with fail
  refine (exampleD _).mono ?_
  rintro e w13 ⟨rfl, b13⟩
  have J13 := Lib.hid (J11.out.grow b13)
  have P7b := Lib.hid (P7.out.grow b13)
  clear b13 J11 P7
  have P9 : Hid (PdAt (w13.alloc (.cells (pdC exD) 29)) w13.heap.size exD) := Lib.hid (pd_new _ _ _ rfl)
  have BB := Lib.hid ((Below.refl w13.heap.size w13).alloc (Nat.le_refl _) (.cells (pdC exD) 29))
  have hst := pd_storeZ w13 exD
  go_upto_region 10 with (refine wpList_storeW 29 (.tmp 9) (.tmp 41) rfl rfl (.agg (pdC exD)) w13.heap.size rfl rfl hst ?_)
  try simp only [Act.put]
  obtain ⟨n9, hn9⟩ : ∃ n, n = w13.heap.size := ⟨_, rfl⟩
  have HN9 : Hid (w13.heap.size ≤ n9) := Lib.hid (by omega)
  generalize w13.alloc _ = W14 at P9 BB ⊢
  rw [← hn9] at P9 ⊢
  clear hst hn9
  have c1 := P9.out.da
  have f1 := P9.out.free 13
  go_upto_region 11 with fail
  have P9a := Lib.hid (PdAt.poke P9.out (i := 13) (v := .string ⟨#[97, 104, 101, 97, 100, 32, 56, 46, 98, 101, 104, 105, 110, 100, 32, 56]⟩) (by decide) (exW) rfl)
  have BB : Hid (Below w13.heap.size w13 (W14.setCell ⟨n9, 13, none⟩ (.string ⟨#[97, 104, 101, 97, 100, 32, 56, 46, 98, 101, 104, 105, 110, 100, 32, 56]⟩))) := Lib.hid (BB.out.setCell HN9.out _)
  clear c1 f1
  generalize World.setCell _ _ _ = W15 at P9a BB ⊢
  try clear P9
  have J15 := Lib.hid (J13.out.grow BB.out)
  have P7c := Lib.hid (P7b.out.grow BB.out)
  clear J13 P7b BB HN9
  go_wp2_with fail
  refine (exampleD _).mono ?_
  rintro e w16 ⟨rfl, b16⟩
  have J16 := Lib.hid (J15.out.grow b16)
  have P7d := Lib.hid (P7c.out.grow b16)
  have P9d := Lib.hid (P9a.out.grow b16)
  clear b16 J15 P7c P9a
  have P10 : Hid (PdAt (w16.alloc (.cells (pdC exD) 29)) w16.heap.size exD) := Lib.hid (pd_new _ _ _ rfl)
  have BB := Lib.hid ((Below.refl w16.heap.size w16).alloc (Nat.le_refl _) (.cells (pdC exD) 29))
  have hst := pd_storeZ w16 exD
  go_upto_region 12 with (refine wpList_storeW 29 (.tmp 10) (.tmp 43) rfl rfl (.agg (pdC exD)) w16.heap.size rfl rfl hst ?_)
  try simp only [Act.put]
  obtain ⟨n10, hn10⟩ : ∃ n, n = w16.heap.size := ⟨_, rfl⟩
  have HN10 : Hid (w16.heap.size ≤ n10) := Lib.hid (by omega)
  generalize w16.alloc _ = W17 at P10 BB ⊢
  rw [← hn10] at P10 ⊢
  clear hst hn10
  go_wp2_with fail
  refine (rep_any 567 _ (by decide)).mono ?_
  rintro e wr567 ⟨X567, rfl, hX567, br⟩
  have PR := Lib.hid (P10.out.grow br)
  have BR := bstep BB br
  clear br BB P10
  have c1 := PR.out.da
  have f1 := PR.out.free 13
  go_upto_region 13 with fail
  have PS := Lib.hid (PdAt.poke PR.out (i := 13) (v := .string X567) (by decide) (exL X567) rfl)
  have BS : Hid (Below w16.heap.size w16 (wr567.setCell ⟨n10, 13, none⟩ (.string X567))) := Lib.hid (BR.out.setCell HN10.out _)
  clear c1 f1 PR BR
  generalize World.setCell _ _ _ = W18 at PS BS ⊢
  have hp := PS.out
  go_wp2_with (refine pd_ld (by rfl) _ rfl n10 rfl _ hp ?_)
  refine (bytes_at _ (exL X567) (by show X567.size ≤ _; omega) 3 (pdE_L1 X567 hX567)).mono ?_
  rintro e wb567 ⟨rfl, bb⟩
  have PT := Lib.hid (PS.out.grow bb)
  have BB := bstep BS bb
  clear bb BS PS hp
  go_upto_region 14 with fail
  have P10 := PT
  clear PT
  go_wp2_with fail
  refine (rep_any 566 _ (by decide)).mono ?_
  rintro e wr566 ⟨X566, rfl, hX566, br⟩
  have PR := Lib.hid (P10.out.grow br)
  have BR := bstep BB br
  clear br BB P10
  have c1 := PR.out.da
  have f1 := PR.out.free 13
  go_upto_region 15 with fail
  have PS := Lib.hid (PdAt.poke PR.out (i := 13) (v := .string X566) (by decide) (exL X566) rfl)
  have BS : Hid (Below w16.heap.size w16 (wr566.setCell ⟨n10, 13, none⟩ (.string X566))) := Lib.hid (BR.out.setCell HN10.out _)
  clear c1 f1 PR BR
  generalize World.setCell _ _ _ = W19 at PS BS ⊢
  have hp := PS.out
  go_wp2_with (refine pd_ld (by rfl) _ rfl n10 rfl _ hp ?_)
  refine (bytes_at _ (exL X566) (by show X566.size ≤ _; omega) 0 (pdE_L2 X566 hX566)).mono ?_
  rintro e wb566 ⟨rfl, bb⟩
  have PT := Lib.hid (PS.out.grow bb)
  have BB := bstep BS bb
  clear bb BS PS hp
  go_upto_region 16 with fail
  have c1 := PT.out.ps
  have f1 := PT.out.free 11
  go_upto_region 17 with fail
  have PS := Lib.hid (PdAt.poke PT.out (i := 11) (v := .int .i64 65528) (by decide) (exH X566) rfl)
  have BS : Hid (Below w16.heap.size w16 (wb566.setCell ⟨n10, 11, none⟩ (.int .i64 65528))) := Lib.hid (BB.out.setCell HN10.out _)
  clear c1 f1 PT BB
  generalize World.setCell _ _ _ = W20 at PS BS ⊢
  have hp := PS.out
  go_wp2_with (refine pd_ld (by rfl) _ rfl n10 rfl _ hp ?_)
  refine (bytes_at _ (exH X566) (by show X566.size ≤ _; omega) 1 (pdE_H X566 hX566)).mono ?_
  rintro e w21 ⟨rfl, bb⟩
  have BB := bstep BS bb
  clear bb BS PS hp
  go_upto_region 18 with fail
  go_wp2_with fail
  refine (jnew_bad _ 0 (.inl (by decide))).mono ?_
  rintro e w22 ⟨rfl, rfl⟩
  have J22 := Lib.hid (J16.out.grow BB.out)
  have P7 := Lib.hid (P7d.out.grow BB.out)
  have P9 := Lib.hid (P9d.out.grow BB.out)
  clear BB J16 P7d P9d HN10
  go_upto_region 19 with fail
  have hq := eqld exW exW exW_ok exW_ok true (decide_eq_true rfl)
  have k1 := Lib.hid (fun w => sum_ex w ⟨#[69, 0, 0, 28]⟩ (by decide) 47843 (by decide +kernel))
  have k2 := Lib.hid (fun w => sum_ex w ⟨#[1]⟩ (by decide) 65279 (by decide +kernel))
  have k3 := Lib.hid (fun w => sum_ex w ⟨#[]⟩ (by decide) 65535 (by decide +kernel))
  go_wp2_with fail
  refine (awakeD _).mono ?_
  rintro e w23 ⟨rfl, b23⟩
  have J23 := Lib.hid (J22.out.grow b23)
  have P7a := Lib.hid (P7.out.grow b23)
  have P9a := Lib.hid (P9.out.grow b23)
  clear b23 J22 P7 P9
  go_wp2_with fail
  refine (k1.out _).mono ?_
  rintro e w24 ⟨rfl, b24⟩
  have J24 := Lib.hid (J23.out.grow b24)
  have P7b := Lib.hid (P7a.out.grow b24)
  have P9b := Lib.hid (P9a.out.grow b24)
  clear b24 J23 P7a P9a
  go_wp2_with fail
  refine (k2.out _).mono ?_
  rintro e w25 ⟨rfl, b25⟩
  have J25 := Lib.hid (J24.out.grow b25)
  have P7c := Lib.hid (P7b.out.grow b25)
  have P9c := Lib.hid (P9b.out.grow b25)
  clear b25 J24 P7b P9b
  go_wp2_with fail
  refine (k3.out _).mono ?_
  rintro e w26 ⟨rfl, b26⟩
  have J26 := Lib.hid (J25.out.grow b26)
  have P7d := Lib.hid (P7c.out.grow b26)
  have P9d := Lib.hid (P9c.out.grow b26)
  clear b26 J25 P7c P9c
  have ha := P7d.out
  have hb := P9d.out
  go_wp2_with (first | (refine pd_ld (by rfl) _ rfl n7 rfl _ ha ?_) | (refine pd_ld (by rfl) _ rfl n9 rfl _ hb ?_) | (refine pd_eq (by rfl) _ _ _ rfl exW exW rfl rfl true hq ?_))
  refine (lenS J26.out (by decide)).mono ?_
  rintro e w27 ⟨rfl, rfl⟩
  go_wp2_with fail
  go_ret
  exact ⟨rfl, J26.out.bl⟩

set_option maxRecDepth 100000 in
theorem lifted (os : Os) (started : os.Started) (H : Type) (enc : TypeId × Value → H) :
    ReturnsInHanded {} Try.checked os 3 .any (Rows.ipv4KnownSpec.pre6 enc Try.prog Try.f3 Rows.ipv4KnownRow.domain false) (Rows.ipv4KnownSpec.post enc Try.prog Try.f3 false true false false) := by
  refine returnsInHanded_of_change (C := Try.checked) own started (by kernel_rfl) Try.func3
    (ChangeSpec.witness6 (enc := enc) (C := Try.checked) false ⟨#[], #[], []⟩ 8 (by kernel_rfl) (by kernel_rfl) (by kernel_rfl) (by kernel_rfl)) ?_
  intro W base args ds gs before hval0 hW hcnd _
  have hval : ∀ (j : Nat) t v, Try.f3.params[j]? = some t → args[j]? = some v → Value.okWide Try.prog W .any base t v := hval0
  have hW' := hW
  obtain ⟨p, q, hA0, hV, rfl, hfz, hnd⟩ := hW
  have hA : DataW.TrodAll enc Try.prog W 0 (fun _ => true) true Try.f3.params.toList args.toList ds p := hA0
  rw [Try.params3] at hA hval
  obtain ⟨rfl, rfl, rfl⟩ := trodAll_none hA
  obtain ⟨rfl, rfl⟩ := trodVars_none hV
  clear hA0 hval0
  refine (walk W).mono fun e W' ⟨he, bel⟩ => ?_
  subst he
  exact ⟨_, rfl, _, _, _, [], _, [], hW', trodAll_mk1 (shut_bool Try.underlying4 _), trodAll_mk0, rfl, bel.frame _, fun h => by cases h⟩

/-- THE STATEMENT. -/
theorem proved : Rows.Ipv4KnownSaid :=
  OpenClaim.holds_of_wide 3 Try.f3 rfl rfl rfl rfl rfl rfl rfl ⟨rfl, rfl, rfl, rfl, rfl⟩ rfl rfl rfl rfl rfl (by kernel_rfl) Try.func3 (by kernel_rfl)
    (of_decide_eq_true (by kernel_rfl)) (by unfold Func.isWrapper; first | (rw [if_pos (by decide +kernel)]; kernel_rfl) | (rw [if_neg (by decide +kernel)]; exact ⟨rfl, rfl⟩))
    (fun os started H enc _ => lifted os started H enc)
#print axioms proved

end Go.Proofs.Ytdckjliocgnbgaa.iko
