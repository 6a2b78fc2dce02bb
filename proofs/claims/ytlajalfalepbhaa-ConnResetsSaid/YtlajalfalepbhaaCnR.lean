/-
  Layer 15: an acknowledgement, a first segment, one that asks, one that ends it; what is refused. Conditions: as said.
-/
import Derived.Test.YtlajalfalepbhaaCnC
namespace Go.Proofs.Ytlajalfalepbhaa
open Go.RowKit
set_option linter.unusedVariables false

section
variable {w0 w w' : World} {fx : List (Nat × Obj)} {q : Bq} {v v' : Cn}
/-- An acknowledgement, a first segment, one that asks, one that ends it. -/
theorem horR0 : bits .or .i64 0 16 = 16 := by kernel_rfl
theorem horR1 : bits .or .i64 1 16 = 17 := by kernel_rfl
theorem horR2 : bits .or .i64 2 16 = 18 := by kernel_rfl
theorem horR4 : bits .or .i64 4 16 = 20 := by kernel_rfl
theorem horR8 : bits .or .i64 8 16 = 24 := by kernel_rfl
set_option maxRecDepth 100000 in
set_option maxHeartbeats 2000000 in
theorem refuse_ok (h : CB w0 fx q v w) (s : Sg) (hs : v.sent.length ≤ 100000000) :
    Calls Try.prog 44 #[.pointer (some ⟨q.c, 0, none⟩), .agg (sgC s)] w fun e w' => e = .returned (.tuple #[]) ∧ CB w0 fx q (refuseV v s) w' := by
  have HH := Lib.hid h
  have HS := Lib.hid hs
  clear h hs
  go_enter Try.func44, Try.ntmps44
  go_upto_region 1 with fail
  have FA : Hid (SgAt (w.alloc (.cells (sgC s) 28)) w.heap.size s) := Lib.hid (sg_new w _ s rfl)
  have BL : Hid (Below w.heap.size w (w.alloc (.cells (sgC s) 28))) := Lib.hid ((Below.refl _ _).alloc (Nat.le_refl _) _)
  obtain ⟨n, hn⟩ : ∃ n, n = w.heap.size := ⟨_, rfl⟩
  rw [← hn] at FA
  generalize w.alloc _ = W7 at FA BL ⊢
  simp only [← hn]
  clear hn
  have H7 := Lib.hid (HH.out.grow BL.out)
  have b3 := FA.out.ak
  have c0 := H7.out.c 0 (.int .i64 v.fr) (fun _ => rfl)
  have c1 := H7.out.c 1 (.int .i64 v.dt) (fun _ => rfl)
  obtain ⟨sl, m, hsl⟩ := H7.out.ex
  obtain ⟨p, c, rfl⟩ := m.row.shape
  have M := Lib.hid m
  have SL := Lib.hid hsl
  have c26 : W7.cell? ⟨q.c, 26, none⟩ = some (.slice p v.sent.length c) := by rw [cell_of_block M.out.at_]; rfl
  clear m hsl
  have BA : Hid (Below W7.heap.size W7 ((W7.alloc (.cells #[.int .i64 v.fr, .int .i64 v.dt, .int .u32 s.ak, .int .u32 0, .int .i64 4, .int .i64 0, .int .i64 0, .string ⟨#[]⟩] 28)).drew)) := Lib.hid (((Below.refl _ _).alloc (Nat.le_refl _) _).drew)
  have HRW : Hid (RowA 8 sgE 28 ((W7.alloc (.cells #[.int .i64 v.fr, .int .i64 v.dt, .int .u32 s.ak, .int .u32 0, .int .i64 4, .int .i64 0, .int .i64 0, .string ⟨#[]⟩] 28)).drew) (.slice p v.sent.length c) v.sent) := Lib.hid (M.out.row.kept BA.out.size (fun b hb => BA.out.block _ (M.out.lts b (.inr hb))))
  have HNW : Hid (∀ (j : Nat) (u : Value), (sgE ⟨v.fr, v.dt, s.ak, 0, 4, 0, 0, ⟨#[]⟩⟩)[j]? = some u → ((W7.alloc (.cells #[.int .i64 v.fr, .int .i64 v.dt, .int .u32 s.ak, .int .u32 0, .int .i64 4, .int .i64 0, .int .i64 0, .string ⟨#[]⟩] 28)).drew).cell? ((⟨W7.heap.size, 0, none⟩ : Addr).add j) = some u) := Lib.hid (sgC_new W7.drew ⟨v.fr, v.dt, s.ak, 0, 4, 0, 0, ⟨#[]⟩⟩)
  have hl := HS.out
  have c26b : (W7.alloc (.cells #[.int .i64 v.fr, .int .i64 v.dt, .int .u32 s.ak, .int .u32 0, .int .i64 4, .int .i64 0, .int .i64 0, .string ⟨#[]⟩] 28)).cell? ⟨q.c, 26, none⟩ = some (.slice p v.sent.length c) := (((Below.refl W7.heap.size W7).alloc (Nat.le_refl _) _).cell (p := ⟨q.c, 26, none⟩) H7.out.lt).trans c26
  go_region_law (refine step_append_sg rfl (.tmp 8) (.tmp 20) rfl (.slice p v.sent.length c) v.sent rfl HRW.out hl ⟨W7.heap.size, 0, none⟩ 1 ⟨v.fr, v.dt, s.ak, 0, 4, 0, 0, ⟨#[]⟩⟩ rfl HNW.out ?_; intro v' w2 hrow hgr hbl; obtain ⟨p', c', hv'⟩ := RowA.shape hrow; subst hv'; have A1 := CB.app H7.out M.out SL.out BA.out _ hgr hrow hbl; have k1 := A1.1; have k2 := A1.2.1; have A2 := Lib.hid A1.2.2; clear A1 hrow hgr hbl)
  all_goals
    go_wp2_with fail
    go_end0
    have A3 := A2.out
    simp only [List.length_append, List.length_cons, List.length_nil, Nat.zero_add] at A3
    exact ⟨rfl, A3⟩
end
end Go.Proofs.Ytlajalfalepbhaa
