/-
  Layer 10: the document's own bytes of a segment. Conditions: a segment's numbers are numbers of their kind, its data has at most 2^47 bytes.
-/
import Derived.Test.YtbjoibgkhooljaaSgF
namespace Go.Proofs.Ytbjoibgkhooljaa
open Go.RowKit Go.Sort
set_option linter.unusedVariables false

theorem wpList_append_bytes {ops : Array Oper} {rest : List Oper} {o : Oper} {a : Act} {w : World} {Q : Exit → Act → World → Prop} (hg : o.guard = none) (s x : Operand)
    (hop : o.op = Op.call { callee := Callee.builtin Builtin.append, args := #[s, x], argTypes := #[61, 61] })
    (base : Nat) (v : Value) (l : List UInt8) (hs : a.eval s = v) (hown : ByRow w base v l) (ys : List UInt8) (b m : Nat) (c : Nat) (hm : ys.length = m) (hx : a.eval x = .slice (some ⟨b, 0, none⟩) m c) (hc : Holds eb w b 0 ys.toArray) (hl : l.length + m ≤ 100000) (hb : base ≤ w.heap.size)
    (hK : ∀ v' w', ByRow w' base v' (l ++ ys) → w.grownBy w' v.ownBlock → wpList Try.prog ops Q rest (a.put o.dst v') w') : wpList Try.prog ops Q (o :: rest) a w := by
  subst hm
  obtain ⟨i, z, h1, h2, h3, h4, h5⟩ := info_u8
  refine wpList_append_own _ hg s x 61 hop base 5 i z 1 1 Try.underlying61 h1 h2 h3 h4 h5 (by decide) v l.length (l.map eb) hs hown ⟨b, 0, none⟩ ys.length c (ys.map eb) hx (by simp) ?_ ?_ (by unfold maxLen; omega) (by omega) hb ?_
  · intro j u hu
    rw [List.getElem?_map] at hu
    cases hy : ys[j]? with
    | none => rw [hy] at hu; cases hu
    | some X =>
      rw [hy] at hu
      have ha : (⟨b, 0, none⟩ : Addr).add j = ⟨b, j, none⟩ := by unfold Addr.add; split <;> simp_all
      rw [ha]
      have := holds_get hc j X hy
      rw [Nat.zero_add] at this
      rw [this]
      exact hu
  · intro u hu
    obtain ⟨X, _, rfl⟩ := List.mem_map.1 hu
    rfl
  · intro v' w' g1 g2 _
    refine hK v' w' ?_ g2
    unfold ByRow
    rw [List.length_append, List.map_append]
    exact g1
/-- A segment, two addresses, and a row of bytes that is built beside them. -/
structure SgW (w W : World) (n m k : Nat) (f : Sg) (i j : Ip4) (v : Value) (l : List UInt8) : Prop where
  bx : SgBx W n m k f i j
  bl : Below w.heap.size w W
  lo : w.heap.size ≤ n ∧ n ≤ k ∧ m ≤ k
  row : ByRow W (k + 1) v l
section
variable {w W W' : World} {n m k : Nat} {f : Sg} {i j : Ip4} {v v' : Value} {l l' : List UInt8}
theorem SgW.grow (h : SgW w W n m k f i j v l) (b : Below W.heap.size W W') : SgW w W' n m k f i j v l :=
  ⟨h.bx.grow b, h.bl.trans (b.mono h.bl.size), h.lo, h.row.kept (row := none) ⟨b.os, b.tape, b.output, b.size, fun p hp _ => b.block p hp⟩ (by cases v.ownBlock <;> simp)⟩
theorem SgW.next (h : SgW w W n m k f i j v l) (h1 : ByRow W' (k + 1) v' l') (h2 : W.grownBy W' v.ownBlock) : SgW w W' n m k f i j v' l' := by
  have hk := h.bx.ja.lt
  have hb : ∀ p, p < k + 1 → W'.heap[p]? = W.heap[p]? := fun p hp => h2.block p (by omega) (fun e => by have := h.row.block e.symm; omega)
  have lo := h.lo
  refine ⟨⟨h.bx.sg.kept (hb n (by omega)), h.bx.ia.kept (hb m (by omega)), h.bx.ja.kept (hb k (by omega))⟩, ?_, h.lo, h1⟩
  exact h.bl.trans ⟨h2.os, h2.tape, h2.output, h2.size, fun p hp => hb p (by omega)⟩
theorem SgW.alloc (h : SgW w W n m k f i j v l) (o : Obj) : SgW w (W.alloc o) n m k f i j v l := h.grow ((Below.refl _ _).alloc (Nat.le_refl _) _)
theorem SgW.base (h : SgW w W n m k f i j v l) : k + 1 ≤ W.heap.size := h.bx.ja.lt
theorem sgw_start (h : SgBx W n m k f i j) (b : Below w.heap.size w W) (lo : w.heap.size ≤ n ∧ n ≤ k ∧ m ≤ k) (L : List UInt8) (hL : L.length ≤ 100) : SgW w (W.alloc (.cells (L.map eb).toArray 5)) n m k f i j (.slice (some ⟨W.heap.size, 0, none⟩) L.length L.length) L := by
  have hk := h.ja.lt
  refine ⟨h.grow ((Below.refl _ _).alloc (Nat.le_refl _) _), b.alloc b.size _, lo, ?_⟩
  unfold ByRow
  exact ⟨by simp, .inr ⟨W.heap.size, L.length, _, rfl, hk, heap_alloc_new _ _, Nat.le_refl _, by unfold maxLen; omega, by simp, by simp [List.take_of_length_le]⟩⟩
end

set_option maxRecDepth 100000 in
set_option maxHeartbeats 2000000 in
theorem rBytes10_arg (w : World) (f : Sg) (i j : Ip4) (h : maySg f = false) :
    Calls Try.prog 25 #[.agg (sgC f), .agg (ipC i), .agg (ipC j)] w fun e w' => e = .returned (.tuple #[.string ⟨#[]⟩, .int .i64 1]) ∧ Below w.heap.size w w' := by
  have k1 := Lib.hid (fun w => small10 w f.fr)
  have k2 := Lib.hid (fun w => small10 w f.dt)
  have k3 := Lib.hid (fun w => small10 w f.wi)
  have k4 := Lib.hid (fun w => small10 w f.ms)
  have hN : ¬ ((0 ≤ f.fr ∧ f.fr ≤ 65535) ∧ (0 ≤ f.dt ∧ f.dt ≤ 65535) ∧ (0 ≤ f.fl ∧ f.fl ≤ 31) ∧ (0 ≤ f.wi ∧ f.wi ≤ 65535) ∧ (0 ≤ f.ms ∧ f.ms ≤ 65535) ∧ (f.ms = 0 ∨ f.fl / 2 % 2 = 1)) := of_decide_eq_false h
  clear h
  by_cases h1 : 0 ≤ f.fr ∧ f.fr ≤ 65535
  case neg =>
    rw [decide_eq_false h1] at k1
    clear hN h1
    go_enter Try.func25, Try.ntmps25
    go_upto_region 1 with fail
    obtain ⟨n, m, k, hn, hm, hk, fa, bl⟩ := sgbx_new w f i j
    have LO : Hid (w.heap.size ≤ n ∧ n ≤ k ∧ m ≤ k) := Lib.hid (by omega)
    have FA := Lib.hid fa
    have BL := Lib.hid bl
    clear fa bl
    generalize World.alloc _ _ = W1 at FA BL ⊢
    try rw [hk]
    try rw [hm]
    try rw [hn]
    clear hn hm hk
    obtain ⟨c0, c1, c2, c3, c4, c5, c6, c7⟩ := FA.out.sg.all
    have hp := FA.out.sg
    go_wp2_with fail
    refine (k1.out _).mono ?_
    rintro e v1 ⟨rfl, rfl⟩
    go_wp2_with fail
    go_ret2
    exact ⟨rfl, BL.out⟩
  rw [decide_eq_true h1] at k1
  by_cases h2 : 0 ≤ f.dt ∧ f.dt ≤ 65535
  case neg =>
    rw [decide_eq_false h2] at k2
    clear hN h2
    go_enter Try.func25, Try.ntmps25
    go_upto_region 1 with fail
    obtain ⟨n, m, k, hn, hm, hk, fa, bl⟩ := sgbx_new w f i j
    have LO : Hid (w.heap.size ≤ n ∧ n ≤ k ∧ m ≤ k) := Lib.hid (by omega)
    have FA := Lib.hid fa
    have BL := Lib.hid bl
    clear fa bl
    generalize World.alloc _ _ = W1 at FA BL ⊢
    try rw [hk]
    try rw [hm]
    try rw [hn]
    clear hn hm hk
    obtain ⟨c0, c1, c2, c3, c4, c5, c6, c7⟩ := FA.out.sg.all
    have hp := FA.out.sg
    go_wp2_with fail
    refine (k1.out _).mono ?_
    rintro e v1 ⟨rfl, rfl⟩
    go_wp2_with fail
    refine (k2.out _).mono ?_
    rintro e v2 ⟨rfl, rfl⟩
    go_wp2_with fail
    go_ret2
    exact ⟨rfl, BL.out⟩
  rw [decide_eq_true h2] at k2
  by_cases h3 : 0 ≤ f.wi ∧ f.wi ≤ 65535
  case neg =>
    rw [decide_eq_false h3] at k3
    clear hN h3
    go_enter Try.func25, Try.ntmps25
    go_upto_region 1 with fail
    obtain ⟨n, m, k, hn, hm, hk, fa, bl⟩ := sgbx_new w f i j
    have LO : Hid (w.heap.size ≤ n ∧ n ≤ k ∧ m ≤ k) := Lib.hid (by omega)
    have FA := Lib.hid fa
    have BL := Lib.hid bl
    clear fa bl
    generalize World.alloc _ _ = W1 at FA BL ⊢
    try rw [hk]
    try rw [hm]
    try rw [hn]
    clear hn hm hk
    obtain ⟨c0, c1, c2, c3, c4, c5, c6, c7⟩ := FA.out.sg.all
    have hp := FA.out.sg
    go_wp2_with fail
    refine (k1.out _).mono ?_
    rintro e v1 ⟨rfl, rfl⟩
    go_wp2_with fail
    refine (k2.out _).mono ?_
    rintro e v2 ⟨rfl, rfl⟩
    go_wp2_with fail
    refine (k3.out _).mono ?_
    rintro e v3 ⟨rfl, rfl⟩
    go_wp2_with fail
    go_ret2
    exact ⟨rfl, BL.out⟩
  rw [decide_eq_true h3] at k3
  by_cases h4 : 0 ≤ f.ms ∧ f.ms ≤ 65535
  case neg =>
    rw [decide_eq_false h4] at k4
    clear hN h4
    go_enter Try.func25, Try.ntmps25
    go_upto_region 1 with fail
    obtain ⟨n, m, k, hn, hm, hk, fa, bl⟩ := sgbx_new w f i j
    have LO : Hid (w.heap.size ≤ n ∧ n ≤ k ∧ m ≤ k) := Lib.hid (by omega)
    have FA := Lib.hid fa
    have BL := Lib.hid bl
    clear fa bl
    generalize World.alloc _ _ = W1 at FA BL ⊢
    try rw [hk]
    try rw [hm]
    try rw [hn]
    clear hn hm hk
    obtain ⟨c0, c1, c2, c3, c4, c5, c6, c7⟩ := FA.out.sg.all
    have hp := FA.out.sg
    go_wp2_with fail
    refine (k1.out _).mono ?_
    rintro e v1 ⟨rfl, rfl⟩
    go_wp2_with fail
    refine (k2.out _).mono ?_
    rintro e v2 ⟨rfl, rfl⟩
    go_wp2_with fail
    refine (k3.out _).mono ?_
    rintro e v3 ⟨rfl, rfl⟩
    go_wp2_with fail
    refine (k4.out _).mono ?_
    rintro e v4 ⟨rfl, rfl⟩
    go_wp2_with fail
    go_ret2
    exact ⟨rfl, BL.out⟩
  rw [decide_eq_true h4] at k4
  by_cases h5 : f.fl < 0
  · have d5 : decide (f.fl < 0) = true := decide_eq_true h5
    clear hN
    go_enter Try.func25, Try.ntmps25
    go_upto_region 1 with fail
    obtain ⟨n, m, k, hn, hm, hk, fa, bl⟩ := sgbx_new w f i j
    have LO : Hid (w.heap.size ≤ n ∧ n ≤ k ∧ m ≤ k) := Lib.hid (by omega)
    have FA := Lib.hid fa
    have BL := Lib.hid bl
    clear fa bl
    generalize World.alloc _ _ = W1 at FA BL ⊢
    try rw [hk]
    try rw [hm]
    try rw [hn]
    clear hn hm hk
    obtain ⟨c0, c1, c2, c3, c4, c5, c6, c7⟩ := FA.out.sg.all
    have hp := FA.out.sg
    go_wp2_with fail
    refine (k1.out _).mono ?_
    rintro e v1 ⟨rfl, rfl⟩
    go_wp2_with fail
    refine (k2.out _).mono ?_
    rintro e v2 ⟨rfl, rfl⟩
    go_wp2_with fail
    refine (k3.out _).mono ?_
    rintro e v3 ⟨rfl, rfl⟩
    go_wp2_with fail
    refine (k4.out _).mono ?_
    rintro e v4 ⟨rfl, rfl⟩
    go_wp2_with fail
    go_ret2
    exact ⟨rfl, BL.out⟩
  have d5 : decide (f.fl < 0) = false := decide_eq_false h5
  by_cases h6 : 31 < f.fl
  · have d6 : decide (31 < f.fl) = true := decide_eq_true h6
    clear hN
    go_enter Try.func25, Try.ntmps25
    go_upto_region 1 with fail
    obtain ⟨n, m, k, hn, hm, hk, fa, bl⟩ := sgbx_new w f i j
    have LO : Hid (w.heap.size ≤ n ∧ n ≤ k ∧ m ≤ k) := Lib.hid (by omega)
    have FA := Lib.hid fa
    have BL := Lib.hid bl
    clear fa bl
    generalize World.alloc _ _ = W1 at FA BL ⊢
    try rw [hk]
    try rw [hm]
    try rw [hn]
    clear hn hm hk
    obtain ⟨c0, c1, c2, c3, c4, c5, c6, c7⟩ := FA.out.sg.all
    have hp := FA.out.sg
    go_wp2_with fail
    refine (k1.out _).mono ?_
    rintro e v1 ⟨rfl, rfl⟩
    go_wp2_with fail
    refine (k2.out _).mono ?_
    rintro e v2 ⟨rfl, rfl⟩
    go_wp2_with fail
    refine (k3.out _).mono ?_
    rintro e v3 ⟨rfl, rfl⟩
    go_wp2_with fail
    refine (k4.out _).mono ?_
    rintro e v4 ⟨rfl, rfl⟩
    go_wp2_with fail
    go_ret2
    exact ⟨rfl, BL.out⟩
  have d6 : decide (31 < f.fl) = false := decide_eq_false h6
  by_cases h7 : f.ms = 0
  · exact absurd ⟨h1, h2, ⟨by omega, by omega⟩, h3, h4, .inl h7⟩ hN
  by_cases h8 : f.fl / 2 % 2 = 1
  · exact absurd ⟨h1, h2, ⟨by omega, by omega⟩, h3, h4, .inr h8⟩ hN
  have d7 : decide (0 < f.ms) = true := decide_eq_true (by omega)
  have g7 : 0 < f.ms := by omega
  have kh := Lib.hid (fun w => has10 w f (by omega) (by omega) false (decide_eq_false h8).symm)
  clear hN h7 h8
  go_enter Try.func25, Try.ntmps25
  go_upto_region 1 with fail
  obtain ⟨n, m, k, hn, hm, hk, fa, bl⟩ := sgbx_new w f i j
  have LO : Hid (w.heap.size ≤ n ∧ n ≤ k ∧ m ≤ k) := Lib.hid (by omega)
  have FA := Lib.hid fa
  have BL := Lib.hid bl
  clear fa bl
  generalize World.alloc _ _ = W1 at FA BL ⊢
  try rw [hk]
  try rw [hm]
  try rw [hn]
  clear hn hm hk
  obtain ⟨c0, c1, c2, c3, c4, c5, c6, c7⟩ := FA.out.sg.all
  have hp := FA.out.sg
  go_wp2_with fail
  refine (k1.out _).mono ?_
  rintro e v1 ⟨rfl, rfl⟩
  go_wp2_with fail
  refine (k2.out _).mono ?_
  rintro e v2 ⟨rfl, rfl⟩
  go_wp2_with fail
  refine (k3.out _).mono ?_
  rintro e v3 ⟨rfl, rfl⟩
  go_wp2_with fail
  refine (k4.out _).mono ?_
  rintro e v4 ⟨rfl, rfl⟩
  go_wp2_with (refine sg_ld (by rfl) (.tmp 3) rfl n rfl _ hp ?_)
  refine (kh.out _).mono ?_
  rintro e v5 ⟨rfl, b5⟩
  have B5 := bstep BL b5
  go_wp2_with fail
  go_ret2
  exact ⟨rfl, B5.out⟩
set_option maxRecDepth 100000 in
set_option maxHeartbeats 2000000 in
theorem rBytes10_long0 (w : World) (f : Sg) (i j : Ip4) (h : maySg f = true) (hms :  f.ms = 0) (hl : 546 < opN f + f.da.size) (hz : f.da.size ≤ 140737488355328) :
    Calls Try.prog 25 #[.agg (sgC f), .agg (ipC i), .agg (ipC j)] w fun e w' => e = .returned (.tuple #[.string ⟨#[]⟩, .int .i64 3]) ∧ Below w.heap.size w w' := by
  obtain ⟨h1, h2, ⟨f0, f1⟩, h3, h4, h9⟩ := maySg_all h
  have k1 := Lib.hid (fun w => small10 w f.fr)
  rw [decide_eq_true h1] at k1
  have k2 := Lib.hid (fun w => small10 w f.dt)
  rw [decide_eq_true h2] at k2
  have k3 := Lib.hid (fun w => small10 w f.wi)
  rw [decide_eq_true h3] at k3
  have k4 := Lib.hid (fun w => small10 w f.ms)
  rw [decide_eq_true h4] at k4
  have h5 : ¬ f.fl < 0 := by omega
  have h6 : ¬ 31 < f.fl := by omega
  have d5 : decide (f.fl < 0) = false := decide_eq_false h5
  have d6 : decide (31 < f.fl) = false := decide_eq_false h6
  have d7 : decide (0 < f.ms) = false := decide_eq_false (by omega)
  have g7 : ¬ 0 < f.ms := by omega
  have g8 : opN f = 0 := by rw [opN, if_pos hms]
  have e1 : (546 : Int) < (f.da.size : Int) := by omega
  clear hl hms h9 g8
  go_enter Try.func25, Try.ntmps25
  go_upto_region 1 with fail
  obtain ⟨n, m, k, hn, hm, hk, fa, bl⟩ := sgbx_new w f i j
  have LO : Hid (w.heap.size ≤ n ∧ n ≤ k ∧ m ≤ k) := Lib.hid (by omega)
  have FA := Lib.hid fa
  have BL := Lib.hid bl
  clear fa bl
  generalize World.alloc _ _ = W1 at FA BL ⊢
  try rw [hk]
  try rw [hm]
  try rw [hn]
  clear hn hm hk
  obtain ⟨c0, c1, c2, c3, c4, c5, c6, c7⟩ := FA.out.sg.all
  have hp := FA.out.sg
  go_wp2_with fail
  refine (k1.out _).mono ?_
  rintro e v1 ⟨rfl, rfl⟩
  go_wp2_with fail
  refine (k2.out _).mono ?_
  rintro e v2 ⟨rfl, rfl⟩
  go_wp2_with fail
  refine (k3.out _).mono ?_
  rintro e v3 ⟨rfl, rfl⟩
  go_wp2_with fail
  refine (k4.out _).mono ?_
  rintro e v4 ⟨rfl, rfl⟩
  go_wp2_with fail
  go_ret2
  exact ⟨rfl, BL.out⟩
set_option maxRecDepth 100000 in
set_option maxHeartbeats 2000000 in
theorem rBytes10_long4 (w : World) (f : Sg) (i j : Ip4) (h : maySg f = true) (hms : ¬ f.ms = 0) (hl : 546 < opN f + f.da.size) (hz : f.da.size ≤ 140737488355328) :
    Calls Try.prog 25 #[.agg (sgC f), .agg (ipC i), .agg (ipC j)] w fun e w' => e = .returned (.tuple #[.string ⟨#[]⟩, .int .i64 3]) ∧ Below w.heap.size w w' := by
  obtain ⟨h1, h2, ⟨f0, f1⟩, h3, h4, h9⟩ := maySg_all h
  have k1 := Lib.hid (fun w => small10 w f.fr)
  rw [decide_eq_true h1] at k1
  have k2 := Lib.hid (fun w => small10 w f.dt)
  rw [decide_eq_true h2] at k2
  have k3 := Lib.hid (fun w => small10 w f.wi)
  rw [decide_eq_true h3] at k3
  have k4 := Lib.hid (fun w => small10 w f.ms)
  rw [decide_eq_true h4] at k4
  have h5 : ¬ f.fl < 0 := by omega
  have h6 : ¬ 31 < f.fl := by omega
  have d5 : decide (f.fl < 0) = false := decide_eq_false h5
  have d6 : decide (31 < f.fl) = false := decide_eq_false h6
  have d7 : decide (0 < f.ms) = true := decide_eq_true (by omega)
  have g7 : 0 < f.ms := by omega
  have g8 : opN f = 4 := by rw [opN, if_neg hms]
  have kh := Lib.hid (fun w => has10 w f f0 (by omega) true (decide_eq_true (h9.resolve_left hms)).symm)
  have wz : IntKind.i64.wrap ((f.da.size : Int) + 4) = (f.da.size : Int) + 4 := IntWalk.i64_in _ (by omega)
  have e1 : (546 : Int) < (f.da.size : Int) + 4 := by omega
  clear hl hms h9 g8
  go_enter Try.func25, Try.ntmps25
  go_upto_region 1 with fail
  obtain ⟨n, m, k, hn, hm, hk, fa, bl⟩ := sgbx_new w f i j
  have LO : Hid (w.heap.size ≤ n ∧ n ≤ k ∧ m ≤ k) := Lib.hid (by omega)
  have FA := Lib.hid fa
  have BL := Lib.hid bl
  clear fa bl
  generalize World.alloc _ _ = W1 at FA BL ⊢
  try rw [hk]
  try rw [hm]
  try rw [hn]
  clear hn hm hk
  obtain ⟨c0, c1, c2, c3, c4, c5, c6, c7⟩ := FA.out.sg.all
  have hp := FA.out.sg
  go_wp2_with fail
  refine (k1.out _).mono ?_
  rintro e v1 ⟨rfl, rfl⟩
  go_wp2_with fail
  refine (k2.out _).mono ?_
  rintro e v2 ⟨rfl, rfl⟩
  go_wp2_with fail
  refine (k3.out _).mono ?_
  rintro e v3 ⟨rfl, rfl⟩
  go_wp2_with fail
  refine (k4.out _).mono ?_
  rintro e v4 ⟨rfl, rfl⟩
  go_wp2_with (refine sg_ld (by rfl) (.tmp 3) rfl n rfl _ hp ?_)
  refine (kh.out _).mono ?_
  rintro e v5 ⟨rfl, b5⟩
  have F5 := Lib.hid (FA.out.grow b5)
  have B5 := bstep BL b5
  clear b5 c0 c1 c2 c3 c4 c5 c6 c7 hp FA BL
  have FA := F5
  have BL := B5
  clear F5 B5
  obtain ⟨c0, c1, c2, c3, c4, c5, c6, c7⟩ := FA.out.sg.all
  go_wp2_with fail
  go_ret2
  exact ⟨rfl, BL.out⟩
set_option maxRecDepth 100000 in
set_option maxHeartbeats 8000000 in
theorem rBytes10_yes0 (w : World) (f : Sg) (i j : Ip4) (hf : (0 ≤ f.sq ∧ f.sq < 4294967296) ∧ (0 ≤ f.ak ∧ f.ak < 4294967296)) (h : maySg f = true) (hms :  f.ms = 0) (hl : opN f + f.da.size ≤ 546) (HL : List UInt8) (hHL : HL = sgL i j f) :
    Calls Try.prog 25 #[.agg (sgC f), .agg (ipC i), .agg (ipC j)] w fun e w' => e = .returned (.tuple #[.string ⟨HL.toArray⟩, .int .i64 0]) ∧ Below w.heap.size w w' := by
  obtain ⟨h1, h2, ⟨f0, f1⟩, h3, h4, h9⟩ := maySg_all h
  have k1 := Lib.hid (fun w => small10 w f.fr)
  rw [decide_eq_true h1] at k1
  have k2 := Lib.hid (fun w => small10 w f.dt)
  rw [decide_eq_true h2] at k2
  have k3 := Lib.hid (fun w => small10 w f.wi)
  rw [decide_eq_true h3] at k3
  have k4 := Lib.hid (fun w => small10 w f.ms)
  rw [decide_eq_true h4] at k4
  have h5 : ¬ f.fl < 0 := by omega
  have h6 : ¬ 31 < f.fl := by omega
  have d5 : decide (f.fl < 0) = false := decide_eq_false h5
  have d6 : decide (31 < f.fl) = false := decide_eq_false h6
  have d7 : decide (0 < f.ms) = false := decide_eq_false (by omega)
  have g7 : ¬ 0 < f.ms := by omega
  have g8 : opN f = 0 := by rw [opN, if_pos hms]
  obtain ⟨⟨q0, q1⟩, ⟨p0, p1⟩⟩ := hf
  obtain ⟨FR, eFR⟩ := Int.eq_ofNat_of_zero_le (show 0 ≤ f.fr by omega)
  obtain ⟨DT, eDT⟩ := Int.eq_ofNat_of_zero_le (show 0 ≤ f.dt by omega)
  obtain ⟨FL, eFL⟩ := Int.eq_ofNat_of_zero_le (show 0 ≤ f.fl by omega)
  obtain ⟨WI, eWI⟩ := Int.eq_ofNat_of_zero_le (show 0 ≤ f.wi by omega)
  obtain ⟨MS, eMS⟩ := Int.eq_ofNat_of_zero_le (show 0 ≤ f.ms by omega)
  obtain ⟨SQ, eSQ⟩ := Int.eq_ofNat_of_zero_le (show 0 ≤ f.sq by omega)
  obtain ⟨AK, eAK⟩ := Int.eq_ofNat_of_zero_le (show 0 ≤ f.ak by omega)
  obtain ⟨A1, uA1⟩ : ∃ U, U = UInt8.ofNat (FR / 256) := ⟨_, rfl⟩
  have yA1 : IntKind.u8.wrap ((FR : Int) / 256) = (A1.toNat : Int) := by rw [uA1, u8_of _ (by omega)]; congr 1
  have zA1 : IntKind.i64.wrap ((FR : Int) / 256) = (FR : Int) / 256 := IntWalk.i64_in _ (by omega)
  obtain ⟨A2, uA2⟩ : ∃ U, U = UInt8.ofNat (FR % 256) := ⟨_, rfl⟩
  have yA2 : IntKind.u8.wrap ((FR : Int) % 256) = (A2.toNat : Int) := by rw [uA2, u8_of _ (by omega)]; congr 1
  obtain ⟨A3, uA3⟩ : ∃ U, U = UInt8.ofNat (DT / 256) := ⟨_, rfl⟩
  have yA3 : IntKind.u8.wrap ((DT : Int) / 256) = (A3.toNat : Int) := by rw [uA3, u8_of _ (by omega)]; congr 1
  have zA3 : IntKind.i64.wrap ((DT : Int) / 256) = (DT : Int) / 256 := IntWalk.i64_in _ (by omega)
  obtain ⟨A4, uA4⟩ : ∃ U, U = UInt8.ofNat (DT % 256) := ⟨_, rfl⟩
  have yA4 : IntKind.u8.wrap ((DT : Int) % 256) = (A4.toNat : Int) := by rw [uA4, u8_of _ (by omega)]; congr 1
  obtain ⟨A5, uA5⟩ : ∃ U, U = UInt8.ofNat (FL) := ⟨_, rfl⟩
  have yA5 : IntKind.u8.wrap ((FL : Int)) = (A5.toNat : Int) := by rw [uA5, u8_of _ (by omega)]; congr 1
  obtain ⟨A6, uA6⟩ : ∃ U, U = UInt8.ofNat (WI / 256) := ⟨_, rfl⟩
  have yA6 : IntKind.u8.wrap ((WI : Int) / 256) = (A6.toNat : Int) := by rw [uA6, u8_of _ (by omega)]; congr 1
  have zA6 : IntKind.i64.wrap ((WI : Int) / 256) = (WI : Int) / 256 := IntWalk.i64_in _ (by omega)
  obtain ⟨A7, uA7⟩ : ∃ U, U = UInt8.ofNat (WI % 256) := ⟨_, rfl⟩
  have yA7 : IntKind.u8.wrap ((WI : Int) % 256) = (A7.toNat : Int) := by rw [uA7, u8_of _ (by omega)]; congr 1
  obtain ⟨A8, uA8⟩ : ∃ U, U = UInt8.ofNat (MS / 256) := ⟨_, rfl⟩
  have yA8 : IntKind.u8.wrap ((MS : Int) / 256) = (A8.toNat : Int) := by rw [uA8, u8_of _ (by omega)]; congr 1
  have zA8 : IntKind.i64.wrap ((MS : Int) / 256) = (MS : Int) / 256 := IntWalk.i64_in _ (by omega)
  obtain ⟨A9, uA9⟩ : ∃ U, U = UInt8.ofNat (MS % 256) := ⟨_, rfl⟩
  have yA9 : IntKind.u8.wrap ((MS : Int) % 256) = (A9.toNat : Int) := by rw [uA9, u8_of _ (by omega)]; congr 1
  obtain ⟨L0, hL0⟩ : ∃ L, L = [A1, A2, A3, A4] := ⟨_, rfl⟩
  obtain ⟨Q4, hQ4⟩ : ∃ L, L = four SQ := ⟨_, rfl⟩
  obtain ⟨P4, hP4⟩ : ∃ L, L = four AK := ⟨_, rfl⟩
  obtain ⟨L1, hL1⟩ : ∃ L, L = L0 ++ Q4 := ⟨_, rfl⟩
  obtain ⟨L2, hL2⟩ : ∃ L, L = L1 ++ P4 := ⟨_, rfl⟩
  obtain ⟨L3, hL3⟩ : ∃ L, L = L2 ++ [80, A5, A6, A7, 0, 0, 0, 0] := ⟨_, rfl⟩
  obtain ⟨L4, hL4⟩ : ∃ L, L = L3 := ⟨_, rfl⟩
  obtain ⟨LL, hLL⟩ : ∃ L, L = L4 ++ f.da.data.toList := ⟨_, rfl⟩
  have l0 : L0.length = 4 := by rw [hL0]; rfl
  have lq : Q4.length = 4 := by rw [hQ4]; rfl
  have lp : P4.length = 4 := by rw [hP4]; rfl
  have l1 : L1.length = 8 := by rw [hL1, List.length_append, l0, lq]
  have l2 : L2.length = 12 := by rw [hL2, List.length_append, l1, lp]
  have l3 : L3.length = 20 := by rw [hL3, List.length_append, l2]; rfl
  have l4 : L4.length = 20 := by rw [hL4, l3]
  have lL : LL.length = 20 + f.da.size := by rw [hLL, List.length_append, l4, list_size]
  have hop : opL f = [] := by rw [opL, if_pos hms]
  have hM : LL = ahS f ++ two 0 ++ bhS f := by
    rw [hLL, hL4, hL3, hL2, hL1, hL0, hQ4, hP4, uA1, uA2, uA3, uA4, uA5, uA6, uA7, ahS, bhS, hop, g8]
    rw [show f.fr.toNat = FR by omega, show f.dt.toNat = DT by omega, show f.fl.toNat = FL by omega, show f.wi.toNat = WI by omega, show f.sq.toNat = SQ by omega, show f.ak.toNat = AK by omega]
    simp only [two, four, List.cons_append, List.nil_append]
    rfl
  obtain ⟨K, hK⟩ : ∃ K, sgK i j f = K := ⟨_, rfl⟩
  have hK2 : K ≤ 65535 := by rw [← hK]; exact sgK_le i j f
  obtain ⟨V1, v1⟩ : ∃ U, U = UInt8.ofNat (K / 256) := ⟨_, rfl⟩
  obtain ⟨V2, v2⟩ : ∃ U, U = UInt8.ofNat (K % 256) := ⟨_, rfl⟩
  have y1 : IntKind.u8.wrap ((K : Int) / 256) = (V1.toNat : Int) := by rw [v1, u8_of _ (by omega)]; congr 1
  have y2 : IntKind.u8.wrap ((K : Int) % 256) = (V2.toNat : Int) := by rw [v2, u8_of _ (by omega)]; congr 1
  have yw : IntKind.i64.wrap ((K : Int) / 256) = (K : Int) / 256 := IntWalk.i64_in _ (by omega)
  have HHL : Hid (HL = (LL.set 16 V1).set 17 V2) := Lib.hid (by
    rw [hM, hHL, sgL, hK, v1, v2]
    have ha := ahS_length f
    generalize ahS f = A at ha ⊢
    rw [List.append_assoc, List.append_assoc, List.set_append_right _ _ (by omega), List.set_append_right _ _ (by omega), ha]
    rfl)
  have kS := Lib.hid (fun w => rsum10 w LL i j (by omega) K (by rw [hM]; exact hK.symm))
  have kq := Lib.hid (fun w => rfour10 w f.sq SQ eSQ (by omega) Q4 hQ4)
  have kp := Lib.hid (fun w => rfour10 w f.ak AK eAK (by omega) P4 hP4)
  have HLL := Lib.hid hLL
  have HL1 := Lib.hid hL1
  have HL2 := Lib.hid hL2
  have HL3 := Lib.hid hL3
  have HL4 := Lib.hid hL4
  have ZL := Lib.hid lL
  have Z0 := Lib.hid l0
  have Z1 := Lib.hid l1
  have Z2 := Lib.hid l2
  have Z3 := Lib.hid l3
  have Z4 := Lib.hid l4
  have ZQ := Lib.hid lq
  have ZP := Lib.hid lp
  have H0 := Lib.hid hL0
  have HY := Lib.hid (And.intro yA5 (And.intro yA6 yA7))
  have HZ := Lib.hid zA6
  have HY2 := Lib.hid (And.intro y1 (And.intro y2 yw))
  have HYM := Lib.hid (And.intro yA8 (And.intro yA9 zA8))
  have HDZ : Hid (f.da.size ≤ 546) := Lib.hid (by omega)
  have e1 : ¬ (546 : Int) < (f.da.size : Int) := by omega
  have HeFR := Lib.hid eFR
  have HeDT := Lib.hid eDT
  have HeFL := Lib.hid eFL
  have HeWI := Lib.hid eWI
  have HeMS := Lib.hid eMS
  clear hl hms g8 hM hK hK2 v1 v2 y1 y2 yw hHL hL0 hL1 hL2 hL3 hL4 hLL lL l0 l1 l2 l3 l4 lq lp hop hQ4 hP4 uA1 uA2 uA3 uA4 uA5 uA6 uA7 uA8 uA9 yA5 yA6 yA7 zA6 yA8 yA9 zA8 eSQ eAK q0 q1 p0 p1 h9 eFR eDT eFL eWI eMS
  go_enter Try.func25, Try.ntmps25
  go_upto_region 1 with fail
  obtain ⟨n, m, k, hn, hm, hk, fa, bl⟩ := sgbx_new w f i j
  have LO : Hid (w.heap.size ≤ n ∧ n ≤ k ∧ m ≤ k) := Lib.hid (by omega)
  have FA := Lib.hid fa
  have BL := Lib.hid bl
  clear fa bl
  generalize World.alloc _ _ = W1 at FA BL ⊢
  try rw [hk]
  try rw [hm]
  try rw [hn]
  clear hn hm hk
  obtain ⟨c0, c1, c2, c3, c4, c5, c6, c7⟩ := FA.out.sg.all
  have hp := FA.out.sg
  go_wp2_with fail
  refine (k1.out _).mono ?_
  rintro e v1 ⟨rfl, rfl⟩
  go_wp2_with fail
  refine (k2.out _).mono ?_
  rintro e v2 ⟨rfl, rfl⟩
  go_wp2_with fail
  refine (k3.out _).mono ?_
  rintro e v3 ⟨rfl, rfl⟩
  go_wp2_with fail
  refine (k4.out _).mono ?_
  rintro e v4 ⟨rfl, rfl⟩
  go_upto_region 8 with fail
  clear h1 h2 h3 h4 h5 h6 d5 d6 d7 g7 e1 k1 k2 k3 k4 hp
  rw [HeFR.out] at c0
  rw [HeDT.out] at c1
  rw [HeFL.out] at c4
  rw [HeWI.out] at c5
  rw [HeMS.out] at c6
  go_upto_region 9 with fail
  obtain ⟨bb0, hbb0⟩ : ∃ b, b = W1.heap.size := ⟨_, rfl⟩
  have S0 : Hid (SgW w (W1.alloc (.cells #[.int .u8 (A1.toNat : Int), .int .u8 (A2.toNat : Int), .int .u8 (A3.toNat : Int), .int .u8 (A4.toNat : Int)] 5)) n m k f i j (.slice (some ⟨bb0, 0, none⟩) 4 4) L0) := Lib.hid (by rw [H0.out, hbb0]; exact sgw_start FA.out BL.out LO.out [A1, A2, A3, A4] (show 4 ≤ 100 by decide))
  generalize W1.alloc _ = X0 at S0 ⊢
  try rw [← hbb0]
  generalize Value.slice (some ⟨bb0, 0, none⟩) 4 4 = V0 at S0 ⊢
  clear hbb0 c0 c1 c2 c3 c4 c5 c6 c7 yA1 yA2 yA3 yA4 zA1 zA3 FA BL LO H0 HeFR HeDT
  have c2 := S0.out.bx.sg.sq
  go_wp2_with fail
  refine (kq.out _).mono ?_
  rintro e r1 ⟨b1, rfl, hh1, g1⟩
  have S1 := Lib.hid (S0.out.grow g1)
  have HH1 := Lib.hid hh1
  clear g1 hh1 S0 c2
  have hl1 : L0.length + 4 ≤ 100000 := by rw [Z0.out]; omega
  go_upto_region 10 with (refine wpList_append_bytes rfl (.tmp 79) (.tmp 82) rfl (k + 1) _ L0 rfl S1.out.row Q4 b1 4 4 ZQ.out rfl HH1.out hl1 S1.out.base ?_; intro V1r X1 a1 a2; have S2 := Lib.hid (S1.out.next a1 a2); clear a1 a2)
  rw [← HL1.out] at S2
  clear S1 HH1 hl1
  have c3 := S2.out.bx.sg.ak
  go_wp2_with fail
  refine (kp.out _).mono ?_
  rintro e r2 ⟨b2, rfl, hh2, g2⟩
  have S3 := Lib.hid (S2.out.grow g2)
  have HH2 := Lib.hid hh2
  clear g2 hh2 S2 c3
  have hl2 : L1.length + 4 ≤ 100000 := by rw [Z1.out]; omega
  go_upto_region 11 with (refine wpList_append_bytes rfl (.tmp 84) (.tmp 87) rfl (k + 1) _ L1 rfl S3.out.row P4 b2 4 4 ZP.out rfl HH2.out hl2 S3.out.base ?_; intro V2r X2 a1 a2; have S4 := Lib.hid (S3.out.next a1 a2); clear a1 a2)
  rw [← HL2.out] at S4
  clear S3 HH2 hl2
  have c4 := S4.out.bx.sg.fl
  have c5 := S4.out.bx.sg.wi
  rw [HeFL.out] at c4
  rw [HeWI.out] at c5
  have c7 := S4.out.bx.sg.da
  obtain ⟨yA5, yA6, yA7⟩ := HY.out
  have zA6 := HZ.out
  have S4a := Lib.hid (S4.out.alloc (.cells #[.int .u8 80, .int .u8 (A5.toNat : Int), .int .u8 (A6.toNat : Int), .int .u8 (A7.toNat : Int), .int .u8 0, .int .u8 0, .int .u8 0, .int .u8 0] 5))
  have H8 : Hid (Holds eb (X2.alloc (.cells #[.int .u8 80, .int .u8 (A5.toNat : Int), .int .u8 (A6.toNat : Int), .int .u8 (A7.toNat : Int), .int .u8 0, .int .u8 0, .int .u8 0, .int .u8 0] 5)) X2.heap.size 0 ([80, A5, A6, A7, 0, 0, 0, 0] : List UInt8).toArray) := Lib.hid (holds_alloc X2 [80, A5, A6, A7, 0, 0, 0, 0])
  have hl3 : L2.length + 8 ≤ 100000 := by rw [Z2.out]; omega
  go_upto_region 12 with (refine wpList_append_bytes rfl (.tmp 89) (.tmp 105) rfl (k + 1) _ L2 rfl S4a.out.row [80, A5, A6, A7, 0, 0, 0, 0] X2.heap.size 8 8 rfl rfl H8.out hl3 S4a.out.base ?_; intro V3r X3 a1 a2; have S5 := Lib.hid (S4a.out.next a1 a2); clear a1 a2)
  rw [← HL3.out] at S5
  clear S4 S4a H8 hl3 c4 c5 c7 yA5 yA6 yA7 zA6 HY HZ HeFL HeWI
  have S6 := S5
  clear S5
  rw [← HL4.out] at S6
  go_upto_region 14 with fail
  clear HYM HeMS
  have c7 := S6.out.bx.sg.da
  have hl5 : L4.length + f.da.size ≤ 100000 := by have := HDZ.out; rw [Z4.out]; omega
  go_upto_region 15 with (refine wpList_append_text rfl (.tmp 120) (.tmp 122) rfl (k + 1) _ L4 rfl S6.out.row f.da rfl hl5 S6.out.base ?_; intro V5r X5 a1 a2; have S7 := Lib.hid (S6.out.next a1 a2); clear a1 a2)
  rw [← HLL.out] at S7
  clear S6 c7 hl5 Z0 Z1 Z2 Z3 Z4 ZQ ZP HL1 HL2 HL3 HL4 HLL kq kp
  have hll : 0 < LL.length := by rw [ZL.out]; omega
  obtain ⟨bb, cap, cur, hv, hbb, hcur, hH⟩ := ByRow.holds S7.out.row hll
  have hcv := ByRow.conv S7.out.row hll
  subst hv
  have hbz : bb < X5.heap.size := lt_of_row hcur
  have HH := Lib.hid hH
  have HCUR := Lib.hid hcur
  have HNB : Hid (w.heap.size ≤ bb) := Lib.hid (by have := S7.out.lo; omega)
  have B7 := Lib.hid S7.out.bl
  have hNL : Hid (16 < LL.length ∧ 17 < LL.length) := Lib.hid (by rw [ZL.out]; omega)
  have hNZ : HL.length = LL.length := by rw [HHL.out, List.length_set, List.length_set]
  have HNZ := Lib.hid hNZ
  have hNC := hNL.out
  have hia := S7.out.bx.ia
  have hja := S7.out.bx.ja
  clear hbb hH hcur hll
  obtain ⟨NL, hNLe⟩ : ∃ n, LL.length = n := ⟨_, rfl⟩
  have HNLe := Lib.hid hNLe
  rw [hNLe] at hcv hNC ⊢
  obtain ⟨hn2, hn3⟩ := hNC
  clear hNZ hNLe S7 ZL
  go_wp2_with (first | (refine ipb_ld (by rfl) (.tmp 4) rfl m rfl _ hia ?_) | (refine ipb_ld (by rfl) (.tmp 5) rfl k rfl _ hja ?_))
  refine (kS.out _).mono ?_
  rintro e w4 ⟨rfl, b4⟩
  have B4 := bstep B7 b4
  have hcur4 := (b4.block bb hbz).trans HCUR.out
  have hH4 := holds_below b4 hbz HH.out
  have hp5 := holds_put hcur4 hH4 16 hNL.out.1 V1
  have hp6 := holds_put hp5.2 hp5.1 17 (by rw [List.length_set]; exact hNL.out.2) V2
  have hH6 : Holds eb ((w4.setCell ⟨bb, 16, none⟩ (.int .u8 (V1.toNat : Int))).setCell ⟨bb, 17, none⟩ (.int .u8 (V2.toNat : Int))) bb 0 HL.toArray := by rw [HHL.out]; exact hp6.1
  have hcv6 := conv_text ((w4.setCell ⟨bb, 16, none⟩ (.int .u8 (V1.toNat : Int))).setCell ⟨bb, 17, none⟩ (.int .u8 (V2.toNat : Int))) bb 0 NL cap HL (by rw [HNZ.out, HNLe.out]) hH6
  have B6 : Hid (Below w.heap.size w ((w4.setCell ⟨bb, 16, none⟩ (.int .u8 (V1.toNat : Int))).setCell ⟨bb, 17, none⟩ (.int .u8 (V2.toNat : Int)))) := Lib.hid ((B4.out.setCell HNB.out _).setCell HNB.out _)
  have x1 := (hH4 16 (by rw [List.size_toArray]; exact hNL.out.1)).1
  have x2 := (hH4 17 (by rw [List.size_toArray]; exact hNL.out.2)).1
  have z1 := (hH4 16 (by rw [List.size_toArray]; exact hNL.out.1)).2
  have z2 := (hH4 17 (by rw [List.size_toArray]; exact hNL.out.2)).2
  rw [Nat.zero_add] at x1 x2 z1 z2
  obtain ⟨y1, y2, yw⟩ := HY2.out
  clear hp5 hp6 hH6 hH4 hcur4 hbz hcv B7 B4 HH HCUR kS hia hja
  go_upto_region 18 with fail
  clear x1 x2 z1 z2
  generalize ((w4.setCell ⟨bb, 16, none⟩ (.int .u8 (V1.toNat : Int))).setCell ⟨bb, 17, none⟩ (.int .u8 (V2.toNat : Int))) = X6 at hcv6 B6 ⊢
  go_wp2_with fail
  go_ret2
  exact ⟨rfl, B6.out⟩
set_option maxRecDepth 100000 in
set_option maxHeartbeats 8000000 in
theorem rBytes10_yes4 (w : World) (f : Sg) (i j : Ip4) (hf : (0 ≤ f.sq ∧ f.sq < 4294967296) ∧ (0 ≤ f.ak ∧ f.ak < 4294967296)) (h : maySg f = true) (hms : ¬ f.ms = 0) (hl : opN f + f.da.size ≤ 546) (HL : List UInt8) (hHL : HL = sgL i j f) :
    Calls Try.prog 25 #[.agg (sgC f), .agg (ipC i), .agg (ipC j)] w fun e w' => e = .returned (.tuple #[.string ⟨HL.toArray⟩, .int .i64 0]) ∧ Below w.heap.size w w' := by
  obtain ⟨h1, h2, ⟨f0, f1⟩, h3, h4, h9⟩ := maySg_all h
  have k1 := Lib.hid (fun w => small10 w f.fr)
  rw [decide_eq_true h1] at k1
  have k2 := Lib.hid (fun w => small10 w f.dt)
  rw [decide_eq_true h2] at k2
  have k3 := Lib.hid (fun w => small10 w f.wi)
  rw [decide_eq_true h3] at k3
  have k4 := Lib.hid (fun w => small10 w f.ms)
  rw [decide_eq_true h4] at k4
  have h5 : ¬ f.fl < 0 := by omega
  have h6 : ¬ 31 < f.fl := by omega
  have d5 : decide (f.fl < 0) = false := decide_eq_false h5
  have d6 : decide (31 < f.fl) = false := decide_eq_false h6
  have d7 : decide (0 < f.ms) = true := decide_eq_true (by omega)
  have g7 : 0 < f.ms := by omega
  have g8 : opN f = 4 := by rw [opN, if_neg hms]
  have kh := Lib.hid (fun w => has10 w f f0 (by omega) true (decide_eq_true (h9.resolve_left hms)).symm)
  obtain ⟨⟨q0, q1⟩, ⟨p0, p1⟩⟩ := hf
  obtain ⟨FR, eFR⟩ := Int.eq_ofNat_of_zero_le (show 0 ≤ f.fr by omega)
  obtain ⟨DT, eDT⟩ := Int.eq_ofNat_of_zero_le (show 0 ≤ f.dt by omega)
  obtain ⟨FL, eFL⟩ := Int.eq_ofNat_of_zero_le (show 0 ≤ f.fl by omega)
  obtain ⟨WI, eWI⟩ := Int.eq_ofNat_of_zero_le (show 0 ≤ f.wi by omega)
  obtain ⟨MS, eMS⟩ := Int.eq_ofNat_of_zero_le (show 0 ≤ f.ms by omega)
  obtain ⟨SQ, eSQ⟩ := Int.eq_ofNat_of_zero_le (show 0 ≤ f.sq by omega)
  obtain ⟨AK, eAK⟩ := Int.eq_ofNat_of_zero_le (show 0 ≤ f.ak by omega)
  obtain ⟨A1, uA1⟩ : ∃ U, U = UInt8.ofNat (FR / 256) := ⟨_, rfl⟩
  have yA1 : IntKind.u8.wrap ((FR : Int) / 256) = (A1.toNat : Int) := by rw [uA1, u8_of _ (by omega)]; congr 1
  have zA1 : IntKind.i64.wrap ((FR : Int) / 256) = (FR : Int) / 256 := IntWalk.i64_in _ (by omega)
  obtain ⟨A2, uA2⟩ : ∃ U, U = UInt8.ofNat (FR % 256) := ⟨_, rfl⟩
  have yA2 : IntKind.u8.wrap ((FR : Int) % 256) = (A2.toNat : Int) := by rw [uA2, u8_of _ (by omega)]; congr 1
  obtain ⟨A3, uA3⟩ : ∃ U, U = UInt8.ofNat (DT / 256) := ⟨_, rfl⟩
  have yA3 : IntKind.u8.wrap ((DT : Int) / 256) = (A3.toNat : Int) := by rw [uA3, u8_of _ (by omega)]; congr 1
  have zA3 : IntKind.i64.wrap ((DT : Int) / 256) = (DT : Int) / 256 := IntWalk.i64_in _ (by omega)
  obtain ⟨A4, uA4⟩ : ∃ U, U = UInt8.ofNat (DT % 256) := ⟨_, rfl⟩
  have yA4 : IntKind.u8.wrap ((DT : Int) % 256) = (A4.toNat : Int) := by rw [uA4, u8_of _ (by omega)]; congr 1
  obtain ⟨A5, uA5⟩ : ∃ U, U = UInt8.ofNat (FL) := ⟨_, rfl⟩
  have yA5 : IntKind.u8.wrap ((FL : Int)) = (A5.toNat : Int) := by rw [uA5, u8_of _ (by omega)]; congr 1
  obtain ⟨A6, uA6⟩ : ∃ U, U = UInt8.ofNat (WI / 256) := ⟨_, rfl⟩
  have yA6 : IntKind.u8.wrap ((WI : Int) / 256) = (A6.toNat : Int) := by rw [uA6, u8_of _ (by omega)]; congr 1
  have zA6 : IntKind.i64.wrap ((WI : Int) / 256) = (WI : Int) / 256 := IntWalk.i64_in _ (by omega)
  obtain ⟨A7, uA7⟩ : ∃ U, U = UInt8.ofNat (WI % 256) := ⟨_, rfl⟩
  have yA7 : IntKind.u8.wrap ((WI : Int) % 256) = (A7.toNat : Int) := by rw [uA7, u8_of _ (by omega)]; congr 1
  obtain ⟨A8, uA8⟩ : ∃ U, U = UInt8.ofNat (MS / 256) := ⟨_, rfl⟩
  have yA8 : IntKind.u8.wrap ((MS : Int) / 256) = (A8.toNat : Int) := by rw [uA8, u8_of _ (by omega)]; congr 1
  have zA8 : IntKind.i64.wrap ((MS : Int) / 256) = (MS : Int) / 256 := IntWalk.i64_in _ (by omega)
  obtain ⟨A9, uA9⟩ : ∃ U, U = UInt8.ofNat (MS % 256) := ⟨_, rfl⟩
  have yA9 : IntKind.u8.wrap ((MS : Int) % 256) = (A9.toNat : Int) := by rw [uA9, u8_of _ (by omega)]; congr 1
  obtain ⟨L0, hL0⟩ : ∃ L, L = [A1, A2, A3, A4] := ⟨_, rfl⟩
  obtain ⟨Q4, hQ4⟩ : ∃ L, L = four SQ := ⟨_, rfl⟩
  obtain ⟨P4, hP4⟩ : ∃ L, L = four AK := ⟨_, rfl⟩
  obtain ⟨L1, hL1⟩ : ∃ L, L = L0 ++ Q4 := ⟨_, rfl⟩
  obtain ⟨L2, hL2⟩ : ∃ L, L = L1 ++ P4 := ⟨_, rfl⟩
  obtain ⟨L3, hL3⟩ : ∃ L, L = L2 ++ [96, A5, A6, A7, 0, 0, 0, 0] := ⟨_, rfl⟩
  obtain ⟨L4, hL4⟩ : ∃ L, L = L3 ++ [2, 4, A8, A9] := ⟨_, rfl⟩
  obtain ⟨LL, hLL⟩ : ∃ L, L = L4 ++ f.da.data.toList := ⟨_, rfl⟩
  have l0 : L0.length = 4 := by rw [hL0]; rfl
  have lq : Q4.length = 4 := by rw [hQ4]; rfl
  have lp : P4.length = 4 := by rw [hP4]; rfl
  have l1 : L1.length = 8 := by rw [hL1, List.length_append, l0, lq]
  have l2 : L2.length = 12 := by rw [hL2, List.length_append, l1, lp]
  have l3 : L3.length = 20 := by rw [hL3, List.length_append, l2]; rfl
  have l4 : L4.length = 24 := by rw [hL4, List.length_append, l3]; rfl
  have lL : LL.length = 24 + f.da.size := by rw [hLL, List.length_append, l4, list_size]
  have hop : opL f = [UInt8.ofNat 2] ++ [UInt8.ofNat 4] ++ two f.ms.toNat := by rw [opL, if_neg hms]
  have hM : LL = ahS f ++ two 0 ++ bhS f := by
    rw [hLL, hL4, hL3, hL2, hL1, hL0, hQ4, hP4, uA1, uA2, uA3, uA4, uA5, uA6, uA7, uA8, uA9, ahS, bhS, hop, g8]
    rw [show f.fr.toNat = FR by omega, show f.dt.toNat = DT by omega, show f.fl.toNat = FL by omega, show f.wi.toNat = WI by omega, show f.sq.toNat = SQ by omega, show f.ak.toNat = AK by omega, show f.ms.toNat = MS by omega]
    simp only [two, four, List.cons_append, List.nil_append]
    rfl
  obtain ⟨K, hK⟩ : ∃ K, sgK i j f = K := ⟨_, rfl⟩
  have hK2 : K ≤ 65535 := by rw [← hK]; exact sgK_le i j f
  obtain ⟨V1, v1⟩ : ∃ U, U = UInt8.ofNat (K / 256) := ⟨_, rfl⟩
  obtain ⟨V2, v2⟩ : ∃ U, U = UInt8.ofNat (K % 256) := ⟨_, rfl⟩
  have y1 : IntKind.u8.wrap ((K : Int) / 256) = (V1.toNat : Int) := by rw [v1, u8_of _ (by omega)]; congr 1
  have y2 : IntKind.u8.wrap ((K : Int) % 256) = (V2.toNat : Int) := by rw [v2, u8_of _ (by omega)]; congr 1
  have yw : IntKind.i64.wrap ((K : Int) / 256) = (K : Int) / 256 := IntWalk.i64_in _ (by omega)
  have HHL : Hid (HL = (LL.set 16 V1).set 17 V2) := Lib.hid (by
    rw [hM, hHL, sgL, hK, v1, v2]
    have ha := ahS_length f
    generalize ahS f = A at ha ⊢
    rw [List.append_assoc, List.append_assoc, List.set_append_right _ _ (by omega), List.set_append_right _ _ (by omega), ha]
    rfl)
  have kS := Lib.hid (fun w => rsum10 w LL i j (by omega) K (by rw [hM]; exact hK.symm))
  have kq := Lib.hid (fun w => rfour10 w f.sq SQ eSQ (by omega) Q4 hQ4)
  have kp := Lib.hid (fun w => rfour10 w f.ak AK eAK (by omega) P4 hP4)
  have HLL := Lib.hid hLL
  have HL1 := Lib.hid hL1
  have HL2 := Lib.hid hL2
  have HL3 := Lib.hid hL3
  have HL4 := Lib.hid hL4
  have ZL := Lib.hid lL
  have Z0 := Lib.hid l0
  have Z1 := Lib.hid l1
  have Z2 := Lib.hid l2
  have Z3 := Lib.hid l3
  have Z4 := Lib.hid l4
  have ZQ := Lib.hid lq
  have ZP := Lib.hid lp
  have H0 := Lib.hid hL0
  have HY := Lib.hid (And.intro yA5 (And.intro yA6 yA7))
  have HZ := Lib.hid zA6
  have HY2 := Lib.hid (And.intro y1 (And.intro y2 yw))
  have HYM := Lib.hid (And.intro yA8 (And.intro yA9 zA8))
  have HDZ : Hid (f.da.size ≤ 546) := Lib.hid (by omega)
  have wz : IntKind.i64.wrap ((f.da.size : Int) + 4) = (f.da.size : Int) + 4 := IntWalk.i64_in _ (by omega)
  have e1 : ¬ (546 : Int) < (f.da.size : Int) + 4 := by omega
  have HeFR := Lib.hid eFR
  have HeDT := Lib.hid eDT
  have HeFL := Lib.hid eFL
  have HeWI := Lib.hid eWI
  have HeMS := Lib.hid eMS
  clear hl hms g8 hM hK hK2 v1 v2 y1 y2 yw hHL hL0 hL1 hL2 hL3 hL4 hLL lL l0 l1 l2 l3 l4 lq lp hop hQ4 hP4 uA1 uA2 uA3 uA4 uA5 uA6 uA7 uA8 uA9 yA5 yA6 yA7 zA6 yA8 yA9 zA8 eSQ eAK q0 q1 p0 p1 h9 eFR eDT eFL eWI eMS
  go_enter Try.func25, Try.ntmps25
  go_upto_region 1 with fail
  obtain ⟨n, m, k, hn, hm, hk, fa, bl⟩ := sgbx_new w f i j
  have LO : Hid (w.heap.size ≤ n ∧ n ≤ k ∧ m ≤ k) := Lib.hid (by omega)
  have FA := Lib.hid fa
  have BL := Lib.hid bl
  clear fa bl
  generalize World.alloc _ _ = W1 at FA BL ⊢
  try rw [hk]
  try rw [hm]
  try rw [hn]
  clear hn hm hk
  obtain ⟨c0, c1, c2, c3, c4, c5, c6, c7⟩ := FA.out.sg.all
  have hp := FA.out.sg
  go_wp2_with fail
  refine (k1.out _).mono ?_
  rintro e v1 ⟨rfl, rfl⟩
  go_wp2_with fail
  refine (k2.out _).mono ?_
  rintro e v2 ⟨rfl, rfl⟩
  go_wp2_with fail
  refine (k3.out _).mono ?_
  rintro e v3 ⟨rfl, rfl⟩
  go_wp2_with fail
  refine (k4.out _).mono ?_
  rintro e v4 ⟨rfl, rfl⟩
  go_wp2_with (refine sg_ld (by rfl) (.tmp 3) rfl n rfl _ hp ?_)
  refine (kh.out _).mono ?_
  rintro e v5 ⟨rfl, b5⟩
  have F5 := Lib.hid (FA.out.grow b5)
  have B5 := bstep BL b5
  clear b5 c0 c1 c2 c3 c4 c5 c6 c7 hp FA BL
  have FA := F5
  have BL := B5
  clear F5 B5
  obtain ⟨c0, c1, c2, c3, c4, c5, c6, c7⟩ := FA.out.sg.all
  go_upto_region 8 with fail
  clear h1 h2 h3 h4 h5 h6 d5 d6 d7 g7 e1 wz k1 k2 k3 k4 kh
  rw [HeFR.out] at c0
  rw [HeDT.out] at c1
  rw [HeFL.out] at c4
  rw [HeWI.out] at c5
  rw [HeMS.out] at c6
  go_upto_region 9 with fail
  obtain ⟨bb0, hbb0⟩ : ∃ b, b = v5.heap.size := ⟨_, rfl⟩
  have S0 : Hid (SgW w (v5.alloc (.cells #[.int .u8 (A1.toNat : Int), .int .u8 (A2.toNat : Int), .int .u8 (A3.toNat : Int), .int .u8 (A4.toNat : Int)] 5)) n m k f i j (.slice (some ⟨bb0, 0, none⟩) 4 4) L0) := Lib.hid (by rw [H0.out, hbb0]; exact sgw_start FA.out BL.out LO.out [A1, A2, A3, A4] (show 4 ≤ 100 by decide))
  generalize World.alloc _ _ = X0 at S0 ⊢
  try rw [← hbb0]
  generalize Value.slice (some ⟨bb0, 0, none⟩) 4 4 = V0 at S0 ⊢
  clear hbb0 c0 c1 c2 c3 c4 c5 c6 c7 yA1 yA2 yA3 yA4 zA1 zA3 FA BL LO H0 HeFR HeDT
  have c2 := S0.out.bx.sg.sq
  go_wp2_with fail
  refine (kq.out _).mono ?_
  rintro e r1 ⟨b1, rfl, hh1, g1⟩
  have S1 := Lib.hid (S0.out.grow g1)
  have HH1 := Lib.hid hh1
  clear g1 hh1 S0 c2
  have hl1 : L0.length + 4 ≤ 100000 := by rw [Z0.out]; omega
  go_upto_region 10 with (refine wpList_append_bytes rfl (.tmp 79) (.tmp 82) rfl (k + 1) _ L0 rfl S1.out.row Q4 b1 4 4 ZQ.out rfl HH1.out hl1 S1.out.base ?_; intro V1r X1 a1 a2; have S2 := Lib.hid (S1.out.next a1 a2); clear a1 a2)
  rw [← HL1.out] at S2
  clear S1 HH1 hl1
  have c3 := S2.out.bx.sg.ak
  go_wp2_with fail
  refine (kp.out _).mono ?_
  rintro e r2 ⟨b2, rfl, hh2, g2⟩
  have S3 := Lib.hid (S2.out.grow g2)
  have HH2 := Lib.hid hh2
  clear g2 hh2 S2 c3
  have hl2 : L1.length + 4 ≤ 100000 := by rw [Z1.out]; omega
  go_upto_region 11 with (refine wpList_append_bytes rfl (.tmp 84) (.tmp 87) rfl (k + 1) _ L1 rfl S3.out.row P4 b2 4 4 ZP.out rfl HH2.out hl2 S3.out.base ?_; intro V2r X2 a1 a2; have S4 := Lib.hid (S3.out.next a1 a2); clear a1 a2)
  rw [← HL2.out] at S4
  clear S3 HH2 hl2
  have c4 := S4.out.bx.sg.fl
  have c5 := S4.out.bx.sg.wi
  rw [HeFL.out] at c4
  rw [HeWI.out] at c5
  have c7 := S4.out.bx.sg.da
  obtain ⟨yA5, yA6, yA7⟩ := HY.out
  have zA6 := HZ.out
  have S4a := Lib.hid (S4.out.alloc (.cells #[.int .u8 96, .int .u8 (A5.toNat : Int), .int .u8 (A6.toNat : Int), .int .u8 (A7.toNat : Int), .int .u8 0, .int .u8 0, .int .u8 0, .int .u8 0] 5))
  have H8 : Hid (Holds eb (X2.alloc (.cells #[.int .u8 96, .int .u8 (A5.toNat : Int), .int .u8 (A6.toNat : Int), .int .u8 (A7.toNat : Int), .int .u8 0, .int .u8 0, .int .u8 0, .int .u8 0] 5)) X2.heap.size 0 ([96, A5, A6, A7, 0, 0, 0, 0] : List UInt8).toArray) := Lib.hid (holds_alloc X2 [96, A5, A6, A7, 0, 0, 0, 0])
  have hl3 : L2.length + 8 ≤ 100000 := by rw [Z2.out]; omega
  go_upto_region 12 with (refine wpList_append_bytes rfl (.tmp 89) (.tmp 105) rfl (k + 1) _ L2 rfl S4a.out.row [96, A5, A6, A7, 0, 0, 0, 0] X2.heap.size 8 8 rfl rfl H8.out hl3 S4a.out.base ?_; intro V3r X3 a1 a2; have S5 := Lib.hid (S4a.out.next a1 a2); clear a1 a2)
  rw [← HL3.out] at S5
  clear S4 S4a H8 hl3 c4 c5 c7 yA5 yA6 yA7 zA6 HY HZ HeFL HeWI
  have c6 := S5.out.bx.sg.ms
  rw [HeMS.out] at c6
  obtain ⟨yA8, yA9, zA8⟩ := HYM.out
  have S5a := Lib.hid (S5.out.alloc (.cells #[.int .u8 2, .int .u8 4, .int .u8 (A8.toNat : Int), .int .u8 (A9.toNat : Int)] 5))
  have H9 : Hid (Holds eb (X3.alloc (.cells #[.int .u8 2, .int .u8 4, .int .u8 (A8.toNat : Int), .int .u8 (A9.toNat : Int)] 5)) X3.heap.size 0 ([2, 4, A8, A9] : List UInt8).toArray) := Lib.hid (holds_alloc X3 [2, 4, A8, A9])
  have hl4 : L3.length + 4 ≤ 100000 := by rw [Z3.out]; omega
  go_upto_region 14 with (refine wpList_append_bytes rfl (.tmp 109) (.tmp 118) rfl (k + 1) _ L3 rfl S5a.out.row [2, 4, A8, A9] X3.heap.size 4 4 rfl rfl H9.out hl4 S5a.out.base ?_; intro V4r X4 a1 a2; have S6 := Lib.hid (S5a.out.next a1 a2); clear a1 a2)
  rw [← HL4.out] at S6
  clear S5 S5a H9 hl4 c6 yA8 yA9 zA8
  clear HYM HeMS
  have c7 := S6.out.bx.sg.da
  have hl5 : L4.length + f.da.size ≤ 100000 := by have := HDZ.out; rw [Z4.out]; omega
  go_upto_region 15 with (refine wpList_append_text rfl (.tmp 120) (.tmp 122) rfl (k + 1) _ L4 rfl S6.out.row f.da rfl hl5 S6.out.base ?_; intro V5r X5 a1 a2; have S7 := Lib.hid (S6.out.next a1 a2); clear a1 a2)
  rw [← HLL.out] at S7
  clear S6 c7 hl5 Z0 Z1 Z2 Z3 Z4 ZQ ZP HL1 HL2 HL3 HL4 HLL kq kp
  have hll : 0 < LL.length := by rw [ZL.out]; omega
  obtain ⟨bb, cap, cur, hv, hbb, hcur, hH⟩ := ByRow.holds S7.out.row hll
  have hcv := ByRow.conv S7.out.row hll
  subst hv
  have hbz : bb < X5.heap.size := lt_of_row hcur
  have HH := Lib.hid hH
  have HCUR := Lib.hid hcur
  have HNB : Hid (w.heap.size ≤ bb) := Lib.hid (by have := S7.out.lo; omega)
  have B7 := Lib.hid S7.out.bl
  have hNL : Hid (16 < LL.length ∧ 17 < LL.length) := Lib.hid (by rw [ZL.out]; omega)
  have hNZ : HL.length = LL.length := by rw [HHL.out, List.length_set, List.length_set]
  have HNZ := Lib.hid hNZ
  have hNC := hNL.out
  have hia := S7.out.bx.ia
  have hja := S7.out.bx.ja
  clear hbb hH hcur hll
  obtain ⟨NL, hNLe⟩ : ∃ n, LL.length = n := ⟨_, rfl⟩
  have HNLe := Lib.hid hNLe
  rw [hNLe] at hcv hNC ⊢
  obtain ⟨hn2, hn3⟩ := hNC
  clear hNZ hNLe S7 ZL
  go_wp2_with (first | (refine ipb_ld (by rfl) (.tmp 4) rfl m rfl _ hia ?_) | (refine ipb_ld (by rfl) (.tmp 5) rfl k rfl _ hja ?_))
  refine (kS.out _).mono ?_
  rintro e w4 ⟨rfl, b4⟩
  have B4 := bstep B7 b4
  have hcur4 := (b4.block bb hbz).trans HCUR.out
  have hH4 := holds_below b4 hbz HH.out
  have hp5 := holds_put hcur4 hH4 16 hNL.out.1 V1
  have hp6 := holds_put hp5.2 hp5.1 17 (by rw [List.length_set]; exact hNL.out.2) V2
  have hH6 : Holds eb ((w4.setCell ⟨bb, 16, none⟩ (.int .u8 (V1.toNat : Int))).setCell ⟨bb, 17, none⟩ (.int .u8 (V2.toNat : Int))) bb 0 HL.toArray := by rw [HHL.out]; exact hp6.1
  have hcv6 := conv_text ((w4.setCell ⟨bb, 16, none⟩ (.int .u8 (V1.toNat : Int))).setCell ⟨bb, 17, none⟩ (.int .u8 (V2.toNat : Int))) bb 0 NL cap HL (by rw [HNZ.out, HNLe.out]) hH6
  have B6 : Hid (Below w.heap.size w ((w4.setCell ⟨bb, 16, none⟩ (.int .u8 (V1.toNat : Int))).setCell ⟨bb, 17, none⟩ (.int .u8 (V2.toNat : Int)))) := Lib.hid ((B4.out.setCell HNB.out _).setCell HNB.out _)
  have x1 := (hH4 16 (by rw [List.size_toArray]; exact hNL.out.1)).1
  have x2 := (hH4 17 (by rw [List.size_toArray]; exact hNL.out.2)).1
  have z1 := (hH4 16 (by rw [List.size_toArray]; exact hNL.out.1)).2
  have z2 := (hH4 17 (by rw [List.size_toArray]; exact hNL.out.2)).2
  rw [Nat.zero_add] at x1 x2 z1 z2
  obtain ⟨y1, y2, yw⟩ := HY2.out
  clear hp5 hp6 hH6 hH4 hcur4 hbz hcv B7 B4 HH HCUR kS hia hja
  go_upto_region 18 with fail
  clear x1 x2 z1 z2
  generalize ((w4.setCell ⟨bb, 16, none⟩ (.int .u8 (V1.toNat : Int))).setCell ⟨bb, 17, none⟩ (.int .u8 (V2.toNat : Int))) = X6 at hcv6 B6 ⊢
  go_wp2_with fail
  go_ret2
  exact ⟨rfl, B6.out⟩
theorem rBytes10_any (w : World) (f : Sg) (i j : Ip4) (hf : f.ok) (hz : f.da.size ≤ 140737488355328) :
    Calls Try.prog 25 #[.agg (sgC f), .agg (ipC i), .agg (ipC j)] w fun e w' => e = .returned (.tuple #[.string (sgS i j f), .int .i64 (sgE f)]) ∧ Below w.heap.size w w' := by
  cases h : maySg f with
  | false =>
    have e1 : sgE f = 1 := by rw [sgE, if_pos h]
    rw [sgS, e1, if_neg (by decide)]
    exact rBytes10_arg w f i j h
  | true =>
    by_cases h2 : 546 < opN f + f.da.size
    · have e1 : sgE f = 3 := by rw [sgE, if_neg (by rw [h]; decide), if_pos h2]
      rw [sgS, e1, if_neg (by decide)]
      by_cases hms : f.ms = 0
      · exact rBytes10_long0 w f i j h hms h2 hz
      · exact rBytes10_long4 w f i j h hms h2 hz
    · have e1 : sgE f = 0 := by rw [sgE, if_neg (by rw [h]; decide), if_neg h2]
      rw [sgS, e1, if_pos rfl]
      by_cases hms : f.ms = 0
      · exact rBytes10_yes0 w f i j ⟨u32_lt hf.2.2.1, u32_lt hf.2.2.2.1⟩ h hms (by omega) _ rfl
      · exact rBytes10_yes4 w f i j ⟨u32_lt hf.2.2.1, u32_lt hf.2.2.2.1⟩ h hms (by omega) _ rfl

end Go.Proofs.Ytbjoibgkhooljaa
