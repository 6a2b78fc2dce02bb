/-
  Layer 12: drop, Read. Conditions: as said.
-/
import Derived.Test.YtlajalfalepbhaaRbD
import Derived.StillTailTactics
namespace Go.Proofs.Ytlajalfalepbhaa
open Go.RowKit
set_option linter.unusedVariables false

/-- 'copy' onto a row of one's own, elements of several cells: all is read before anything is written. -/
theorem run_copy_rowk {P : Program} (w : World) (dT sT ty elem : TypeId) (g o k dLen dCap : Nat) (a : Addr) (sLen sCap : Nat) (cur : Array Value) (t : TypeId) (cs : List Value)
    (hu : P.underlying dT = some (.slice elem)) (hs : (P.info? elem).map (·.size) = some k)
    (hg : w.heap[g]? = some (.cells cur t (0, 0))) (hn : cs.length = Nat.min sLen dLen * k)
    (hsrc : ∀ j v, cs[j]? = some v → w.cell? (a.add j) = some v) (hfit : o + cs.length ≤ cur.size) (h1 : ∀ v ∈ cs, v.oneCell' = true) :
    (Builtin.copy_ #[dT, sT] ty #[.slice (some ⟨g, o, none⟩) dLen dCap, .slice (some a) sLen sCap]).run P w =
      .ok (goInt (Nat.min sLen dLen)) (w.setRow g (cur.toList.take o ++ cs ++ cur.toList.drop (o + cs.length)).toArray) := by
  have hl := run_loadCells_list (P := P) w a cs hsrc
  have hst := run_storeCells_at P g o t cs 0 cur w hg (by simpa using hfit) h1
  cases hq : P.info? elem with
  | none => simp [hq] at hs
  | some i =>
    have hi : i.size = k := by simpa [hq] using hs
    rw [hn] at hl
    simp [Builtin.copy_, run_underlying hu, Builtin.lenOf, Builtin.firstCells, sizeOf, typeInfo, hq, hi, hl, hst]
theorem region_tailR {P : Program} {id : Nat} {Q : Exit → Act → World → Prop} {a : Act} {w : World} {l : List Oper} (n : Nat) (hm : P.follows .mixedOrders = true) (hB : Region.lexTailB .any l.toArray n = true)
    (h : ∀ w', Below w.heap.size w w' → wpStill P l.toArray w' (fun a' => wpList P l.toArray Q (l.drop n) a' w') (l.take n) a) : (Code.region id l.toArray true).wp P Q a w :=
  wp_region_still_tail n hm hB (h _ (Below.refl _ _).drew)
section
variable {P : Program} {ops : Array Oper} {rest : List Oper} {o : Oper} {a : Act} {w : World} {Q : Exit → Act → World → Prop}
theorem wpList_copyk (hg : o.guard = none) (s x : Operand) (t t' : TypeId) (hop : o.op = Op.call { callee := Callee.builtin Builtin.copy, args := #[s, x], argTypes := #[t, t'] })
    (vs vx v : Value) (w' : World) (hs : a.eval s = vs) (hx : a.eval x = vx) (hr : ∀ ty, (Builtin.copy_ #[t, t'] ty #[vs, vx]).run P w = .ok v w') (hK : wpList P ops Q rest (a.put o.dst v) w') : wpList P ops Q (o :: rest) a w := by
  refine wpList_plain hg fun K hKK => ?_
  unfold Oper.wp
  simp only [execOp, hop, resolve, invoke, builtin, Sem.run_bind, Sem.run_pure, Result.andThen_ok, List.map_toArray, List.map_cons, List.map_nil, hs, hx, hr]
  exact hKK _ _ hK
theorem wpList_cleark (hg : o.guard = none) (s : Operand) (t : TypeId) (hop : o.op = Op.call { callee := Callee.builtin Builtin.clear, args := #[s], argTypes := #[t] })
    (vs v : Value) (w' : World) (hs : a.eval s = vs) (hr : ∀ ty, (Builtin.clear_ #[t] ty #[vs]).run P w = .ok v w') (hK : wpList P ops Q rest (a.put o.dst v) w') : wpList P ops Q (o :: rest) a w := by
  refine wpList_plain hg fun K hKK => ?_
  unfold Oper.wp
  simp only [execOp, hop, resolve, invoke, builtin, Sem.run_bind, Sem.run_pure, Result.andThen_ok, List.map_toArray, List.map_cons, List.map_nil, hs, hr]
  exact hKK _ _ hK
end
theorem size_pl : (Try.prog.info? 91).map (·.size) = some 2 := by kernel_rfl
theorem zero_places (k : Nat) : (Builtin.zeroCells #[Value.int .u8 0, .bool false] k).toList = encA enP (List.replicate k none) := by
  rw [enc_nones]
  simp [Builtin.zeroCells]
/-- 'clear' of places. -/
theorem run_clear_places (w : World) (b o m : Nat) (cur : Array Value) (ty : TypeId) (hb : w.heap[b]? = some (.cells cur 91 (0, 0))) (hfit : o + m * 2 ≤ cur.size) :
    (Builtin.clear_ #[81] ty #[.slice (some ⟨b, o, none⟩) m m]).run Try.prog w = .ok (.tuple #[]) (w.setRow b (cur.toList.take o ++ encA enP (List.replicate m none) ++ cur.toList.drop (o + m * 2)).toArray) := by
  have hlen : (encA enP (List.replicate m none)).length = m * 2 := by rw [encA_length enP_len, List.length_replicate]
  have hst := run_storeCells_at Try.prog b o 91 (encA enP (List.replicate m none)) 0 cur w hb (by rw [hlen]; simpa using hfit) (fun u hu => by
    obtain ⟨y, _, hy⟩ := List.mem_flatMap.1 hu
    exact enP_one y u hy)
  rw [hlen, Nat.add_zero] at hst
  cases m with
  | zero =>
    have : (w.setRow b (cur.toList.take o ++ encA enP (List.replicate 0 none) ++ cur.toList.drop (o + 0 * 2)).toArray) = w := by
      rw [show encA enP (List.replicate 0 none) = [] from rfl, List.append_nil, Nat.zero_mul, Nat.add_zero, List.take_append_drop]
      exact setRow_self w b cur _ _ hb
    rw [this]
    simp [Builtin.clear_, run_underlying Try.underlying81]
  | succ m =>
    have hzv : ∀ w, (zeroValue 91).run Try.prog w = .ok (.agg #[.int .u8 0, .bool false]) w := Try.zeroValue91
    have hst2 : (storeCells ⟨b, o, none⟩ (Builtin.zeroCells (Value.agg #[.int .u8 0, .bool false]).cells (m + 1)).toList).run Try.prog w = .ok () (w.setRow b (cur.toList.take o ++ encA enP (List.replicate (m + 1) none) ++ cur.toList.drop (o + (m + 1) * 2)).toArray) := by
      rw [show (Builtin.zeroCells (Value.agg #[.int .u8 0, .bool false]).cells (m + 1)).toList = encA enP (List.replicate (m + 1) none) from zero_places (m + 1)]
      exact hst
    clear hst
    simp [Builtin.clear_, run_underlying Try.underlying81, Sem.run_bind, hzv, hst2]

section
variable {w w' : World} {g b n : Nat} {nx : Int} {R : List UInt8} {W : List (Option UInt8)}
/-- All that stands behind the first k places is moved up, and nothing is behind it. -/
theorem moved_places {l : List (Option UInt8)} {k n : Nat} (hl : l.length = n) (hk : k ≤ n) :
    (((encA enP l).take 0 ++ encA enP (l.drop k) ++ (encA enP l).drop (0 + (encA enP (l.drop k)).length)).take ((n - k) * 2) ++ encA enP (List.replicate k none) ++ ((encA enP l).take 0 ++ encA enP (l.drop k) ++ (encA enP l).drop (0 + (encA enP (l.drop k)).length)).drop ((n - k) * 2 + k * 2)) = encA enP (l.drop k ++ List.replicate k none) := by
  have e1 : (encA enP (l.drop k)).length = (n - k) * 2 := by rw [encA_length enP_len, List.length_drop, hl]
  have e2 : (encA enP l).length = n * 2 := by rw [encA_length enP_len, hl]
  rw [encA_append]
  generalize encA enP (l.drop k) = cs at e1 ⊢
  generalize encA enP l = C at e2 ⊢
  have e3 : (cs ++ C.drop (0 + cs.length)).drop ((n - k) * 2 + k * 2) = [] := List.drop_eq_nil_of_le (by rw [List.length_append, List.length_drop, e1, e2]; omega)
  rw [List.take_zero, List.nil_append, e3, List.append_nil, List.take_left' e1]
theorem Rb.dropped (h : Rb w g b n nx R W) {k : Nat} (hk : k ≤ R.length) (w2 : World) (h1 : w2.heap[g]? = w.heap[g]?) (h2 : w2.heap[b]? = some (.cells (encA enP ((R.map some ++ W).drop k ++ List.replicate k none)).toArray 91 (0, 0))) (r : Nat) (hr : r = R.length) :
    Rb (w2.setCell ⟨g, 1, none⟩ (.int .i64 ((r : Int) - k))) g b n nx (R.drop k) (W ++ List.replicate k none) := by
  subst hr
  have hln := h.len
  refine ⟨?_, ?_, h.ne, by simp; omega, h.n1, h.n2, h.x0, h.x1⟩
  · have e1 := set_cellsB (h1.trans h.at_) (.int .i64 ((R.length : Int) - k)) (i := 1) (by show 1 < 4; omega)
    rw [e1, List.length_drop, Int.ofNat_sub hk]
    rfl
  · rw [Below.heap_setCell _ _ _ _ (by show b ≠ g; exact h.ne), h2, List.drop_append_of_le_length (by rw [List.length_map]; exact hk), ← List.map_drop, List.append_assoc]
end
/-- Where a slice from the k-th of n places on lies. -/
theorem cut_at (b n k : Nat) : (if n = k then (some ⟨b, 0, none⟩ : Option Addr) else some ⟨b, k * 2, none⟩) = some ⟨b, if n = k then 0 else k * 2, none⟩ := by
  split <;> rfl
theorem drop_copy {w : World} {b n k : Nat} {l : List (Option UInt8)} (hrow : w.heap[b]? = some (.cells (encA enP l).toArray 91 (0, 0))) (hp : l.length = n) (hk : k ≤ n) (ty : TypeId) :
    (Builtin.copy_ #[81, 81] ty #[.slice (some ⟨b, 0, none⟩) n n, .slice (some ⟨b, if n = k then 0 else k * 2, none⟩) (n - k) (n - k)]).run Try.prog w = .ok (goInt ((n - k : Nat) : Int)) (w.setRow b ((encA enP l).take 0 ++ encA enP (l.drop k) ++ (encA enP l).drop (0 + (encA enP (l.drop k)).length)).toArray) := by
  have hel := encA_length enP_len l
  rw [hp] at hel
  obtain ⟨cs, hcs⟩ : ∃ cs, cs = encA enP (l.drop k) := ⟨_, rfl⟩
  have hcl : cs.length = (n - k) * 2 := by rw [hcs, encA_length enP_len, List.length_drop, hp]
  have hone : ∀ u ∈ cs, u.oneCell' = true := fun u hu => by
    rw [hcs] at hu
    obtain ⟨y, _, hy⟩ := List.mem_flatMap.1 hu
    exact enP_one y u hy
  have hmin : Nat.min (n - k) n = n - k := by show min (n - k) n = _; omega
  have hsrc : ∀ j u, cs[j]? = some u → w.cell? ((⟨b, if n = k then 0 else k * 2, none⟩ : Addr).add j) = some u := by
    intro j u hu
    have hj : j < cs.length := (List.getElem?_eq_some_iff.1 hu).1
    rw [if_neg (by omega), add_off, cell_of_block hrow, List.getElem?_toArray]
    have e := encA_append enP (l.take k) (l.drop k)
    rw [List.take_append_drop] at e
    have e2 := encA_length enP_len (l.take k)
    rw [List.length_take, hp, Nat.min_eq_left hk] at e2
    rw [e, List.getElem?_append_right (by omega), e2, Nat.add_sub_cancel_left, ← hcs]
    exact hu
  have := run_copy_rowk (P := Try.prog) w 81 81 ty 91 b 0 2 n n ⟨b, if n = k then 0 else k * 2, none⟩ (n - k) (n - k) (encA enP l).toArray 91 cs Try.underlying81 size_pl hrow (by rw [hmin]; exact hcl) hsrc (by rw [hcl, List.size_toArray, hel]; omega) hone
  rw [hmin, hcs] at this
  exact this
theorem drop_clear {w : World} {b n k q : Nat} {l : List (Option UInt8)} (hp : l.length = n) (hk : k ≤ n) (hq : q = n - k)
    (hrow : w.heap[b]? = some (.cells ((encA enP l).take 0 ++ encA enP (l.drop k) ++ (encA enP l).drop (0 + (encA enP (l.drop k)).length)).toArray 91 (0, 0))) (ty : TypeId) :
    (Builtin.clear_ #[81] ty #[.slice (some ⟨b, if n = q then 0 else q * 2, none⟩) k k]).run Try.prog w = .ok (.tuple #[]) (w.setRow b (encA enP (l.drop k ++ List.replicate k none)).toArray) := by
  have hmv := moved_places (l := l) (k := k) (n := n) hp hk
  rw [← hq] at hmv
  have hlen : ((encA enP l).take 0 ++ encA enP (l.drop k) ++ (encA enP l).drop (0 + (encA enP (l.drop k)).length)).length = n * 2 := by
    rw [List.take_zero, List.nil_append, List.length_append, List.length_drop, encA_length enP_len, encA_length enP_len, List.length_drop, hp]; omega
  generalize (encA enP l).take 0 ++ encA enP (l.drop k) ++ (encA enP l).drop (0 + (encA enP (l.drop k)).length) = C1 at hmv hlen hrow
  have hr := run_clear_places w b (q * 2) k C1.toArray ty hrow (by rw [List.size_toArray, hlen]; omega)
  rw [show C1.toArray.toList = C1 from rfl, hmv] at hr
  by_cases hc : n = q
  · have hk0 : k = 0 := by omega
    subst hk0
    rw [← hr]
    simp [Builtin.clear_, run_underlying Try.underlying81]
  · rw [if_neg hc]
    exact hr
set_option maxRecDepth 100000 in
set_option maxHeartbeats 2000000 in
theorem drop_ok {w : World} {g b n : Nat} {nx : Int} {R : List UInt8} {W : List (Option UInt8)} (h : Rb w g b n nx R W) (k : Nat) (hk : k ≤ R.length) :
    Calls Try.prog 73 #[.pointer (some ⟨g, 0, none⟩), .int .i64 k] w fun e w' => e = .returned (.tuple #[]) ∧ Rb w' g b n nx (R.drop k) (W ++ List.replicate k none) ∧ Turn w w' (fun k => k = g ∨ k = b) := by
  have hln := h.len
  have hn2 := h.n2
  obtain ⟨q, hq⟩ : ∃ q, q = n - k := ⟨_, rfl⟩
  have HNQ : Hid (n - q = k) := Lib.hid (by omega)
  have HH := Lib.hid h
  have hw1 : IntKind.i64.wrap ((n : Int) - k) = (q : Int) := by rw [IntWalk.i64_in _ (by omega)]; omega
  have q0 : (0 : Int) ≤ (k : Int) := by omega
  have q1 : (k : Int) ≤ (n : Int) := by omega
  have q2 : (0 : Int) ≤ (q : Int) := by omega
  have q3 : (q : Int) ≤ (n : Int) := by omega
  have HQ := Lib.hid hq
  have HK := Lib.hid hk
  clear h hq hk
  go_enter Try.func73, Try.ntmps73
  go_upto_region 0 with fail
  refine region_tailR 10 (by kernel_rfl) (by kernel_rfl) (fun V d => ?_)
  have H1 := Lib.hid (HH.out.below d)
  have D1 := Lib.hid d
  have c2 := H1.out.c2
  clear d
  simp only [List.take_succ_cons, List.take_zero, List.drop_succ_cons, List.drop_zero]
  repeat still_step
  refine wpStill_nil ?_
  rw [cut_at]
  have KC := Lib.hid (drop_copy H1.out.row H1.out.places (k := k) (by omega))
  generalize (if n = k then 0 else k * 2) = o1 at KC ⊢
  refine wpList_copyk rfl (.tmp 7) (.tmp 13) 81 81 rfl (.slice (some ⟨b, 0, none⟩) n n) (.slice (some ⟨b, o1, none⟩) (n - k) (n - k)) _ _ (by kernel_rfl) (by kernel_rfl) KC.out ?_
  have hb1 := setRow_heap V b (encA enP (R.map some ++ W)).toArray ((encA enP (R.map some ++ W)).take 0 ++ encA enP ((R.map some ++ W).drop k) ++ (encA enP (R.map some ++ W)).drop (0 + (encA enP ((R.map some ++ W).drop k)).length)).toArray _ _ H1.out.row
  have HB := Lib.hid hb1
  have HG := Lib.hid ((setRow_other V b g ((encA enP (R.map some ++ W)).take 0 ++ encA enP ((R.map some ++ W).drop k) ++ (encA enP (R.map some ++ W)).drop (0 + (encA enP ((R.map some ++ W).drop k)).length)).toArray (fun e => H1.out.ne e.symm)).trans H1.out.at_)
  have T1 : Hid (Turn w (V.setRow b ((encA enP (R.map some ++ W)).take 0 ++ encA enP ((R.map some ++ W).drop k) ++ (encA enP (R.map some ++ W)).drop (0 + (encA enP ((R.map some ++ W).drop k)).length)).toArray) (fun k => k = g ∨ k = b)) := Lib.hid ((Turn.of_below D1.out).setRow (.inr rfl) _)
  have HP := Lib.hid H1.out.places
  clear hb1 H1 D1 c2 KC
  generalize V.setRow b _ = W1 at HB HG T1 ⊢
  go_upto_region 1 with fail
  refine region_tailR 12 (by kernel_rfl) (by kernel_rfl) (fun V2 d => ?_)
  have HB2 := Lib.hid ((d.block b (Array.getElem?_eq_some_iff.1 HB.out).1).trans HB.out)
  have HG2 := Lib.hid ((d.block g (Array.getElem?_eq_some_iff.1 HG.out).1).trans HG.out)
  have T2 : Hid (Turn w V2 (fun k => k = g ∨ k = b)) := Lib.hid (T1.out.trans (Turn.of_below d))
  have c2 : V2.cell? ⟨g, 2, none⟩ = some (.slice (some ⟨b, 0, none⟩) n n) := by rw [cell_of_block HG2.out]; rfl
  clear d HB HG T1
  simp only [List.take_succ_cons, List.take_zero, List.drop_succ_cons, List.drop_zero]
  repeat still_step
  refine wpStill_nil ?_
  rw [cut_at, HNQ.out]
  have KC := Lib.hid (drop_clear HP.out (by omega) HQ.out HB2.out)
  generalize (if n = q then 0 else q * 2) = o2 at KC ⊢
  refine wpList_cleark rfl (.tmp 26) 81 rfl (.slice (some ⟨b, o2, none⟩) k k) _ _ (by kernel_rfl) KC.out ?_
  have HB3 := Lib.hid (setRow_heap V2 b _ (encA enP ((R.map some ++ W).drop k ++ List.replicate k none)).toArray _ _ HB2.out)
  have HG3 := Lib.hid ((setRow_other V2 b g (encA enP ((R.map some ++ W).drop k ++ List.replicate k none)).toArray (fun e => HH.out.ne e.symm)).trans HG2.out)
  have T3 : Hid (Turn w (V2.setRow b (encA enP ((R.map some ++ W).drop k ++ List.replicate k none)).toArray) (fun k => k = g ∨ k = b)) := Lib.hid (T2.out.setRow (.inr rfl) _)
  clear HB2 HG2 T2 c2 KC
  generalize V2.setRow b _ = W3 at HB3 HG3 T3 ⊢
  obtain ⟨r, hr⟩ : ∃ r, r = R.length := ⟨_, rfl⟩
  have HF := Lib.hid (HH.out.dropped HK.out W3 (HG3.out.trans HH.out.at_.symm) HB3.out r hr)
  have T4 := Lib.hid (T3.out.setCell (.inl rfl) 1 (.int .i64 ((r : Int) - k)))
  have c1 : W3.cell? ⟨g, 1, none⟩ = some (.int .i64 r) := by rw [cell_of_block HG3.out, hr]; rfl
  have f1 : W3.frozen? ⟨g, 1, none⟩ = false := by simp [World.frozen?, HG3.out]
  have hw2 : IntKind.i64.wrap ((r : Int) - k) = (r : Int) - k := IntWalk.i64_in _ (by omega)
  clear hr HB3 HG3 T3
  go_wp2_with fail
  go_end0
  exact ⟨rfl, HF.out, T4.out⟩
end Go.Proofs.Ytlajalfalepbhaa
