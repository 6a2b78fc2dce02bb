/-
  Layer 13: slices.Delete of the first bytes; Ack, Get. Conditions: as said.
-/
import Derived.Test.YtlajalfalepbhaaSbB
namespace Go.Proofs.Ytlajalfalepbhaa
open Go.RowKit Go.Sort
set_option linter.unusedVariables false

theorem padB_drop {L : List UInt8} {n k : Nat} (hl : L.length ≤ n) (hk : k ≤ L.length) :
    ((L.drop k).map ebS ++ (padB L n).drop (L.length - k)).take (L.length - k) ++ List.replicate k (Value.int .u8 0) ++ ((L.drop k).map ebS ++ (padB L n).drop (L.length - k)).drop (L.length - k + k) = padB (L.drop k) n := by
  have e1 : ((L.drop k).map ebS).length = L.length - k := by rw [List.length_map, List.length_drop]
  have e2 : (padB L n).drop L.length = List.replicate (n - L.length) (Value.int .u8 0) := by
    unfold padB
    rw [List.drop_left' (by rw [List.length_map])]
  have e3 : ((L.drop k).map ebS ++ (padB L n).drop (L.length - k)).drop (L.length - k + k) = ((padB L n).drop (L.length - k)).drop k := by
    have := List.drop_length_add_append (l₁ := (L.drop k).map ebS) (l₂ := (padB L n).drop (L.length - k)) (i := k)
    rw [e1] at this
    exact this
  rw [List.take_left' e1, e3, List.drop_drop, show L.length - k + k = L.length by omega, e2]
  unfold padB
  rw [List.length_drop, List.append_assoc, List.replicate_append_replicate]
  congr 2
  omega
theorem clear_bytes {w : World} {b o m c : Nat} {cur : Array Value} (hb : w.heap[b]? = some (.cells cur 5 (0, 0))) (hm : 0 < m) (hfit : o + m ≤ cur.size) (ty : TypeId) :
    (Builtin.clear_ #[51] ty #[.slice (some ⟨b, o, none⟩) m c]).run Try.prog w = .ok (.tuple #[]) (w.setRow b (cur.toList.take o ++ List.replicate m (Value.int .u8 0) ++ cur.toList.drop (o + m)).toArray) := by
  have hz : (Builtin.zeroCells (Value.int .u8 0).cells m).toList = List.replicate m (Value.int .u8 0) := by
    apply List.ext_getElem?
    intro j
    by_cases hj : j < m
    · simp [Builtin.zeroCells, Value.cells, hj, Nat.mod_one]
    · simp [Builtin.zeroCells, Value.cells, hj]
  have hst := run_storeCells_at Try.prog b o 5 (List.replicate m (Value.int .u8 0)) 0 cur w hb (by rw [List.length_replicate]; simpa using hfit) (fun u hu => by rw [List.eq_of_mem_replicate hu]; rfl)
  rw [List.length_replicate, Nat.add_zero] at hst
  have hzv : ∀ w, (zeroValue 5).run Try.prog w = .ok (.int .u8 0) w := Try.zeroValue5
  match m, hm with
  | m + 1, _ =>
    rw [← hz] at hst ⊢
    simp [Builtin.clear_, run_underlying Try.underlying51, Sem.run_bind, hzv, hst]
set_option maxRecDepth 100000 in
set_option maxHeartbeats 1000000 in
theorem sdelete_ok (w : World) (b n k : Nat) (L : List UInt8) (hb : w.heap[b]? = some (.cells (padB L n).toArray 5 (0, 0))) (hl : L.length ≤ n) (hn : n ≤ 2048) (hk : k ≤ L.length) :
    Calls Try.prog 99 #[.slice (some ⟨b, 0, none⟩) L.length n, .int .i64 0, .int .i64 k] w fun e w' =>
      e = .returned (.slice (some ⟨b, 0, none⟩) (L.length - k) n) ∧ w'.heap[b]? = some (.cells (padB (L.drop k) n).toArray 5 (0, 0)) ∧ Turn w w' (fun j => j = b) := by
  by_cases hk0 : k = 0
  · subst hk0
    have hd : decide ((0 : Int) = ((0 : Nat) : Int)) = true := by simp
    have HB := Lib.hid hb
    clear hb
    go_enter Try.func99, Try.ntmps99
    go_wp2_with fail
    go_ret
    exact ⟨rfl, HB.out, Turn.refl _ _⟩
  have hd : decide ((0 : Int) = (k : Int)) = false := by simp; omega
  have hpl : (padB L n).length = n := padB_len hl
  obtain ⟨news, hnews⟩ : ∃ news, news = (L.drop k).map ebS := ⟨_, rfl⟩
  have hnl : news.length = (L.length - k) * 1 := by rw [hnews, List.length_map, List.length_drop, Nat.mul_one]
  obtain ⟨A, hA, hsrc⟩ : ∃ A : Addr, (if n = k then (some ⟨b, 0, none⟩ : Option Addr) else some ⟨b, k, none⟩) = some A ∧ Hid (∀ j u, news[j]? = some u → w.drew.cell? (A.add j) = some u) := by
    by_cases hc : n = k
    · refine ⟨⟨b, 0, none⟩, by simp [hc], fun j u hu => ?_⟩
      have h0 : news.length = 0 := by rw [hnl]; omega
      rw [List.length_eq_zero_iff.1 h0] at hu
      simp at hu
    · refine ⟨⟨b, k, none⟩, by simp [hc], fun j u hu => ?_⟩
      rw [add_off]
      show w.cell? _ = _
      rw [cell_of_block hb, List.getElem?_toArray]
      rw [hnews, List.getElem?_map, List.getElem?_drop] at hu
      obtain ⟨x, hx, rfl⟩ := Option.map_eq_some_iff.1 hu
      exact padB_at hx
  have hone : Hid (∀ u ∈ news, u.oneCell' = true) := fun u hu => by
    rw [hnews] at hu
    exact padB_one _ u hu
  obtain ⟨i0, z0, hi0, hz0, hz1, hz2, hz3⟩ := info_u8
  obtain ⟨W1, hW1⟩ : ∃ W1, W1 = w.drew.setRow b ((padB L n).toArray.toList.take (0 * 1) ++ news ++ (padB L n).toArray.toList.drop (0 * 1 + news.length)).toArray := ⟨_, rfl⟩
  have hb1 : W1.heap[b]? = some (.cells ((L.drop k).map ebS ++ (padB L n).drop (L.length - k)).toArray 5 (0, 0)) := by
    rw [hW1, setRow_heap w.drew b (padB L n).toArray _ _ _ hb, hnl, hnews, Nat.zero_mul, List.take_zero, List.nil_append, Nat.zero_add, Nat.mul_one]
  have hc1 : ((L.drop k).map ebS ++ (padB L n).drop (L.length - k)).toArray.size = n := by
    rw [List.size_toArray, List.length_append, List.length_map, List.length_drop, List.length_drop, hpl]
    omega
  obtain ⟨q, hq⟩ : ∃ q, q = L.length - k := ⟨_, rfl⟩
  have hcl := fun ty c => clear_bytes (m := k) (o := L.length - k) (c := c) hb1 (by omega) (by rw [hc1]; omega) ty
  have hpd := padB_drop hl hk
  rw [← hq] at hcl hpd hnl
  rw [show ∀ X : List Value, X.toArray.toList = X from fun _ => rfl] at hcl
  simp only [hpd] at hcl
  have HFIN : Hid ((W1.setRow b (padB (L.drop k) n).toArray).heap[b]? = some (.cells (padB (L.drop k) n).toArray 5 (0, 0)) ∧ Turn w (W1.setRow b (padB (L.drop k) n).toArray) (fun j => j = b)) := Lib.hid ⟨setRow_heap W1 b _ _ _ _ hb1, by
    rw [hW1]
    exact ⟨rfl, rfl, rfl, by rw [size_setRow, size_setRow]; exact Nat.le_refl _, fun k _ hk => by rw [setRow_other _ _ _ _ hk, setRow_other _ _ _ _ hk]; rfl⟩⟩
  have hcl2 := fun ty => hcl ty (n - q)
  have HB := Lib.hid hb
  have HHI := Lib.hid hi0
  have HZ1 := Lib.hid hz1
  have HHN := Lib.hid hnl
  have HW1 := Lib.hid hW1
  have HPL := Lib.hid hpl
  have HQ := Lib.hid hq
  have hql : q + k = L.length := by omega
  clear hi0 hz0 hz1 hz2 hz3 hb hnews hnl hW1 hb1 hc1 hpd hcl hpl hq
  generalize hlen : L.length = l at hl hk hql ⊢
  go_enter Try.func99, Try.ntmps99
  go_wp2_with fail
  have hjl : (k : Int) ≤ (l : Int) := by omega
  have hj0 : 0 ≤ (k : Int) := by omega
  have hjn : (k : Int) ≤ (n : Int) := by omega
  have e1 : l - k = q := by omega
  have e2 : l - q = k := by omega
  have e3 : ¬ n = q := by omega
  have e4 : (q : Int) ≤ (l : Int) := by omega
  have e5 : (l : Int) ≤ (n : Int) := by omega
  have e6 : (0 : Int) ≤ (q : Int) := by omega
  go_region_law (refine step_append_in rfl (.tmp 22) (.tmp 25) 51 rfl 5 i0 1 Try.underlying51 HHI.out HZ1.out b 0 n (padB L n).toArray HB.out (by simp [Act.eval, Act.put]) A q (n - k) news (by simp [Act.eval, Act.put]) HHN.out hsrc.out hone.out (by omega) (by rw [List.size_toArray, HPL.out, HHN.out]; omega) ?_; rw [← HW1.out])
  go_wp2
  go_ret
  exact ⟨by rw [e1]; rfl, HFIN.out.1, HFIN.out.2⟩
section
variable {w w' : World} {g b n : Nat} {u : Int} {L : List UInt8}
theorem Sb.acked (h : Sb w g b n u L) {W1 : World} {K : Nat} (hK : K ≤ L.length) (hg : W1.heap[g]? = w.heap[g]?) (hb : W1.heap[b]? = some (.cells (padB (L.drop K) n).toArray 5 (0, 0))) (l : Nat) (hl : l = L.length - K) (x : Int) (hx : x = (u + K) % 4294967296) :
    Sb ((W1.setCell ⟨g, 2, none⟩ (.slice (some ⟨b, 0, none⟩) l n)).setCell ⟨g, 0, none⟩ (.int .u32 x)) g b n x (L.drop K) := by
  subst hl hx
  refine ⟨?_, ?_, h.ne, by rw [List.length_drop]; have := h.le; omega, h.n1, h.n2, Int.emod_nonneg _ (by decide), Int.emod_lt_of_pos _ (by decide)⟩
  · have e1 := set_cellsB (hg.trans h.at_) (.slice (some ⟨b, 0, none⟩) (L.length - K) n) (i := 2) (by show 2 < 4; omega)
    have e2 := set_cellsB e1 (.int .u32 ((u + K) % 4294967296)) (i := 0) (by rw [Array.size_setIfInBounds]; show 0 < 4; omega)
    rw [e2, List.length_drop]
    rfl
  · rw [Below.heap_setCell _ _ _ _ (by show b ≠ g; exact h.ne), Below.heap_setCell _ _ _ _ (by show b ≠ g; exact h.ne)]
    exact hb
end
set_option maxRecDepth 100000 in
set_option maxHeartbeats 1000000 in
theorem sack_ok {w : World} {g b n : Nat} {u : Int} {L : List UInt8} (h : Sb w g b n u L) (x : Int) (hx : 0 ≤ x ∧ x < 4294967296) (K : Nat) (hK : (K : Int) = if ahN u x ≤ L.length then ahN u x else 0) (u' : Int) (hu : u' = (u + K) % 4294967296) :
    Calls Try.prog 87 #[.pointer (some ⟨g, 0, none⟩), .int .u32 x] w fun e w' => e = .returned (.int .i64 K) ∧ Sb w' g b n u' (L.drop K) ∧ Turn w w' (fun j => j = g ∨ j = b) := by
  have hle := h.le
  have hn2 := h.n2
  have hx0 := h.x0
  have hx1 := h.x1
  have c0 := h.c0
  have c2 := h.c2
  have kA := Lib.hid (ah_any w u x)
  have HH := Lib.hid h
  by_cases hf : ahN u x ≤ L.length
  · rw [if_pos hf] at hK
    rw [← hK] at hf kA
    have hf2 : decide (L.length < K) = false := decide_eq_false (by omega)
    have hf3 : decide ((L.length : Int) < (K : Int)) = false := decide_eq_false (by omega)
    have hKL : K ≤ L.length := by omega
    have hxu : x = u' := by rw [hu, hK]; unfold ahN; omega
    have HXU := Lib.hid hxu
    have HU := Lib.hid hu
    have KD := Lib.hid (sdelete_ok w b n K L h.row h.le h.n2 hKL)
    have HKL := Lib.hid hKL
    clear h hK hu hx hxu hx0 hx1 hf hKL
    go_enter Try.func87, Try.ntmps87
    go_wp2_with (first | (go_at_call 75; refine (snone_no HH.out).mono ?_; rintro e w' ⟨rfl, rfl⟩) | (go_at_call 86; refine kA.out.mono ?_; rintro e w1 ⟨rfl, rfl⟩))
    refine KD.out.mono ?_
    rintro e W1 ⟨rfl, q1, q2⟩
    have Q1 := Lib.hid q1
    have Q2 := Lib.hid q2
    clear q1 q2 c0 c2 kA
    have HG := Lib.hid (Q2.out.block g HH.out.lt (fun e => HH.out.ne e.symm))
    obtain ⟨l, hl⟩ : ∃ l, l = L.length - K := ⟨_, rfl⟩
    rw [← hl]
    have HL := Lib.hid hl
    clear hl
    have d0 : W1.cell? ⟨g, 0, none⟩ = some (.int .u32 u) := by rw [cell_of_block (HG.out.trans HH.out.at_)]; rfl
    have d2 : W1.cell? ⟨g, 2, none⟩ = some (.slice (some ⟨b, 0, none⟩) L.length n) := by rw [cell_of_block (HG.out.trans HH.out.at_)]; rfl
    have f0 : W1.frozen? ⟨g, 0, none⟩ = false := by simp [World.frozen?, HG.out.trans HH.out.at_]
    have f2 : W1.frozen? ⟨g, 2, none⟩ = false := by simp [World.frozen?, HG.out.trans HH.out.at_]
    go_wp2_with fail
    go_ret
    refine ⟨rfl, ?_, ?_⟩
    · have := HH.out.acked HKL.out HG.out Q1.out l HL.out u' HU.out
      rw [HXU.out]
      exact this
    · exact ((Q2.out.mono (fun j _ e => .inr e)).setCell (.inl rfl) _ _).setCell (.inl rfl) _ _
  · rw [if_neg hf] at hK
    obtain rfl : K = 0 := by omega
    have hf2 : decide ((L.length : Int) < ahN u x) = true := decide_eq_true (by omega)
    have HU : Hid (u' = u) := Lib.hid (by rw [hu]; omega)
    clear h hK hu hx hx0 hx1 hf
    generalize ahN u x = far at kA hf2
    go_enter Try.func87, Try.ntmps87
    go_wp2_with (first | (go_at_call 75; refine (snone_no HH.out).mono ?_; rintro e w' ⟨rfl, rfl⟩) | (go_at_call 86; refine kA.out.mono ?_; rintro e w1 ⟨rfl, rfl⟩))
    go_ret
    exact ⟨rfl, by rw [HU.out]; exact HH.out, Turn.refl _ _⟩
theorem conv_bytesO (w : World) (h o c : Nat) (d : List UInt8) (K : Nat) (hK : d.length = K) (hc : ∀ j x, d[j]? = some x → w.cell? ⟨h, o + j, none⟩ = some (ebS x)) :
    (convert 51 9 (.slice (some ⟨h, o, none⟩) K c)).run Try.prog w = .ok (.string ⟨d.toArray⟩) w := by
  subst hK
  refine run_convert_bytes_back (P := Try.prog) w _ _ 5 ⟨h, o, none⟩ _ d Try.underlying51 Try.underlying5 Try.underlying9 fun j hj => ?_
  rw [add_off, hc j _ (List.getElem?_eq_getElem hj)]
  rfl
/-- What Get tells. -/
def getS (u s x : Int) (L : List UInt8) : List UInt8 := (L.drop (ahN u s).toNat).take x.toNat
theorem snone_dr {w : World} {g b n : Nat} {u : Int} {L : List UInt8} (h : Sb w g b n u L) (k : Nat) :
    Calls Try.prog 75 #[.pointer (some ⟨g, 0, none⟩)] (w.drewN k) fun e w' => e = .returned (.bool false) ∧ w' = w.drewN k :=
  (snone_no (h.below (below_drewN (Below.refl _ _) _))).mono fun _ _ h => ⟨h.1, h.2.symm⟩
set_option maxRecDepth 100000 in
set_option maxHeartbeats 1000000 in
theorem sget_ok {w : World} {g b n : Nat} {u : Int} {L : List UInt8} (h : Sb w g b n u L) (s x : Int) (hx : x ≤ 9223372036854775807) :
    Calls Try.prog 94 #[.pointer (some ⟨g, 0, none⟩), .int .u32 s, .int .i64 x] w fun e w' => e = .returned (.string ⟨(getS u s x L).toArray⟩) ∧ Below w.heap.size w w' := by
  have hn2 := h.n2
  have hle := h.le
  have c0 := h.c0
  have c2 := h.c2
  have HH := Lib.hid h
  have ha0 := ahN_lo u s
  by_cases h1 : x < 1
  · have d1 : decide (x < (1 : Int)) = true := decide_eq_true h1
    have HE : Hid (getS u s x L = []) := Lib.hid (by unfold getS; rw [show x.toNat = 0 by omega, List.take_zero])
    clear h h1 hx ha0
    go_enter Try.func94, Try.ntmps94
    go_wp2_with fail
    go_quiet (first | (go_at_call 75; exact Calls.quiet_of_same (snone_dr HH.out _)))
    go_wp2_with fail
    go_ret
    exact ⟨by rw [HE.out]; rfl, below_drewN (Below.refl _ _) _⟩
  have d1 : decide (x < (1 : Int)) = false := decide_eq_false h1
  obtain ⟨a, ha⟩ : ∃ a, ahN u s = a := ⟨_, rfl⟩
  have kI := Lib.hid (fun wr => in_any wr s u L.length)
  have kA := Lib.hid (fun wr => ah_any wr u s)
  unfold inN at kI
  rw [ha] at kI kA ha0
  have HA := Lib.hid ha
  clear ha
  by_cases h2 : a < (L.length : Int)
  · have d2 : decide (a < (L.length : Int)) = true := decide_eq_true h2
    rw [d2] at kI
    obtain ⟨j, rfl⟩ := Int.eq_ofNat_of_zero_le ha0
    have hj : j < L.length := by omega
    obtain ⟨K, hK⟩ : ∃ K : Nat, (K : Int) = min x ((L.length - j : Nat) : Int) := ⟨(min x ((L.length - j : Nat) : Int)).toNat, by omega⟩
    have HE : Hid (getS u s x L = (L.drop j).take K) := Lib.hid (by
      unfold getS
      rw [HA.out, Int.toNat_natCast]
      by_cases hq : x.toNat ≤ L.length - j
      · rw [show K = x.toNat by omega]
      · rw [List.take_of_length_le (by rw [List.length_drop]; omega), List.take_of_length_le (by rw [List.length_drop]; omega)])
    have HCL : Hid (((L.drop j).take K).length = K) := Lib.hid (by rw [List.length_take, List.length_drop]; omega)
    have HC : Hid (∀ wr, Sb wr g b n u L → ∀ i x, ((L.drop j).take K)[i]? = some x → wr.cell? ⟨b, j + i, none⟩ = some (ebS x)) := Lib.hid (fun wr hr i x hi => by
      rw [List.getElem?_take] at hi
      split at hi
      · rw [List.getElem?_drop] at hi
        rw [cell_of_block hr.row, List.getElem?_toArray]
        exact padB_at hi
      · cases hi)
    have n1 : ¬ n = j := by omega
    have e1 : min x ((L.length - j : Nat) : Int) = (K : Int) := hK.symm
    have e2 : (0 : Int) ≤ (j : Int) := by omega
    have e3 : (j : Int) ≤ (L.length : Int) := by omega
    have e4 : (0 : Int) ≤ (K : Int) := by omega
    have e5 : (K : Int) ≤ ((n - j : Nat) : Int) := by omega
    clear h h1 hx h2 hj hK
    go_enter Try.func94, Try.ntmps94
    go_wp2_with fail
    go_quiet (first | (go_at_call 75; exact Calls.quiet_of_same (snone_dr HH.out _)) | (go_at_call 83; exact Calls.quiet_of_same (kI.out _)))
    have BL : Hid (Below w.heap.size w (w.drewN nq)) := Lib.hid (below_drewN (Below.refl _ _) _)
    generalize w.drewN nq = w1 at BL ⊢
    have H1 := Lib.hid (HH.out.below BL.out)
    clear c0 c2
    have c0 := H1.out.c0
    have c2 := H1.out.c2
    have cv := fun k => conv_bytesO (w1.drewN k) b j (n - j) ((L.drop j).take K) K HCL.out (fun i x hi => HC.out w1 H1.out i x hi)
    go_wp2_with fail
    go_quiet (first | (go_at_call 86; exact Calls.quiet_of_same (kA.out _)))
    go_wp2_with fail
    go_ret
    exact ⟨by rw [HE.out]; rfl, below_drewN BL.out _⟩
  · have d2 : decide (a < (L.length : Int)) = false := decide_eq_false h2
    rw [d2] at kI
    have HE : Hid (getS u s x L = []) := Lib.hid (by unfold getS; rw [HA.out, List.drop_eq_nil_of_le (by omega), List.take_nil])
    clear h h1 hx h2 ha0
    go_enter Try.func94, Try.ntmps94
    go_wp2_with fail
    go_quiet (first | (go_at_call 75; exact Calls.quiet_of_same (snone_dr HH.out _)) | (go_at_call 83; exact Calls.quiet_of_same (kI.out _)))
    go_wp2_with fail
    go_ret
    exact ⟨by rw [HE.out]; rfl, below_drewN (Below.refl _ _) _⟩
set_option maxRecDepth 100000 in
set_option maxHeartbeats 1000000 in
theorem saget_no (w : World) (p : Option Addr) (h : SbNone w p) (s x : Int) :
    Calls Try.prog 94 #[.pointer p, .int .u32 s, .int .i64 x] w fun e w' => e = .returned (.string ⟨#[]⟩) ∧ Below w.heap.size w w' := by
  have HN := Lib.hid h
  have kn : Hid (∀ k, Calls Try.prog 75 #[.pointer p] (w.drewN k) fun e w' => e = .returned (.bool true) ∧ w' = w.drewN k) := Lib.hid (fun k => (snone_yes _ _ (h.imp id (fun ⟨g, e, c⟩ => ⟨g, e, c⟩))).mono fun _ _ h => ⟨h.1, h.2.symm⟩)
  clear h
  go_enter Try.func94, Try.ntmps94
  go_wp2_with fail
  go_quiet (first | (go_at_call 75; exact Calls.quiet_of_same (kn.out _)))
  go_wp2_with fail
  go_ret
  exact ⟨rfl, below_drewN (Below.refl _ _) _⟩
end Go.Proofs.Ytlajalfalepbhaa
