/-
  Layer 5: Advance. Conditions: as said.
-/
import Derived.Test.YtbbmfgeagdblcaaWhG
namespace Go.Proofs.Ytbbmfgeagdblcaa
open Go.RowKit Go.Sort Go.Shelf

theorem Row.turn {X : Type} {TE : TypeId} {e : X → Value} {w w' : World} {v : Value} {l : List (Tm X)} {O : Nat → Prop} (h : Row TE e w v l) (t : Turn w w' O) (ho : ∀ k, v.ownBlock = some k → ¬ O k) : Row TE e w' v l := by
  refine ⟨h.1, ?_⟩
  rcases h.2 with h2 | ⟨b, cap, cur, hv, hb, hh, hr⟩
  · exact .inl h2
  · refine .inr ⟨b, cap, cur, hv, hb, ?_, hr⟩
    rw [t.block b (Array.getElem?_eq_some_iff.1 hh).1 (ho b (by rw [hv]; rfl))]
    exact hh

theorem run_append_none {P : Program} (w : World) (t ty TE : TypeId) (i : TypeInfo) (size : Nat) (ht : P.underlying t = some (.slice TE)) (hi : P.info? TE = some i) (hs : i.size = size) (v : Value) (n : Nat) (xs : List Value) (h : w.ownsRow 0 TE size v n xs) :
    (Builtin.append_ #[t, t] ty #[v, .slice none 0 0]).run P w = .ok v w := by
  subst hs
  rcases h.2 with ⟨rfl, _⟩ | ⟨g, cap, cur, rfl, _, hg, hn, _⟩
  · simp [Builtin.append_, run_underlying ht, sizeOf, typeInfo, hi, Builtin.lenOf, Builtin.firstCells]
  · have := run_append_room_src (P := P) w t t ty TE i ht hi g 0 n cap (.slice none 0 0) 0 [] (Src.ofNil w ht 0) (by omega) (fun j hj => by cases hj) (fun j hj => by cases hj)
    rw [this]
    rfl

/-- 'append' of a row, onto a row of its own. -/
theorem wpList_append_rows {P : Program} {ops : Array Oper} {rest : List Oper} {o : Oper} {a : Act} {w : World} {Q : Exit → Act → World → Prop} {X : Type}
    (hg : o.guard = none) (s x : Operand) (t : TypeId) (hop : o.op = Op.call { callee := Callee.builtin Builtin.append, args := #[s, x], argTypes := #[t, t] })
    (TE : TypeId) (i : TypeInfo) (z : Value) (bytes : Nat) (ht : P.underlying t = some (.slice TE)) (hi : P.info? TE = some i) (hz : i.zero = some z) (hsize : i.size = 3) (hby : i.bytes = bytes) (hb2 : bytes ≤ 64) (hzs : z.cells.size = 3)
    (e : X → Value) (h1e : ∀ y, (e y).oneCell' = true) (v : Value) (l : List (Tm X)) (hs : a.eval s = v) (hown : Row TE e w v l) (c : Value) (lc : List (Tm X)) (hx : a.eval x = c) (hc : Row TE e w c lc) (hl : l.length + lc.length ≤ 100000000)
    (hK : ∀ v' w', Row TE e w' v' (l ++ lc) → w.grownBy w' v.ownBlock → (v'.ownBlock = v.ownBlock ∨ v'.ownBlock = some w.heap.size) → wpList P ops Q rest (a.put o.dst v') w') :
    wpList P ops Q (o :: rest) a w :=
  wpList_plain hg fun K hKK => by
    unfold Oper.wp
    rcases hc.2 with ⟨rfl, h0⟩ | ⟨b, cap, cur, rfl, _, hb, _⟩
    · have hr := run_append_none (P := P) w t o.type TE i 3 ht hi hsize v l.length (encL e l) hown
      obtain rfl := List.length_eq_zero_iff.1 h0
      simp only [execOp, hop, resolve, invoke, builtin, Sem.run_bind, Sem.run_pure, Result.andThen_ok, List.map_toArray, List.map_cons, List.map_nil, hs, hx, hr]
      exact hKK _ _ (hK v w (by rw [List.append_nil]; exact hown) ⟨rfl, rfl, rfl, Nat.le_refl _, fun _ _ _ => rfl⟩ (.inl rfl))
    · obtain ⟨v', w', hr, h2, h3, _, h5⟩ := run_append_own_at (P := P) w 0 t o.type TE i z 3 bytes ht hi hz hsize hby hzs (by decide) v l.length (encL e l) hown ⟨b, 0, none⟩ lc.length cap (encL e lc) (encL_length e lc) (hc.cells (g := b) rfl)
        (fun u hu => by
          obtain ⟨tm, _, hu⟩ := List.mem_flatMap.1 hu
          simp [Tm.cells] at hu; rcases hu with rfl | rfl | rfl <;> first | rfl | exact h1e _) (by unfold maxLen; omega) (by have := Nat.mul_le_mul (show l.length + lc.length ≤ 100000000 by omega) hb2; omega) (Nat.zero_le _)
      simp only [execOp, hop, resolve, invoke, builtin, Sem.run_bind, Sem.run_pure, Result.andThen_ok, List.map_toArray, List.map_cons, List.map_nil, hs, hx, hr]
      refine hKK _ _ (hK v' w' ?_ h3 h5)
      unfold Row
      rw [List.length_append, encL_append]
      exact h2

/-- Is slot s among the k that are visited from n on? -/
def visT (n k s : Nat) : Bool := (List.range k).any fun i => (n + i) % 64 == s
theorem visT_zero (n s : Nat) : visT n 0 s = false := rfl
theorem visT_succ (n k s : Nat) : visT n (k + 1) s = (visT n k s || (n + k) % 64 == s) := by simp [visT, List.range_succ]
theorem visT_new (n k : Nat) (hk : k < 64) : visT n k ((n + k) % 64) = false := by
  unfold visT
  rw [List.any_eq_false]
  intro i hi
  have := List.mem_range.1 hi
  simp
  omega
/-- The slots behind k visits. -/
def advLs {X : Type} (N : Int) (n : Nat) (ls : Nat → List (Tm X)) (k : Nat) : Nat → List (Tm X) := fun s => if visT n k s then rests N (ls s) else ls s
theorem advLs_zero {X : Type} (N : Int) (n : Nat) (ls : Nat → List (Tm X)) : advLs N n ls 0 = ls := rfl
theorem advLs_new {X : Type} (N : Int) (n : Nat) (ls : Nat → List (Tm X)) (k : Nat) (hk : k < 64) : advLs N n ls k ((n + k) % 64) = ls ((n + k) % 64) := by
  unfold advLs
  rw [visT_new n k hk]
  rfl
theorem advLs_succ {X : Type} (N : Int) (n : Nat) (ls : Nat → List (Tm X)) (k : Nat) : upd (advLs N n ls k) ((n + k) % 64) (rests N (ls ((n + k) % 64))) = advLs N n ls (k + 1) := by
  funext s
  by_cases h : s = (n + k) % 64
  · subst h
    rw [upd_same]
    unfold advLs
    rw [visT_succ]
    simp
  · rw [upd_other _ _ _ h]
    unfold advLs
    rw [visT_succ, show ((n + k) % 64 == s) = false by simp; omega, Bool.or_false]
/-- What k visits take. -/
def accT {X : Type} (N : Int) (n : Nat) (ls : Nat → List (Tm X)) (k : Nat) : List (Tm X) := (List.range k).flatMap fun i => dues N (ls ((n + i) % 64))
theorem accT_succ {X : Type} (N : Int) (n : Nat) (ls : Nat → List (Tm X)) (k : Nat) : accT N n ls (k + 1) = accT N n ls k ++ dues N (ls ((n + k) % 64)) := by simp [accT, List.range_succ]
theorem accT_len {X : Type} (N : Int) (n : Nat) (ls : Nat → List (Tm X)) (M : Nat) (h : ∀ s, s < 64 → (ls s).length ≤ M) : ∀ k, (accT N n ls k).length ≤ k * M
  | 0 => by simp [accT]
  | k + 1 => by
    rw [accT_succ, List.length_append, Nat.add_mul]
    have h1 := accT_len N n ls M h k
    have h2 := dues_len N (ls ((n + k) % 64))
    have h3 := h ((n + k) % 64) (by omega)
    omega
theorem ls_le {X : Type} (ls : Nat → List (Tm X)) {M : Nat} (hf : count ls 64 ≤ M) (s : Nat) (hs : s < 64) : (ls s).length ≤ M := by
  have h1 := count_mono ls (n := s + 1) (m := 64) (by omega)
  have h2 := count_succ ls s
  omega

/-- Between Advance's visits. -/
def AdvR {X : Type} (TW TE : TypeId) (e : X → Value) (w0 wr : World) (O : Nat → Prop) (g : Nat) (N last : Int) (n : Nat) (ls : Nat → List (Tm X)) (k : Nat) (D : Value) : Prop :=
  ∃ O1, Wh TW TE e wr O1 g N last (advLs N n ls k) ∧ (∀ j, O1 j → (O j ∨ w0.heap.size ≤ j) ∧ j < wr.heap.size) ∧ Row TE e wr D (accT N n ls k) ∧ (∀ j, D.ownBlock = some j → w0.heap.size ≤ j ∧ ¬ O1 j) ∧ Turn w0 wr O
/-- .. and behind a visit, ahead of the append. -/
def AdvM {X : Type} (TW TE : TypeId) (e : X → Value) (w0 wr : World) (O : Nat → Prop) (g : Nat) (N last : Int) (n : Nat) (ls : Nat → List (Tm X)) (k : Nat) (D C : Value) : Prop :=
  Row TE e wr C (dues N (ls ((n + k) % 64))) ∧ Row TE e wr D (accT N n ls k) ∧
  ∃ O1, Wh TW TE e wr O1 g N last (advLs N n ls (k + 1)) ∧ (∀ j, O1 j → (O j ∨ w0.heap.size ≤ j) ∧ j < wr.heap.size) ∧ (∀ j, D.ownBlock = some j → w0.heap.size ≤ j ∧ ¬ O1 j) ∧ Turn w0 wr O
section
variable {X : Type} {TW TE : TypeId} {e : X → Value} {w0 wr w2 : World} {O O1 : Nat → Prop} {g : Nat} {N last : Int} {n : Nat} {ls : Nat → List (Tm X)} {k : Nat} {D D' C : Value}
theorem AdvM.of (hk : k < 64) (hW : Wh TW TE e w2 (fun j => (O1 j ∨ (wr.heap.size ≤ j ∧ j < w2.heap.size)) ∧ C.ownBlock ≠ some j) g N last (upd (advLs N n ls k) ((n + k) % 64) (rests N (advLs N n ls k ((n + k) % 64))))) (hC : Row TE e w2 C (dues N (advLs N n ls k ((n + k) % 64)))) (hT : Turn wr w2 O1)
    (h1 : ∀ j, O1 j → (O j ∨ w0.heap.size ≤ j) ∧ j < wr.heap.size) (h2 : Row TE e wr D (accT N n ls k)) (h3 : ∀ j, D.ownBlock = some j → w0.heap.size ≤ j ∧ ¬ O1 j) (h4 : Turn w0 wr O) : AdvM TW TE e w0 w2 O g N last n ls k D C := by
  rw [advLs_new N n ls k hk] at hW hC
  rw [advLs_succ N n ls k] at hW
  have hz := hT.size
  have hz0 := h4.size
  refine ⟨hC, h2.turn hT (fun j hj => (h3 j hj).2), _, hW, fun j hj => ?_, fun j hj => ⟨(h3 j hj).1, fun hx => ?_⟩, h4.trans' hT (fun j hj hx => ?_)⟩
  · rcases hj.1 with hj | hj
    · exact ⟨(h1 j hj).1, by have := (h1 j hj).2; omega⟩
    · exact ⟨.inr (by omega), hj.2⟩
  · rcases hx.1 with hx | hx
    · exact (h3 j hj).2 hx
    · have := (h2.lt j hj).2; omega
  · rcases (h1 j hx).1 with h | h
    · exact h
    · omega
theorem AdvM.next (h : AdvM TW TE e w0 wr O g N last n ls k D C) (hr : Row TE e w2 D' (accT N n ls k ++ dues N (ls ((n + k) % 64)))) (hg : wr.grownBy w2 D.ownBlock) (hb : D'.ownBlock = D.ownBlock ∨ D'.ownBlock = some wr.heap.size) : AdvR TW TE e w0 w2 O g N last n ls (k + 1) D' := by
  obtain ⟨_, hD, O1, hW, h1, h3, h4⟩ := h
  have hz0 := h4.size
  have hz := hg.size
  refine ⟨O1, hW.kept (fun j hj ho => hg.block j hj (fun hx => (h3 j hx.symm).2 ho)), fun j hj => ⟨(h1 j hj).1, by have := (h1 j hj).2; omega⟩, by rw [accT_succ]; exact hr, fun j hj => ?_, h4.trans' (Turn.of_grown (O := fun j => D.ownBlock = some j) hg (fun j h => h)) (fun j hj hx => ?_)⟩
  · rcases hb with hb | hb
    · exact h3 j (by rw [← hb]; exact hj)
    · rw [hb] at hj; injection hj with hj
      exact ⟨by omega, fun ho => by have := (h1 j ho).2; omega⟩
  · have := (h3 j hx).1; omega
end

set_option maxHeartbeats 400000 in
theorem adv_noneI (w : World) (p : Option Addr) (hp : NoWh w p) (to_ : Int) :
    Calls Try.prog 17 #[.pointer p, .int .i64 to_] w fun e w' => e = .returned (.slice none 0 0) ∧ w = w' := by
  go_enter Try.func17, Try.ntmps17
  go_wp2_with (go_at_call 35; refine (none_yesI _ _ hp).mono ?_; rintro e w' ⟨rfl, rfl⟩)
  go_ret
  exact ⟨rfl, rfl⟩

set_option maxRecDepth 100000 in
set_option maxHeartbeats 400000 in
theorem adv_okI {w : World} {O : Nat → Prop} {g : Nat} {now last : Int} {ls : Nat → List (Tm Int)} (h : WhI w O g now last ls) (to_ : Int) (hn : 0 ≤ now) (hn1 : now ≤ 9223372036854775807) (ht1 : to_ ≤ 9223372036854775807) (hf : count ls 64 ≤ 10000)
    (N : Int) (hN : N = max now to_) (K : Nat) (hK : (K : Int) = min (N - now) 63 + 1) :
    Calls Try.prog 17 #[.pointer (some ⟨g, 0, none⟩), .int .i64 to_] w fun e w' => ∃ (v : Value) (l' : List (Tm Int)), e = .returned v ∧ l'.Perm (accT N now.toNat ls K) ∧ l'.Pairwise (fun x y => ¬ ltT y x) ∧
      w'.ownsRow w.heap.size 3 1 v l'.length (l'.map fun t => (Value.int .i64) t.x) ∧ WhI w' (fun k => O k ∨ (w.heap.size ≤ k ∧ k < w'.heap.size)) g N last (advLs N now.toNat ls K) ∧ Turn w w' O := by
  obtain ⟨vs, m⟩ := h
  have HN := Lib.hid (none_noI m)
  have c0 := m.c0
  have f0 := m.free 0
  have hog := m.2.1
  have M := Lib.hid m
  have hK64 : K ≤ 64 := by omega
  have hKN : now + (K : Int) ≤ N + 1 := by omega
  have hN1 : N ≤ 9223372036854775807 := by omega
  have hal := accT_len N now.toNat ls 10000 (fun s hs => ls_le ls hf s hs) K
  have HLE := Lib.hid (fun s hs => ls_le ls hf s hs)
  have HAL := Lib.hid (accT_len N now.toNat ls 10000 (fun s hs => ls_le ls hf s hs))
  obtain ⟨i0, z0, hi, hz0, hz1, hz2, hz3⟩ := info_tmI
  have HI := Lib.hid hi
  have HZ0 := Lib.hid hz0
  have HZ1 := Lib.hid hz1
  have HZ2 := Lib.hid hz2
  have HZ3 := Lib.hid hz3
  have h64 : 24 ≤ 64 := by decide
  clear m hi hz0 hz1 hz2 hz3
  go_enter Try.func17, Try.ntmps17
  go_wp2_with (go_at_call 35; refine HN.out.mono ?_; rintro e w' ⟨rfl, rfl⟩)
  rw [← hN, ← hK]
  have R1 : AdvR 75 79 (Value.int .i64) w (w.setCell ⟨g, 0, none⟩ (.int .i64 N)) O g N last now.toNat ls 0 (.slice none 0 0) :=
    ⟨fun k => O k ∧ k < w.heap.size, ⟨vs, (M.out.setNow N).mono (fun j hj ho => ⟨ho, by simpa [World.setCell] using hj⟩)⟩, fun j hj => ⟨.inl hj.1, by simpa [World.setCell] using hj.2⟩, World.ownsRow_nil _ _ _ _, fun j hj => by simp [Value.ownBlock] at hj, (Turn.refl w O).setCell hog _ _⟩
  have HHN := Lib.hid hN
  have HHK := Lib.hid hK
  have HF := Lib.hid hf
  clear c0 f0 hN hK hog hf
  generalize w.setCell ⟨g, 0, none⟩ (.int .i64 N) = W1 at R1 ⊢
  go_loopw [6, 28] (fun dv i wr => ∃ k : Nat, k ≤ K ∧ i = .int .i64 k ∧ AdvR 75 79 (Value.int .i64) w wr O g N last now.toNat ls k dv) (fun _ i _ => K - (intOf i).toNat)
  case atStart => exact ⟨0, by omega, rfl, R1⟩
  case round =>
    obtain ⟨k, hk, rfl, RR⟩ := hrel
    by_cases hlt : k < K
    · have hd : decide ((k : Int) < (K : Int)) = true := by simp; omega
      obtain ⟨s, hs⟩ : ∃ s, s = (now.toNat + k) % 64 := ⟨_, rfl⟩
      have hs64 : s < 64 := by omega
      have hs2 : (now + (k : Int)) % 64 = (s : Int) := by omega
      have hnk : now + (k : Int) ≤ 9223372036854775807 := by omega
      obtain ⟨O1, hW, a1, a2, a3, a4⟩ := RR
      have HTD := Lib.hid (takeDue_okI hW s hs64 (by rw [hs, advLs_new N now.toNat ls k (by omega)]; have := HLE.out _ hs64; rw [hs] at this; omega))
      have HMK := Lib.hid (fun (w2 : World) (C : Value) hC hW2 hT => AdvM.of (TW := 75) (TE := 79) (e := (Value.int .i64)) (g := g) (last := last) (N := N) (ls := ls) (n := now.toNat) (k := k) (w2 := w2) (C := C) (D := u6) (show k < 64 by omega) hW2 hC hT a1 a2 a3 a4)
      have HSS := Lib.hid hs
      have hl1 : (accT N now.toNat ls k).length + (dues N (ls ((now.toNat + k) % 64))).length ≤ 100000000 := by
        have h1 := HAL.out k
        have h2 := dues_len N (ls ((now.toNat + k) % 64))
        have h3 := HLE.out ((now.toNat + k) % 64) (by omega)
        omega
      have HL1 := Lib.hid hl1
      clear hs hW a1 a2 a3 a4 hl1
      go_wp2_with (first | (go_at_call 39; refine HTD.out.mono ?_; rintro e w2 ⟨C, rfl, t1, t2, t3, t4⟩; rw [HSS.out] at t1 t3; have HM := Lib.hid (HMK.out w2 C t1 t3 t4); clear t1 t2 t3 t4) | (refine wpList_append_rows rfl (.tmp 31) (.tmp 37) 72 rfl 79 i0 z0 24 Try.underlying72 HI.out HZ0.out HZ1.out HZ2.out h64 HZ3.out (Value.int .i64) (fun _ => rfl) u6 (accT N now.toNat ls k) rfl HM.out.2.1 C (dues N (ls ((now.toNat + k) % 64))) rfl HM.out.1 HL1.out ?_; intro D' w3 hrow hgr hbl; have HNX := Lib.hid (AdvM.next HM.out hrow hgr hbl); clear hrow hgr hbl))
      go_roundw
      case rel => exact ⟨k + 1, by omega, by go_num, HNX.out⟩
      case measure => simp [intOf]; omega
    · obtain rfl : k = K := by omega
      obtain ⟨O1, hW, a1, a2, a3, a4⟩ := RR
      have HS := Lib.hid (fun w => sort_okI w u6 (accT N now.toNat ls k))
      have HX := Lib.hid (things_okI)
      have hl2 : (accT N now.toNat ls k).length ≤ 1000000 := by omega
      have HW := Lib.hid hW
      have HA1 := Lib.hid a1
      have HA2 := Lib.hid a2
      have HA3 := Lib.hid a3
      clear hW a1 a2 a3
      go_wp2_with (first | (go_at_call 40; refine (HS.out wr HA2.out hl2).mono ?_; rintro e w2 ⟨rfl, l', p1, p2, p3, p4⟩; have P1 := Lib.hid p1; have P2 := Lib.hid p2; have P3 := Lib.hid p3; have P4 := Lib.hid p4; clear p1 p2 p3 p4) | (go_at_call 42; refine (HX.out w2 _ l' P3.out (by rw [P1.out.length_eq]; exact hl2)).mono ?_; rintro e w3 ⟨v, rfl, q1, q2⟩; have Q1 := Lib.hid q1; have Q2 := Lib.hid q2; clear q1 q2))
      go_ret
      have z2 := P4.out.size
      have z3 := Q2.out.size
      have z0 := a4.size
      refine ⟨v, l', rfl, P1.out, P2.out, ?_, ?_, ?_⟩
      · obtain ⟨r1, r2⟩ := Q1.out
        refine ⟨r1, ?_⟩
        rcases r2 with r2 | ⟨b, cap, cur, x1, x2, x3⟩
        · exact .inl r2
        · exact .inr ⟨b, cap, cur, x1, by omega, x3⟩
      · refine ((HW.out.kept (w' := w2) (fun j hj ho => ?_)).kept (w' := w3) (fun j hj ho => ?_)).mono (fun j hj ho => ?_)
        · exact P4.out.block j hj (fun hx => (HA3.out j hx).2 ho)
        · exact Q2.out.block j hj id
        · rcases (HA1.out j ho).1 with h | h
          · exact .inl h
          · exact .inr ⟨h, hj⟩
      · refine (a4.trans' P4.out (fun j hj hx => ?_)).trans' Q2.out (fun _ _ h => h.elim)
        have := (HA3.out j hx).1
        omega
set_option maxHeartbeats 400000 in
theorem adv_noneS (w : World) (p : Option Addr) (hp : NoWh w p) (to_ : Int) :
    Calls Try.prog 34 #[.pointer p, .int .i64 to_] w fun e w' => e = .returned (.slice none 0 0) ∧ w = w' := by
  go_enter Try.func34, Try.ntmps34
  go_wp2_with (go_at_call 52; refine (none_yesS _ _ hp).mono ?_; rintro e w' ⟨rfl, rfl⟩)
  go_ret
  exact ⟨rfl, rfl⟩

set_option maxRecDepth 100000 in
set_option maxHeartbeats 400000 in
theorem adv_okS {w : World} {O : Nat → Prop} {g : Nat} {now last : Int} {ls : Nat → List (Tm ByteArray)} (h : WhS w O g now last ls) (to_ : Int) (hn : 0 ≤ now) (hn1 : now ≤ 9223372036854775807) (ht1 : to_ ≤ 9223372036854775807) (hf : count ls 64 ≤ 10000)
    (N : Int) (hN : N = max now to_) (K : Nat) (hK : (K : Int) = min (N - now) 63 + 1) :
    Calls Try.prog 34 #[.pointer (some ⟨g, 0, none⟩), .int .i64 to_] w fun e w' => ∃ (v : Value) (l' : List (Tm ByteArray)), e = .returned v ∧ l'.Perm (accT N now.toNat ls K) ∧ l'.Pairwise (fun x y => ¬ ltT y x) ∧
      w'.ownsRow w.heap.size 9 1 v l'.length (l'.map fun t => Value.string t.x) ∧ WhS w' (fun k => O k ∨ (w.heap.size ≤ k ∧ k < w'.heap.size)) g N last (advLs N now.toNat ls K) ∧ Turn w w' O := by
  obtain ⟨vs, m⟩ := h
  have HN := Lib.hid (none_noS m)
  have c0 := m.c0
  have f0 := m.free 0
  have hog := m.2.1
  have M := Lib.hid m
  have hK64 : K ≤ 64 := by omega
  have hKN : now + (K : Int) ≤ N + 1 := by omega
  have hN1 : N ≤ 9223372036854775807 := by omega
  have hal := accT_len N now.toNat ls 10000 (fun s hs => ls_le ls hf s hs) K
  have HLE := Lib.hid (fun s hs => ls_le ls hf s hs)
  have HAL := Lib.hid (accT_len N now.toNat ls 10000 (fun s hs => ls_le ls hf s hs))
  obtain ⟨i0, z0, hi, hz0, hz1, hz2, hz3⟩ := info_tmS
  have HI := Lib.hid hi
  have HZ0 := Lib.hid hz0
  have HZ1 := Lib.hid hz1
  have HZ2 := Lib.hid hz2
  have HZ3 := Lib.hid hz3
  have h64 : 32 ≤ 64 := by decide
  clear m hi hz0 hz1 hz2 hz3
  go_enter Try.func34, Try.ntmps34
  go_wp2_with (go_at_call 52; refine HN.out.mono ?_; rintro e w' ⟨rfl, rfl⟩)
  rw [← hN, ← hK]
  have R1 : AdvR 109 111 Value.string w (w.setCell ⟨g, 0, none⟩ (.int .i64 N)) O g N last now.toNat ls 0 (.slice none 0 0) :=
    ⟨fun k => O k ∧ k < w.heap.size, ⟨vs, (M.out.setNow N).mono (fun j hj ho => ⟨ho, by simpa [World.setCell] using hj⟩)⟩, fun j hj => ⟨.inl hj.1, by simpa [World.setCell] using hj.2⟩, World.ownsRow_nil _ _ _ _, fun j hj => by simp [Value.ownBlock] at hj, (Turn.refl w O).setCell hog _ _⟩
  have HHN := Lib.hid hN
  have HHK := Lib.hid hK
  have HF := Lib.hid hf
  clear c0 f0 hN hK hog hf
  generalize w.setCell ⟨g, 0, none⟩ (.int .i64 N) = W1 at R1 ⊢
  go_loopw [6, 28] (fun dv i wr => ∃ k : Nat, k ≤ K ∧ i = .int .i64 k ∧ AdvR 109 111 Value.string w wr O g N last now.toNat ls k dv) (fun _ i _ => K - (intOf i).toNat)
  case atStart => exact ⟨0, by omega, rfl, R1⟩
  case round =>
    obtain ⟨k, hk, rfl, RR⟩ := hrel
    by_cases hlt : k < K
    · have hd : decide ((k : Int) < (K : Int)) = true := by simp; omega
      obtain ⟨s, hs⟩ : ∃ s, s = (now.toNat + k) % 64 := ⟨_, rfl⟩
      have hs64 : s < 64 := by omega
      have hs2 : (now + (k : Int)) % 64 = (s : Int) := by omega
      have hnk : now + (k : Int) ≤ 9223372036854775807 := by omega
      obtain ⟨O1, hW, a1, a2, a3, a4⟩ := RR
      have HTD := Lib.hid (takeDue_okS hW s hs64 (by rw [hs, advLs_new N now.toNat ls k (by omega)]; have := HLE.out _ hs64; rw [hs] at this; omega))
      have HMK := Lib.hid (fun (w2 : World) (C : Value) hC hW2 hT => AdvM.of (TW := 109) (TE := 111) (e := Value.string) (g := g) (last := last) (N := N) (ls := ls) (n := now.toNat) (k := k) (w2 := w2) (C := C) (D := u6) (show k < 64 by omega) hW2 hC hT a1 a2 a3 a4)
      have HSS := Lib.hid hs
      have hl1 : (accT N now.toNat ls k).length + (dues N (ls ((now.toNat + k) % 64))).length ≤ 100000000 := by
        have h1 := HAL.out k
        have h2 := dues_len N (ls ((now.toNat + k) % 64))
        have h3 := HLE.out ((now.toNat + k) % 64) (by omega)
        omega
      have HL1 := Lib.hid hl1
      clear hs hW a1 a2 a3 a4 hl1
      go_wp2_with (first | (go_at_call 54; refine HTD.out.mono ?_; rintro e w2 ⟨C, rfl, t1, t2, t3, t4⟩; rw [HSS.out] at t1 t3; have HM := Lib.hid (HMK.out w2 C t1 t3 t4); clear t1 t2 t3 t4) | (refine wpList_append_rows rfl (.tmp 31) (.tmp 37) 106 rfl 111 i0 z0 32 Try.underlying106 HI.out HZ0.out HZ1.out HZ2.out h64 HZ3.out Value.string (fun _ => rfl) u6 (accT N now.toNat ls k) rfl HM.out.2.1 C (dues N (ls ((now.toNat + k) % 64))) rfl HM.out.1 HL1.out ?_; intro D' w3 hrow hgr hbl; have HNX := Lib.hid (AdvM.next HM.out hrow hgr hbl); clear hrow hgr hbl))
      go_roundw
      case rel => exact ⟨k + 1, by omega, by go_num, HNX.out⟩
      case measure => simp [intOf]; omega
    · obtain rfl : k = K := by omega
      obtain ⟨O1, hW, a1, a2, a3, a4⟩ := RR
      have HS := Lib.hid (fun w => sort_okS w u6 (accT N now.toNat ls k))
      have HX := Lib.hid (things_okS)
      have hl2 : (accT N now.toNat ls k).length ≤ 1000000 := by omega
      have HW := Lib.hid hW
      have HA1 := Lib.hid a1
      have HA2 := Lib.hid a2
      have HA3 := Lib.hid a3
      clear hW a1 a2 a3
      go_wp2_with (first | (go_at_call 55; refine (HS.out wr HA2.out hl2).mono ?_; rintro e w2 ⟨rfl, l', p1, p2, p3, p4⟩; have P1 := Lib.hid p1; have P2 := Lib.hid p2; have P3 := Lib.hid p3; have P4 := Lib.hid p4; clear p1 p2 p3 p4) | (go_at_call 57; refine (HX.out w2 _ l' P3.out (by rw [P1.out.length_eq]; exact hl2)).mono ?_; rintro e w3 ⟨v, rfl, q1, q2⟩; have Q1 := Lib.hid q1; have Q2 := Lib.hid q2; clear q1 q2))
      go_ret
      have z2 := P4.out.size
      have z3 := Q2.out.size
      have z0 := a4.size
      refine ⟨v, l', rfl, P1.out, P2.out, ?_, ?_, ?_⟩
      · obtain ⟨r1, r2⟩ := Q1.out
        refine ⟨r1, ?_⟩
        rcases r2 with r2 | ⟨b, cap, cur, x1, x2, x3⟩
        · exact .inl r2
        · exact .inr ⟨b, cap, cur, x1, by omega, x3⟩
      · refine ((HW.out.kept (w' := w2) (fun j hj ho => ?_)).kept (w' := w3) (fun j hj ho => ?_)).mono (fun j hj ho => ?_)
        · exact P4.out.block j hj (fun hx => (HA3.out j hx).2 ho)
        · exact Q2.out.block j hj id
        · rcases (HA1.out j ho).1 with h | h
          · exact .inl h
          · exact .inr ⟨h, hj⟩
      · refine (a4.trans' P4.out (fun j hj hx => ?_)).trans' Q2.out (fun _ _ h => h.elim)
        have := (HA3.out j hx).1
        omega

end Go.Proofs.Ytbbmfgeagdblcaa
