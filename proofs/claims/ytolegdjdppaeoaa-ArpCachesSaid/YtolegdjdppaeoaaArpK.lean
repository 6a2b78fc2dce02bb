/-
  Layer 7: a cache in memory; New, Len, find, Find. Conditions: as said.
-/
import Derived.Test.YtolegdjdppaeoaaArpJ
import Derived.Test.YtolegdjdppaeoaaShelfI
import Derived.Test.YtolegdjdppaeoaaRef
namespace Go.Proofs.Ytolegdjdppaeoaa
open Go.RowKit Go.Sort Go.Shelf
set_option linter.unusedVariables false

/-- What was learnt: an address, its address, an age. -/
structure En where
  ip : Ip4
  ma : Mac6
  age : Int
instance : Inhabited En := ⟨⟨⟨0, 0, 0, 0⟩, ⟨0, 0, 0, 0, 0, 0⟩, 0⟩⟩
def enE (x : En) : List Value := [.int .u8 (x.ip.a.toNat : Int), .int .u8 (x.ip.b.toNat : Int), .int .u8 (x.ip.c.toNat : Int), .int .u8 (x.ip.d.toNat : Int), .int .u8 (x.ma.a.toNat : Int), .int .u8 (x.ma.b.toNat : Int), .int .u8 (x.ma.c.toNat : Int), .int .u8 (x.ma.d.toNat : Int), .int .u8 (x.ma.e.toNat : Int), .int .u8 (x.ma.f.toNat : Int), .int .i64 x.age]
theorem enE_len (x : En) : (enE x).length = 11 := rfl
theorem enE_one (x : En) : ∀ u ∈ enE x, u.oneCell' = true := by
  intro u hu
  simp only [enE, List.mem_cons, List.not_mem_nil, or_false] at hu
  rcases hu with rfl | rfl | rfl | rfl | rfl | rfl | rfl | rfl | rfl | rfl | rfl <;> rfl
/-- The entries of a cache. -/
abbrev EnRow (w : World) (v : Value) (l : List En) : Prop := RowA 11 enE 68 w v l
/-- A cache that 'New' made, in block g. -/
structure Ca (w : World) (g : Nat) (lim : Int) (v : Value) (l : List En) : Prop where
  at_ : w.heap[g]? = some (.cells #[.int .i64 lim, v, .pointer (some ⟨g, 0, none⟩)] 62 (0, 0))
  row : EnRow w v l
  ne : ∀ k, v.ownBlock = some k → k ≠ g
/-- The blocks of a cache. -/
def CaO (g : Nat) (v : Value) (k : Nat) : Prop := k = g ∨ v.ownBlock = some k
section
variable {w w' : World} {g : Nat} {lim : Int} {v : Value} {l : List En}
theorem Ca.c0 (h : Ca w g lim v l) : w.cell? ⟨g, 0, none⟩ = some (.int .i64 lim) := by rw [cell_of_block h.at_]; rfl
theorem Ca.c1 (h : Ca w g lim v l) : w.cell? ⟨g, 1, none⟩ = some v := by rw [cell_of_block h.at_]; rfl
theorem Ca.c2 (h : Ca w g lim v l) : w.cell? ⟨g, 2, none⟩ = some (.pointer (some ⟨g, 0, none⟩)) := by rw [cell_of_block h.at_]; rfl
theorem Ca.f (h : Ca w g lim v l) (i : Nat) : w.frozen? ⟨g, i, none⟩ = false := by simp [World.frozen?, h.at_]
theorem Ca.lt (h : Ca w g lim v l) : g < w.heap.size := (Array.getElem?_eq_some_iff.1 h.at_).1
theorem Ca.kept (h : Ca w g lim v l) (hs : w.heap.size ≤ w'.heap.size) (k : ∀ j, CaO g v j → j < w.heap.size → w'.heap[j]? = w.heap[j]?) : Ca w' g lim v l :=
  ⟨(k g (.inl rfl) h.lt).trans h.at_, h.row.kept hs (fun b hb => k b (.inr hb) (h.row.lt b hb).2), h.ne⟩
theorem Ca.grow (h : Ca w g lim v l) (b : Below w.heap.size w w') : Ca w' g lim v l := h.kept b.size (fun j _ hj => b.block j hj)
end

set_option maxHeartbeats 400000 in
theorem cnew_bad (w : World) (lim : Int) (h : lim < 1 ∨ 1048576 < lim) :
    Calls Try.prog 11 #[.int .i64 lim] w fun e w' => e = .returned (.tuple #[.pointer none, .int .i64 1]) ∧ w = w' := by
  rcases h with h | h
  · go_enter Try.func11, Try.ntmps11
    go_wp2
    go_ret2
    exact ⟨rfl, rfl⟩
  · have h1 : ¬ lim < 1 := by omega
    go_enter Try.func11, Try.ntmps11
    go_wp2
    go_ret2
    exact ⟨rfl, rfl⟩
set_option maxHeartbeats 400000 in
theorem cnew_ok (w : World) (lim : Int) (h1 : 1 ≤ lim) (h2 : lim ≤ 1048576) :
    Calls Try.prog 11 #[.int .i64 lim] w fun e w' => e = .returned (.tuple #[.pointer (some ⟨w.heap.size, 0, none⟩), .int .i64 0]) ∧ Ca w' w.heap.size lim (.slice none 0 0) [] ∧ Below w.heap.size w w' := by
  have h3 : ¬ lim < 1 := by omega
  have h4 : ¬ 1048576 < lim := by omega
  go_enter Try.func11, Try.ntmps11
  go_wp2
  go_ret2
  exact ⟨rfl, ⟨heap_alloc_new w _, World.ownsRow_nil _ _ _ _, fun k hk => by simp [Value.ownBlock] at hk⟩, (Below.refl _ _).alloc (Nat.le_refl _) _⟩

theorem info_ca : ∃ j, Try.prog.info? 62 = some j := Option.isSome_iff_exists.1 (by kernel_rfl)
set_option maxHeartbeats 400000 in
theorem cnone_no {w : World} {g : Nat} {lim : Int} {v : Value} {l : List En} (h : Ca w g lim v l) :
    Calls Try.prog 24 #[.pointer (some ⟨g, 0, none⟩)] w fun e w' => e = .returned (.bool false) ∧ w = w' := by
  have hm := h.c2
  obtain ⟨j, hj⟩ := info_ca
  have hq := Lib.run_neq_ptr_same (P := Try.prog) (w := w) ⟨g, 0, none⟩ Try.underlying31 hj
  clear h hj
  go_enter Try.func24, Try.ntmps24
  go_wp2
  go_ret
  exact ⟨rfl, rfl⟩
set_option maxHeartbeats 400000 in
theorem clen_ok {w : World} {g : Nat} {lim : Int} {v : Value} {l : List En} (h : Ca w g lim v l) (hl : l.length ≤ 1000000) :
    Calls Try.prog 17 #[.pointer (some ⟨g, 0, none⟩)] w fun e w' => e = .returned (.int .i64 l.length) ∧ w = w' := by
  have c1 := h.c1
  obtain ⟨p, c, hv⟩ := h.row.shape
  rw [hv] at c1
  have HH := Lib.hid h
  clear h hv
  go_enter Try.func17, Try.ntmps17
  go_wp2_with (go_at_call 24; refine (cnone_no HH.out).mono ?_; rintro e w' ⟨rfl, rfl⟩)
  go_ret
  exact ⟨rfl, rfl⟩

/-- What find finds. -/
def FoundE (i : Ip4) (l : List En) (r : Int) : Prop := (r = -1 ∧ ∀ x ∈ l, x.ip ≠ i) ∨ ∃ j : Nat, ∃ h : j < l.length, r = (j : Int) ∧ l[j].ip = i ∧ ∀ x ∈ l.take j, x.ip ≠ i
theorem idx_cases {α : Type} (p : α → Bool) (d : α) : ∀ (l : List α) (n : Nat), (Lib.idxByFrom (fun _ y => p y) d l n = -1 ∧ ∀ t ∈ l, p t = false) ∨ ∃ i, ∃ h : i < l.length, Lib.idxByFrom (fun _ y => p y) d l n = ((n + i : Nat) : Int) ∧ p l[i] = true ∧ ∀ t ∈ l.take i, p t = false
  | [], n => .inl ⟨rfl, fun t ht => absurd ht List.not_mem_nil⟩
  | y :: l, n => by
    by_cases hy : p y = true
    · exact .inr ⟨0, Nat.zero_lt_succ _, by simp [Lib.idxByFrom, hy], hy, fun t ht => by simp at ht⟩
    · have hy' : p y = false := by simpa using hy
      rcases idx_cases p d l (n + 1) with ⟨h1, h2⟩ | ⟨i, hi, h1, h2, h3⟩
      · refine .inl ⟨by simp [Lib.idxByFrom, hy', h1], fun t ht => ?_⟩
        rcases List.mem_cons.1 ht with rfl | ht
        · exact hy'
        · exact h2 t ht
      · refine .inr ⟨i + 1, Nat.succ_lt_succ hi, by simp only [Lib.idxByFrom, hy', h1]; simp; omega, h2, fun t ht => ?_⟩
        rw [List.take_succ_cons] at ht
        rcases List.mem_cons.1 ht with rfl | ht
        · exact hy'
        · exact h3 t ht

theorem enters_find : ∀ args w, (callFunc 34 args).run Try.prog w = .ok (.enter 34 args) w := enters_of Try.func34 (by kernel_rfl) rfl
set_option maxHeartbeats 1000000 in
theorem pred_find (i : Ip4) (B : Nat) (w : World) (hB : IpAt w B i) :
    PredBelow Try.prog 34 #[.pointer (some ⟨B, 0, none⟩)] (fun x => .agg (enE x).toArray) (fun x : En => decide (x.ip = i)) w := fun W x hb => by
  have hW : IpAt W B i := hB.grow hb
  show Calls Try.prog 34 #[.agg #[.int .u8 (x.ip.a.toNat : Int), .int .u8 (x.ip.b.toNat : Int), .int .u8 (x.ip.c.toNat : Int), .int .u8 (x.ip.d.toNat : Int), .int .u8 (x.ma.a.toNat : Int), .int .u8 (x.ma.b.toNat : Int), .int .u8 (x.ma.c.toNat : Int), .int .u8 (x.ma.d.toNat : Int), .int .u8 (x.ma.e.toNat : Int), .int .u8 (x.ma.f.toNat : Int), .int .i64 x.age], .pointer (some ⟨B, 0, none⟩)] W _
  have he : ∀ w, (Op.equalIn 10000 25 (.agg #[.int .u8 (x.ip.a.toNat : Int), .int .u8 (x.ip.b.toNat : Int), .int .u8 (x.ip.c.toNat : Int), .int .u8 (x.ip.d.toNat : Int)]) (.agg #[.int .u8 (i.a.toNat : Int), .int .u8 (i.b.toNat : Int), .int .u8 (i.c.toNat : Int), .int .u8 (i.d.toNat : Int)])).run Try.prog w = .ok (decide (x.ip = i)) w := fun w => run_eql_ip w x.ip i
  obtain ⟨r, hr⟩ : ∃ r, r = decide (x.ip = i) := ⟨_, rfl⟩
  rw [← hr] at he
  have HR := Lib.hid hr
  clear hr
  obtain ⟨c0, c1, c2, c3⟩ := (hW.grow ((Below.refl _ _).alloc (Nat.le_refl _) (.cells #[.int .u8 (x.ip.a.toNat : Int), .int .u8 (x.ip.b.toNat : Int), .int .u8 (x.ip.c.toNat : Int), .int .u8 (x.ip.d.toNat : Int), .int .u8 (x.ma.a.toNat : Int), .int .u8 (x.ma.b.toNat : Int), .int .u8 (x.ma.c.toNat : Int), .int .u8 (x.ma.d.toNat : Int), .int .u8 (x.ma.e.toNat : Int), .int .u8 (x.ma.f.toNat : Int), .int .i64 x.age] 68))).all
  have BL := Lib.hid (hb.alloc hb.size (.cells #[.int .u8 (x.ip.a.toNat : Int), .int .u8 (x.ip.b.toNat : Int), .int .u8 (x.ip.c.toNat : Int), .int .u8 (x.ip.d.toNat : Int), .int .u8 (x.ma.a.toNat : Int), .int .u8 (x.ma.b.toNat : Int), .int .u8 (x.ma.c.toNat : Int), .int .u8 (x.ma.d.toNat : Int), .int .u8 (x.ma.e.toNat : Int), .int .u8 (x.ma.f.toNat : Int), .int .i64 x.age] 68))
  clear hW hB hb
  go_enter Try.func34, Try.ntmps34
  go_wp2
  go_ret
  exact ⟨by show Ending.returned (.bool r) = .returned (.bool (decide (x.ip = i))); rw [HR.out], BL.out⟩

set_option maxHeartbeats 400000 in
theorem idx_nil (w : World) (fv : Value) :
    Calls Try.prog 33 #[.slice none 0 0, fv] w fun e w' => e = .returned (.int .i64 (-1)) ∧ w = w' := by
  go_enter Try.func33, Try.ntmps33
  go_wp2
  go_loop [8] (fun i => i = .int .i64 0) (fun _ => 0)
  case atStart => exact rfl
  case round =>
    subst hrel
    go_wp2
    go_ret
    exact ⟨rfl, rfl⟩
/-- slices.IndexFunc at entries, whatever the predicate. -/
theorem idx_ok (p : En → Bool) (F : Nat) (lb : Array Value) (eg : ∀ args w, (callFunc F args).run Try.prog w = .ok (.enter F args) w) (w : World) (v : Value) (l : List En) (h : EnRow w v l) (hl : l.length ≤ 1000000) (hp : PredBelow Try.prog F lb (fun x => .agg (enE x).toArray) p w) :
    Calls Try.prog 33 #[v, .func (.func F) #[] lb] w fun e w' => ∃ r, e = .returned (.int .i64 r) ∧ ((r = -1 ∧ ∀ x ∈ l, p x = false) ∨ ∃ j : Nat, ∃ h : j < l.length, r = (j : Int) ∧ p l[j] = true ∧ ∀ x ∈ l.take j, p x = false) ∧ Below w.heap.size w w' := by
  rcases h.2 with ⟨hv, h0⟩ | ⟨b, cap, cur, hv, _, hb, _⟩
  · subst hv
    obtain rfl := List.length_eq_zero_iff.1 h0
    exact (idx_nil w _).mono fun e w' ⟨he, hw⟩ => ⟨-1, he, .inl ⟨rfl, fun t ht => absurd ht List.not_mem_nil⟩, by subst hw; exact Below.refl _ _⟩
  · subst hv
    have hcon := AnyQ.slices_IndexFunc Try.idxE 11 Try.isAgg68 Try.sizeOf68 enE enE_len p F lb eg b 0 l.length cap l w
      hp (Nat.le_refl _) (by omega) (Array.getElem?_eq_some_iff.1 hb).1 (fun j hj i u hu => by
        have hlj : l[j]! = l[j] := getElem!_pos l j hj
        rw [hlj] at hu
        obtain ⟨b', cap', hv', _, _, _, _, hE⟩ := RowA.elem enE_len h (by omega)
        injection hv' with hv'; injection hv' with hv'; injection hv' with hv'
        subst hv'
        rw [Nat.zero_add]
        exact hE j hj i u hu)
    have hcon2 : Calls Try.prog 33 #[.slice (some ⟨b, 0, none⟩) l.length cap, .func (.func F) #[] lb] w _ := hcon
    refine hcon2.mono fun e w' ⟨he, hw⟩ => ⟨_, he, ?_, hw⟩
    rw [List.take_length]
    unfold Lib.idxBy
    rcases idx_cases p default l 0 with ⟨h1, h2⟩ | ⟨i, hi, h1, h2, h3⟩
    · exact .inl ⟨h1, h2⟩
    · exact .inr ⟨i, hi, by rw [h1, Nat.zero_add], h2, h3⟩

set_option maxHeartbeats 400000 in
theorem cfind_ok {w : World} {g : Nat} {lim : Int} {v : Value} {l : List En} (h : Ca w g lim v l) (hl : l.length ≤ 1000000) (i : Ip4) :
    Calls Try.prog 25 #[.pointer (some ⟨g, 0, none⟩), .agg #[.int .u8 (i.a.toNat : Int), .int .u8 (i.b.toNat : Int), .int .u8 (i.c.toNat : Int), .int .u8 (i.d.toNat : Int)]] w fun e w' => ∃ r, e = .returned (.int .i64 r) ∧ FoundE i l r ∧ Below w.heap.size w w' := by
  have bl : Below w.heap.size w (w.alloc (.cells #[.int .u8 (i.a.toNat : Int), .int .u8 (i.b.toNat : Int), .int .u8 (i.c.toNat : Int), .int .u8 (i.d.toNat : Int)] 25)) := (Below.refl _ _).alloc (Nat.le_refl _) _
  have HC := Lib.hid (h.grow bl)
  have HI := Lib.hid (ip_new w w.heap.size i rfl)
  have BL := Lib.hid bl
  clear h bl
  go_enter Try.func25, Try.ntmps25
  go_upto_region 1 with fail
  generalize w.alloc _ = W1 at HC HI BL ⊢
  have c1 := HC.out.c1
  have HX := Lib.hid (idx_ok (fun x : En => decide (x.ip = i)) 34 #[.pointer (some ⟨w.heap.size, 0, none⟩)] enters_find W1 v l HC.out.row hl (pred_find i w.heap.size W1 HI.out))
  go_wp2_with (go_at_call 33; refine HX.out.mono ?_; rintro e w2 ⟨r, rfl, q1, q2⟩; have Q1 := Lib.hid q1; have Q2 := Lib.hid q2; clear q1 q2)
  go_ret
  refine ⟨_, rfl, ?_, BL.out.trans (Q2.out.mono BL.out.size)⟩
  rcases Q1.out with ⟨h1, h2⟩ | ⟨j, hj, h1, h2, h3⟩
  · exact .inl ⟨h1, fun x hx => by simpa using h2 x hx⟩
  · exact .inr ⟨j, hj, h1, by simpa using h2, fun x hx => by simpa using h3 x hx⟩

/-- What Find answers: the first address's own. -/
def findL (i : Ip4) (l : List En) : Option Mac6 := (l.find? fun x => decide (x.ip = i)).map En.ma
def macO : Option Mac6 → Mac6
  | some m => m
  | none => ⟨0, 0, 0, 0, 0, 0⟩
theorem findL_none {i : Ip4} {l : List En} (h : ∀ x ∈ l, x.ip ≠ i) : findL i l = none := by
  unfold findL
  rw [List.find?_eq_none.2 (fun x hx => by simpa using h x hx)]
  rfl
theorem findL_some {i : Ip4} {l : List En} {j : Nat} (hj : j < l.length) (h : l[j].ip = i) (h2 : ∀ x ∈ l.take j, x.ip ≠ i) : findL i l = some l[j].ma := by
  unfold findL
  have e : l = l.take j ++ l[j] :: l.drop (j + 1) := by rw [← List.drop_eq_getElem_cons hj, List.take_append_drop]
  have h3 : (l.take j).find? (fun x => decide (x.ip = i)) = none := List.find?_eq_none.2 (fun x hx => by simpa using h2 x hx)
  have h4 : l.find? (fun x => decide (x.ip = i)) = some l[j] := by
    conv => lhs; rw [e]
    rw [List.find?_append, h3, List.find?_cons_of_pos (by simpa using h)]
    rfl
  rw [h4]
  rfl

set_option maxRecDepth 100000 in
set_option maxHeartbeats 1000000 in
theorem cFind_ok {w : World} {g : Nat} {lim : Int} {v : Value} {l : List En} (h : Ca w g lim v l) (hl : l.length ≤ 1000000) (i : Ip4) (M : Mac6) (b : Bool) (hM : M = macO (findL i l)) (hb : b = (findL i l).isSome) :
    Calls Try.prog 14 #[.pointer (some ⟨g, 0, none⟩), .agg #[.int .u8 (i.a.toNat : Int), .int .u8 (i.b.toNat : Int), .int .u8 (i.c.toNat : Int), .int .u8 (i.d.toNat : Int)]] w fun e w' => e = .returned (.tuple #[.agg #[.int .u8 (M.a.toNat : Int), .int .u8 (M.b.toNat : Int), .int .u8 (M.c.toNat : Int), .int .u8 (M.d.toNat : Int), .int .u8 (M.e.toNat : Int), .int .u8 (M.f.toNat : Int)], .bool b]) ∧ Below w.heap.size w w' := by
  have bl : Below w.heap.size w ((w.alloc (.cells #[.int .u8 (i.a.toNat : Int), .int .u8 (i.b.toNat : Int), .int .u8 (i.c.toNat : Int), .int .u8 (i.d.toNat : Int)] 25)).alloc (.cells #[.int .u8 0, .int .u8 0, .int .u8 0, .int .u8 0, .int .u8 0, .int .u8 0] 23)) := ((Below.refl _ _).alloc (Nat.le_refl _) _).alloc (by simp) _
  have HC := Lib.hid (h.grow bl)
  have HI := Lib.hid ((ip_new w w.heap.size i rfl).grow ((Below.refl _ _).alloc (Nat.le_refl _) (.cells #[.int .u8 0, .int .u8 0, .int .u8 0, .int .u8 0, .int .u8 0, .int .u8 0] 23)))
  have HZ : Hid (MacAt ((w.alloc (.cells #[.int .u8 (i.a.toNat : Int), .int .u8 (i.b.toNat : Int), .int .u8 (i.c.toNat : Int), .int .u8 (i.d.toNat : Int)] 25)).alloc (.cells #[.int .u8 0, .int .u8 0, .int .u8 0, .int .u8 0, .int .u8 0, .int .u8 0] 23)) (w.heap.size + 1) ⟨0, 0, 0, 0, 0, 0⟩) := Lib.hid (mac_new _ _ ⟨0, 0, 0, 0, 0, 0⟩ (by simp))
  have BL := Lib.hid bl
  have HM := Lib.hid hM
  have HB := Lib.hid hb
  clear h bl hM hb
  go_enter Try.func14, Try.ntmps14
  go_upto_region 1 with fail
  generalize (w.alloc _).alloc _ = W1 at HC HI HZ BL ⊢
  obtain ⟨n, hn⟩ : ∃ n, n = w.heap.size + 1 := ⟨_, rfl⟩
  rw [← hn] at HZ ⊢
  have hnl : w.heap.size ≤ n := by omega
  clear hn
  obtain ⟨c0, c1, c2, c3⟩ := HI.out.all
  have HF := Lib.hid (cfind_ok HC.out hl i)
  go_upto_region 4 with (first | (go_at_call 24; refine (cnone_no HC.out).mono ?_; rintro e w' ⟨rfl, rfl⟩) | (go_at_call 25; refine HF.out.mono ?_; rintro e w2 ⟨r, rfl, q1, q2⟩; have Q1 := Lib.hid q1; have Q2 := Lib.hid q2; clear q1 q2))
  have C2 := Lib.hid (HC.out.grow Q2.out)
  have Z2 := Lib.hid (HZ.out.grow Q2.out)
  have B2 := below_step BL Q2.out
  clear c0 c1 c2 c3 HC HI HZ BL HF Q2
  rcases Q1.out with ⟨rfl, hno⟩ | ⟨j, hj, rfl, hji, hf⟩
  · have e1 := findL_none hno
    have hM := HM.out
    have hb := HB.out
    rw [e1] at hM hb
    subst hM
    subst hb
    clear hno e1
    obtain ⟨d0, d1, d2, d3, d4, d5⟩ := Z2.out.all
    have f0 : ∀ k, w2.frozen? ⟨n, k, none⟩ = false := fun k => by simp [World.frozen?, show w2.heap[n]? = _ from Z2.out]
    have f1 := f0 0
    have f2 := f0 1
    have f3 := f0 2
    have f4 := f0 3
    have f5 := f0 4
    have f6 := f0 5
    go_wp2
    exact bodyPost_ret (v := .tuple #[.agg #[.int .u8 0, .int .u8 0, .int .u8 0, .int .u8 0, .int .u8 0, .int .u8 0], .bool false]) (by simp [results, Try.results14, go_sem, d0, d1, d2, d3, d4, d5]) rfl ⟨rfl, (((((B2.out.setCell hnl _).setCell hnl _).setCell hnl _).setCell hnl _).setCell hnl _).setCell hnl _⟩
  · have e1 := findL_some hj hji hf
    have hM := HM.out
    have hb := HB.out
    rw [e1] at hM hb
    have HM2 : Hid (M = l[j].ma) := Lib.hid hM
    subst hb
    clear hM hji hf e1 HB HM Q1
    obtain ⟨b, cap, hv, hcap, hcm, hbl, hfz, hE0⟩ := RowA.elem enE_len C2.out.row (by omega)
    have hE := hE0 j hj
    generalize l[j] = x at hE HM2
    have HE : Hid (w2.rangeAt b (j * 11 + 4) [.int .u8 (x.ma.a.toNat : Int), .int .u8 (x.ma.b.toNat : Int), .int .u8 (x.ma.c.toNat : Int), .int .u8 (x.ma.d.toNat : Int), .int .u8 (x.ma.e.toNat : Int), .int .u8 (x.ma.f.toNat : Int)]) := Lib.hid (rangeAt_take (n := 6) (rangeAt_drop (n := 4) hE))
    have c1 := C2.out.c1
    rw [hv] at c1
    have hji : decide ((j : Int) < (l.length : Int)) = true := by simp; omega
    have hj0 : ¬ (j : Int) < 0 := by omega
    have hjl : (j : Int) < (l.length : Int) := by omega
    have hrm : (storeVar 23 ⟨n, 0, none⟩ (.agg #[.int .u8 (x.ma.a.toNat : Int), .int .u8 (x.ma.b.toNat : Int), .int .u8 (x.ma.c.toNat : Int), .int .u8 (x.ma.d.toNat : Int), .int .u8 (x.ma.e.toNat : Int), .int .u8 (x.ma.f.toNat : Int)])).run Try.prog w2 = .ok () (w2.setRow n #[.int .u8 (x.ma.a.toNat : Int), .int .u8 (x.ma.b.toNat : Int), .int .u8 (x.ma.c.toNat : Int), .int .u8 (x.ma.d.toNat : Int), .int .u8 (x.ma.e.toNat : Int), .int .u8 (x.ma.f.toNat : Int)]) := run_storeVar_row (P := Try.prog) w2 n 23 23 _ #[.int .u8 (x.ma.a.toNat : Int), .int .u8 (x.ma.b.toNat : Int), .int .u8 (x.ma.c.toNat : Int), .int .u8 (x.ma.d.toNat : Int), .int .u8 (x.ma.e.toNat : Int), .int .u8 (x.ma.f.toNat : Int)] Z2.out (by kernel_rfl) rfl (by simp [Value.oneCell'])
    have R2 : Hid (MacAt (w2.setRow n #[.int .u8 (x.ma.a.toNat : Int), .int .u8 (x.ma.b.toNat : Int), .int .u8 (x.ma.c.toNat : Int), .int .u8 (x.ma.d.toNat : Int), .int .u8 (x.ma.e.toNat : Int), .int .u8 (x.ma.f.toNat : Int)]) n x.ma) := Lib.hid (setRow_heap w2 n _ _ _ _ Z2.out)
    have B3 := Lib.hid (below_setRow B2.out hnl #[.int .u8 (x.ma.a.toNat : Int), .int .u8 (x.ma.b.toNat : Int), .int .u8 (x.ma.c.toNat : Int), .int .u8 (x.ma.d.toNat : Int), .int .u8 (x.ma.e.toNat : Int), .int .u8 (x.ma.f.toNat : Int)])
    clear hE hE0 hfz hv hcap hcm C2
    go_wp2_with (first | (refine wpList_load_mid rfl 23 _ rfl b (j * 11 + 4) rfl [.int .u8 (x.ma.a.toNat : Int), .int .u8 (x.ma.b.toNat : Int), .int .u8 (x.ma.c.toNat : Int), .int .u8 (x.ma.d.toNat : Int), .int .u8 (x.ma.e.toNat : Int), .int .u8 (x.ma.f.toNat : Int)] _ HE.out Try.underlying23 rfl (by kernel_rfl) ?_) | (refine wpList_storeW 23 _ _ rfl rfl _ n rfl rfl hrm ?_))
    have hm := HM2.out
    subst hm
    exact bodyPost_ret (v := .tuple #[.agg #[.int .u8 (x.ma.a.toNat : Int), .int .u8 (x.ma.b.toNat : Int), .int .u8 (x.ma.c.toNat : Int), .int .u8 (x.ma.d.toNat : Int), .int .u8 (x.ma.e.toNat : Int), .int .u8 (x.ma.f.toNat : Int)], .bool true]) (results_row _ 4 5 23 (by kernel_rfl) _ n _ _ _ _ rfl rfl R2.out Try.underlying23 rfl (by kernel_rfl)) rfl ⟨rfl, B3.out⟩

/-- The age at a place; where the oldest one stands, of the first k. -/
def ageAt (l : List En) (i : Nat) : Int := ((l[i]?).map En.age).getD 0
def oldU (l : List En) : Nat → Nat
  | 0 => 0
  | k + 1 => if ageAt l (oldU l k) < ageAt l k then k else oldU l k
theorem oldU_lt (l : List En) : ∀ k, k ≤ l.length → 0 < l.length → oldU l k < l.length
  | 0, _, h => h
  | k + 1, hk, h => by
    unfold oldU
    split
    · omega
    · exact oldU_lt l k (by omega) h
theorem ageAt_eq (l : List En) (i : Nat) (h : i < l.length) : ageAt l i = l[i].age := by simp [ageAt, h]

end Go.Proofs.Ytolegdjdppaeoaa
