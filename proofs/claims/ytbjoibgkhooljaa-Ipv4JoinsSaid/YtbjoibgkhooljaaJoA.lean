/-
  Layer 8: pieces and datagrams as values and in memory, a joiner in memory; New, none, Len. Conditions: as said.
-/
import Derived.Test.YtbjoibgkhooljaaIpE
import Derived.Test.YtbjoibgkhooljaaIpO
import Derived.Laws.Tables
import Derived.Test.YtbjoibgkhooljaaRowsA
import Derived.Test.YtbjoibgkhooljaaShelfI
import Derived.Test.YtbjoibgkhooljaaRef
namespace Go.Proofs.Ytbjoibgkhooljaa
open Go.RowKit Go.Sort Go.Shelf
set_option linter.unusedVariables false

/-- A piece: where it lies, its bytes, whether there are more behind. -/
structure Pc where
  o : Int
  da : ByteArray
  mo : Bool
theorem Pc.same {x y : Pc} (h : x.o = y.o ∧ x.da = y.da ∧ x.mo = y.mo) : x = y := by
  cases x; cases y
  obtain ⟨rfl, rfl, rfl⟩ := h
  rfl
instance : DecidableEq Pc := fun x y => decidable_of_iff (x.o = y.o ∧ x.da = y.da ∧ x.mo = y.mo) ⟨Pc.same, fun h => by rw [h]; exact ⟨rfl, rfl, rfl⟩⟩
instance : Inhabited Pc := ⟨⟨0, ⟨#[]⟩, false⟩⟩
def pcE (x : Pc) : List Value := [.int .i64 x.o, .string x.da, .bool x.mo]
theorem pcE_len (x : Pc) : (pcE x).length = 3 := rfl
theorem pcE_one (x : Pc) : ∀ u ∈ pcE x, u.oneCell' = true := by
  intro u hu
  simp only [pcE, List.mem_cons, List.not_mem_nil, or_false] at hu
  rcases hu with rfl | rfl | rfl <;> rfl
abbrev PcRow (w : World) (v : Value) (l : List Pc) : Prop := RowA 3 pcE 89 w v l
/-- A piece as Go's own values. -/
def Pc.ok (x : Pc) : Prop := (Lit.int .i64 x.o).wf = true ∧ x.da.size ≤ maxLen
def Pc.lits (x : Pc) : List Lit := [.int .i64 x.o, .string x.da.data.toList, .bool x.mo]
theorem Pc.lits_inj {x y : Pc} : x.lits = y.lits ↔ x = y := by
  constructor
  · intro h
    simp only [Pc.lits, List.cons.injEq, Lit.int.injEq, Lit.string.injEq, Lit.bool.injEq, true_and, and_true] at h
    obtain ⟨e1, e2, e3⟩ := h
    rw [Array.toList_inj] at e2
    exact Pc.same ⟨e1, ByteArray.ext e2, e3⟩
  · rintro rfl; rfl
theorem cells_pc : Try.prog.cellsOf 89 = 3 := by kernel_rfl
theorem pc_lits (x : Pc) (h : x.ok) (d : Nat) : Try.prog.keyLits (d + 2) 89 [.int .i64 x.o, .string x.da, .bool x.mo] = some x.lits := by
  unfold Program.keyLits
  simp only [Try.underlying89, cells_pc]
  simp [cells_int, cells_str, cells_bool, lits_int _ h.1, lits_bool, lits_str _ h.2, Pc.lits]
theorem key_pc : Try.prog.keyTypeAt 2 89 = true := by kernel_rfl
theorem eql_pc (w : World) (x y : Pc) (hx : x.ok) (hy : y.ok) : (Op.equalIn 10000 89 (.agg #[.int .i64 x.o, .string x.da, .bool x.mo]) (.agg #[.int .i64 y.o, .string y.da, .bool y.mo])).run Try.prog w = .ok (decide (x = y)) w := by
  obtain ⟨r, hr, hi⟩ := run_equalIn_deep (P := Try.prog) 9998 2 89 key_pc w 2 2 (.agg #[.int .i64 x.o, .string x.da, .bool x.mo]) (.agg #[.int .i64 y.o, .string y.da, .bool y.mo]) _ _ (by kernel_rfl) (by kernel_rfl) (pc_lits x hx 0) (pc_lits y hy 0)
  rw [hr]
  rw [Pc.lits_inj] at hi
  have : r = decide (x = y) := by rw [Bool.eq_iff_iff, hi]; simp
  rw [this]

/-- A datagram's name. -/
structure Nm where
  sr : Ip4
  ds : Ip4
  pr : UInt8
  id : UInt16
theorem Nm.same {x y : Nm} (h : x.sr = y.sr ∧ x.ds = y.ds ∧ x.pr = y.pr ∧ x.id = y.id) : x = y := by
  cases x; cases y
  obtain ⟨rfl, rfl, rfl, rfl⟩ := h
  rfl
instance : DecidableEq Nm := fun x y => decidable_of_iff (x.sr = y.sr ∧ x.ds = y.ds ∧ x.pr = y.pr ∧ x.id = y.id) ⟨Nm.same, fun h => by rw [h]; exact ⟨rfl, rfl, rfl, rfl⟩⟩
theorem wf_nat (n : Nat) (h : n < 65536) : (Lit.int .i64 (n : Int)).wf = true := Go.WalkArith.wf_i64 ⟨by omega, by omega⟩
theorem Nm.wpr (x : Nm) : (Lit.int .i64 (x.pr.toNat : Int)).wf = true := wf_nat _ (by have := x.pr.toNat_lt; omega)
theorem Nm.wid (x : Nm) : (Lit.int .i64 (x.id.toNat : Int)).wf = true := wf_nat _ x.id.toNat_lt
def Nm.lits (x : Nm) : List Lit := x.sr.lits ++ x.ds.lits ++ [.int .i64 (x.pr.toNat : Int), .int .i64 (x.id.toNat : Int)]
theorem Nm.lits_inj {x y : Nm} : x.lits = y.lits ↔ x = y := by
  constructor
  · intro h
    simp only [Nm.lits] at h
    have h1 := List.append_inj h (by simp [lits_len4])
    have h2 := List.append_inj h1.1 (by simp [lits_len4])
    have h3 := h1.2
    simp only [List.cons.injEq, Lit.int.injEq, true_and, and_true] at h3
    exact Nm.same ⟨Ip4.lits_inj.1 h2.1, Ip4.lits_inj.1 h2.2, UInt8.toNat_inj.1 (by have := h3.1; omega), UInt16.toNat_inj.1 (by have := h3.2; omega)⟩
  · rintro rfl; rfl
theorem cells_nm : Try.prog.cellsOf 83 = 10 := by kernel_rfl
theorem nm_lits (x : Nm) (d : Nat) : Try.prog.keyLits (d + 3) 83 [.int .u8 (x.sr.a.toNat : Int), .int .u8 (x.sr.b.toNat : Int), .int .u8 (x.sr.c.toNat : Int), .int .u8 (x.sr.d.toNat : Int), .int .u8 (x.ds.a.toNat : Int), .int .u8 (x.ds.b.toNat : Int), .int .u8 (x.ds.c.toNat : Int), .int .u8 (x.ds.d.toNat : Int), .int .i64 (x.pr.toNat : Int), .int .i64 (x.id.toNat : Int)] = some x.lits := by
  have h1 := x.wpr
  have h2 := x.wid
  generalize hp : (x.pr.toNat : Int) = P at h1
  generalize hi : (x.id.toNat : Int) = I at h2
  unfold Program.keyLits
  simp only [Try.underlying83, cells_nm]
  simp [cells_int, cells_ip, ip_lits, lits_int _ h1, lits_int _ h2, Nm.lits, hp, hi]
theorem key_nm : Try.prog.keyTypeAt 3 83 = true := by kernel_rfl
theorem eql_nm (w : World) (x y : Nm) : (Op.equalIn 10000 83 (.agg #[.int .u8 (x.sr.a.toNat : Int), .int .u8 (x.sr.b.toNat : Int), .int .u8 (x.sr.c.toNat : Int), .int .u8 (x.sr.d.toNat : Int), .int .u8 (x.ds.a.toNat : Int), .int .u8 (x.ds.b.toNat : Int), .int .u8 (x.ds.c.toNat : Int), .int .u8 (x.ds.d.toNat : Int), .int .i64 (x.pr.toNat : Int), .int .i64 (x.id.toNat : Int)]) (.agg #[.int .u8 (y.sr.a.toNat : Int), .int .u8 (y.sr.b.toNat : Int), .int .u8 (y.sr.c.toNat : Int), .int .u8 (y.sr.d.toNat : Int), .int .u8 (y.ds.a.toNat : Int), .int .u8 (y.ds.b.toNat : Int), .int .u8 (y.ds.c.toNat : Int), .int .u8 (y.ds.d.toNat : Int), .int .i64 (y.pr.toNat : Int), .int .i64 (y.id.toNat : Int)])).run Try.prog w = .ok (decide (x = y)) w := by
  obtain ⟨r, hr, hi⟩ := run_equalIn_deep (P := Try.prog) 9997 3 83 key_nm w 3 3 (.agg #[.int .u8 (x.sr.a.toNat : Int), .int .u8 (x.sr.b.toNat : Int), .int .u8 (x.sr.c.toNat : Int), .int .u8 (x.sr.d.toNat : Int), .int .u8 (x.ds.a.toNat : Int), .int .u8 (x.ds.b.toNat : Int), .int .u8 (x.ds.c.toNat : Int), .int .u8 (x.ds.d.toNat : Int), .int .i64 (x.pr.toNat : Int), .int .i64 (x.id.toNat : Int)]) (.agg #[.int .u8 (y.sr.a.toNat : Int), .int .u8 (y.sr.b.toNat : Int), .int .u8 (y.sr.c.toNat : Int), .int .u8 (y.sr.d.toNat : Int), .int .u8 (y.ds.a.toNat : Int), .int .u8 (y.ds.b.toNat : Int), .int .u8 (y.ds.c.toNat : Int), .int .u8 (y.ds.d.toNat : Int), .int .i64 (y.pr.toNat : Int), .int .i64 (y.id.toNat : Int)]) _ _ (by kernel_rfl) (by kernel_rfl) (nm_lits x 0) (nm_lits y 0)
  rw [hr]
  rw [Nm.lits_inj] at hi
  have : r = decide (x = y) := by rw [Bool.eq_iff_iff, hi]; simp
  rw [this]

/-- A datagram, and where its pieces lie. -/
structure Dg where
  nm : Nm
  age : Int
  ttl : Int
  pp : Option Addr
  pc : Nat
  ps : List Pc
instance : Inhabited Dg := ⟨⟨⟨⟨0, 0, 0, 0⟩, ⟨0, 0, 0, 0⟩, 0, 0⟩, 0, 0, none, 0, []⟩⟩
/-- The slice of its pieces. -/
def Dg.pv (x : Dg) : Value := .slice x.pp x.ps.length x.pc
/-- A datagram as such. -/
structure Da where
  nm : Nm
  age : Int
  ttl : Int
  ps : List Pc
def Dg.da (x : Dg) : Da := ⟨x.nm, x.age, x.ttl, x.ps⟩
def dgE (x : Dg) : List Value := [.int .u8 (x.nm.sr.a.toNat : Int), .int .u8 (x.nm.sr.b.toNat : Int), .int .u8 (x.nm.sr.c.toNat : Int), .int .u8 (x.nm.sr.d.toNat : Int), .int .u8 (x.nm.ds.a.toNat : Int), .int .u8 (x.nm.ds.b.toNat : Int), .int .u8 (x.nm.ds.c.toNat : Int), .int .u8 (x.nm.ds.d.toNat : Int), .int .i64 (x.nm.pr.toNat : Int), .int .i64 (x.nm.id.toNat : Int), .int .i64 x.age, .int .i64 x.ttl, .slice x.pp x.ps.length x.pc]
theorem dgE_len (x : Dg) : (dgE x).length = 13 := rfl
theorem dgE_one (x : Dg) : ∀ u ∈ dgE x, u.oneCell' = true := by
  intro u hu
  simp only [dgE, List.mem_cons, List.not_mem_nil, or_false] at hu
  rcases hu with rfl | rfl | rfl | rfl | rfl | rfl | rfl | rfl | rfl | rfl | rfl | rfl | rfl <;> rfl
abbrev DgRow (w : World) (v : Value) (l : List Dg) : Prop := RowA 13 dgE 87 w v l
/-- A joiner that 'New' made, in block g. -/
structure Jo (w : World) (g : Nat) (lim : Int) (v : Value) (l : List Dg) : Prop where
  at_ : w.heap[g]? = some (.cells #[.int .i64 lim, v, .pointer (some ⟨g, 0, none⟩)] 73 (0, 0))
  row : DgRow w v l
  ne : ∀ k, v.ownBlock = some k → k ≠ g
  ps : ∀ x ∈ l, PcRow w x.pv x.ps ∧ ∀ k, x.pv.ownBlock = some k → k ≠ g ∧ v.ownBlock ≠ some k
  ap : l.Pairwise fun x y => ∀ k, x.pv.ownBlock = some k → y.pv.ownBlock ≠ some k
/-- The blocks of a joiner. -/
def JoO (g : Nat) (v : Value) (l : List Dg) (k : Nat) : Prop := k = g ∨ v.ownBlock = some k ∨ ∃ x ∈ l, x.pv.ownBlock = some k
section
variable {w w' : World} {g : Nat} {lim : Int} {v : Value} {l : List Dg}
theorem Jo.c0 (h : Jo w g lim v l) : w.cell? ⟨g, 0, none⟩ = some (.int .i64 lim) := by rw [cell_of_block h.at_]; rfl
theorem Jo.c1 (h : Jo w g lim v l) : w.cell? ⟨g, 1, none⟩ = some v := by rw [cell_of_block h.at_]; rfl
theorem Jo.c2 (h : Jo w g lim v l) : w.cell? ⟨g, 2, none⟩ = some (.pointer (some ⟨g, 0, none⟩)) := by rw [cell_of_block h.at_]; rfl
theorem Jo.f (h : Jo w g lim v l) (i : Nat) : w.frozen? ⟨g, i, none⟩ = false := by simp [World.frozen?, h.at_]
theorem Jo.lt (h : Jo w g lim v l) : g < w.heap.size := (Array.getElem?_eq_some_iff.1 h.at_).1
theorem Jo.kept (h : Jo w g lim v l) (hs : w.heap.size ≤ w'.heap.size) (k : ∀ j, JoO g v l j → j < w.heap.size → w'.heap[j]? = w.heap[j]?) : Jo w' g lim v l :=
  ⟨(k g (.inl rfl) h.lt).trans h.at_, h.row.kept hs (fun b hb => k b (.inr (.inl hb)) (h.row.lt b hb).2), h.ne,
    fun x hx => ⟨(h.ps x hx).1.kept hs (fun b hb => k b (.inr (.inr ⟨x, hx, hb⟩)) ((h.ps x hx).1.lt b hb).2), (h.ps x hx).2⟩, h.ap⟩
theorem Jo.grow (h : Jo w g lim v l) (b : Below w.heap.size w w') : Jo w' g lim v l := h.kept b.size (fun j _ hj => b.block j hj)
theorem Jo.inn (h : Jo w g lim v l) {k : Nat} (hk : JoO g v l k) : k < w.heap.size := by
  rcases hk with rfl | hk | ⟨x, hx, hk⟩
  · exact h.lt
  · exact (h.row.lt k hk).2
  · exact ((h.ps x hx).1.lt k hk).2
end

set_option maxHeartbeats 400000 in
theorem jnew_bad (w : World) (lim : Int) (h : lim < 1 ∨ 1048576 < lim) :
    Calls Try.prog 12 #[.int .i64 lim] w fun e w' => e = .returned (.tuple #[.pointer none, .int .i64 1]) ∧ w = w' := by
  rcases h with h | h
  · go_enter Try.func12, Try.ntmps12
    go_wp2
    go_ret2
    exact ⟨rfl, rfl⟩
  · have h1 : ¬ lim < 1 := by omega
    go_enter Try.func12, Try.ntmps12
    go_wp2
    go_ret2
    exact ⟨rfl, rfl⟩
set_option maxHeartbeats 400000 in
theorem jnew_ok (w : World) (lim : Int) (h1 : 1 ≤ lim) (h2 : lim ≤ 1048576) :
    Calls Try.prog 12 #[.int .i64 lim] w fun e w' => e = .returned (.tuple #[.pointer (some ⟨w.heap.size, 0, none⟩), .int .i64 0]) ∧ Jo w' w.heap.size lim (.slice none 0 0) [] ∧ Below w.heap.size w w' := by
  have h3 : ¬ lim < 1 := by omega
  have h4 : ¬ 1048576 < lim := by omega
  go_enter Try.func12, Try.ntmps12
  go_wp2
  go_ret2
  exact ⟨rfl, ⟨heap_alloc_new w _, World.ownsRow_nil _ _ _ _, fun k hk => by simp [Value.ownBlock] at hk, fun x hx => by simp at hx, .nil⟩, (Below.refl _ _).alloc (Nat.le_refl _) _⟩

theorem info_jo : ∃ j, Try.prog.info? 73 = some j := Option.isSome_iff_exists.1 (by kernel_rfl)
set_option maxHeartbeats 400000 in
theorem jnone_no {w : World} {g : Nat} {lim : Int} {v : Value} {l : List Dg} (h : Jo w g lim v l) :
    Calls Try.prog 36 #[.pointer (some ⟨g, 0, none⟩)] w fun e w' => e = .returned (.bool false) ∧ w = w' := by
  have hm := h.c2
  obtain ⟨j, hj⟩ := info_jo
  have hq := Lib.run_neq_ptr_same (P := Try.prog) (w := w) ⟨g, 0, none⟩ Try.underlying25 hj
  clear h hj
  go_enter Try.func36, Try.ntmps36
  go_wp2
  go_ret
  exact ⟨rfl, rfl⟩
set_option maxHeartbeats 400000 in
theorem jlen_ok {w : World} {g : Nat} {lim : Int} {v : Value} {l : List Dg} (h : Jo w g lim v l) (hl : l.length ≤ 1000000) :
    Calls Try.prog 17 #[.pointer (some ⟨g, 0, none⟩)] w fun e w' => e = .returned (.int .i64 l.length) ∧ w = w' := by
  have c1 := h.c1
  obtain ⟨p, c, hv⟩ := h.row.shape
  rw [hv] at c1
  have HH := Lib.hid h
  clear h hv
  go_enter Try.func17, Try.ntmps17
  go_wp2_with (go_at_call 36; refine (jnone_no HH.out).mono ?_; rintro e w' ⟨rfl, rfl⟩)
  go_ret
  exact ⟨rfl, rfl⟩

/-- A row's elements, each where it lies. -/
theorem idx_dg_nil (w : World) (fv : Value) :
    Calls Try.prog 72 #[.slice none 0 0, fv] w fun e w' => e = .returned (.int .i64 (-1)) ∧ w = w' := by
  go_enter Try.func72, Try.ntmps72
  go_wp2
  go_loop [8] (fun i => i = .int .i64 0) (fun _ => 0)
  case atStart => exact rfl
  case round =>
    subst hrel
    go_wp2
    go_ret
    exact ⟨rfl, rfl⟩
theorem idx_cases {α : Type} (p : α → Bool) (d : α) : ∀ (l : List α) (n : Nat), (Lib.idxByFrom (fun _ y => p y) d l n = -1 ∧ ∀ t ∈ l, p t = false) ∨ ∃ i, ∃ h : i < l.length, Lib.idxByFrom (fun _ y => p y) d l n = ((n + i : Nat) : Int) ∧ p l[i] = true ∧ ∀ t ∈ l.take i, p t = false
  | [], n => .inl ⟨rfl, fun t ht => absurd ht List.not_mem_nil⟩
  | y :: l, n => by
    by_cases hy : p y = true
    · exact .inr ⟨0, Nat.zero_lt_succ _, by simp [Lib.idxByFrom, hy], hy, fun t ht => by simp at ht⟩
    · have hy' : p y = false := by simpa using hy
      rcases idx_cases p d l (n + 1) with ⟨h1, h2⟩ | ⟨i, hi, h1, h2, h3⟩
      · refine .inl ⟨by simp [Lib.idxByFrom, hy', h1], fun t ht => ?_⟩
        rcases List.mem_cons.1 ht with rfl | ht
        · exact hy'
        · exact h2 t ht
      · refine .inr ⟨i + 1, Nat.succ_lt_succ hi, by simp only [Lib.idxByFrom, hy', h1]; simp; omega, h2, fun t ht => ?_⟩
        rw [List.take_succ_cons] at ht
        rcases List.mem_cons.1 ht with rfl | ht
        · exact hy'
        · exact h3 t ht
/-- slices.IndexFunc at datagrams, whatever the predicate. -/
theorem idx_dg (p : Dg → Bool) (F : Nat) (lb : Array Value) (eg : ∀ args w, (callFunc F args).run Try.prog w = .ok (.enter F args) w) (w : World) (v : Value) (l : List Dg) (h : DgRow w v l) (hl : l.length ≤ 1000000) (hp : PredBelow Try.prog F lb (fun x => .agg (dgE x).toArray) p w) :
    Calls Try.prog 72 #[v, .func (.func F) #[] lb] w fun e w' => ∃ r, e = .returned (.int .i64 r) ∧ ((r = -1 ∧ ∀ x ∈ l, p x = false) ∨ ∃ j : Nat, ∃ h : j < l.length, r = (j : Int) ∧ p l[j] = true ∧ ∀ x ∈ l.take j, p x = false) ∧ Below w.heap.size w w' := by
  rcases h.2 with ⟨hv, h0⟩ | ⟨b, cap, cur, hv, _, hb, _⟩
  · subst hv
    obtain rfl := List.length_eq_zero_iff.1 h0
    exact (idx_dg_nil w _).mono fun e w' ⟨he, hw⟩ => ⟨-1, he, .inl ⟨rfl, fun t ht => absurd ht List.not_mem_nil⟩, by subst hw; exact Below.refl _ _⟩
  · subst hv
    have hcon := AnyQ.slices_IndexFunc Try.idxE 13 Try.isAgg87 Try.sizeOf87 dgE dgE_len p F lb eg b 0 l.length cap l w
      hp (Nat.le_refl _) (by omega) (Array.getElem?_eq_some_iff.1 hb).1 (fun j hj i u hu => by
        have hlj : l[j]! = l[j] := getElem!_pos l j hj
        rw [hlj] at hu
        obtain ⟨b', cap', hv', _, _, _, _, hE⟩ := RowA.elem dgE_len h (by omega)
        injection hv' with hv'; injection hv' with hv'; injection hv' with hv'
        subst hv'
        rw [Nat.zero_add]
        exact hE j hj i u hu)
    have hcon2 : Calls Try.prog 72 #[.slice (some ⟨b, 0, none⟩) l.length cap, .func (.func F) #[] lb] w _ := hcon
    refine hcon2.mono fun e w' ⟨he, hw⟩ => ⟨_, he, ?_, hw⟩
    rw [List.take_length]
    unfold Lib.idxBy
    rcases idx_cases p default l 0 with ⟨h1, h2⟩ | ⟨i, hi, h1, h2, h3⟩
    · exact .inl ⟨h1, h2⟩
    · exact .inr ⟨i, hi, by rw [h1, Nat.zero_add], h2, h3⟩

theorem enters_begun : ∀ args w, (callFunc 73 args).run Try.prog w = .ok (.enter 73 args) w := enters_of Try.func73 (by kernel_rfl) rfl
/-- A name in a box. -/
def NmAt (w : World) (n : Nat) (x : Nm) : Prop := w.heap[n]? = some (.cells #[.int .u8 (x.sr.a.toNat : Int), .int .u8 (x.sr.b.toNat : Int), .int .u8 (x.sr.c.toNat : Int), .int .u8 (x.sr.d.toNat : Int), .int .u8 (x.ds.a.toNat : Int), .int .u8 (x.ds.b.toNat : Int), .int .u8 (x.ds.c.toNat : Int), .int .u8 (x.ds.d.toNat : Int), .int .i64 (x.pr.toNat : Int), .int .i64 (x.id.toNat : Int)] 83 (0, 0))
theorem NmAt.grow {w w' : World} {n : Nat} {x : Nm} (h : NmAt w n x) (b : Below w.heap.size w w') : NmAt w' n x := (b.block n (Array.getElem?_eq_some_iff.1 h).1).trans h
theorem NmAt.all {w : World} {n : Nat} {x : Nm} (h : NmAt w n x) : (w.cell? ⟨n, 0, none⟩ = some (.int .u8 (x.sr.a.toNat : Int)) ∧ w.cell? ⟨n, 1, none⟩ = some (.int .u8 (x.sr.b.toNat : Int)) ∧ w.cell? ⟨n, 2, none⟩ = some (.int .u8 (x.sr.c.toNat : Int)) ∧ w.cell? ⟨n, 3, none⟩ = some (.int .u8 (x.sr.d.toNat : Int))) ∧ (w.cell? ⟨n, 4, none⟩ = some (.int .u8 (x.ds.a.toNat : Int)) ∧ w.cell? ⟨n, 5, none⟩ = some (.int .u8 (x.ds.b.toNat : Int)) ∧ w.cell? ⟨n, 6, none⟩ = some (.int .u8 (x.ds.c.toNat : Int)) ∧ w.cell? ⟨n, 7, none⟩ = some (.int .u8 (x.ds.d.toNat : Int))) ∧ w.cell? ⟨n, 8, none⟩ = some (.int .i64 (x.pr.toNat : Int)) ∧ w.cell? ⟨n, 9, none⟩ = some (.int .i64 (x.id.toNat : Int)) := by
  unfold NmAt at h
  refine ⟨⟨?_, ?_, ?_, ?_⟩, ⟨?_, ?_, ?_, ?_⟩, ?_, ?_⟩ <;> (rw [cell_of_block h]; rfl)

end Go.Proofs.Ytbjoibgkhooljaa
