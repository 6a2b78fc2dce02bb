/-
  Layer 4: where a driver may lie; a driver's and a device's block in memory. Conditions: the memory is one that New made, of at most 65536 bytes, or none.
-/
import Derived.Test.YtmlicejhkdkhnaaVirtG
import Derived.Conc.LoneCalls
import Derived.Conc.LoneSelect
import Derived.Conc.LoneSelectN
import Derived.KernelRfl
import Derived.Test.YtmlicejhkdkhnaaAwake
namespace Go.Proofs.Ytmlicejhkdkhnaa
open Go.RowKit Go.Conc
set_option linter.unusedVariables false

/-- A call among the steps of a goroutine that is alone, by its contract. -/
theorem lone_call {P : Program} {Q : Goroutine → World → Prop} {ops : Array Oper} {i : Nat} {rest : List Nat} {o : Oper} {f : FuncId} {fn : Func} {args : Array Operand} {ats : Array TypeId} {b : Frame} {a : Act} {k : List Item} {cs : List Frame} {w : World} {R : Value → World → Prop}
    (ho : ops[i]? = some o) (hw : Region.wanted o (yielded ops a.tmps) = true) (hk : b.kind ≠ .early) (hop : o.op = .call { callee := .value (.func f), args, argTypes := ats })
    (hf : P.funcs[f]? = some fn) (hname : (fn.name == "runtime.NumGoroutine") = false) (hb : fn.body.isNone = false)
    (hc : Calls P f (args.map a.eval) w fun e w' => ∃ v, e = .returned v ∧ R v w')
    (h : ∀ v w', R v w' → LoneTo P Q (G (b.at (a.put o.dst v) (.inRegion ops rest :: k)) cs) w') :
    LoneTo P Q (G (b.at a (.inRegion ops (i :: rest) :: k)) cs) w := by
  refine LoneTo.step (step_solo_go rfl (stepG_enter (main := true) ho hw hk (run_call_body hop hf hname hb))) ?_
  obtain ⟨e, w', fr, ⟨v, rfl, hR⟩, hs, _, hl⟩ := hc (b.at a (.inRegion ops (i :: rest) :: k) :: cs)
  obtain ⟨g2, w2, hs2, hq⟩ := h v w' hR
  refine ⟨g2, w2, Steps.trans hs (Steps.head (step_leave_returned hl) ?_), hq⟩
  rw [Frame.finish_at, ho]
  exact hs2

/-- The channel's block is turned: no other. -/
theorem turned_chan (w : World) (c cap : Nat) (buf : Array Value) (cl : Bool) (s r : Nat) (tm : Bool) : Turned (fun k => k = c) w (w.setChan c cap buf cl s r tm) :=
  ⟨rfl, rfl, rfl, by simp [World.setChan], fun k _ hk => by simp only [World.setChan]; rw [Array.getElem?_setIfInBounds_ne (fun e => hk e.symm)]⟩
theorem cell_chan {w : World} {c cap : Nat} {buf : Array Value} {cl : Bool} {s r : Nat} {tm : Bool} (h : w.heap[c]? = some (.chan cap buf cl s r tm)) (i : Nat) : w.cell? ⟨c, i, none⟩ = none := by simp [World.cell?, h]
theorem res_r (c : Nat) (z v : Value) (ok : Bool) : commResult #[rcase c z] .select ((0 : Nat) : Int) v ok = .tuple #[goInt 0, .bool ok, v] := by
  simp [commResult, rcase, List.zipIdx_cons]

theorem extract_tail (v : Value) (L : List Value) : (v :: L).toArray.extract 1 (v :: L).toArray.size = L.toArray := by
  apply Array.ext'
  simp [List.extract]
/-- A pool that NewPool made, but for its things. -/
def PlAtI (w : World) (p c : Nat) : Prop := w.heap[p]? = some (.cells #[.chan (some c), .pointer (some ⟨p, 0, none⟩)] 97 (0, 0))
/-- The blocks that the things lie in. -/
def PlBsI (w : World) : List Nat → List Int → Prop
  | [], [] => True
  | b :: bs, x :: l => w.cell? ⟨b, 0, none⟩ = some ((Value.int .i64) x) ∧ PlBsI w bs l
  | _, _ => False
theorem PlBsI.imp {w w' : World} (k : ∀ b x, w.cell? ⟨b, 0, none⟩ = some ((Value.int .i64) x) → w'.cell? ⟨b, 0, none⟩ = some ((Value.int .i64) x)) : ∀ {bs : List Nat} {l : List Int}, PlBsI w bs l → PlBsI w' bs l
  | [], [], _ => trivial
  | b :: bs, x :: l, h => ⟨k _ _ h.1, h.2.imp k⟩
theorem PlBsI.push {w : World} {b' : Nat} {x' : Int} (h' : w.cell? ⟨b', 0, none⟩ = some ((Value.int .i64) x')) : ∀ {bs : List Nat} {l : List Int}, PlBsI w bs l → PlBsI w (bs ++ [b']) (l ++ [x'])
  | [], [], _ => ⟨h', trivial⟩
  | b :: bs, x :: l, h => ⟨h.1, h.2.push h'⟩
theorem PlBsI.len {w : World} : ∀ {bs : List Nat} {l : List Int}, PlBsI w bs l → bs.length = l.length
  | [], [], _ => rfl
  | b :: bs, x :: l, h => by simp [h.2.len]
/-- A pool with room for so many, and these things in it. -/
structure PlI (w : World) (p c cap : Nat) (l : List Int) : Prop where
  at_ : PlAtI w p c
  ch : ∃ (bs : List Nat) (s r : Nat), w.heap[c]? = some (.chan cap (bs.map fun b => Value.pointer (some ⟨b, 0, none⟩)).toArray false s r false) ∧ PlBsI w bs l
  le : l.length ≤ cap
/-- A pointer to no pool that NewPool made. -/
def NoPlI (w : World) (p : Option Addr) : Prop := p = none ∨ ∃ g, p = some ⟨g, 0, none⟩ ∧ w.cell? ⟨g, 1, none⟩ = some (.pointer none)

section
variable {w w' : World} {p c cap : Nat} {l : List Int}
theorem PlAtI.c0 (h : PlAtI w p c) : w.cell? ⟨p, 0, none⟩ = some (.chan (some c)) := cell_of_block h
theorem PlAtI.c1 (h : PlAtI w p c) : w.cell? ⟨p, 1, none⟩ = some (.pointer (some ⟨p, 0, none⟩)) := cell_of_block h
theorem PlI.pc (P : PlI w p c cap l) : p ≠ c := by
  rintro rfl
  obtain ⟨bs, s, r, h, _⟩ := P.ch
  have h2 := P.at_
  unfold PlAtI at h2
  rw [h] at h2
  injection h2 with h2
  cases h2
theorem PlI.lts (P : PlI w p c cap l) : p < w.heap.size ∧ c < w.heap.size := by
  obtain ⟨bs, s, r, h, _⟩ := P.ch
  exact ⟨lt_of_block P.at_, lt_of_block h⟩
theorem PlI.carry (P : PlI w p c cap l) {S : Nat → Prop} (t : Turned S w w') (hp : ¬ S p) (hc : ¬ S c) (hS : ∀ k, S k → ∀ x, w.cell? ⟨k, 0, none⟩ ≠ some ((Value.int .i64) x)) : PlI w' p c cap l := by
  obtain ⟨h1, ⟨bs, s, r, h2, h3⟩, h4⟩ := P
  exact ⟨t.kept h1 hp, ⟨bs, s, r, t.kept h2 hc, h3.imp fun b x hb => (World.cell?_of_block (w := w) (a := ⟨b, 0, none⟩) (t.block _ (World.block_lt_of_cell? w _ hb) fun hs => hS _ hs _ hb)).trans hb⟩, h4⟩
theorem PlI.grown (P : PlI w p c cap l) (k : w.grownBy w' none) : PlI w' p c cap l :=
  P.carry (S := fun _ => False) (Turned.of k (fun j e => by cases e)) (fun h => h) (fun h => h) (fun _ h => h.elim)
end

theorem info_poolI : ∃ j, Try.prog.info? 97 = some j := Option.isSome_iff_exists.1 (by kernel_rfl)

set_option maxHeartbeats 400000 in
theorem plnone_yesI (w : World) (p : Option Addr) (hp : NoPlI w p) :
    Calls Try.prog 50 #[.pointer p] w fun e w' => e = .returned (.bool true) ∧ w = w' := by
  rcases hp with rfl | ⟨g, rfl, hc⟩
  · go_enter Try.func50, Try.ntmps50
    go_wp2
    go_ret
    exact ⟨rfl, rfl⟩
  · have hq := neq_nil_ptr (P := Try.prog) w ⟨g, 0, none⟩ Try.underlying40
    go_enter Try.func50, Try.ntmps50
    go_wp2
    go_ret
    exact ⟨rfl, rfl⟩

set_option maxHeartbeats 400000 in
theorem plnone_noI (w : World) (q : Nat) (hm : w.cell? ⟨q, 1, none⟩ = some (.pointer (some ⟨q, 0, none⟩))) :
    Calls Try.prog 50 #[.pointer (some ⟨q, 0, none⟩)] w fun e w' => e = .returned (.bool false) ∧ w = w' := by
  obtain ⟨j, hj⟩ := info_poolI
  have hq := Lib.run_neq_ptr_same (P := Try.prog) (w := w) ⟨q, 0, none⟩ Try.underlying40 hj
  clear hj
  go_enter Try.func50, Try.ntmps50
  go_wp2
  go_ret
  exact ⟨rfl, rfl⟩

/-- What Take comes to. -/
def TakePostI (w : World) (p c cap : Nat) (l : List Int) (e : Ending) (w' : World) : Prop :=
  (l = [] ∧ e = .returned (.tuple #[.int .i64 0, .bool false]) ∧ w' = w) ∨ (∃ x ys, l = x :: ys ∧ e = .returned (.tuple #[(Value.int .i64) x, .bool true]) ∧ PlI w' p c cap ys ∧ Turned (fun k => k = c) w w')

set_option maxRecDepth 100000 in
set_option maxHeartbeats 1000000 in
/-- Take: the thing that was given first. -/
theorem pltakeI {w : World} {p c cap : Nat} {l : List Int} (P : PlI w p c cap l) :
    Calls Try.prog 20 #[.pointer (some ⟨p, 0, none⟩)] w (TakePostI w p c cap l) := by
  refine calls_of_loneTo (fun cs => ?_) (by rintro _ (⟨_, h, _⟩ | ⟨_, _, _, h, _⟩) <;> cases h)
  have NN := plnone_noI w p P.at_.c1
  have h0 := P.at_.c0
  obtain ⟨bs, s, r, hch, hb⟩ := P.ch
  rw [enter_at _ Try.func20 rfl]
  walk_nrmf Try.f20
  refine LoneTo.goes (n := 40) ?_
  s_c stepG_seq
  s_reg
  s_op
  s_op
  s_c stepG_region_end
  s_c stepG_seq
  s_c stepG_seq
  s_reg
  s_op
  s_stop
  refine lone_call (R := fun v w' => v = .bool false ∧ w' = w) rfl rfl (by decide) rfl Try.func50 (by kernel_rfl) rfl ?_ ?_
  · walk_nrm
    exact NN.mono fun e w' h => ⟨_, h.1, rfl, h.2.symm⟩
  rintro v w' ⟨rfl, rfl⟩
  walk_nrm
  refine LoneTo.goes (n := 40) ?_
  s_c stepG_region_end
  s_cond false
  s_c stepG_skip
  s_c stepG_seq
  s_reg
  s_op
  s_op
  s_op
  s_op
  s_c stepG_region_end
  s_c stepG_seq
  s_reg
  s_stop
  match bs, l, hb with
  | [], [], _ =>
    refine LoneTo.step (step_lone_select_default (c := c) (z := .pointer none) (cap := cap) (s := s) (r := r) (tm := false) (stepG_comm (cases := #[rcase c (.pointer none)]) (blocking := false) (shape := .select) (w' := w') rfl rfl (by decide) (by simp [go_sem, execOp, rcase, Act.eval])) hch) ?_
    rw [Frame.finish_at]
    walk_nrm
    refine LoneTo.goes (n := 40) ?_
    s_op
    s_op
    s_c stepG_region_end
    s_c stepG_block
    s_cond false
    s_c stepG_seq
    s_reg
    s_op
    s_op
    s_op
    s_c stepG_region_end
    s_c stepG_ret'
    s_stop
    refine LoneTo.done ⟨.returned (.tuple #[.int .i64 0, .bool false]), _, rfl, .inl ⟨rfl, rfl, rfl⟩, rfl, rfl, rfl, rfl, _, Try.func20, by simp [results, Try.f20, Frame.at]⟩
  | b :: bs, x :: ys, ⟨hb0, hbs⟩ =>
    refine LoneTo.step (step_lone_select_recv_buf (c := c) (z := .pointer none) (cap := cap) (closed := false) (s := s) (r := r) (tm := false) (stepG_comm (cases := #[rcase c (.pointer none)]) (blocking := false) (shape := .select) (w' := w') rfl rfl (by decide) (by simp [go_sem, execOp, rcase, Act.eval])) hch (by simp)) ?_
    rw [Frame.finish_at]
    have ht := turned_chan w' c cap (((b :: bs).map fun b => Value.pointer (some ⟨b, 0, none⟩)).toArray.extract 1 ((b :: bs).map fun b => Value.pointer (some ⟨b, 0, none⟩)).toArray.size) false s (r + 1) false
    have hcc := heap_setChan w' c cap (((b :: bs).map fun b => Value.pointer (some ⟨b, 0, none⟩)).toArray.extract 1 ((b :: bs).map fun b => Value.pointer (some ⟨b, 0, none⟩)).toArray.size) false s (r + 1) false P.lts.2
    have hx : (((b :: bs).map fun b => Value.pointer (some ⟨b, 0, none⟩)).toArray.extract 1 ((b :: bs).map fun b => Value.pointer (some ⟨b, 0, none⟩)).toArray.size) = (bs.map fun b => Value.pointer (some ⟨b, 0, none⟩)).toArray := extract_tail _ _
    revert ht hcc
    generalize w'.setChan c cap _ false s (r + 1) false = w2
    intro ht hcc
    rw [hx] at hcc
    have hP : PlI w2 p c cap ys := by
      have hn : ∀ b' x', w'.cell? ⟨b', 0, none⟩ = some ((Value.int .i64) x') → w2.cell? ⟨b', 0, none⟩ = some ((Value.int .i64) x') := fun b' x' hb' =>
        (World.cell?_of_block (w := w') (a := ⟨b', 0, none⟩) (ht.block _ (World.block_lt_of_cell? w' _ hb') fun e => by have e : b' = c := e; rw [e, cell_chan hch] at hb'; cases hb')).trans hb'
      exact ⟨ht.kept P.at_ P.pc, ⟨bs, s, r + 1, hcc, hbs.imp hn⟩, by have := P.le; simp at this; omega⟩
    have hb2 : w2.cell? ⟨b, 0, none⟩ = some ((Value.int .i64) x) := (World.cell?_of_block (w := w') (a := ⟨b, 0, none⟩) (ht.block _ (World.block_lt_of_cell? w' _ hb0) fun e => by have e : b = c := e; rw [e, cell_chan hch] at hb0; cases hb0)).trans hb0
    have HP := Lib.hid hP
    have HT := Lib.hid ht
    clear hP ht hcc hx hch hb0 hbs
    walk_nrm
    refine LoneTo.goes (n := 40) ?_
    s_op
    s_op
    s_c stepG_region_end
    s_c stepG_block
    s_cond true
    s_c stepG_seq
    s_reg
    s_op
    s_op
    s_c stepG_region_end
    s_c stepG_seq
    s_reg
    s_op
    s_op
    s_op
    s_op
    s_op
    s_c stepG_region_end
    s_c stepG_ret'
    s_stop
    refine LoneTo.done ⟨.returned (.tuple #[(Value.int .i64) x, .bool true]), _, rfl, .inr ⟨x, ys, rfl, rfl, HP.out, HT.out⟩, rfl, rfl, rfl, rfl, _, Try.func20, by simp [results, Try.f20, Frame.at]⟩
/-- What Give comes to. -/
def GivePostI (w : World) (p c cap : Nat) (l : List Int) (x : Int) (e : Ending) (w' : World) : Prop :=
  (cap ≤ l.length ∧ e = .returned (.bool false) ∧ w.grownBy w' none) ∨ (l.length < cap ∧ e = .returned (.bool true) ∧ PlI w' p c cap (l ++ [x]) ∧ Turned (fun k => k = c) w w')

set_option maxRecDepth 100000 in
set_option maxHeartbeats 1000000 in
/-- Give: if there is room, behind all others. -/
theorem plgiveI {w : World} {p c cap : Nat} {l : List Int} (P : PlI w p c cap l) (x : Int) :
    Calls Try.prog 21 #[.pointer (some ⟨p, 0, none⟩), (Value.int .i64) x] w (GivePostI w p c cap l x) := by
  refine calls_of_loneTo (fun cs => ?_) (by rintro _ (⟨_, h, _⟩ | ⟨_, h, _⟩) <;> cases h)
  have P1 := P.grown (World.grownBy_alloc w (.cells #[(Value.int .i64) x] 3) none)
  have k1 : w.grownBy (w.alloc (.cells #[(Value.int .i64) x] 3)) none := World.grownBy_alloc w _ none
  have hb0 : (w.alloc (.cells #[(Value.int .i64) x] 3)).cell? ⟨w.heap.size, 0, none⟩ = some ((Value.int .i64) x) := by rw [cell_of_block (heap_alloc_new w _)]; rfl
  have NN := fun W (h : W.cell? ⟨p, 1, none⟩ = _) => plnone_noI W p h
  rw [enter_at _ Try.func21 rfl]
  walk_nrmf Try.f21
  refine LoneTo.goes (n := 40) ?_
  s_c stepG_seq
  s_reg
  s_op
  generalize w.alloc (.cells #[(Value.int .i64) x] 3) = w1 at P1 k1 hb0 ⊢
  have h0 := P1.at_.c0
  have h1 := P1.at_.c1
  obtain ⟨bs, s, r, hch, hb⟩ := P1.ch
  have hlen := hb.len
  s_op
  s_c stepG_region_end
  s_c stepG_seq
  s_c stepG_seq
  s_reg
  s_op
  s_stop
  refine lone_call (R := fun v w' => v = .bool false ∧ w' = w1) rfl rfl (by decide) rfl Try.func50 (by kernel_rfl) rfl ?_ ?_
  · walk_nrm
    exact (NN w1 h1).mono fun e w' h => ⟨_, h.1, rfl, h.2.symm⟩
  rintro v w' ⟨rfl, rfl⟩
  walk_nrm
  refine LoneTo.goes (n := 40) ?_
  s_c stepG_region_end
  s_cond false
  s_c stepG_skip
  s_c stepG_seq
  s_reg
  s_op
  s_op
  s_op
  s_op
  s_c stepG_region_end
  s_c stepG_seq
  s_reg
  s_stop
  by_cases hc : l.length < cap
  · refine LoneTo.step (step_lone_select_send_room (c := c) (v := .pointer (some ⟨w.heap.size, 0, none⟩)) (z' := .pointer none) (cap := cap) (s := s) (r := r) (tm := false) (stepG_comm (cases := #[scase c (.pointer (some ⟨w.heap.size, 0, none⟩)) (.pointer none)]) (blocking := false) (shape := .select) (w' := w') rfl rfl (by decide) (by simp [go_sem, execOp, scase, Act.eval])) hch (by simp [hlen, hc])) ?_
    rw [Frame.finish_at]
    have ht := turned_chan w' c cap ((bs.map fun b => Value.pointer (some ⟨b, 0, none⟩)).toArray.push (.pointer (some ⟨w.heap.size, 0, none⟩))) false (s + 1) r false
    have hcc := heap_setChan w' c cap ((bs.map fun b => Value.pointer (some ⟨b, 0, none⟩)).toArray.push (.pointer (some ⟨w.heap.size, 0, none⟩))) false (s + 1) r false P1.lts.2
    have hx : (bs.map fun b => Value.pointer (some ⟨b, 0, none⟩)).toArray.push (.pointer (some ⟨w.heap.size, 0, none⟩)) = ((bs ++ [w.heap.size]).map fun b => Value.pointer (some ⟨b, 0, none⟩)).toArray := by simp
    revert ht hcc
    generalize w'.setChan c cap _ false (s + 1) r false = w2
    intro ht hcc
    rw [hx] at hcc
    have hP : PlI w2 p c cap (l ++ [x]) := by
      have hn : ∀ b' x', w'.cell? ⟨b', 0, none⟩ = some ((Value.int .i64) x') → w2.cell? ⟨b', 0, none⟩ = some ((Value.int .i64) x') := fun b' x' hb' =>
        (World.cell?_of_block (w := w') (a := ⟨b', 0, none⟩) (ht.block _ (World.block_lt_of_cell? w' _ hb') fun e => by have e : b' = c := e; rw [e, cell_chan hch] at hb'; cases hb')).trans hb'
      exact ⟨ht.kept P1.at_ P1.pc, ⟨bs ++ [w.heap.size], s + 1, r, hcc, (hb.imp hn).push (hn _ _ hb0)⟩, by simp; omega⟩
    have HP := Lib.hid hP
    have HT := Lib.hid ((Turned.of (S := fun k => k = c) k1 (fun j e => by cases e)).trans ht)
    clear hP ht hcc hx hch hb0 hb
    walk_nrm
    refine LoneTo.goes (n := 40) ?_
    s_op
    s_op
    s_c stepG_region_end
    s_c stepG_block
    s_cond true
    s_c stepG_seq
    s_reg
    s_op
    s_c stepG_region_end
    s_c stepG_ret'
    s_stop
    refine LoneTo.done ⟨.returned (.bool true), _, rfl, .inr ⟨hc, rfl, HP.out, HT.out⟩, rfl, rfl, rfl, rfl, _, Try.func21, by simp [results, Try.f21, Frame.at]⟩
  · refine LoneTo.step (step_lone_select_send_full (c := c) (v := .pointer (some ⟨w.heap.size, 0, none⟩)) (z' := .pointer none) (cap := cap) (s := s) (r := r) (tm := false) (stepG_comm (cases := #[scase c (.pointer (some ⟨w.heap.size, 0, none⟩)) (.pointer none)]) (blocking := false) (shape := .select) (w' := w') rfl rfl (by decide) (by simp [go_sem, execOp, scase, Act.eval])) hch (by simp [hlen]; omega)) ?_
    rw [Frame.finish_at]
    walk_nrm
    refine LoneTo.goes (n := 40) ?_
    s_op
    s_op
    s_c stepG_region_end
    s_c stepG_block
    s_cond false
    s_c stepG_seq
    s_reg
    s_op
    s_c stepG_region_end
    s_c stepG_ret'
    s_stop
    refine LoneTo.done ⟨.returned (.bool false), _, rfl, .inl ⟨by omega, rfl, k1⟩, rfl, rfl, rfl, rfl, _, Try.func21, by simp [results, Try.f21, Frame.at]⟩
/-- A pool that NewPool made, but for its things. -/
def PlAtS (w : World) (p c : Nat) : Prop := w.heap[p]? = some (.cells #[.chan (some c), .pointer (some ⟨p, 0, none⟩)] 101 (0, 0))
/-- The blocks that the things lie in. -/
def PlBsS (w : World) : List Nat → List ByteArray → Prop
  | [], [] => True
  | b :: bs, x :: l => w.cell? ⟨b, 0, none⟩ = some (Value.string x) ∧ PlBsS w bs l
  | _, _ => False
theorem PlBsS.imp {w w' : World} (k : ∀ b x, w.cell? ⟨b, 0, none⟩ = some (Value.string x) → w'.cell? ⟨b, 0, none⟩ = some (Value.string x)) : ∀ {bs : List Nat} {l : List ByteArray}, PlBsS w bs l → PlBsS w' bs l
  | [], [], _ => trivial
  | b :: bs, x :: l, h => ⟨k _ _ h.1, h.2.imp k⟩
theorem PlBsS.push {w : World} {b' : Nat} {x' : ByteArray} (h' : w.cell? ⟨b', 0, none⟩ = some (Value.string x')) : ∀ {bs : List Nat} {l : List ByteArray}, PlBsS w bs l → PlBsS w (bs ++ [b']) (l ++ [x'])
  | [], [], _ => ⟨h', trivial⟩
  | b :: bs, x :: l, h => ⟨h.1, h.2.push h'⟩
theorem PlBsS.len {w : World} : ∀ {bs : List Nat} {l : List ByteArray}, PlBsS w bs l → bs.length = l.length
  | [], [], _ => rfl
  | b :: bs, x :: l, h => by simp [h.2.len]
/-- A pool with room for so many, and these things in it. -/
structure PlS (w : World) (p c cap : Nat) (l : List ByteArray) : Prop where
  at_ : PlAtS w p c
  ch : ∃ (bs : List Nat) (s r : Nat), w.heap[c]? = some (.chan cap (bs.map fun b => Value.pointer (some ⟨b, 0, none⟩)).toArray false s r false) ∧ PlBsS w bs l
  le : l.length ≤ cap
/-- A pointer to no pool that NewPool made. -/
def NoPlS (w : World) (p : Option Addr) : Prop := p = none ∨ ∃ g, p = some ⟨g, 0, none⟩ ∧ w.cell? ⟨g, 1, none⟩ = some (.pointer none)

section
variable {w w' : World} {p c cap : Nat} {l : List ByteArray}
theorem PlAtS.c0 (h : PlAtS w p c) : w.cell? ⟨p, 0, none⟩ = some (.chan (some c)) := cell_of_block h
theorem PlAtS.c1 (h : PlAtS w p c) : w.cell? ⟨p, 1, none⟩ = some (.pointer (some ⟨p, 0, none⟩)) := cell_of_block h
theorem PlS.pc (P : PlS w p c cap l) : p ≠ c := by
  rintro rfl
  obtain ⟨bs, s, r, h, _⟩ := P.ch
  have h2 := P.at_
  unfold PlAtS at h2
  rw [h] at h2
  injection h2 with h2
  cases h2
theorem PlS.lts (P : PlS w p c cap l) : p < w.heap.size ∧ c < w.heap.size := by
  obtain ⟨bs, s, r, h, _⟩ := P.ch
  exact ⟨lt_of_block P.at_, lt_of_block h⟩
theorem PlS.carry (P : PlS w p c cap l) {S : Nat → Prop} (t : Turned S w w') (hp : ¬ S p) (hc : ¬ S c) (hS : ∀ k, S k → ∀ x, w.cell? ⟨k, 0, none⟩ ≠ some (Value.string x)) : PlS w' p c cap l := by
  obtain ⟨h1, ⟨bs, s, r, h2, h3⟩, h4⟩ := P
  exact ⟨t.kept h1 hp, ⟨bs, s, r, t.kept h2 hc, h3.imp fun b x hb => (World.cell?_of_block (w := w) (a := ⟨b, 0, none⟩) (t.block _ (World.block_lt_of_cell? w _ hb) fun hs => hS _ hs _ hb)).trans hb⟩, h4⟩
theorem PlS.grown (P : PlS w p c cap l) (k : w.grownBy w' none) : PlS w' p c cap l :=
  P.carry (S := fun _ => False) (Turned.of k (fun j e => by cases e)) (fun h => h) (fun h => h) (fun _ h => h.elim)
end

theorem info_poolS : ∃ j, Try.prog.info? 101 = some j := Option.isSome_iff_exists.1 (by kernel_rfl)

set_option maxHeartbeats 400000 in
theorem plnone_yesS (w : World) (p : Option Addr) (hp : NoPlS w p) :
    Calls Try.prog 52 #[.pointer p] w fun e w' => e = .returned (.bool true) ∧ w = w' := by
  rcases hp with rfl | ⟨g, rfl, hc⟩
  · go_enter Try.func52, Try.ntmps52
    go_wp2
    go_ret
    exact ⟨rfl, rfl⟩
  · have hq := neq_nil_ptr (P := Try.prog) w ⟨g, 0, none⟩ Try.underlying45
    go_enter Try.func52, Try.ntmps52
    go_wp2
    go_ret
    exact ⟨rfl, rfl⟩

set_option maxHeartbeats 400000 in
theorem plnone_noS (w : World) (q : Nat) (hm : w.cell? ⟨q, 1, none⟩ = some (.pointer (some ⟨q, 0, none⟩))) :
    Calls Try.prog 52 #[.pointer (some ⟨q, 0, none⟩)] w fun e w' => e = .returned (.bool false) ∧ w = w' := by
  obtain ⟨j, hj⟩ := info_poolS
  have hq := Lib.run_neq_ptr_same (P := Try.prog) (w := w) ⟨q, 0, none⟩ Try.underlying45 hj
  clear hj
  go_enter Try.func52, Try.ntmps52
  go_wp2
  go_ret
  exact ⟨rfl, rfl⟩

/-- What Take comes to. -/
def TakePostS (w : World) (p c cap : Nat) (l : List ByteArray) (e : Ending) (w' : World) : Prop :=
  (l = [] ∧ e = .returned (.tuple #[.string ⟨#[]⟩, .bool false]) ∧ w' = w) ∨ (∃ x ys, l = x :: ys ∧ e = .returned (.tuple #[Value.string x, .bool true]) ∧ PlS w' p c cap ys ∧ Turned (fun k => k = c) w w')

set_option maxRecDepth 100000 in
set_option maxHeartbeats 1000000 in
/-- Take: the thing that was given first. -/
theorem pltakeS {w : World} {p c cap : Nat} {l : List ByteArray} (P : PlS w p c cap l) :
    Calls Try.prog 24 #[.pointer (some ⟨p, 0, none⟩)] w (TakePostS w p c cap l) := by
  refine calls_of_loneTo (fun cs => ?_) (by rintro _ (⟨_, h, _⟩ | ⟨_, _, _, h, _⟩) <;> cases h)
  have NN := plnone_noS w p P.at_.c1
  have h0 := P.at_.c0
  obtain ⟨bs, s, r, hch, hb⟩ := P.ch
  rw [enter_at _ Try.func24 rfl]
  walk_nrmf Try.f24
  refine LoneTo.goes (n := 40) ?_
  s_c stepG_seq
  s_reg
  s_op
  s_op
  s_c stepG_region_end
  s_c stepG_seq
  s_c stepG_seq
  s_reg
  s_op
  s_stop
  refine lone_call (R := fun v w' => v = .bool false ∧ w' = w) rfl rfl (by decide) rfl Try.func52 (by kernel_rfl) rfl ?_ ?_
  · walk_nrm
    exact NN.mono fun e w' h => ⟨_, h.1, rfl, h.2.symm⟩
  rintro v w' ⟨rfl, rfl⟩
  walk_nrm
  refine LoneTo.goes (n := 40) ?_
  s_c stepG_region_end
  s_cond false
  s_c stepG_skip
  s_c stepG_seq
  s_reg
  s_op
  s_op
  s_op
  s_op
  s_c stepG_region_end
  s_c stepG_seq
  s_reg
  s_stop
  match bs, l, hb with
  | [], [], _ =>
    refine LoneTo.step (step_lone_select_default (c := c) (z := .pointer none) (cap := cap) (s := s) (r := r) (tm := false) (stepG_comm (cases := #[rcase c (.pointer none)]) (blocking := false) (shape := .select) (w' := w') rfl rfl (by decide) (by simp [go_sem, execOp, rcase, Act.eval])) hch) ?_
    rw [Frame.finish_at]
    walk_nrm
    refine LoneTo.goes (n := 40) ?_
    s_op
    s_op
    s_c stepG_region_end
    s_c stepG_block
    s_cond false
    s_c stepG_seq
    s_reg
    s_op
    s_op
    s_op
    s_c stepG_region_end
    s_c stepG_ret'
    s_stop
    refine LoneTo.done ⟨.returned (.tuple #[.string ⟨#[]⟩, .bool false]), _, rfl, .inl ⟨rfl, rfl, rfl⟩, rfl, rfl, rfl, rfl, _, Try.func24, by simp [results, Try.f24, Frame.at]⟩
  | b :: bs, x :: ys, ⟨hb0, hbs⟩ =>
    refine LoneTo.step (step_lone_select_recv_buf (c := c) (z := .pointer none) (cap := cap) (closed := false) (s := s) (r := r) (tm := false) (stepG_comm (cases := #[rcase c (.pointer none)]) (blocking := false) (shape := .select) (w' := w') rfl rfl (by decide) (by simp [go_sem, execOp, rcase, Act.eval])) hch (by simp)) ?_
    rw [Frame.finish_at]
    have ht := turned_chan w' c cap (((b :: bs).map fun b => Value.pointer (some ⟨b, 0, none⟩)).toArray.extract 1 ((b :: bs).map fun b => Value.pointer (some ⟨b, 0, none⟩)).toArray.size) false s (r + 1) false
    have hcc := heap_setChan w' c cap (((b :: bs).map fun b => Value.pointer (some ⟨b, 0, none⟩)).toArray.extract 1 ((b :: bs).map fun b => Value.pointer (some ⟨b, 0, none⟩)).toArray.size) false s (r + 1) false P.lts.2
    have hx : (((b :: bs).map fun b => Value.pointer (some ⟨b, 0, none⟩)).toArray.extract 1 ((b :: bs).map fun b => Value.pointer (some ⟨b, 0, none⟩)).toArray.size) = (bs.map fun b => Value.pointer (some ⟨b, 0, none⟩)).toArray := extract_tail _ _
    revert ht hcc
    generalize w'.setChan c cap _ false s (r + 1) false = w2
    intro ht hcc
    rw [hx] at hcc
    have hP : PlS w2 p c cap ys := by
      have hn : ∀ b' x', w'.cell? ⟨b', 0, none⟩ = some (Value.string x') → w2.cell? ⟨b', 0, none⟩ = some (Value.string x') := fun b' x' hb' =>
        (World.cell?_of_block (w := w') (a := ⟨b', 0, none⟩) (ht.block _ (World.block_lt_of_cell? w' _ hb') fun e => by have e : b' = c := e; rw [e, cell_chan hch] at hb'; cases hb')).trans hb'
      exact ⟨ht.kept P.at_ P.pc, ⟨bs, s, r + 1, hcc, hbs.imp hn⟩, by have := P.le; simp at this; omega⟩
    have hb2 : w2.cell? ⟨b, 0, none⟩ = some (Value.string x) := (World.cell?_of_block (w := w') (a := ⟨b, 0, none⟩) (ht.block _ (World.block_lt_of_cell? w' _ hb0) fun e => by have e : b = c := e; rw [e, cell_chan hch] at hb0; cases hb0)).trans hb0
    have HP := Lib.hid hP
    have HT := Lib.hid ht
    clear hP ht hcc hx hch hb0 hbs
    walk_nrm
    refine LoneTo.goes (n := 40) ?_
    s_op
    s_op
    s_c stepG_region_end
    s_c stepG_block
    s_cond true
    s_c stepG_seq
    s_reg
    s_op
    s_op
    s_c stepG_region_end
    s_c stepG_seq
    s_reg
    s_op
    s_op
    s_op
    s_op
    s_op
    s_c stepG_region_end
    s_c stepG_ret'
    s_stop
    refine LoneTo.done ⟨.returned (.tuple #[Value.string x, .bool true]), _, rfl, .inr ⟨x, ys, rfl, rfl, HP.out, HT.out⟩, rfl, rfl, rfl, rfl, _, Try.func24, by simp [results, Try.f24, Frame.at]⟩
/-- What Give comes to. -/
def GivePostS (w : World) (p c cap : Nat) (l : List ByteArray) (x : ByteArray) (e : Ending) (w' : World) : Prop :=
  (cap ≤ l.length ∧ e = .returned (.bool false) ∧ w.grownBy w' none) ∨ (l.length < cap ∧ e = .returned (.bool true) ∧ PlS w' p c cap (l ++ [x]) ∧ Turned (fun k => k = c) w w')

set_option maxRecDepth 100000 in
set_option maxHeartbeats 1000000 in
/-- Give: if there is room, behind all others. -/
theorem plgiveS {w : World} {p c cap : Nat} {l : List ByteArray} (P : PlS w p c cap l) (x : ByteArray) :
    Calls Try.prog 51 #[.pointer (some ⟨p, 0, none⟩), Value.string x] w (GivePostS w p c cap l x) := by
  refine calls_of_loneTo (fun cs => ?_) (by rintro _ (⟨_, h, _⟩ | ⟨_, h, _⟩) <;> cases h)
  have P1 := P.grown (World.grownBy_alloc w (.cells #[Value.string x] 9) none)
  have k1 : w.grownBy (w.alloc (.cells #[Value.string x] 9)) none := World.grownBy_alloc w _ none
  have hb0 : (w.alloc (.cells #[Value.string x] 9)).cell? ⟨w.heap.size, 0, none⟩ = some (Value.string x) := by rw [cell_of_block (heap_alloc_new w _)]; rfl
  have NN := fun W (h : W.cell? ⟨p, 1, none⟩ = _) => plnone_noS W p h
  rw [enter_at _ Try.func51 rfl]
  walk_nrmf Try.f51
  refine LoneTo.goes (n := 40) ?_
  s_c stepG_seq
  s_reg
  s_op
  generalize w.alloc (.cells #[Value.string x] 9) = w1 at P1 k1 hb0 ⊢
  have h0 := P1.at_.c0
  have h1 := P1.at_.c1
  obtain ⟨bs, s, r, hch, hb⟩ := P1.ch
  have hlen := hb.len
  s_op
  s_c stepG_region_end
  s_c stepG_seq
  s_c stepG_seq
  s_reg
  s_op
  s_stop
  refine lone_call (R := fun v w' => v = .bool false ∧ w' = w1) rfl rfl (by decide) rfl Try.func52 (by kernel_rfl) rfl ?_ ?_
  · walk_nrm
    exact (NN w1 h1).mono fun e w' h => ⟨_, h.1, rfl, h.2.symm⟩
  rintro v w' ⟨rfl, rfl⟩
  walk_nrm
  refine LoneTo.goes (n := 40) ?_
  s_c stepG_region_end
  s_cond false
  s_c stepG_skip
  s_c stepG_seq
  s_reg
  s_op
  s_op
  s_op
  s_op
  s_c stepG_region_end
  s_c stepG_seq
  s_reg
  s_stop
  by_cases hc : l.length < cap
  · refine LoneTo.step (step_lone_select_send_room (c := c) (v := .pointer (some ⟨w.heap.size, 0, none⟩)) (z' := .pointer none) (cap := cap) (s := s) (r := r) (tm := false) (stepG_comm (cases := #[scase c (.pointer (some ⟨w.heap.size, 0, none⟩)) (.pointer none)]) (blocking := false) (shape := .select) (w' := w') rfl rfl (by decide) (by simp [go_sem, execOp, scase, Act.eval])) hch (by simp [hlen, hc])) ?_
    rw [Frame.finish_at]
    have ht := turned_chan w' c cap ((bs.map fun b => Value.pointer (some ⟨b, 0, none⟩)).toArray.push (.pointer (some ⟨w.heap.size, 0, none⟩))) false (s + 1) r false
    have hcc := heap_setChan w' c cap ((bs.map fun b => Value.pointer (some ⟨b, 0, none⟩)).toArray.push (.pointer (some ⟨w.heap.size, 0, none⟩))) false (s + 1) r false P1.lts.2
    have hx : (bs.map fun b => Value.pointer (some ⟨b, 0, none⟩)).toArray.push (.pointer (some ⟨w.heap.size, 0, none⟩)) = ((bs ++ [w.heap.size]).map fun b => Value.pointer (some ⟨b, 0, none⟩)).toArray := by simp
    revert ht hcc
    generalize w'.setChan c cap _ false (s + 1) r false = w2
    intro ht hcc
    rw [hx] at hcc
    have hP : PlS w2 p c cap (l ++ [x]) := by
      have hn : ∀ b' x', w'.cell? ⟨b', 0, none⟩ = some (Value.string x') → w2.cell? ⟨b', 0, none⟩ = some (Value.string x') := fun b' x' hb' =>
        (World.cell?_of_block (w := w') (a := ⟨b', 0, none⟩) (ht.block _ (World.block_lt_of_cell? w' _ hb') fun e => by have e : b' = c := e; rw [e, cell_chan hch] at hb'; cases hb')).trans hb'
      exact ⟨ht.kept P1.at_ P1.pc, ⟨bs ++ [w.heap.size], s + 1, r, hcc, (hb.imp hn).push (hn _ _ hb0)⟩, by simp; omega⟩
    have HP := Lib.hid hP
    have HT := Lib.hid ((Turned.of (S := fun k => k = c) k1 (fun j e => by cases e)).trans ht)
    clear hP ht hcc hx hch hb0 hb
    walk_nrm
    refine LoneTo.goes (n := 40) ?_
    s_op
    s_op
    s_c stepG_region_end
    s_c stepG_block
    s_cond true
    s_c stepG_seq
    s_reg
    s_op
    s_c stepG_region_end
    s_c stepG_ret'
    s_stop
    refine LoneTo.done ⟨.returned (.bool true), _, rfl, .inr ⟨hc, rfl, HP.out, HT.out⟩, rfl, rfl, rfl, rfl, _, Try.func51, by simp [results, Try.f51, Frame.at]⟩
  · refine LoneTo.step (step_lone_select_send_full (c := c) (v := .pointer (some ⟨w.heap.size, 0, none⟩)) (z' := .pointer none) (cap := cap) (s := s) (r := r) (tm := false) (stepG_comm (cases := #[scase c (.pointer (some ⟨w.heap.size, 0, none⟩)) (.pointer none)]) (blocking := false) (shape := .select) (w' := w') rfl rfl (by decide) (by simp [go_sem, execOp, scase, Act.eval])) hch (by simp [hlen]; omega)) ?_
    rw [Frame.finish_at]
    walk_nrm
    refine LoneTo.goes (n := 40) ?_
    s_op
    s_op
    s_c stepG_region_end
    s_c stepG_block
    s_cond false
    s_c stepG_seq
    s_reg
    s_op
    s_c stepG_region_end
    s_c stepG_ret'
    s_stop
    refine LoneTo.done ⟨.returned (.bool false), _, rfl, .inl ⟨by omega, rfl, k1⟩, rfl, rfl, rfl, rfl, _, Try.func51, by simp [results, Try.f51, Frame.at]⟩

end Go.Proofs.Ytmlicejhkdkhnaa

namespace Go.Proofs.Ytmlicejhkdkhnaa
open Go.RowKit Go.Conc Go.Sort
set_option linter.unusedVariables false

theorem Turned.grown {w w' : World} (t : Turned (fun _ => False) w w') : w.grownBy w' none := ⟨t.os, t.tape, t.output, t.size, fun k hk _ => t.block k hk (fun h => h)⟩

/-- The slice reads as these things. -/
def SlI (w : World) (v : Value) (l : List Int) : Prop :=
  ∃ (p : Option Addr) (cap : Nat), v = .slice p l.length cap ∧ l.length ≤ 1000 ∧ (0 < l.length → ∃ b o, p = some ⟨b, o, none⟩ ∧ ∀ (i : Nat) (h : i < l.length), w.cell? ⟨b, o + i, none⟩ = some ((Value.int .i64) l[i]))
theorem SlI.kept {w w' : World} {v : Value} {l : List Int} (h : SlI w v l) (k : w.grownBy w' none) : SlI w' v l := by
  obtain ⟨p, cap, rfl, hl, hc⟩ := h
  refine ⟨p, cap, rfl, hl, fun hp => ?_⟩
  obtain ⟨b, o, rfl, hi⟩ := hc hp
  exact ⟨b, o, rfl, fun i h => (World.cell?_of_block (w := w) (a := ⟨b, o + i, none⟩) (k.block _ (World.block_lt_of_cell? w _ (hi i h)) (by simp))).trans (hi i h)⟩
theorem SlI.at_ {w : World} {p : Option Addr} {cap : Nat} {l : List Int} (h : SlI w (.slice p l.length cap) l) (i : Nat) (hi : i < l.length) : ∃ b o, p = some ⟨b, o, none⟩ ∧ w.cell? ⟨b, o + i, none⟩ = some ((Value.int .i64) l[i]) := by
  obtain ⟨p', cap', e, _, hc⟩ := h
  injection e with e1 e2 e3
  subst e1
  obtain ⟨b, o, e, h2⟩ := hc (by omega)
  exact ⟨b, o, e, h2 i hi⟩

theorem info_elemI : ∃ i, Try.prog.info? 98 = some i ∧ i.bytes = 8 := by
  have h : (Try.prog.info? 98).map (·.bytes) = some 8 := by kernel_rfl
  obtain ⟨i, hi, hb⟩ := Option.map_eq_some_iff.1 h
  exact ⟨i, hi, hb⟩
theorem make_chanI (w : World) (n : Nat) (hn : n ≤ 1000) : (Instr.makeChan 95 (.int .i64 (n : Int))).run Try.prog w = .ok (.chan (some w.heap.size)) (w.alloc (.chan n #[] false 0 0 false)) := by
  obtain ⟨i, hi, hb⟩ := info_elemI
  exact run_makeChan (P := Try.prog) (w := w) Try.underlying95 hi .i64 n (by omega) (by rw [hb]; omega)
theorem pool_madeI (w : World) (n : Nat) (W : World) (hW : W = (w.alloc (.chan n #[] false 0 0 false)).alloc (.cells #[.chan (some w.heap.size), .pointer (some ⟨w.heap.size + 1, 0, none⟩)] 97)) : PlI W (w.heap.size + 1) w.heap.size n [] := by
  subst hW
  refine ⟨?_, ⟨[], 0, 0, ?_, trivial⟩, Nat.zero_le _⟩
  · have := heap_alloc_new (w.alloc (.chan n #[] false 0 0 false)) (.cells #[.chan (some w.heap.size), .pointer (some ⟨w.heap.size + 1, 0, none⟩)] 97)
    rw [World.size_alloc] at this
    exact this
  · rw [Below.heap_alloc _ _ _ (by simp)]
    exact heap_alloc_new w _

set_option maxRecDepth 100000 in
set_option maxHeartbeats 1000000 in
/-- NewPool: a pool that has the things of l, and room for as many. -/
theorem plnewI (w : World) (v : Value) (l : List Int) (hv : SlI w v l) :
    Calls Try.prog 19 #[v] w fun e w' => ∃ p c, e = .returned (.pointer (some ⟨p, 0, none⟩)) ∧ w.heap.size ≤ p ∧ w.heap.size ≤ c ∧ PlI w' p c l.length l ∧ w.grownBy w' none := by
  have hv0 := hv
  obtain ⟨q, cap, rfl, hl, _⟩ := hv0
  have hmc := make_chanI w l.length hl
  have PM := pool_madeI w l.length
  have k1 := (World.grownBy_alloc w (.chan l.length #[] false 0 0 false) none).trans (World.grownBy_alloc _ (.cells #[.chan (some w.heap.size), .pointer (some ⟨w.heap.size + 1, 0, none⟩)] 97) none)
  go_enter Try.func19, Try.ntmps19
  go_wp2
  generalize hw1 : (w.alloc (.chan l.length #[] false 0 0 false)).alloc _ = w1 at k1 PM ⊢
  have P1 := PM w1 rfl
  obtain ⟨p, hp⟩ : ∃ p, p = w.heap.size + 1 := ⟨_, rfl⟩
  obtain ⟨c, hc⟩ : ∃ c, c = w.heap.size := ⟨_, rfl⟩
  rw [← hp, ← hc] at P1
  simp only [← hp]
  have HP := Lib.hid hp
  have HC := Lib.hid hc
  clear hw1 hp hc PM hmc
  go_loopw [17] (fun iv wr => ∃ k : Nat, k ≤ l.length ∧ iv = .int .i64 k ∧ PlI wr p c l.length (l.take k) ∧ w.grownBy wr none) (fun iv _ => l.length - (intOf iv).toNat)
  case atStart => exact ⟨0, Nat.zero_le _, rfl, by simpa using P1, k1⟩
  case round =>
    obtain ⟨k, hk, rfl, PR, kr⟩ := hrel
    by_cases hlt : k < l.length
    · obtain ⟨b, o, rfl, hcell⟩ := (hv.kept kr).at_ k hlt
      have hk63 : (k : Int) < 1000 := by omega
      go_wp2_with fail
      refine (plgiveI PR l[k]).mono ?_
      rintro e w2 (⟨h, _⟩ | ⟨_, rfl, P2, t2⟩)
      · rw [List.length_take] at h
        omega
      rw [List.take_append_getElem hlt] at P2
      have HP2 := Lib.hid P2
      have HK := Lib.hid (((Turned.of (S := fun _ => False) kr (fun j e => by cases e)).then t2 (fun j hj => .inr (by rw [show j = c from hj, HC.out]; exact Nat.le_refl _))).grown)
      clear P2 t2 PR hcell hv
      go_wp2_with fail
      go_roundw
      case rel => exact ⟨k + 1, by omega, by go_num, HP2.out, HK.out⟩
      case measure => simp [intOf]; omega
    · have hd : decide ((k : Int) < l.length) = false := decide_eq_false (by omega)
      rw [List.take_of_length_le (by omega)] at PR
      have HPR := Lib.hid PR
      clear PR hv P1
      go_wp2_with fail
      go_ret
      exact ⟨p, c, rfl, by rw [HP.out]; omega, by rw [HC.out]; exact Nat.le_refl _, HPR.out, kr⟩

set_option maxHeartbeats 400000 in
theorem pltake_noneI (w : World) :
    Calls Try.prog 20 #[.pointer none] w fun e w' => e = .returned (.tuple #[.int .i64 0, .bool false]) ∧ w = w' := by
  go_enter Try.func20, Try.ntmps20
  go_wp2_with (go_at_call 50; refine (plnone_yesI _ _ (.inl rfl)).mono ?_; rintro e w' ⟨rfl, rfl⟩)
  go_ret2
  exact ⟨rfl, rfl⟩
set_option maxHeartbeats 400000 in
theorem plgive_noneI (w : World) (x : Int) :
    Calls Try.prog 21 #[.pointer none, (Value.int .i64) x] w fun e w' => e = .returned (.bool false) ∧ w.grownBy w' none := by
  go_enter Try.func21, Try.ntmps21
  go_wp2_with (go_at_call 50; refine (plnone_yesI _ _ (.inl rfl)).mono ?_; rintro e w' ⟨rfl, rfl⟩)
  go_ret
  exact ⟨rfl, World.grownBy_alloc _ _ _⟩
/-- The slice reads as these things. -/
def SlS (w : World) (v : Value) (l : List ByteArray) : Prop :=
  ∃ (p : Option Addr) (cap : Nat), v = .slice p l.length cap ∧ l.length ≤ 1000 ∧ (0 < l.length → ∃ b o, p = some ⟨b, o, none⟩ ∧ ∀ (i : Nat) (h : i < l.length), w.cell? ⟨b, o + i, none⟩ = some (Value.string l[i]))
theorem SlS.kept {w w' : World} {v : Value} {l : List ByteArray} (h : SlS w v l) (k : w.grownBy w' none) : SlS w' v l := by
  obtain ⟨p, cap, rfl, hl, hc⟩ := h
  refine ⟨p, cap, rfl, hl, fun hp => ?_⟩
  obtain ⟨b, o, rfl, hi⟩ := hc hp
  exact ⟨b, o, rfl, fun i h => (World.cell?_of_block (w := w) (a := ⟨b, o + i, none⟩) (k.block _ (World.block_lt_of_cell? w _ (hi i h)) (by simp))).trans (hi i h)⟩
theorem SlS.at_ {w : World} {p : Option Addr} {cap : Nat} {l : List ByteArray} (h : SlS w (.slice p l.length cap) l) (i : Nat) (hi : i < l.length) : ∃ b o, p = some ⟨b, o, none⟩ ∧ w.cell? ⟨b, o + i, none⟩ = some (Value.string l[i]) := by
  obtain ⟨p', cap', e, _, hc⟩ := h
  injection e with e1 e2 e3
  subst e1
  obtain ⟨b, o, e, h2⟩ := hc (by omega)
  exact ⟨b, o, e, h2 i hi⟩

theorem info_elemS : ∃ i, Try.prog.info? 103 = some i ∧ i.bytes = 8 := by
  have h : (Try.prog.info? 103).map (·.bytes) = some 8 := by kernel_rfl
  obtain ⟨i, hi, hb⟩ := Option.map_eq_some_iff.1 h
  exact ⟨i, hi, hb⟩
theorem make_chanS (w : World) (n : Nat) (hn : n ≤ 1000) : (Instr.makeChan 99 (.int .i64 (n : Int))).run Try.prog w = .ok (.chan (some w.heap.size)) (w.alloc (.chan n #[] false 0 0 false)) := by
  obtain ⟨i, hi, hb⟩ := info_elemS
  exact run_makeChan (P := Try.prog) (w := w) Try.underlying99 hi .i64 n (by omega) (by rw [hb]; omega)
theorem pool_madeS (w : World) (n : Nat) (W : World) (hW : W = (w.alloc (.chan n #[] false 0 0 false)).alloc (.cells #[.chan (some w.heap.size), .pointer (some ⟨w.heap.size + 1, 0, none⟩)] 101)) : PlS W (w.heap.size + 1) w.heap.size n [] := by
  subst hW
  refine ⟨?_, ⟨[], 0, 0, ?_, trivial⟩, Nat.zero_le _⟩
  · have := heap_alloc_new (w.alloc (.chan n #[] false 0 0 false)) (.cells #[.chan (some w.heap.size), .pointer (some ⟨w.heap.size + 1, 0, none⟩)] 101)
    rw [World.size_alloc] at this
    exact this
  · rw [Below.heap_alloc _ _ _ (by simp)]
    exact heap_alloc_new w _

set_option maxRecDepth 100000 in
set_option maxHeartbeats 1000000 in
/-- NewPool: a pool that has the things of l, and room for as many. -/
theorem plnewS (w : World) (v : Value) (l : List ByteArray) (hv : SlS w v l) :
    Calls Try.prog 23 #[v] w fun e w' => ∃ p c, e = .returned (.pointer (some ⟨p, 0, none⟩)) ∧ w.heap.size ≤ p ∧ w.heap.size ≤ c ∧ PlS w' p c l.length l ∧ w.grownBy w' none := by
  have hv0 := hv
  obtain ⟨q, cap, rfl, hl, _⟩ := hv0
  have hmc := make_chanS w l.length hl
  have PM := pool_madeS w l.length
  have k1 := (World.grownBy_alloc w (.chan l.length #[] false 0 0 false) none).trans (World.grownBy_alloc _ (.cells #[.chan (some w.heap.size), .pointer (some ⟨w.heap.size + 1, 0, none⟩)] 101) none)
  go_enter Try.func23, Try.ntmps23
  go_wp2
  generalize hw1 : (w.alloc (.chan l.length #[] false 0 0 false)).alloc _ = w1 at k1 PM ⊢
  have P1 := PM w1 rfl
  obtain ⟨p, hp⟩ : ∃ p, p = w.heap.size + 1 := ⟨_, rfl⟩
  obtain ⟨c, hc⟩ : ∃ c, c = w.heap.size := ⟨_, rfl⟩
  rw [← hp, ← hc] at P1
  simp only [← hp]
  have HP := Lib.hid hp
  have HC := Lib.hid hc
  clear hw1 hp hc PM hmc
  go_loopw [17] (fun iv wr => ∃ k : Nat, k ≤ l.length ∧ iv = .int .i64 k ∧ PlS wr p c l.length (l.take k) ∧ w.grownBy wr none) (fun iv _ => l.length - (intOf iv).toNat)
  case atStart => exact ⟨0, Nat.zero_le _, rfl, by simpa using P1, k1⟩
  case round =>
    obtain ⟨k, hk, rfl, PR, kr⟩ := hrel
    by_cases hlt : k < l.length
    · obtain ⟨b, o, rfl, hcell⟩ := (hv.kept kr).at_ k hlt
      have hk63 : (k : Int) < 1000 := by omega
      go_wp2_with fail
      refine (plgiveS PR l[k]).mono ?_
      rintro e w2 (⟨h, _⟩ | ⟨_, rfl, P2, t2⟩)
      · rw [List.length_take] at h
        omega
      rw [List.take_append_getElem hlt] at P2
      have HP2 := Lib.hid P2
      have HK := Lib.hid (((Turned.of (S := fun _ => False) kr (fun j e => by cases e)).then t2 (fun j hj => .inr (by rw [show j = c from hj, HC.out]; exact Nat.le_refl _))).grown)
      clear P2 t2 PR hcell hv
      go_wp2_with fail
      go_roundw
      case rel => exact ⟨k + 1, by omega, by go_num, HP2.out, HK.out⟩
      case measure => simp [intOf]; omega
    · have hd : decide ((k : Int) < l.length) = false := decide_eq_false (by omega)
      rw [List.take_of_length_le (by omega)] at PR
      have HPR := Lib.hid PR
      clear PR hv P1
      go_wp2_with fail
      go_ret
      exact ⟨p, c, rfl, by rw [HP.out]; omega, by rw [HC.out]; exact Nat.le_refl _, HPR.out, kr⟩

set_option maxHeartbeats 400000 in
theorem pltake_noneS (w : World) :
    Calls Try.prog 24 #[.pointer none] w fun e w' => e = .returned (.tuple #[.string ⟨#[]⟩, .bool false]) ∧ w = w' := by
  go_enter Try.func24, Try.ntmps24
  go_wp2_with (go_at_call 52; refine (plnone_yesS _ _ (.inl rfl)).mono ?_; rintro e w' ⟨rfl, rfl⟩)
  go_ret2
  exact ⟨rfl, rfl⟩
set_option maxHeartbeats 400000 in
theorem plgive_noneS (w : World) (x : ByteArray) :
    Calls Try.prog 51 #[.pointer none, Value.string x] w fun e w' => e = .returned (.bool false) ∧ w.grownBy w' none := by
  go_enter Try.func51, Try.ntmps51
  go_wp2_with (go_at_call 52; refine (plnone_yesS _ _ (.inl rfl)).mono ?_; rintro e w' ⟨rfl, rfl⟩)
  go_ret
  exact ⟨rfl, World.grownBy_alloc _ _ _⟩
set_option maxHeartbeats 400000 in
theorem pllenI {w : World} {p c cap : Nat} {l : List Int} (P : PlI w p c cap l) :
    Calls Try.prog 22 #[.pointer (some ⟨p, 0, none⟩)] w fun e w' => e = .returned (.int .i64 l.length) ∧ w = w' := by
  have h0 := P.at_.c0
  have h1 := P.at_.c1
  obtain ⟨bs, s, r, hch, hb⟩ := P.ch
  have hlen := fun ty => run_len_chan (P := Try.prog) 95 ty Try.underlying95 hch
  have hz : goInt (bs.map fun b => Value.pointer (some ⟨b, 0, none⟩)).toArray.size = .int .i64 l.length := by simp [goInt, hb.len]
  rw [hz] at hlen
  clear hch hb P hz
  go_enter Try.func22, Try.ntmps22
  go_wp2_with (go_at_call 50; refine (plnone_noI _ _ h1).mono ?_; rintro e w' ⟨rfl, rfl⟩)
  go_ret
  exact ⟨rfl, rfl⟩
set_option maxHeartbeats 400000 in
theorem pllen_noneI (w : World) (p : Option Addr) (hp : NoPlI w p) :
    Calls Try.prog 22 #[.pointer p] w fun e w' => e = .returned (.int .i64 0) ∧ w = w' := by
  go_enter Try.func22, Try.ntmps22
  go_wp2_with (go_at_call 50; refine (plnone_yesI _ _ hp).mono ?_; rintro e w' ⟨rfl, rfl⟩)
  go_ret
  exact ⟨rfl, rfl⟩

end Go.Proofs.Ytmlicejhkdkhnaa

namespace Go.Proofs.Ytmlicejhkdkhnaa
open Go.RowKit Go.Conc Go.Sort
set_option linter.unusedVariables false

/-- Why a frame of so many bytes may not go. -/
def fitsE (n : Int) : Int := if n < 14 then 7 else if 600 < n then 3 else 0
set_option maxHeartbeats 400000 in
theorem fits_any (w : World) (n : Int) : Calls Try.prog 38 #[.int .i64 n] w fun e w' => e = .returned (.int .i64 (fitsE n)) ∧ w = w' := by
  unfold fitsE
  by_cases h1 : n < 14
  · rw [if_pos h1]
    go_enter Try.func38, Try.ntmps38
    go_wp2
    go_ret
    exact ⟨rfl, rfl⟩
  · rw [if_neg h1]
    by_cases h2 : 600 < n
    · rw [if_pos h2]
      go_enter Try.func38, Try.ntmps38
      go_wp2
      go_ret
      exact ⟨rfl, rfl⟩
    · rw [if_neg h2]
      go_enter Try.func38, Try.ntmps38
      go_wp2
      go_ret
      exact ⟨rfl, rfl⟩

/-- So many zero bytes. -/
def zerosB (n : Nat) : ByteArray := ⟨(List.replicate n (0 : UInt8)).toArray⟩
theorem zeros_holds (w : World) (n : Nat) : Holds eb (w.alloc (.cells (zeros n) 5)) w.heap.size 0 (List.replicate n (0 : UInt8)).toArray := by
  intro j hj
  have hj' : j < n := by simpa using hj
  have hb := heap_alloc_new w (.cells (zeros n) 5)
  constructor
  · rw [cell_of_block hb]
    simp [zeros, eb, hj', getElem!_pos]
  · exact frozen_of_block hb
set_option maxHeartbeats 400000 in
theorem noughts_any (w : World) (n : Nat) (hn : n ≤ 65536) : Calls Try.prog 31 #[.int .i64 n] w fun e w' => e = .returned (.string (zerosB n)) ∧ w.grownBy w' none := by
  have mk := make_bytes n hn w
  have cv := conv_text (w.alloc (.cells (zeros n) 5)) w.heap.size 0 n n _ (by simp) (zeros_holds w n)
  go_enter Try.func31, Try.ntmps31
  go_wp2
  go_ret
  exact ⟨rfl, World.grownBy_alloc _ _ _⟩

/-- All buffers. -/
def allB : List Int := [0, 1, 2, 3, 4, 5, 6, 7]
theorem info_intN : (Try.prog.info? 3).map (fun i => (i.zero, i.size, i.bytes)) = some (some (.int .i64 0), 1, 8) := by kernel_rfl
theorem allB_take (k : Nat) (hk : k < 8) : allB.take (k + 1) = allB.take k ++ [(k : Int)] := by
  match k, hk with
  | 0, _ | 1, _ | 2, _ | 3, _ | 4, _ | 5, _ | 6, _ | 7, _ => rfl
theorem sl_of_own {w : World} {base : Nat} {e : TypeId} {v : Value} {l : List Int} (h : w.ownsRow base e 1 v l.length (l.map (Value.int .i64))) (hl : l.length ≤ 1000) : SlI w v l := by
  rcases h.2 with ⟨rfl, h0⟩ | ⟨g, cap, cur, rfl, _⟩
  · exact ⟨none, 0, by rw [h0], hl, fun hp => absurd hp (by omega)⟩
  · refine ⟨some ⟨g, 0, none⟩, cap, rfl, hl, fun _ => ⟨g, 0, rfl, fun i hi => ?_⟩⟩
    rw [Nat.zero_add, h.cellAt i (by omega), List.getElem?_map, List.getElem?_eq_getElem hi]
    rfl

set_option maxRecDepth 100000 in
set_option maxHeartbeats 1000000 in
theorem allFree_any (w : World) : Calls Try.prog 33 #[] w fun e w' => ∃ p c, e = .returned (.pointer (some ⟨p, 0, none⟩)) ∧ w.heap.size ≤ p ∧ w.heap.size ≤ c ∧ PlI w' p c 8 allB ∧ w.grownBy w' none := by
  obtain ⟨i0, hi, hz0, hz1, hz2⟩ := info_parts info_intN
  go_enter Try.func33, Try.ntmps33
  go_wp2
  have ho0 : (w.alloc (.cells #[] 3)).ownsRow w.heap.size 3 1 (.slice (some ⟨w.heap.size, 0, none⟩) 0 0) (allB.take 0).length ((allB.take 0).map (Value.int .i64)) :=
    ⟨rfl, .inr ⟨w.heap.size, 0, #[], rfl, Nat.le_refl _, heap_alloc_new w _, Nat.le_refl _, Nat.zero_le _, rfl, rfl⟩⟩
  have hb0 := (Below.refl w.heap.size w).alloc (Nat.le_refl _) (.cells #[] 3)
  generalize w.alloc (.cells #[] 3) = W3 at ho0 hb0 ⊢
  go_loopw [1, 4] (fun v iv w4 => ∃ k : Nat, k ≤ 8 ∧ iv = .int .i64 k ∧ w4.ownsRow w.heap.size 3 1 v (allB.take k).length ((allB.take k).map (Value.int .i64)) ∧ Below w.heap.size w w4) (fun _ iv _ => 8 - (intOf iv).toNat)
  case atStart => exact ⟨0, Nat.zero_le _, rfl, ho0, hb0⟩
  case round =>
    obtain ⟨k, hk, rfl, hown, hb⟩ := hrel
    by_cases hlt : k < 8
    · have hk1 : (k : Int) < 8 := by omega
      have HU := Lib.hid (allB_take k hlt)
      have hbs := hb.size
      have hle : (allB.take k).length ≤ 8 := by rw [List.length_take]; exact Nat.le_trans (Nat.min_le_left _ _) hk
      go_wp2_with (at_builtin; refine wpList_append_own _ rfl _ _ 39 rfl w.heap.size 3 i0 (.int .i64 0) 1 8 Try.underlying39 hi hz0 hz1 hz2 rfl (by decide) _ _ _ rfl (hown.alloc _) ⟨wr.heap.size, 0, none⟩ 1 1 [.int .i64 (k : Int)] rfl rfl ?c1 ?c2 ?c3 ?c4 ?c5 ?_)
      case c1 => exact fun j u hu => cell_one_new wr _ _ j u hu
      case c2 => first | rfl | (simp [Value.oneCell']; done)
      case c3 => unfold maxLen; omega
      case c4 => omega
      case c5 => first | omega | (simp; omega)
      intro v' w5 hown' hgrow _
      have hb2 : Below w.heap.size w w5 := (hb.alloc hb.size _).grown hgrow (by simp; omega) (own_ge hown)
      go_wp2_with fail
      go_roundw
      case rel => exact ⟨k + 1, by omega, by go_num, by rw [HU.out]; simpa using hown', hb2⟩
      case measure => simp [intOf]; omega
    · have hkn : k = 8 := by omega
      subst hkn
      have hfin := sl_of_own hown (by decide)
      have hgr : w.grownBy wr none := ⟨hb.os, hb.tape, hb.output, hb.size, fun j hj _ => hb.block j hj⟩
      have hfin2 : SlI wr _ allB := hfin
      obtain ⟨p, cap, rfl, hl, hc⟩ := hfin2
      have HF := Lib.hid (show SlI wr (.slice p allB.length cap) allB from ⟨p, cap, rfl, hl, hc⟩)
      clear hfin hl hc hown
      go_wp2_with fail
      refine (plnewI wr (.slice p allB.length cap) allB HF.out).mono ?_
      rintro e w6 ⟨q, c, rfl, q0, c0, P, k6⟩
      have HP := Lib.hid P
      clear P
      go_wp2_with fail
      go_ret
      exact ⟨q, c, rfl, by have := hgr.size; omega, by have := hgr.size; omega, HP.out, hgr.trans k6⟩

end Go.Proofs.Ytmlicejhkdkhnaa

namespace Go.Proofs.Ytmlicejhkdkhnaa
open Go.RowKit Go.Conc Go.Sort
set_option linter.unusedVariables false

/-- Why nothing may lie at a base. -/
def vbar (size base : Int) : Int := if barOf size base 8 ≠ 0 then barOf size base 8 else if size < base + 10304 then 13 else 0
theorem vbar_ok {size base : Int} (h : vbar size base = 0) : barOf size base 8 = 0 ∧ barOf size (base + 224) 8 = 0 ∧ 0 ≤ base ∧ base % 16 = 0 ∧ base + 10304 ≤ size := by
  unfold vbar at h
  have b8 : isSize 8 := by decide
  by_cases h1 : barOf size base 8 = 0
  · rw [if_neg (by simpa using h1)] at h
    by_cases h2 : size < base + 10304
    · rw [if_pos h2] at h; cases h
    · unfold barOf at h1 ⊢
      by_cases h3 : ¬ isSize 8 ∨ base < 0 ∨ base % 16 ≠ 0
      · rw [if_pos h3] at h1; cases h1
      · have e : bytesOf 8 = 216 := by decide
        have hx : ¬ (base < 0 ∨ base % 16 ≠ 0) := fun h => h3 (.inr h)
        have hy : ¬ (¬ isSize 8 ∨ base + 224 < 0 ∨ (base + 224) % 16 ≠ 0) := by
          rintro (h | h)
          · exact h b8
          · omega
        rw [e, if_neg h3, if_neg hy, if_neg (by omega), if_neg (by omega)]
        refine ⟨rfl, rfl, ?_⟩
        omega
  · rw [if_pos h1] at h
    exact absurd h h1

set_option maxHeartbeats 1000000 in
theorem refuse4_none (w : World) (p : Option Addr) (hp : IsNone w p) (base : Int) :
    Calls Try.prog 29 #[.pointer p, .int .i64 base] w fun e w' => e = .returned (.int .i64 2) ∧ w.grownBy w' none := by
  go_enter Try.func29, Try.ntmps29
  go_wp2_with fail
  refine (Open_none w p hp base 8).mono ?_
  rintro e w1 ⟨rfl, k1⟩
  go_wp2_with fail
  go_ret
  exact ⟨rfl, k1⟩
set_option maxHeartbeats 1000000 in
theorem refuse4_any (w : World) (g h : Nat) (l : List UInt8) (m : Mem w g h l) (base : Int) (l0 : 1 ≤ l.length) (l1 : l.length ≤ 65536) (hbs : base ≤ 9223372036854775807) (E : Int) (hE : E = vbar l.length base) :
    Calls Try.prog 29 #[.pointer (some ⟨g, 0, none⟩), .int .i64 base] w fun e w' => e = .returned (.int .i64 E) ∧ w.grownBy w' none := by
  unfold vbar at hE
  have hb8 : bytesOf 8 = 216 := by decide
  have hcs := barOf_cases l.length base 8
  by_cases h1 : barOf l.length base 8 = 0
  · have OC := Lib.hid (Open_ok w g h l m base 8 l0 l1 (by omega) hbs h1)
    rw [if_neg (by simpa using h1)] at hE
    have hin : 0 ≤ base ∧ base + 216 ≤ l.length := by
      rcases hcs with ⟨_, e⟩ | ⟨_, _, _, _, e⟩ | ⟨_, b0, _, b1, _⟩
      · rw [h1] at e; cases e
      · rw [h1] at e; cases e
      · rw [hb8] at b1
        exact ⟨b0, by omega⟩
    have hw : IntKind.i64.wrap (base + 10304) = base + 10304 := wrap_small _ (by omega) (by omega)
    have HE := Lib.hid hE
    clear hcs h1 hE
    go_enter Try.func29, Try.ntmps29
    go_wp2_with fail
    refine OC.out.mono ?_
    rintro e w1 ⟨p, rfl, _, _, k1⟩
    have SC := Lib.hid (size_any w1 g h l (m.same k1))
    by_cases h2 : (l.length : Int) < base + 10304
    · have he := HE.out
      rw [if_pos h2] at he
      subst he
      go_wp2_with fail
      refine SC.out.mono ?_
      rintro e w2 ⟨rfl, rfl⟩
      go_wp2_with fail
      go_ret
      exact ⟨rfl, k1⟩
    · have he := HE.out
      rw [if_neg h2] at he
      subst he
      go_wp2_with fail
      refine SC.out.mono ?_
      rintro e w2 ⟨rfl, rfl⟩
      go_wp2_with fail
      go_ret
      exact ⟨rfl, k1⟩
  · rw [if_pos h1] at hE
    have hz : (E == 0) = false := by rw [hE]; simpa using h1
    have OC := Lib.hid (Open_err w g h l m base 8 l0 l1 (by omega) hbs E hE.symm hz)
    clear hcs h1 hE
    go_enter Try.func29, Try.ntmps29
    go_wp2_with fail
    refine OC.out.mono ?_
    rintro e w1 ⟨rfl, k1⟩
    go_wp2_with fail
    go_ret
    exact ⟨rfl, k1⟩

/-- A driver's cells. -/
def nicL (g : Nat) (base : Int) (qc qg pl : Nat) (outs : List Int) (drops resets : Int) (n : Nat) : List Value :=
  [.pointer (some ⟨g, 0, none⟩), .int .i64 base, .pointer (some ⟨qc, 0, none⟩), .pointer (some ⟨qg, 0, none⟩), .pointer (some ⟨pl, 0, none⟩)] ++ (outs.map (Value.int .i64) ++ [.int .i64 drops, .int .i64 resets, .pointer (some ⟨n, 0, none⟩)])
/-- A driver that New made. -/
structure NicAt (w : World) (n g : Nat) (base : Int) (qc qg pl : Nat) (outs : List Int) (drops resets : Int) : Prop where
  blk : w.heap[n]? = some (.cells (nicL g base qc qg pl outs drops resets n).toArray 53 (0, 0))
  len : outs.length = 8
/-- A device's side that Open made. -/
def PtAt (w : World) (p g pc pg : Nat) : Prop :=
  w.heap[p]? = some (.cells #[.pointer (some ⟨g, 0, none⟩), .pointer (some ⟨pc, 0, none⟩), .pointer (some ⟨pg, 0, none⟩), .pointer (some ⟨p, 0, none⟩)] 56 (0, 0))
def NoN (w : World) (p : Option Addr) : Prop := p = none ∨ ∃ g, p = some ⟨g, 0, none⟩ ∧ w.cell? ⟨g, 15, none⟩ = some (.pointer none)
def NoPt (w : World) (p : Option Addr) : Prop := p = none ∨ ∃ g, p = some ⟨g, 0, none⟩ ∧ w.cell? ⟨g, 3, none⟩ = some (.pointer none)

theorem eight_of {outs : List Int} (h : outs.length = 8) : ∃ a b c d e f g i, outs = [a, b, c, d, e, f, g, i] := by
  match outs, h with
  | [a, b, c, d, e, f, g, i], _ => exact ⟨a, b, c, d, e, f, g, i, rfl⟩
section
variable {w w' : World} {n g : Nat} {base : Int} {qc qg pl : Nat} {outs : List Int} {drops resets : Int}
theorem NicAt.c0 (h : NicAt w n g base qc qg pl outs drops resets) : w.cell? ⟨n, 0, none⟩ = some (.pointer (some ⟨g, 0, none⟩)) := by rw [cell_of_block h.blk]; rfl
theorem NicAt.c1 (h : NicAt w n g base qc qg pl outs drops resets) : w.cell? ⟨n, 1, none⟩ = some (.int .i64 base) := by rw [cell_of_block h.blk]; rfl
theorem NicAt.c2 (h : NicAt w n g base qc qg pl outs drops resets) : w.cell? ⟨n, 2, none⟩ = some (.pointer (some ⟨qc, 0, none⟩)) := by rw [cell_of_block h.blk]; rfl
theorem NicAt.c3 (h : NicAt w n g base qc qg pl outs drops resets) : w.cell? ⟨n, 3, none⟩ = some (.pointer (some ⟨qg, 0, none⟩)) := by rw [cell_of_block h.blk]; rfl
theorem NicAt.c4 (h : NicAt w n g base qc qg pl outs drops resets) : w.cell? ⟨n, 4, none⟩ = some (.pointer (some ⟨pl, 0, none⟩)) := by rw [cell_of_block h.blk]; rfl
theorem NicAt.out (h : NicAt w n g base qc qg pl outs drops resets) (k : Nat) (hk : k < outs.length) : w.cell? ⟨n, 5 + k, none⟩ = some (.int .i64 outs[k]) := by
  rw [cell_of_block h.blk]
  unfold nicL
  rw [List.getElem?_toArray, List.getElem?_append_right (by simp), List.getElem?_append_left (by simp; omega)]
  simp [hk]
theorem NicAt.c13 (h : NicAt w n g base qc qg pl outs drops resets) : w.cell? ⟨n, 13, none⟩ = some (.int .i64 drops) := by
  obtain ⟨a, b, c, d, e, f, g, i, rfl⟩ := eight_of h.len
  rw [cell_of_block h.blk]; rfl
theorem NicAt.c14 (h : NicAt w n g base qc qg pl outs drops resets) : w.cell? ⟨n, 14, none⟩ = some (.int .i64 resets) := by
  obtain ⟨a, b, c, d, e, f, g, i, rfl⟩ := eight_of h.len
  rw [cell_of_block h.blk]; rfl
theorem NicAt.c15 (h : NicAt w n g base qc qg pl outs drops resets) : w.cell? ⟨n, 15, none⟩ = some (.pointer (some ⟨n, 0, none⟩)) := by
  obtain ⟨a, b, c, d, e, f, g, i, rfl⟩ := eight_of h.len
  rw [cell_of_block h.blk]; rfl
theorem NicAt.fz (h : NicAt w n g base qc qg pl outs drops resets) (i : Nat) : w.frozen? ⟨n, i, none⟩ = false := frozen_of_block h.blk
theorem NicAt.kept (h : NicAt w n g base qc qg pl outs drops resets) (k : w'.heap[n]? = w.heap[n]?) : NicAt w' n g base qc qg pl outs drops resets := ⟨k.trans h.blk, h.len⟩
theorem NicAt.lt (h : NicAt w n g base qc qg pl outs drops resets) : n < w.heap.size := lt_of_block h.blk
theorem NicAt.setDrops (h : NicAt w n g base qc qg pl outs drops resets) (x : Int) : NicAt (w.setCell ⟨n, 13, none⟩ (.int .i64 x)) n g base qc qg pl outs x resets := by
  have hl := h.len
  obtain ⟨a, b, c, d, e, f, g, i, rfl⟩ := eight_of hl
  exact ⟨set_block h.blk 13 _, hl⟩
theorem NicAt.setResets (h : NicAt w n g base qc qg pl outs drops resets) (x : Int) : NicAt (w.setCell ⟨n, 14, none⟩ (.int .i64 x)) n g base qc qg pl outs drops x := by
  have hl := h.len
  obtain ⟨a, b, c, d, e, f, g, i, rfl⟩ := eight_of hl
  exact ⟨set_block h.blk 14 _, hl⟩
theorem NicAt.setPool (h : NicAt w n g base qc qg pl outs drops resets) (p : Nat) : NicAt (w.setCell ⟨n, 4, none⟩ (.pointer (some ⟨p, 0, none⟩))) n g base qc qg p outs drops resets := by
  have hl := h.len
  obtain ⟨a, b, c, d, e, f, g, i, rfl⟩ := eight_of hl
  exact ⟨set_block h.blk 4 _, hl⟩
theorem NicAt.setOut (h : NicAt w n g base qc qg pl outs drops resets) (k : Nat) (hk : k < 8) (x : Int) : NicAt (w.setCell ⟨n, 5 + k, none⟩ (.int .i64 x)) n g base qc qg pl (outs.set k x) drops resets := by
  have hl := h.len
  obtain ⟨a, b, c, d, e, f, g, i, rfl⟩ := eight_of hl
  have h2 := set_block h.blk (5 + k) (.int .i64 x)
  refine ⟨h2.trans ?_, by simp⟩
  match k, hk with
  | 0, _ | 1, _ | 2, _ | 3, _ | 4, _ | 5, _ | 6, _ | 7, _ => rfl
end
section
variable {w w' : World} {p g pc pg : Nat}
theorem PtAt.c0 (h : PtAt w p g pc pg) : w.cell? ⟨p, 0, none⟩ = some (.pointer (some ⟨g, 0, none⟩)) := cell_of_block h
theorem PtAt.c1 (h : PtAt w p g pc pg) : w.cell? ⟨p, 1, none⟩ = some (.pointer (some ⟨pc, 0, none⟩)) := cell_of_block h
theorem PtAt.c2 (h : PtAt w p g pc pg) : w.cell? ⟨p, 2, none⟩ = some (.pointer (some ⟨pg, 0, none⟩)) := cell_of_block h
theorem PtAt.c3 (h : PtAt w p g pc pg) : w.cell? ⟨p, 3, none⟩ = some (.pointer (some ⟨p, 0, none⟩)) := cell_of_block h
theorem PtAt.kept (h : PtAt w p g pc pg) (k : w'.heap[p]? = w.heap[p]?) : PtAt w' p g pc pg := k.trans h
end
theorem info_nic : ∃ j, Try.prog.info? 53 = some j := Option.isSome_iff_exists.1 (by kernel_rfl)
theorem info_vport : ∃ j, Try.prog.info? 56 = some j := Option.isSome_iff_exists.1 (by kernel_rfl)

set_option maxHeartbeats 400000 in
theorem nnone_yes (w : World) (p : Option Addr) (hp : NoN w p) :
    Calls Try.prog 37 #[.pointer p] w fun e w' => e = .returned (.bool true) ∧ w = w' := by
  rcases hp with rfl | ⟨g, rfl, hc⟩
  · go_enter Try.func37, Try.ntmps37
    go_wp2
    go_ret
    exact ⟨rfl, rfl⟩
  · have hq := neq_nil_ptr (P := Try.prog) w ⟨g, 0, none⟩ Try.underlying26
    go_enter Try.func37, Try.ntmps37
    go_wp2
    go_ret
    exact ⟨rfl, rfl⟩
set_option maxHeartbeats 400000 in
theorem nnone_no (w : World) (q : Nat) (hm : w.cell? ⟨q, 15, none⟩ = some (.pointer (some ⟨q, 0, none⟩))) :
    Calls Try.prog 37 #[.pointer (some ⟨q, 0, none⟩)] w fun e w' => e = .returned (.bool false) ∧ w = w' := by
  obtain ⟨j, hj⟩ := info_nic
  have hq := Lib.run_neq_ptr_same (P := Try.prog) (w := w) ⟨q, 0, none⟩ Try.underlying26 hj
  clear hj
  go_enter Try.func37, Try.ntmps37
  go_wp2
  go_ret
  exact ⟨rfl, rfl⟩
set_option maxHeartbeats 400000 in
theorem ptnone_yes (w : World) (p : Option Addr) (hp : NoPt w p) :
    Calls Try.prog 42 #[.pointer p] w fun e w' => e = .returned (.bool true) ∧ w = w' := by
  rcases hp with rfl | ⟨g, rfl, hc⟩
  · go_enter Try.func42, Try.ntmps42
    go_wp2
    go_ret
    exact ⟨rfl, rfl⟩
  · have hq := neq_nil_ptr (P := Try.prog) w ⟨g, 0, none⟩ Try.underlying29
    go_enter Try.func42, Try.ntmps42
    go_wp2
    go_ret
    exact ⟨rfl, rfl⟩
set_option maxHeartbeats 400000 in
theorem ptnone_no (w : World) (q : Nat) (hm : w.cell? ⟨q, 3, none⟩ = some (.pointer (some ⟨q, 0, none⟩))) :
    Calls Try.prog 42 #[.pointer (some ⟨q, 0, none⟩)] w fun e w' => e = .returned (.bool false) ∧ w = w' := by
  obtain ⟨j, hj⟩ := info_vport
  have hq := Lib.run_neq_ptr_same (P := Try.prog) (w := w) ⟨q, 0, none⟩ Try.underlying29 hj
  clear hj
  go_enter Try.func42, Try.ntmps42
  go_wp2
  go_ret
  exact ⟨rfl, rfl⟩

/-- Where a buffer lies. -/
def bufA (base : Int) (i : Int) : Int := base + 448 + 616 * i
set_option maxHeartbeats 400000 in
theorem bufferAt_any {w : World} {n g : Nat} {base : Int} {qc qg pl : Nat} {outs : List Int} {drops resets : Int} (h : NicAt w n g base qc qg pl outs drops resets) (b0 : 0 ≤ base) (b1 : base ≤ 65536) (i : Int) (i0 : 0 ≤ i) (i1 : i ≤ 65536) :
    Calls Try.prog 40 #[.pointer (some ⟨n, 0, none⟩), .int .i64 i] w fun e w' => e = .returned (.int .i64 (bufA base i)) ∧ w = w' := by
  have h1 := h.c1
  have e1 : IntKind.i64.wrap (base + 448) = base + 448 := wrap_small _ (by omega) (by omega)
  have e2 : IntKind.i64.wrap (616 * i) = 616 * i := wrap_small _ (by omega) (by omega)
  have e3 : IntKind.i64.wrap (base + 448 + 616 * i) = base + 448 + 616 * i := wrap_small _ (by omega) (by omega)
  clear h
  go_enter Try.func40, Try.ntmps40
  go_wp2
  go_ret
  exact ⟨rfl, rfl⟩

end Go.Proofs.Ytmlicejhkdkhnaa
