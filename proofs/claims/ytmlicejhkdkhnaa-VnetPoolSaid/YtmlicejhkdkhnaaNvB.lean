/-
  Layer 4: all buffers are offered; a queue is reset; the frame that came back in a buffer. Conditions: as said at each.
-/
import Derived.Test.YtmlicejhkdkhnaaNvA
namespace Go.Proofs.Ytmlicejhkdkhnaa
open Go.RowKit Go.Conc Go.Sort
set_option linter.unusedVariables false

/-- No block of S begins with a number. -/
def NotI (w : World) (S : Nat → Prop) : Prop := ∀ k, S k → ∀ x, w.cell? ⟨k, 0, none⟩ ≠ some (.int .i64 x)

/-- A chain of one buffer. -/
def chOf (m k : Int) : Ch := ⟨k, [k], m⟩
/-- The numbers that are free where these heads are out. -/
def freeH (hs : List Int) : List Int := ((List.range 8).map fun (i : Nat) => (i : Int)).filter fun k => !hs.contains k
theorem freeL_heads (m : Int) (hs : List Int) : freeL (hs.map (chOf m)) 8 = freeH hs := by
  unfold freeL freeH
  rw [List.filter_map]
  congr 1
  apply List.filter_congr
  intro i _
  show (!takenBy (hs.map (chOf m)) i) = (!hs.contains (i : Int))
  congr 1
  unfold takenBy
  induction hs with
  | nil => rfl
  | cons k hs ih =>
    rw [List.map_cons, List.any_cons, List.contains_cons, ih]
    congr 1
    simp [chOf, Bool.beq_comm]
theorem freeH_range {hs : List Int} {k : Int} (h : k ∈ freeH hs) : 0 ≤ k ∧ k < 8 ∧ k ∉ hs := by
  unfold freeH at h
  obtain ⟨h1, h2⟩ := List.mem_filter.1 h
  obtain ⟨i, hi, rfl⟩ := List.mem_map.1 h1
  have := List.mem_range.1 hi
  exact ⟨by omega, by omega, by simpa using h2⟩

/-- A queue of eight entries, over a memory that others have too, whose chains are of one buffer each (of which the device may write m bytes): these heads are out. -/
structure Q1 (w : World) (q g h : Nat) (lm : List UInt8) (base : Int) (mb : Nat) (m : Int) (hs : List Int) (off back : Int) (br : Bool) : Prop where
  ex : ∃ cs : List Oc, QS w q g h lm base 8 mb cs off back br ∧ cs.map Oc.c = hs.map (chOf m)

theorem QS.carry {w w' : World} {q g h : Nat} {lm lm' : List UInt8} {base : Int} {n mb : Nat} {cs : List Oc} {off back : Int} {broken : Bool} (s : QS w q g h lm base n mb cs off back broken) {S : Nat → Prop}
    (t : Turned S w w') (hq : ¬ S q) (hm : ¬ S mb) (hS : NotI w S) (m : Mem w' g h lm') (hl : lm'.length = lm.length) : QS w' q g h lm' base n mb cs off back broken := by
  refine { s with mem := m, len := by rw [hl]; exact s.len, at_ := t.kept s.at_ hq, tab := s.tab.kept (t.block _ s.lts.2.2.2 hm), nums := fun x hx => ?_, b1 := by rw [hl]; exact s.b1 }
  obtain ⟨a1, a2, a3⟩ := s.nums x hx
  refine ⟨a1, fun i hi => t.cell (a2 i hi) (fun hs => ?_), a3⟩
  exact hS _ hs _ (a2 0 (by omega))

theorem QS.notI {w : World} {q g h : Nat} {lm : List UInt8} {base : Int} {n mb : Nat} {cs : List Oc} {off back : Int} {broken : Bool} (s : QS w q g h lm base n mb cs off back broken) : NotI w (QB q h mb) := by
  rintro k (e | e | e) x hx
  · exact s.mem.not_u8 hx (fun x e => by cases e) e
  · rw [e, s.at_.c0] at hx; cases hx
  · obtain ⟨es, clock, hb, _⟩ := s.tab
    rw [e] at hx
    simp [World.cell?, hb] at hx
theorem PS.notI {w : World} {p g h : Nat} {lm : List UInt8} {base : Int} {n : Nat} {taken told : Int} (s : PS w p g h lm base n taken told) : NotI w (fun k => k = h ∨ k = p) := by
  rintro k (e | e) x hx
  · exact s.mem.not_u8 hx (fun x e => by cases e) e
  · rw [e, s.at_.c0] at hx; cases hx
theorem PS.carry {w w' : World} {p g h : Nat} {lm lm' : List UInt8} {base : Int} {n : Nat} {taken told : Int} (s : PS w p g h lm base n taken told) {S : Nat → Prop} (t : Turned S w w') (hp : ¬ S p) (m : Mem w' g h lm') (hl : lm'.length = lm.length) : PS w' p g h lm' base n taken told :=
  { s with mem := m, len := by rw [hl]; exact s.len, at_ := t.kept s.at_ hp, b1 := by rw [hl]; exact s.b1 }

section
variable {w w' : World} {q g h : Nat} {lm lm' : List UInt8} {base : Int} {mb : Nat} {m : Int} {hs : List Int} {off back : Int} {br : Bool}
theorem Q1.mem (s : Q1 w q g h lm base mb m hs off back br) : Mem w g h lm := by obtain ⟨cs, s, _⟩ := s.ex; exact s.mem
theorem Q1.at_ (s : Q1 w q g h lm base mb m hs off back br) : QAt w q g base 8 (some mb) off back br := by obtain ⟨cs, s, _⟩ := s.ex; exact s.at_
theorem Q1.len (s : Q1 w q g h lm base mb m hs off back br) : lm.length ≤ 65536 := by obtain ⟨cs, s, _⟩ := s.ex; exact s.len
theorem Q1.lts (s : Q1 w q g h lm base mb m hs off back br) : q < w.heap.size ∧ g < w.heap.size ∧ h < w.heap.size ∧ mb < w.heap.size := by obtain ⟨cs, s, _⟩ := s.ex; exact s.lts
theorem Q1.bds (s : Q1 w q g h lm base mb m hs off back br) : 0 ≤ base ∧ base + 216 ≤ lm.length ∧ 0 ≤ off ∧ off ≤ 65535 ∧ 0 ≤ back ∧ back ≤ 65535 := by
  obtain ⟨cs, s, _⟩ := s.ex
  have e : bytesOf (8 : Nat) = 216 := by decide
  have := s.b1
  rw [e] at this
  exact ⟨s.b0, this, s.off0, s.off1, s.back0, s.back1⟩
theorem Q1.grown (s : Q1 w q g h lm base mb m hs off back br) (k : w.grownBy w' none) : Q1 w' q g h lm base mb m hs off back br := by
  obtain ⟨cs, s, e⟩ := s.ex
  exact ⟨cs, s.grown k, e⟩
theorem Q1.carry (s : Q1 w q g h lm base mb m hs off back br) {S : Nat → Prop} (t : Turned S w w') (hq : ¬ S q) (hm : ¬ S mb) (hS : NotI w S) (m' : Mem w' g h lm') (hl : lm'.length = lm.length) : Q1 w' q g h lm' base mb m hs off back br := by
  obtain ⟨cs, s, e⟩ := s.ex
  exact ⟨cs, s.carry t hq hm hS m' hl, e⟩
theorem Q1.notI (s : Q1 w q g h lm base mb m hs off back br) : NotI w (QB q h mb) := by obtain ⟨cs, s, _⟩ := s.ex; exact s.notI

/-- What is wrong with the next chain that is back. -/
def popBad (lm : List UInt8) (base : Int) (m : Int) (hs : List Int) (back : Int) : Prop :=
  (hs.length : Int) < (usedI lm base 8 - back) % 65536 ∨ usedNum lm base 8 back ∉ hs ∨ m < usedLen lm base 8 back
/-- What Pop comes to. -/
def Q1Pop (w : World) (q g h : Nat) (lm : List UInt8) (base : Int) (mb : Nat) (m : Int) (hs : List Int) (off back : Int) (e : Ending) (w' : World) : Prop :=
  (usedI lm base 8 = back ∧ e = .returned (.tuple #[.int .i64 0, .int .i64 0, .int .i64 4]) ∧ w.grownBy w' none) ∨
  (usedI lm base 8 ≠ back ∧ popBad lm base m hs back ∧ e = .returned (.tuple #[.int .i64 0, .int .i64 0, .int .i64 8]) ∧ Q1 w' q g h lm base mb m hs off back true ∧ Turned (QB q h mb) w w') ∨
  (usedI lm base 8 ≠ back ∧ ¬ popBad lm base m hs back ∧ e = .returned (.tuple #[.int .i64 (usedNum lm base 8 back), .int .i64 (usedLen lm base 8 back), .int .i64 0]) ∧
    Q1 w' q g h lm base mb m (hs.filter fun y => y != usedNum lm base 8 back) off ((back + 1) % 65536) false ∧ Turned (QB q h mb) w w')
theorem Q1.pop (s : Q1 w q g h lm base mb m hs off back false) : Calls Try.prog 46 #[.pointer (some ⟨q, 0, none⟩)] w (Q1Pop w q g h lm base mb m hs off back) := by
  obtain ⟨cs, s, e⟩ := s.ex
  have hlen : cs.length = hs.length := by have := congrArg List.length e; simpa using this
  have hmem : ∀ k, (∃ x ∈ cs, x.c.head = k) ↔ k ∈ hs := fun k => by
    constructor
    · rintro ⟨x, hx, rfl⟩
      have : x.c ∈ hs.map (chOf m) := by rw [← e]; exact List.mem_map.2 ⟨x, hx, rfl⟩
      obtain ⟨y, hy, e2⟩ := List.mem_map.1 this
      rw [← e2]; exact hy
    · intro hk
      have : chOf m k ∈ cs.map Oc.c := by rw [e]; exact List.mem_map.2 ⟨k, hk, rfl⟩
      obtain ⟨x, hx, e2⟩ := List.mem_map.1 this
      exact ⟨x, hx, by rw [e2]; rfl⟩
  have hmost : ∀ x ∈ cs, x.c.most = m := fun x hx => by
    have : x.c ∈ hs.map (chOf m) := by rw [← e]; exact List.mem_map.2 ⟨x, hx, rfl⟩
    obtain ⟨y, hy, e2⟩ := List.mem_map.1 this
    rw [← e2]; rfl
  refine (Pop_any w q g h lm base 8 mb cs off back s).mono ?_
  rintro e' w' (⟨h1, h2, h3⟩ | ⟨h1, h2, h3, h4, h5⟩ | ⟨x, hx, h1, h2, h3, h4, h5, h6, h7⟩)
  · exact .inl ⟨h1, h2, h3⟩
  · refine .inr (.inl ⟨h1, ?_, h3, ⟨cs, h4, e⟩, h5⟩)
    rcases h2 with h2 | h2 | ⟨x, hx, h2, h6⟩
    · exact .inl (by rw [← hlen]; exact h2)
    · exact .inr (.inl fun hk => by
        obtain ⟨x, hx, e2⟩ := (hmem _).2 hk
        exact h2 x hx e2)
    · exact .inr (.inr (by rw [← hmost x hx]; exact h6))
  · refine .inr (.inr ⟨h1, ?_, h5, ⟨_, h6, ?_⟩, h7⟩)
    · rintro (h8 | h8 | h8)
      · rw [← hlen] at h8; omega
      · exact h8 ((hmem _).1 ⟨x, hx, h3⟩)
      · rw [hmost x hx] at h4; omega
    · have h8 : (cs.filter fun y => y.c.head != usedNum lm base 8 back).map Oc.c = (cs.map Oc.c).filter fun c => c.head != usedNum lm base 8 back := by rw [List.filter_map]; rfl
      rw [h8, e, List.filter_map]
      rfl

theorem Q1.add (s : Q1 w q g h lm base mb m hs off back false) (v : Value) (b : Bf) (hv : IsBufs w v [b]) (hn : 1 ≤ b.n) (h0 : 0 ≤ b.a) (h1 : b.a + b.n ≤ lm.length) (hm : (if b.wr then b.n else 0) = m) (k : Int) (ks : List Int) (hf : freeH hs = k :: ks) :
    Calls Try.prog 41 #[.pointer (some ⟨q, 0, none⟩), v] w fun e w' => e = .returned (.tuple #[.int .i64 k, .int .i64 0]) ∧ Q1 w' q g h (addL lm base 8 off [k] [b]) base mb m (hs ++ [k]) ((off + 1) % 65536) back false ∧ Turned (QB q h mb) w w' := by
  obtain ⟨cs, s, e⟩ := s.ex
  have hl := s.len
  have hfl : freeL (cs.map Oc.c) 8 = k :: ks := by rw [e, freeL_heads, hf]
  have hr : roomOf [b] = m := by rw [← hm]; simp [roomOf]
  have hE : refuseE lm [b] (freeL (cs.map Oc.c) 8).length = 0 := by
    have i1 : inOrd [b] = true := by
      have : ¬ b.n < 1 := by omega
      simp [inOrd, okFrom, this]
    have i2 : outside lm [b] = false := by
      unfold outside
      have : textE lm b.a b.n = 0 := by
        have h := textE_in lm b.a b.n (by omega)
        exact eq_of_beq (h.trans (by simp; omega))
      simp [this]
    unfold refuseE
    rw [i1, i2, hfl, if_neg (by simp), if_neg (by simp), if_neg (by simp)]
  refine (Add_ok w q g h lm base 8 mb cs off back s v [b] hv (fun x hx => by rw [List.mem_singleton.1 hx]; omega) hE).mono ?_
  rintro e' w' ⟨x, rfl, hx, q2, t2⟩
  have hc : x.c = chOf m k := by rw [hx]; unfold newCh chOf; rw [hfl, hr]; rfl
  rw [hc] at q2
  refine ⟨by rw [hc]; rfl, ⟨_, q2, ?_⟩, t2⟩
  rw [List.map_append, e, List.map_append, List.map_singleton, hc]
  rfl

theorem Q1.reset (s : Q1 w q g h lm base mb m hs off back br) :
    Calls Try.prog 58 #[.pointer (some ⟨q, 0, none⟩)] w fun e w' => e = .returned (.tuple #[]) ∧ ∃ mb', w.heap.size ≤ mb' ∧ Q1 w' q g h (wipeL lm base 8) base mb' m [] 0 0 false ∧ Turned (fun k => k = h ∨ k = q) w w' := by
  obtain ⟨cs, s, e⟩ := s.ex
  refine (Reset_any w q g h lm s.mem base 8 (some mb) off back br s.at_ s.len (by omega)).mono ?_
  rintro e' w' ⟨rfl, mb', h1, h2, h3, h4, h5⟩
  exact ⟨rfl, mb', h1, ⟨[], ⟨h4, by rw [wipeL_length]; exact s.len, h2, h3, (fun x hx => by cases hx), (fun x hx => by cases hx), (fun x hx => by cases hx), s.b0, by rw [wipeL_length]; exact s.b1, s.size, by omega, by omega, by omega, by omega⟩, rfl⟩, h5⟩
end

end Go.Proofs.Ytmlicejhkdkhnaa

namespace Go.Proofs.Ytmlicejhkdkhnaa
open Go.RowKit Go.Conc Go.Sort
set_option linter.unusedVariables false

/-- What kind of block it is. -/
def kd : Obj → Nat
  | .cells _ t _ => t
  | .chan _ _ _ _ _ _ => 100001
  | _ => 100000
theorem kd_ne {w : World} {a b : Nat} {x y : Obj} (ha : w.heap[a]? = some x) (hb : w.heap[b]? = some y) (h : kd x ≠ kd y) : a ≠ b := by
  rintro rfl
  rw [ha] at hb
  injection hb with e
  exact h (by rw [e])
/-- A block of a kind lies there. -/
def Kd (w : World) (a k : Nat) : Prop := ∃ x, w.heap[a]? = some x ∧ kd x = k
theorem Kd.ne {w : World} {a b k k' : Nat} (ha : Kd w a k) (hb : Kd w b k') (h : k ≠ k') : a ≠ b := by
  obtain ⟨x, hx, ex⟩ := ha
  obtain ⟨y, hy, ey⟩ := hb
  exact kd_ne hx hy (by rw [ex, ey]; exact h)

/-- A driver's blocks. -/
structure Bk where
  n : Nat
  g : Nat
  h : Nat
  qc : Nat
  mc : Nat
  qg : Nat
  mg : Nat
  pl : Nat
  ch : Nat
/-- What a driver is, and its memory's bytes. -/
structure Nv where
  lm : List UInt8
  base : Int
  hc : List Int
  co : Int
  cb : Int
  hg : List Int
  go : Int
  gb : Int
  free : List Int
  outs : List Int
  drops : Int
  resets : Int

/-- A driver in memory; bc, bg: are its queues broken? -/
structure NS (w : World) (k : Bk) (v : Nv) (bc bg : Bool) : Prop where
  c : Q1 w k.qc k.g k.h v.lm v.base k.mc 612 v.hc v.co v.cb bc
  g : Q1 w k.qg k.g k.h v.lm (v.base + 224) k.mg 0 v.hg v.go v.gb bg
  nic : NicAt w k.n k.g v.base k.qc k.qg k.pl v.outs v.drops v.resets
  pool : PlI w k.pl k.ch 8 v.free
  b1 : v.base + 10304 ≤ v.lm.length
  q : k.qc ≠ k.qg
  m : k.mc ≠ k.mg

/-- The driver's blocks, but for the memory's. -/
def Bk.own (k : Bk) (j : Nat) : Prop := j = k.n ∨ j = k.qc ∨ j = k.mc ∨ j = k.qg ∨ j = k.mg ∨ j = k.pl ∨ j = k.ch
/-- What its calls turn. -/
def Bk.all (k : Bk) (j : Nat) : Prop := j = k.h ∨ k.own j

section
variable {w w' : World} {k : Bk} {v : Nv} {bc bg : Bool}
theorem Q1.kq {q g h : Nat} {lm : List UInt8} {base : Int} {mb : Nat} {m : Int} {hs : List Int} {off back : Int} {br : Bool} (s : Q1 w q g h lm base mb m hs off back br) : Kd w q 112 := ⟨_, s.at_, rfl⟩
theorem Q1.km {q g h : Nat} {lm : List UInt8} {base : Int} {mb : Nat} {m : Int} {hs : List Int} {off back : Int} {br : Bool} (s : Q1 w q g h lm base mb m hs off back br) : Kd w mb 100000 := by
  obtain ⟨cs, s, _⟩ := s.ex
  obtain ⟨es, clock, hb, _⟩ := s.tab
  exact ⟨_, hb, rfl⟩
theorem NicAt.kd {n g : Nat} {base : Int} {qc qg pl : Nat} {outs : List Int} {drops resets : Int} (h : NicAt w n g base qc qg pl outs drops resets) : Kd w n 53 := ⟨_, h.blk, rfl⟩
theorem PlI.kp {p c cap : Nat} {l : List Int} (h : PlI w p c cap l) : Kd w p 97 := ⟨_, h.at_, rfl⟩
theorem PlI.kc {p c cap : Nat} {l : List Int} (h : PlI w p c cap l) : Kd w c 100001 := by
  obtain ⟨bs, s, r, h, _⟩ := h.ch
  exact ⟨_, h, rfl⟩
theorem Mem.kh {g h : Nat} {l : List UInt8} (m : Mem w g h l) : Kd w h 5 := ⟨_, m.2, rfl⟩
theorem Mem.kg {g h : Nat} {l : List UInt8} (m : Mem w g h l) : Kd w g 68 := ⟨_, m.1, rfl⟩

theorem NS.mem (s : NS w k v bc bg) : Mem w k.g k.h v.lm := s.c.mem
theorem NS.len (s : NS w k v bc bg) : v.lm.length ≤ 65536 := s.c.len
theorem NS.b0 (s : NS w k v bc bg) : 0 ≤ v.base := s.c.bds.1
/-- Which blocks are others than which. -/
theorem NS.ap (s : NS w k v bc bg) : (k.n ≠ k.h ∧ k.n ≠ k.qc ∧ k.n ≠ k.mc ∧ k.n ≠ k.qg ∧ k.n ≠ k.mg ∧ k.n ≠ k.pl ∧ k.n ≠ k.ch) ∧ (k.pl ≠ k.h ∧ k.pl ≠ k.qc ∧ k.pl ≠ k.mc ∧ k.pl ≠ k.qg ∧ k.pl ≠ k.mg ∧ k.pl ≠ k.ch) ∧
    (k.ch ≠ k.h ∧ k.ch ≠ k.qc ∧ k.ch ≠ k.mc ∧ k.ch ≠ k.qg ∧ k.ch ≠ k.mg) ∧ (k.qc ≠ k.h ∧ k.qg ≠ k.h ∧ k.mc ≠ k.h ∧ k.mg ≠ k.h ∧ k.qc ≠ k.mc ∧ k.qc ≠ k.mg ∧ k.qg ≠ k.mc ∧ k.qg ≠ k.mg) := by
  have n := s.nic.kd
  have h := s.mem.kh
  have q1 := s.c.kq
  have q2 := s.g.kq
  have m1 := s.c.km
  have m2 := s.g.km
  have p := s.pool.kp
  have c := s.pool.kc
  refine ⟨⟨n.ne h ?_, n.ne q1 ?_, n.ne m1 ?_, n.ne q2 ?_, n.ne m2 ?_, n.ne p ?_, n.ne c ?_⟩, ⟨p.ne h ?_, p.ne q1 ?_, p.ne m1 ?_, p.ne q2 ?_, p.ne m2 ?_, p.ne c ?_⟩, ⟨c.ne h ?_, c.ne q1 ?_, c.ne m1 ?_, c.ne q2 ?_, c.ne m2 ?_⟩, q1.ne h ?_, q2.ne h ?_, m1.ne h ?_, m2.ne h ?_, q1.ne m1 ?_, q1.ne m2 ?_, q2.ne m1 ?_, q2.ne m2 ?_⟩ <;> decide

theorem NS.grown (s : NS w k v bc bg) (kk : w.grownBy w' none) : NS w' k v bc bg :=
  { s with c := s.c.grown kk, g := s.g.grown kk, nic := s.nic.kept (kk.block _ s.nic.lt (by simp)), pool := s.pool.grown kk }

/-- No block of the driver's begins with a number, nor does the memory. -/
theorem NS.notI (s : NS w k v bc bg) : NotI w k.all := by
  rintro j (e | e | e | e | e | e | e | e) x hx
  · exact s.mem.not_u8 hx (fun x e => by cases e) e
  · rw [e, s.nic.c0] at hx; cases hx
  · exact s.c.notI j (.inr (.inl e)) x hx
  · exact s.c.notI j (.inr (.inr e)) x hx
  · exact s.g.notI j (.inr (.inl e)) x hx
  · exact s.g.notI j (.inr (.inr e)) x hx
  · rw [e, s.pool.at_.c0] at hx; cases hx
  · obtain ⟨bs, s, r, h, _⟩ := s.pool.ch
    rw [e, cell_chan h] at hx; cases hx

/-- The queue of what comes has gone on. -/
theorem NS.stepC (s : NS w k v bc bg) {lm' : List UInt8} {mc' : Nat} {hc' : List Int} {co' cb' : Int} {bc' : Bool} (t : Turned (fun j => j = k.h ∨ j = k.qc ∨ j = k.mc) w w') (hl : lm'.length = v.lm.length) (hm : mc' = k.mc ∨ w.heap.size ≤ mc')
    (c' : Q1 w' k.qc k.g k.h lm' v.base mc' 612 hc' co' cb' bc') : NS w' { k with mc := mc' } { v with lm := lm', hc := hc', co := co', cb := cb' } bc' bg := by
  obtain ⟨⟨n1, n2, n3, n4, n5, n6, n7⟩, ⟨p1, p2, p3, p4, p5, p6⟩, ⟨c1, c2, c3, c4, c5⟩, q1, q2, q3, q4, q5, q6, q7, q8⟩ := s.ap
  have hq := s.q
  have hmm := s.m
  have hI : NotI w (fun j => j = k.h ∨ j = k.qc ∨ j = k.mc) := fun j hj => s.c.notI j hj
  refine ⟨c', s.g.carry t ?_ ?_ hI c'.mem hl, s.nic.kept (t.block _ s.nic.lt ?_), s.pool.carry t ?_ ?_ hI, by show v.base + 10304 ≤ lm'.length; rw [hl]; exact s.b1, hq, ?_⟩
  · rintro (e | e | e); exact q2 e; exact hq e.symm; exact q7 e
  · rintro (e | e | e); exact q4 e; exact q6 e.symm; exact hmm e.symm
  · rintro (e | e | e); exact n1 e; exact n2 e; exact n3 e
  · rintro (e | e | e); exact p1 e; exact p2 e; exact p3 e
  · rintro (e | e | e); exact c1 e; exact c2 e; exact c3 e
  · show mc' ≠ k.mg
    rcases hm with e | e
    · rw [e]; exact hmm
    · have := s.g.lts.2.2.2; omega
/-- The queue of what goes has gone on. -/
theorem NS.stepG (s : NS w k v bc bg) {lm' : List UInt8} {mg' : Nat} {hg' : List Int} {go' gb' : Int} {bg' : Bool} (t : Turned (fun j => j = k.h ∨ j = k.qg ∨ j = k.mg) w w') (hl : lm'.length = v.lm.length) (hm : mg' = k.mg ∨ w.heap.size ≤ mg')
    (c' : Q1 w' k.qg k.g k.h lm' (v.base + 224) mg' 0 hg' go' gb' bg') : NS w' { k with mg := mg' } { v with lm := lm', hg := hg', go := go', gb := gb' } bc bg' := by
  obtain ⟨⟨n1, n2, n3, n4, n5, n6, n7⟩, ⟨p1, p2, p3, p4, p5, p6⟩, ⟨c1, c2, c3, c4, c5⟩, q1, q2, q3, q4, q5, q6, q7, q8⟩ := s.ap
  have hq := s.q
  have hmm := s.m
  have hI : NotI w (fun j => j = k.h ∨ j = k.qg ∨ j = k.mg) := fun j hj => s.g.notI j hj
  refine ⟨s.c.carry t ?_ ?_ hI c'.mem hl, c', s.nic.kept (t.block _ s.nic.lt ?_), s.pool.carry t ?_ ?_ hI, by show v.base + 10304 ≤ lm'.length; rw [hl]; exact s.b1, hq, ?_⟩
  · rintro (e | e | e); exact q1 e; exact hq e; exact q6 e
  · rintro (e | e | e); exact q3 e; exact q7 e.symm; exact hmm e
  · rintro (e | e | e); exact n1 e; exact n4 e; exact n5 e
  · rintro (e | e | e); exact p1 e; exact p4 e; exact p5 e
  · rintro (e | e | e); exact c1 e; exact c4 e; exact c5 e
  · show k.mc ≠ mg'
    rcases hm with e | e
    · rw [e]; exact hmm
    · have := s.c.lts.2.2.2; omega
/-- Its own block has turned. -/
theorem NS.stepN (s : NS w k v bc bg) {outs : List Int} {drops resets : Int} (t : Turned (fun j => j = k.n) w w') (n' : NicAt w' k.n k.g v.base k.qc k.qg k.pl outs drops resets) : NS w' k { v with outs := outs, drops := drops, resets := resets } bc bg := by
  obtain ⟨⟨n1, n2, n3, n4, n5, n6, n7⟩, _⟩ := s.ap
  have hI : NotI w (fun j => j = k.n) := fun j hj => s.notI j (.inr (.inl hj))
  have m' := t.mem s.mem (fun e => (s.nic.kd.ne s.mem.kg (by decide)) e.symm) (fun e => n1 e.symm)
  exact { s with c := s.c.carry t (fun e => n2 e.symm) (fun e => n3 e.symm) hI m' rfl, g := s.g.carry t (fun e => n4 e.symm) (fun e => n5 e.symm) hI m' rfl, nic := n', pool := s.pool.carry t (fun e => n6 e.symm) (fun e => n7 e.symm) hI }
/-- Its pool has gone on. -/
theorem NS.stepP (s : NS w k v bc bg) {free' : List Int} (t : Turned (fun j => j = k.ch) w w') (p' : PlI w' k.pl k.ch 8 free') : NS w' k { v with free := free' } bc bg := by
  obtain ⟨⟨n1, n2, n3, n4, n5, n6, n7⟩, ⟨p1, p2, p3, p4, p5, p6⟩, ⟨c1, c2, c3, c4, c5⟩, _⟩ := s.ap
  have hI : NotI w (fun j => j = k.ch) := fun j hj => s.notI j (.inr (.inr (.inr (.inr (.inr (.inr (.inr hj)))))))
  have m' := t.mem s.mem (fun e => (s.pool.kc.ne s.mem.kg (by decide)) e.symm) (fun e => c1 e.symm)
  exact { s with c := s.c.carry t (fun e => c2 e.symm) (fun e => c3 e.symm) hI m' rfl, g := s.g.carry t (fun e => c4 e.symm) (fun e => c5 e.symm) hI m' rfl, nic := s.nic.kept (t.block _ s.nic.lt n7), pool := p' }
/-- Others have turned blocks of their own, and the memory's bytes. -/
theorem NS.other (s : NS w k v bc bg) {S : Nat → Prop} (t : Turned S w w') (hS : ∀ j, S j → ¬ k.own j) (hI : NotI w S) {lm' : List UInt8} (m' : Mem w' k.g k.h lm') (hl : lm'.length = v.lm.length) : NS w' k { v with lm := lm' } bc bg :=
  { s with
    c := s.c.carry t (fun e => hS _ e (.inr (.inl rfl))) (fun e => hS _ e (.inr (.inr (.inl rfl)))) hI m' hl
    g := s.g.carry t (fun e => hS _ e (.inr (.inr (.inr (.inl rfl))))) (fun e => hS _ e (.inr (.inr (.inr (.inr (.inl rfl)))))) hI m' hl
    nic := s.nic.kept (t.block _ s.nic.lt (fun e => hS _ e (.inl rfl)))
    pool := s.pool.carry t (fun e => hS _ e (.inr (.inr (.inr (.inr (.inr (.inl rfl))))))) (fun e => hS _ e (.inr (.inr (.inr (.inr (.inr (.inr rfl))))))) hI
    b1 := by show v.base + 10304 ≤ lm'.length; rw [hl]; exact s.b1 }
/-- A new pool. -/
theorem NS.newPool (s : NS w k v bc bg) {p c : Nat} {free' : List Int} (P : PlI w p c 8 free') : NS (w.setCell ⟨k.n, 4, none⟩ (.pointer (some ⟨p, 0, none⟩))) { k with pl := p, ch := c } { v with free := free' } bc bg := by
  obtain ⟨⟨n1, n2, n3, n4, n5, n6, n7⟩, _⟩ := s.ap
  have t : Turned (fun j => j = k.n) w (w.setCell ⟨k.n, 4, none⟩ (.pointer (some ⟨p, 0, none⟩))) := Turned.of (grown_setCell _ _ _ _) (fun j e => by injection e with e; exact e.symm)
  have hI : NotI w (fun j => j = k.n) := fun j hj => s.notI j (.inr (.inl hj))
  have m' := t.mem s.mem (fun e => (s.nic.kd.ne s.mem.kg (by decide)) e.symm) (fun e => n1 e.symm)
  exact { s with c := s.c.carry t (fun e => n2 e.symm) (fun e => n3 e.symm) hI m' rfl, g := s.g.carry t (fun e => n4 e.symm) (fun e => n5 e.symm) hI m' rfl, nic := s.nic.setPool p, pool := P.carry t (P.kp.ne s.nic.kd (by decide)) (P.kc.ne s.nic.kd (by decide)) hI }
end

end Go.Proofs.Ytmlicejhkdkhnaa

namespace Go.Proofs.Ytmlicejhkdkhnaa
open Go.RowKit Go.Conc Go.Sort
set_option linter.unusedVariables false

/-- What offering a buffer makes of the memory. -/
def offL (lm : List UInt8) (base co j i : Int) : List UInt8 := addL lm base 8 co [j] [⟨bufA base i, 612, true⟩]
set_option maxRecDepth 100000 in
set_option maxHeartbeats 1000000 in
theorem offer_any {w : World} {k : Bk} {v : Nv} {bg : Bool} (s : NS w k v false bg) (i : Int) (i0 : 0 ≤ i) (i1 : i < 8) (j : Int) (js : List Int) (hf : freeH v.hc = j :: js) :
    Calls Try.prog 48 #[.pointer (some ⟨k.n, 0, none⟩), .int .i64 i] w fun e w' => e = .returned (.tuple #[]) ∧
      NS w' k { v with lm := offL v.lm v.base v.co j i, hc := v.hc ++ [j], co := (v.co + 1) % 65536 } false bg ∧ Turned (fun j => j = k.h ∨ j = k.qc ∨ j = k.mc) w w' := by
  have S0 := Lib.hid s
  have B1 : v.base ≤ 65536 := by have := s.b1; have := s.len; omega
  clear s
  go_enter Try.func48, Try.ntmps48
  refine wp_region_noPanic ?_
  refine region_held (S := fun V => NicAt V k.n k.g v.base k.qc k.qg k.pl v.outs v.drops v.resets) (by kernel_rfl) (fun V d => (S0.out.grown d.grown).nic) (fun V d hS => ?_)
  refine wpAnyH_take (i := 0) (oi := ⟨some 4, Op.move (Operand.tmp 0), _, _, _, none⟩) (v := (.pointer (some ⟨k.n, 0, none⟩))) rfl (by kernel_rfl) (by kernel_rfl) (by kernel_rfl) (fun _ _ _ h => h) (Or.inl ⟨by rfl, fun w' h' => ?_⟩) hS ?_
  · clear h'
    go_simp
  simp only [Act.put]
  refine wpAnyH_take (i := 1) (oi := ⟨some 5, Op.nilCheck (Operand.tmp 4), _, _, _, none⟩) (v := (.pointer (some ⟨k.n, 0, none⟩))) rfl (by kernel_rfl) (by kernel_rfl) (by kernel_rfl) (fun _ _ _ h => h) (Or.inl ⟨by rfl, fun w' h' => ?_⟩) hS ?_
  · clear h'
    go_simp
  simp only [Act.put]
  refine wpAnyH_take (i := 2) (oi := ⟨some 6, Op.fieldAddr 53 (Operand.tmp 5) 2, _, _, _, none⟩) (v := (.pointer (some ⟨k.n, 2, none⟩))) rfl (by kernel_rfl) (by kernel_rfl) (by kernel_rfl) (fun _ _ _ h => h) (Or.inl ⟨by rfl, fun w' h' => ?_⟩) hS ?_
  · clear h'
    go_simp
  simp only [Act.put]
  refine wpAnyH_take (i := 3) (oi := ⟨some 7, Op.load 50 (Operand.tmp 6), _, _, _, none⟩) (v := (.pointer (some ⟨k.qc, 0, none⟩))) rfl (by kernel_rfl) (by kernel_rfl) (by kernel_rfl) (fun _ _ _ h => h) (Or.inl ⟨by rfl, fun w' h' => ?_⟩) hS ?_
  · have c0 := h'.c2
    clear h'
    go_simp
  simp only [Act.put]
  refine wpAnyH_take (i := 4) (oi := ⟨some 8, Op.move (Operand.tmp 0), _, _, _, none⟩) (v := (.pointer (some ⟨k.n, 0, none⟩))) rfl (by kernel_rfl) (by kernel_rfl) (by kernel_rfl) (fun _ _ _ h => h) (Or.inl ⟨by rfl, fun w' h' => ?_⟩) hS ?_
  · clear h'
    go_simp
  simp only [Act.put]
  refine wpAnyH_take (i := 5) (oi := ⟨some 9, Op.move (Operand.tmp 1), _, _, _, none⟩) (v := (.int .i64 i)) rfl (by kernel_rfl) (by kernel_rfl) (by kernel_rfl) (fun _ _ _ h => h) (Or.inl ⟨by rfl, fun w' h' => ?_⟩) hS ?_
  · clear h'
    go_simp
  simp only [Act.put]
  refine wpAnyH_ready (rs := [6]) (by kernel_rfl) (by simp) ?_
  refine AllReadyH.cons rfl (fun K hK => ?_) AllReadyH.nil
  go_simp
  refine (bufferAt_any hS S0.out.b0 B1 i i0 (by omega)).mono ?_
  rintro e w1 ⟨rfl, rfl⟩
  go_simp
  refine hK.out _ _ hS (fun _ => ?_)
  clear hK K
  refine wpAnyH_take (i := 7) (oi := ⟨some 11, Op.build 83 #[(0, (Operand.tmp 10)), (1, Operand.const (Value.int IntKind.i64 612)), (2, Operand.const (Value.bool true))], _, _, _, none⟩) (v := (.agg #[.int .i64 (bufA v.base i), .int .i64 612, .bool true])) rfl (by kernel_rfl) (by kernel_rfl) (by kernel_rfl) (fun _ _ _ h => h) (Or.inl ⟨by rfl, fun w' h' => ?_⟩) hS ?_
  · clear h'
    go_simp
  simp only [Act.put]
  refine wpAnyH_ready (rs := [8]) (by kernel_rfl) (by simp) ?_
  refine AllReadyH.cons rfl (fun K hK => ?_) AllReadyH.nil
  go_simp
  refine hK.out _ _ ((S0.out.grown d.grown).grown (World.grownBy_alloc _ _ none)).nic (fun _ => ?_)
  clear hK K
  refine wpAnyH_ready (rs := [9]) (by kernel_rfl) (by simp) ?_
  refine AllReadyH.cons rfl (fun K hK => ?_) AllReadyH.nil
  go_simp
  have hb := bufs_new V [⟨bufA v.base i, 612, true⟩] 83 1 (show 1 ≤ 1000 by decide)
  have SA := Lib.hid ((S0.out.grown d.grown).grown (World.grownBy_alloc V (.cells #[.int .i64 (bufA v.base i), .int .i64 612, .bool true] 83) none))
  refine (SA.out.c.add _ ⟨bufA v.base i, 612, true⟩ hb (by show (1 : Int) ≤ 612; omega) (by show 0 ≤ bufA v.base i; have := S0.out.b0; unfold bufA; omega) (by show bufA v.base i + 612 ≤ v.lm.length; have := S0.out.b1; unfold bufA; omega) rfl j js hf).mono ?_
  rintro e w2 ⟨rfl, q2, t2⟩
  have T2 := Lib.hid ((Turned.of (S := fun j => j = k.h ∨ j = k.qc ∨ j = k.mc) (d.grown.trans (World.grownBy_alloc V (.cells #[.int .i64 (bufA v.base i), .int .i64 612, .bool true] 83) none)) (fun j e => by cases e)).trans t2)
  have N2 := Lib.hid (SA.out.stepC t2 (addL_length _ _ _ _ _ _) (.inl rfl) q2)
  clear q2 t2 hb SA
  go_simp
  refine hK.out _ _ N2.out.nic (fun _ => ?_)
  clear hK K
  refine wpAnyH_done (by kernel_rfl) (NoPanic.normal ?_) _
  clear hS
  go_wp2_with fail
  go_end0
  exact ⟨rfl, N2.out, T2.out⟩

end Go.Proofs.Ytmlicejhkdkhnaa

namespace Go.Proofs.Ytmlicejhkdkhnaa
open Go.RowKit Go.Conc Go.Sort
set_option linter.unusedVariables false

/-- The memory behind the first i offers. -/
def offN (base : Int) : Nat → List UInt8 → List UInt8
  | 0, lm => lm
  | i + 1, lm => offL (offN base i lm) base i i i
theorem offL_length (lm : List UInt8) (base co j i : Int) : (offL lm base co j i).length = lm.length := addL_length _ _ _ _ _ _
theorem offN_length (base : Int) : ∀ (i : Nat) (lm : List UInt8), (offN base i lm).length = lm.length
  | 0, _ => rfl
  | i + 1, lm => by unfold offN; rw [offL_length, offN_length base i lm]
theorem free_all (i : Nat) (hi : i < 8) : ∃ js, freeH (allB.take i) = (i : Int) :: js := by
  match i, hi with
  | 0, _ => exact ⟨_, rfl⟩
  | 1, _ => exact ⟨_, rfl⟩
  | 2, _ => exact ⟨_, rfl⟩
  | 3, _ => exact ⟨_, rfl⟩
  | 4, _ => exact ⟨_, rfl⟩
  | 5, _ => exact ⟨_, rfl⟩
  | 6, _ => exact ⟨_, rfl⟩
  | 7, _ => exact ⟨_, rfl⟩

set_option maxRecDepth 100000 in
set_option maxHeartbeats 1000000 in
theorem offerAll_any {w : World} {k : Bk} {v : Nv} {bg : Bool} (s : NS w k v false bg) (hc : v.hc = []) (co : v.co = 0) :
    Calls Try.prog 34 #[.pointer (some ⟨k.n, 0, none⟩)] w fun e w' => e = .returned (.tuple #[]) ∧
      NS w' k { v with lm := offN v.base 8 v.lm, hc := allB, co := 8 } false bg ∧ Turned (fun j => j = k.h ∨ j = k.qc ∨ j = k.mc) w w' := by
  have S0 := Lib.hid (show NS w k { v with lm := offN v.base 0 v.lm, hc := allB.take 0, co := (0 : Nat) } false bg by
    have e : v = { v with lm := offN v.base 0 v.lm, hc := allB.take 0, co := (0 : Nat) } := by
      cases v
      simp only at hc co
      subst hc co
      rfl
    rw [← e]; exact s)
  clear s hc co
  go_enter Try.func34, Try.ntmps34
  go_wp2_with fail
  go_loopw [3] (fun iv wr => ∃ i : Nat, i ≤ 8 ∧ iv = .int .i64 i ∧ NS wr k { v with lm := offN v.base i v.lm, hc := allB.take i, co := i } false bg ∧ Turned (fun j => j = k.h ∨ j = k.qc ∨ j = k.mc) w wr) (fun iv _ => 8 - (intOf iv).toNat)
  case atStart => exact ⟨0, Nat.zero_le _, rfl, S0.out, Turned.refl _ _⟩
  case round =>
    obtain ⟨i, hi, rfl, sr, tr⟩ := hrel
    by_cases hlt : i < 8
    · obtain ⟨js, hf⟩ := free_all i hlt
      have OC := Lib.hid (offer_any sr (i : Int) (by omega) (by omega) i js hf)
      have TR := Lib.hid tr
      clear sr tr hf
      go_wp2_with fail
      refine OC.out.mono ?_
      rintro e w2 ⟨rfl, s2, t2⟩
      have e1 : ((i : Int) + 1) % 65536 = ((i + 1 : Nat) : Int) := by omega
      have e2 := allB_take i hlt
      simp only [e1, ← e2] at s2
      have HS := Lib.hid s2
      have HT := Lib.hid (TR.out.trans t2)
      clear s2 t2 e1 e2 OC
      go_wp2_with fail
      go_roundw
      case rel => exact ⟨i + 1, by omega, by go_num, HS.out, HT.out⟩
      case measure => simp [intOf]; omega
    · have h8 : i = 8 := by omega
      subst h8
      have HS := Lib.hid sr
      have HT := Lib.hid tr
      clear sr tr
      go_wp2_with fail
      go_end0
      exact ⟨rfl, HS.out, HT.out⟩

set_option maxRecDepth 100000 in
set_option maxHeartbeats 1000000 in
/-- The queue of what comes is reset. -/
theorem resetC_any {w : World} {k : Bk} {v : Nv} {bc bg : Bool} (s : NS w k v bc bg) (r0 : 0 ≤ v.resets) (r1 : v.resets < 4611686018427387904) :
    Calls Try.prog 49 #[.pointer (some ⟨k.n, 0, none⟩), .pointer (some ⟨k.qc, 0, none⟩)] w fun e w' => e = .returned (.tuple #[]) ∧ ∃ mc', (mc' = k.mc ∨ w.heap.size ≤ mc') ∧
      NS w' { k with mc := mc' } { v with lm := wipeL v.lm v.base 8, hc := [], co := 0, cb := 0, resets := v.resets + 1 } false bg ∧ Turned (fun j => j = k.h ∨ j = k.qc ∨ j = k.n) w w' := by
  have RC := Lib.hid s.c.reset
  have hw : IntKind.i64.wrap (v.resets + 1) = v.resets + 1 := wrap_small _ (by omega) (by omega)
  go_enter Try.func49, Try.ntmps49
  go_wp2_with fail
  refine RC.out.mono ?_
  rintro e w1 ⟨rfl, mc', h1, q1, t1⟩
  have s1 := s.stepC (t1.mono fun j _ hj => hj.elim .inl (fun h => .inr (.inl h))) (wipeL_length _ _ _) (.inr h1) q1
  have c14 := s1.nic.c14
  have f14 := s1.nic.fz 14
  simp only at c14
  have tn : Turned (fun j => j = k.n) w1 (w1.setCell ⟨k.n, 14, none⟩ (.int .i64 (v.resets + 1))) := Turned.of (grown_setCell _ _ _ _) (fun j e => by injection e with e; exact e.symm)
  have s2 := s1.stepN (k := { k with mc := mc' }) tn (s1.nic.setResets (v.resets + 1))
  have HS := Lib.hid s2
  have HT : Hid (Turned (fun j => j = k.h ∨ j = k.qc ∨ j = k.n) w (w1.setCell ⟨k.n, 14, none⟩ (.int .i64 (v.resets + 1)))) := Lib.hid ((t1.mono fun j _ hj => hj.elim .inl (fun h => .inr (.inl h))).trans (tn.mono fun j _ hj => .inr (.inr hj)))
  clear s s1 s2 t1 q1 tn RC
  go_wp2_with fail
  go_end0
  exact ⟨rfl, mc', .inr h1, HS.out, HT.out⟩

set_option maxRecDepth 100000 in
set_option maxHeartbeats 1000000 in
/-- The queue of what goes is reset. -/
theorem resetG_any {w : World} {k : Bk} {v : Nv} {bc bg : Bool} (s : NS w k v bc bg) (r0 : 0 ≤ v.resets) (r1 : v.resets < 4611686018427387904) :
    Calls Try.prog 49 #[.pointer (some ⟨k.n, 0, none⟩), .pointer (some ⟨k.qg, 0, none⟩)] w fun e w' => e = .returned (.tuple #[]) ∧ ∃ mg', (mg' = k.mg ∨ w.heap.size ≤ mg') ∧
      NS w' { k with mg := mg' } { v with lm := wipeL v.lm (v.base + 224) 8, hg := [], go := 0, gb := 0, resets := v.resets + 1 } bc false ∧ Turned (fun j => j = k.h ∨ j = k.qg ∨ j = k.n) w w' := by
  have RC := Lib.hid s.g.reset
  have hw : IntKind.i64.wrap (v.resets + 1) = v.resets + 1 := wrap_small _ (by omega) (by omega)
  go_enter Try.func49, Try.ntmps49
  go_wp2_with fail
  refine RC.out.mono ?_
  rintro e w1 ⟨rfl, mg', h1, q1, t1⟩
  have s1 := s.stepG (t1.mono fun j _ hj => hj.elim .inl (fun h => .inr (.inl h))) (wipeL_length _ _ _) (.inr h1) q1
  have c14 := s1.nic.c14
  have f14 := s1.nic.fz 14
  simp only at c14
  have tn : Turned (fun j => j = k.n) w1 (w1.setCell ⟨k.n, 14, none⟩ (.int .i64 (v.resets + 1))) := Turned.of (grown_setCell _ _ _ _) (fun j e => by injection e with e; exact e.symm)
  have s2 := s1.stepN (k := { k with mg := mg' }) tn (s1.nic.setResets (v.resets + 1))
  have HS := Lib.hid s2
  have HT : Hid (Turned (fun j => j = k.h ∨ j = k.qg ∨ j = k.n) w (w1.setCell ⟨k.n, 14, none⟩ (.int .i64 (v.resets + 1)))) := Lib.hid ((t1.mono fun j _ hj => hj.elim .inl (fun h => .inr (.inl h))).trans (tn.mono fun j _ hj => .inr (.inr hj)))
  clear s s1 s2 t1 q1 tn RC
  go_wp2_with fail
  go_end0
  exact ⟨rfl, mg', .inr h1, HS.out, HT.out⟩

/-- The frame that came back in buffer i, of so many bytes, if it is one. -/
def frameF (lm : List UInt8) (base i n : Int) : Option (List UInt8) := if (getX lm (bufA base i + 1) 1 : Int) = 0 ∧ fitsE (n - 12) = 0 then some (textS lm (bufA base i + 12) (n - 12)) else none
/-- .. as the two values that frame answers. -/
def frameV : Option (List UInt8) → Value
  | some l => .tuple #[.string ⟨l.toArray⟩, .bool true]
  | none => .tuple #[.string ⟨#[]⟩, .bool false]

set_option maxRecDepth 100000 in
set_option maxHeartbeats 1600000 in
theorem frame_any {w : World} {k : Bk} {v : Nv} {bc bg : Bool} (s : NS w k v bc bg) (i n : Int) (i0 : 0 ≤ i) (i1 : i < 8) (n0 : 0 ≤ n) (n1 : n ≤ 612) :
    Calls Try.prog 47 #[.pointer (some ⟨k.n, 0, none⟩), .int .i64 i, .int .i64 n] w fun e w' => e = .returned (frameV (frameF v.lm v.base i n)) ∧ w = w' := by
  have b0 := s.b0
  have b1 := s.b1
  have hlen := s.len
  have BC := Lib.hid (bufferAt_any s.nic b0 (by omega) i i0 (by omega))
  have c0 := s.nic.c0
  obtain ⟨at_, hat⟩ : ∃ a, a = bufA v.base i := ⟨_, rfl⟩
  have a0 : 0 ≤ at_ := by rw [hat]; unfold bufA; omega
  have a1 : at_ + 612 ≤ v.lm.length := by rw [hat]; unfold bufA; omega
  unfold frameF
  rw [← hat] at BC ⊢
  have w1 : IntKind.i64.wrap (at_ + 1) = at_ + 1 := wrap_small _ (by omega) (by omega)
  have w2 : IntKind.i64.wrap (at_ + 12) = at_ + 12 := wrap_small _ (by omega) (by omega)
  have w3 : IntKind.i64.wrap (n - 12) = n - 12 := IntWalk.i64_in _ (by omega)
  have GC := Lib.hid (Get_all (w := w) (g := k.g) (h := k.h) (l := v.lm) s.mem (by omega) (at_ + 1) 1)
  have TC := Lib.hid (Text_all (w := w) (g := k.g) (h := k.h) (l := v.lm) s.mem (by omega) (at_ + 12) (n - 12) (by omega))
  have FC := Lib.hid (fits_any w (n - 12))
  obtain ⟨X, hX⟩ : ∃ X : Int, X = (getX v.lm (at_ + 1) 1 : Int) := ⟨_, rfl⟩
  rw [← hX] at GC ⊢
  have hFz : fitsE (n - 12) = 0 → textE v.lm (at_ + 12) (n - 12) = 0 := fun h => by
    unfold fitsE at h
    unfold textE
    split at h
    · cases h
    · split at h
      · cases h
      · rename_i h1 h2
        rw [if_neg (by clear w1 w2 w3; omega)]
  obtain ⟨E, hE⟩ : ∃ E, E = fitsE (n - 12) := ⟨_, rfl⟩
  rw [← hE] at FC hFz ⊢
  clear s hat hX hE b0 b1
  by_cases hx : X = 0
  · subst hx
    by_cases he : E = 0
    · subst he
      rw [hFz rfl] at TC
      rw [if_pos ⟨rfl, rfl⟩]
      generalize textS v.lm (at_ + 12) (n - 12) = L at TC ⊢
      unfold frameV
      clear hFz a0 a1
      go_enter Try.func47, Try.ntmps47
      go_wp2_with (first | (go_at_call 40; refine BC.out.mono ?_; rintro e w' ⟨rfl, rfl⟩) | (go_at_call 80; refine GC.out.mono ?_; rintro e w' ⟨rfl, rfl⟩) | (go_at_call 38; refine FC.out.mono ?_; rintro e w' ⟨rfl, rfl⟩) | (go_at_call 76; refine TC.out.mono ?_; rintro e w' ⟨rfl, rfl⟩))
      go_ret2
      exact ⟨rfl, rfl⟩
    · rw [if_neg (fun h => he h.2)]
      unfold frameV
      have hz : (E == 0) = false := by simpa using he
      clear hFz a0 a1 TC he
      go_enter Try.func47, Try.ntmps47
      go_wp2_with (first | (go_at_call 40; refine BC.out.mono ?_; rintro e w' ⟨rfl, rfl⟩) | (go_at_call 80; refine GC.out.mono ?_; rintro e w' ⟨rfl, rfl⟩) | (go_at_call 38; refine FC.out.mono ?_; rintro e w' ⟨rfl, rfl⟩))
      go_ret2
      exact ⟨rfl, rfl⟩
  · rw [if_neg (fun h => hx h.1)]
    unfold frameV
    have hz : (X == 0) = false := by simpa using hx
    have hz2 : (X != 0) = true := by simpa using hx
    clear hFz a0 a1 TC hx FC
    go_enter Try.func47, Try.ntmps47
    go_wp2_with (first | (go_at_call 40; refine BC.out.mono ?_; rintro e w' ⟨rfl, rfl⟩) | (go_at_call 80; refine GC.out.mono ?_; rintro e w' ⟨rfl, rfl⟩))
    go_ret2
    exact ⟨rfl, rfl⟩

end Go.Proofs.Ytmlicejhkdkhnaa
