/-
  The contract of package virtq's Add. Conditions: the queue is one that New made over a memory of at most 65536 bytes, in which it lies; its chains' numbers are from 0 to 63; the buffers' lengths are no greater than an int can tell.
-/
import Derived.Test.YtmlicejhkdkhnaaDescr
namespace Go.Proofs.Ytmlicejhkdkhnaa
open Go.RowKit Go.Sort

/-- A region that draws its order, from a world behind the draw that is a letter. -/
theorem region_held {P : Program} {id : Nat} {ops : Array Oper} {Q : Exit → Act → World → Prop} {S : World → Prop} {a : Act} {w : World} (hm : P.follows .mixedOrders = true) (hS : ∀ w', Drew w w' → S w')
    (h : ∀ w', Drew w w' → S w' → wpAnyH P .any ops Q S ops.size (Array.replicate ops.size false) a w') : (Code.region id ops true).wp P Q a w :=
  wp_region_held hm (h _ rfl (hS _ rfl))

theorem Turned.cell {S : Nat → Prop} {a b : World} (t : Turned S a b) {k i : Nat} {u : Value} (h : a.cell? ⟨k, i, none⟩ = some u) (hk : ¬ S k) : b.cell? ⟨k, i, none⟩ = some u :=
  (World.cell?_of_block (w := a) (a := ⟨k, i, none⟩) (t.block _ (World.block_lt_of_cell? a _ h) hk)).trans h

/-- A queue that New made over a memory, with what is out. -/
structure QS (w : World) (q g h : Nat) (lm : List UInt8) (base : Int) (n : Nat) (mb : Nat) (cs : List Oc) (off back : Int) (broken : Bool) : Prop where
  mem : Mem w g h lm
  len : lm.length ≤ 65536
  at_ : QAt w q g base n (some mb) off back broken
  tab : IsTab w mb (cs.map Oc.ent)
  nums : ∀ x ∈ cs, NumsAt w x
  heads : ∀ x ∈ cs, x.c.head ∈ x.c.of
  rooms : ∀ x ∈ cs, 0 ≤ x.c.most ∧ x.c.most ≤ 65536000
  b0 : 0 ≤ base
  b1 : base + bytesOf n ≤ lm.length
  size : isSize n
  off0 : 0 ≤ off
  off1 : off ≤ 65535
  back0 : 0 ≤ back
  back1 : back ≤ 65535

/-- What a queue's calls may turn. -/
def QB (q h mb : Nat) : Nat → Prop := fun k => k = h ∨ k = q ∨ k = mb

section
variable {w : World} {q g h : Nat} {lm : List UInt8} {base : Int} {n mb : Nat} {cs : List Oc} {off back : Int} {broken : Bool}
theorem QS.n1 (s : QS w q g h lm base n mb cs off back broken) : 1 ≤ n ∧ n ≤ 64 := by have := s.size.range; omega
theorem QS.bl (s : QS w q g h lm base n mb cs off back broken) : base ≤ 65536 := by have := s.len; have := s.b1; have := (bytesOf_bd n).1; omega
theorem QS.qh (s : QS w q g h lm base n mb cs off back broken) : q ≠ h := s.mem.not_u8 s.at_.c0 (fun x e => by cases e)
theorem QS.qg (s : QS w q g h lm base n mb cs off back broken) : g ≠ q := by
  rintro rfl
  have h1 := s.mem.1
  have h2 := s.at_
  unfold QAt at h2
  rw [h1] at h2
  injection h2 with h2
  injection h2 with _ h2
  exact absurd h2 (by decide)
theorem QS.mbne (s : QS w q g h lm base n mb cs off back broken) : mb ≠ q ∧ mb ≠ g ∧ mb ≠ h := by
  obtain ⟨es, clock, hb, _⟩ := s.tab
  refine ⟨?_, ?_, ?_⟩
  · rintro rfl; have h2 := s.at_; unfold QAt at h2; rw [hb] at h2; injection h2 with h2; cases h2
  · rintro rfl; have h2 := s.mem.1; rw [hb] at h2; injection h2 with h2; cases h2
  · rintro rfl; have h2 := s.mem.2; rw [hb] at h2; injection h2 with h2; cases h2
theorem QS.numsTurned (s : QS w q g h lm base n mb cs off back broken) {w' : World} (t : Turned (QB q h mb) w w') {x : Oc} (hx : x ∈ cs) : NumsAt w' x := by
  obtain ⟨h1, h2, h3⟩ := s.nums x hx
  refine ⟨h1, fun i hi => ?_, h3⟩
  have hc := h2 i hi
  have hpos : 0 < x.c.of.length := by omega
  have hc0 := h2 0 hpos
  refine t.cell hc ?_
  rintro (e | e | e)
  · exact s.mem.not_u8 hc (fun x e => by cases e) e
  · rw [e] at hc0
    rw [s.at_.c0] at hc0
    cases hc0
  · obtain ⟨es, clock, hb, _⟩ := s.tab
    rw [e] at hc
    simp [World.cell?, hb] at hc
theorem QS.lts (s : QS w q g h lm base n mb cs off back broken) : q < w.heap.size ∧ g < w.heap.size ∧ h < w.heap.size ∧ mb < w.heap.size := ⟨lt_of_block s.at_, s.mem.lt1, s.mem.lt2, s.tab.lt⟩
theorem QS.grown (s : QS w q g h lm base n mb cs off back broken) {w' : World} (k : w.grownBy w' none) : QS w' q g h lm base n mb cs off back broken :=
  { s with mem := s.mem.same k, at_ := s.at_.kept (k.block _ s.lts.1 (by simp)), tab := s.tab.kept (k.block _ s.lts.2.2.2 (by simp)), nums := fun x hx => s.numsTurned (Turned.of k (fun j e => by cases e)) hx }
end

theorem outside_no {lm : List UInt8} {l : List Bf} (h : outside lm l = false) (hp : ∀ x ∈ l, 1 ≤ x.n) (hl : lm.length ≤ 65536) : ∀ x ∈ l, 0 ≤ x.a ∧ x.a ≤ 65536 ∧ 1 ≤ x.n ∧ x.n ≤ 65536 := fun x hx => by
  have h1 : (!(textE lm x.a x.n == 0)) = false := by
    have := List.any_eq_false.1 h x hx
    simpa using this
  have hn := hp x hx
  rw [textE_in lm x.a x.n (by omega)] at h1
  simp at h1
  omega

/-- The memory's bytes behind Add. -/
def addL (lm : List UInt8) (base : Int) (n : Nat) (off : Int) (ns : List Int) (l : List Bf) : List UInt8 :=
  putL (putL (descs base ns l lm) (base + 16 * n + 4 + 2 * (off % n)) 2 (ns.headD 0)) (base + 16 * n + 2) 2 ((off + 1) % 65536)
theorem addL_length (lm : List UInt8) (base : Int) (n : Nat) (off : Int) (ns : List Int) (l : List Bf) : (addL lm base n off ns l).length = lm.length := by unfold addL; simp [putL_length, descs_length]

set_option maxHeartbeats 400000 in
theorem Add_broken (w : World) (q g : Nat) (base n : Int) (mp : Option Nat) (off back : Int) (h : QAt w q g base n mp off back true) (v : Value) :
    Calls Try.prog 41 #[.pointer (some ⟨q, 0, none⟩), v] w fun e w' => e = .returned (.tuple #[.int .i64 0, .int .i64 11]) ∧ w = w' := by
  have CC := Lib.hid (closed_any w q g base n mp off back true h)
  go_enter Try.func41, Try.ntmps41
  go_wp2_with fail
  refine CC.out.mono ?_
  rintro e w1 ⟨rfl, rfl⟩
  go_wp2_with fail
  go_ret2
  exact ⟨rfl, rfl⟩

theorem free_spec {cs : List Ch} {n : Nat} {y : Int} (h : y ∈ freeL cs n) : 0 ≤ y ∧ y < n ∧ ∀ c ∈ cs, y ∉ c.of := by
  unfold freeL at h
  obtain ⟨i, hi, rfl⟩ := List.mem_map.1 h
  obtain ⟨h1, h2⟩ := List.mem_filter.1 hi
  have h1 := List.mem_range.1 h1
  refine ⟨by omega, by omega, fun c hc hy => ?_⟩
  have : takenBy cs i = true := List.any_eq_true.2 ⟨c, hc, List.any_eq_true.2 ⟨_, hy, by simp⟩⟩
  rw [this] at h2
  cases h2

theorem wrap_u16 (x : Int) : IntKind.u16.wrap x = x % 65536 := by simp [IntKind.wrap, IntKind.bits, IntKind.signed]

/-- The chain that Add puts out. -/
def newCh (cs : List Oc) (n : Nat) (l : List Bf) : Ch := ⟨((freeL (cs.map Oc.c) n).take l.length).headD 0, (freeL (cs.map Oc.c) n).take l.length, roomOf l⟩

set_option maxRecDepth 100000 in
set_option maxHeartbeats 1000000 in
theorem Add_err (w : World) (q g h : Nat) (lm : List UInt8) (base : Int) (n mb : Nat) (cs : List Oc) (off back : Int) (s : QS w q g h lm base n mb cs off back false) (v : Value) (l : List Bf) (hv : IsBufs w v l) (hbd : ∀ x ∈ l, x.n ≤ 9223372036854775807)
    (E : Int) (hE : refuseE lm l (freeL (cs.map Oc.c) n).length = E) (hz : (E == 0) = false) :
    Calls Try.prog 41 #[.pointer (some ⟨q, 0, none⟩), v] w fun e w' => e = .returned (.tuple #[.int .i64 0, .int .i64 E]) ∧ w.grownBy w' none := by
  have CC := Lib.hid (closed_any w q g base n (some mb) off back false s.at_)
  have RC := refuse_any w q g h lm s.mem s.len base n mb off back false s.at_ cs s.tab s.nums s.n1.2 v l hv hbd
  rw [hE] at RC
  have RC' := Lib.hid RC
  obtain ⟨p, cap, rfl, _⟩ := hv.form
  clear RC hE hv hbd s
  go_enter Try.func41, Try.ntmps41
  go_wp2_with fail
  refine CC.out.mono ?_
  rintro e w1 ⟨rfl, rfl⟩
  go_wp2_with fail
  refine RC'.out.mono ?_
  rintro e w1 ⟨rfl, k1⟩
  go_wp2_with fail
  go_ret2
  exact ⟨rfl, k1⟩

set_option maxRecDepth 100000 in
set_option maxHeartbeats 1600000 in
theorem Add_new (w : World) (q g h : Nat) (lm : List UInt8) (base : Int) (n mb : Nat) (cs : List Oc) (off back : Int) (s : QS w q g h lm base n mb cs off back false) (v : Value) (l : List Bf) (hv : IsBufs w v l) (hbd : ∀ x ∈ l, x.n ≤ 9223372036854775807)
    (hE : refuseE lm l (freeL (cs.map Oc.c) n).length = 0) :
    Calls Try.prog 41 #[.pointer (some ⟨q, 0, none⟩), v] w
      fun e w' => ∃ x : Oc, e = .returned (.tuple #[.int .i64 x.c.head, .int .i64 0]) ∧ x.c = newCh cs n l ∧ w.heap.size ≤ x.blk ∧ QS w' q g h (addL lm base n off x.c.of l) base n mb (cs ++ [x]) ((off + 1) % 65536) back false ∧ Turned (QB q h mb) w w' := by
  have CC := Lib.hid (closed_any w q g base n (some mb) off back false s.at_)
  have RC := refuse_any w q g h lm s.mem s.len base n mb off back false s.at_ cs s.tab s.nums s.n1.2 v l hv hbd
  rw [hE] at RC
  have RC' := Lib.hid RC
  obtain ⟨p, lcap, rfl, hle⟩ := hv.form
  -- what the refusal's 0 says
  have hio : inOrd l = true := by
    unfold refuseE at hE
    cases h1 : inOrd l with
    | true => rfl
    | false => rw [h1, if_pos (by rfl)] at hE; cases hE
  have hout : outside lm l = false := by
    unfold refuseE at hE
    rw [hio, if_neg (by decide)] at hE
    cases h1 : outside lm l with
    | false => rfl
    | true => rw [h1, if_pos rfl] at hE; cases hE
  obtain ⟨F, hF⟩ : ∃ F, F = freeL (cs.map Oc.c) n := ⟨_, rfl⟩
  have hfl : l.length ≤ F.length := by
    unfold refuseE at hE
    rw [hio, if_neg (by decide), hout, if_neg (by decide), ← hF] at hE
    by_cases h1 : F.length < l.length
    · rw [if_pos h1] at hE; cases hE
    · omega
  obtain ⟨hlp, hpos⟩ := inOrd_pos hio
  have hbl := outside_no hout hpos s.len
  have hroom := roomOf_bd l fun x hx => ⟨by have := hbl x hx; omega, (hbl x hx).2.2.2⟩
  obtain ⟨n1, n2⟩ := s.n1
  have hb1 := s.bl
  have hb0 := s.b0
  obtain ⟨lq, lg, lh, lb⟩ := s.lts
  have hqh := s.qh
  have hqg := s.qg
  obtain ⟨mq, mg, mh⟩ := s.mbne
  have hF64 : F.length ≤ 64 := by rw [hF]; exact Nat.le_trans (freeL_le _ _) n2
  have hFs : ∀ y ∈ F, 0 ≤ y ∧ y < n ∧ ∀ c ∈ cs.map Oc.c, y ∉ c.of := fun y hy => free_spec (hF ▸ hy)
  obtain ⟨ns, hns⟩ : ∃ ns, ns = F.take l.length := ⟨_, rfl⟩
  have hnl : ns.length = l.length := by rw [hns, List.length_take]; omega
  have hnsF : ∀ y ∈ ns, y ∈ F := fun y hy => by rw [hns] at hy; exact List.mem_of_mem_take hy
  obtain ⟨hd, hhd⟩ : ∃ hd, ns[0]? = some hd := ⟨_, List.getElem?_eq_getElem (show 0 < ns.length by omega)⟩
  have hhm : hd ∈ ns := List.mem_of_getElem? hhd
  have hhD : ns.headD 0 = hd := by
    cases ns with
    | nil => simp at hhd
    | cons a t => simpa using hhd
  have hd0 : 0 ≤ hd := (hFs hd (hnsF hd hhm)).1
  have hd1 : hd ≤ 63 := by have := (hFs hd (hnsF hd hhm)).2.1; omega
  have hnew : ∀ c ∈ cs.map Oc.ent, c.1 ≠ hd := by
    rintro c hc rfl
    obtain ⟨x, hx, rfl⟩ := List.mem_map.1 hc
    exact (hFs _ (hnsF _ hhm)).2.2 x.c (List.mem_map.2 ⟨x, hx, rfl⟩) (s.heads x hx)
  have hr0 : 0 ≤ off % (n : Int) := Int.emod_nonneg _ (by omega)
  have hr1 : off % (n : Int) < n := Int.emod_lt_of_pos _ (by omega)
  obtain ⟨ro, hro⟩ : ∃ r, off % (n : Int) = r := ⟨_, rfl⟩
  rw [hro] at hr0 hr1
  have HRo := Lib.hid hro
  clear hro
  obtain ⟨X1, hX1⟩ : ∃ X, X = descs base ns l lm := ⟨_, rfl⟩
  have zX1 : X1.length ≤ 65536 := by rw [hX1, descs_length]; exact s.len
  obtain ⟨RO, hRO⟩ : ∃ R, R = roomOf l := ⟨_, rfl⟩
  have S0 := Lib.hid s
  have HF := Lib.hid hF
  have HNS := Lib.hid hns
  have HFS := Lib.hid hFs
  have HNSF := Lib.hid hnsF
  have HHD := Lib.hid hhd
  have HHD2 := Lib.hid hhD
  have HHM := Lib.hid hhm
  have HNEW := Lib.hid hnew
  have HX1 := Lib.hid hX1
  have HRO := Lib.hid hRO
  have HBL := Lib.hid hbl
  have HV := Lib.hid hv
  have HNL := Lib.hid hnl
  have HROOM := Lib.hid hroom
  have off0 := s.off0
  have off1 := s.off1
  have hns0 : 0 < ns.length := by omega
  clear RC hE hv hbd hio hout hF hns hFs hnsF hhd hhD hhm hnew hX1 hRO hbl hpos hnl hroom s
  go_enter Try.func41, Try.ntmps41
  go_wp2_with fail
  refine CC.out.mono ?_
  rintro e w1 ⟨rfl, rfl⟩
  go_wp2_with fail
  refine RC'.out.mono ?_
  rintro e w1 ⟨rfl, k1⟩
  have s1 := S0.out.grown k1
  go_wp2_with fail
  have UC := unused_any w1 q g base n mb off back false s1.at_ cs s1.tab s1.nums n2
  rw [← HF.out] at UC
  refine UC.mono ?_
  rintro e w2 ⟨⟨r, rfl, hr⟩, k2⟩
  obtain ⟨p2, cap, rfl, hcap, _, hcells⟩ := hr
  obtain ⟨nb, rfl, hnb, hnc⟩ := hcells (by omega)
  have s2 := s1.grown k2
  have ns2 : ∀ (i : Nat) (hi : i < ns.length), w2.cell? ⟨nb, i, none⟩ = some (.int .i64 ns[i]) := fun i hi => by
    have h1 : i < F.length := by have := HNL.out; omega
    rw [hnc i h1]
    have : F[i] = ns[i] := by
      have e := HNS.out
      subst e
      simp
    rw [this]
  have NS2 := Lib.hid ns2
  have v2 := (HV.out.grown k1).grown k2
  have V2 := Lib.hid v2
  have knb : w.heap.size ≤ nb := by have := k1.size; omega
  have hcap' : (l.length : Int) ≤ cap := by omega
  have hlp' : (0 : Int) < l.length := by omega
  have t2 := (Turned.of (S := QB q h mb) k1 (fun j e => by cases e)).step k2 (fun j e => by cases e)
  have DC := Lib.hid (describe_any w2 q g h lm s2.mem s2.len base hb0 hb1 n (some mb) off back false s2.at_ l _ v2 HBL.out nb cap ns HNL.out ns2 (fun y hy => by have := HFS.out y (HNSF.out y hy); omega))
  clear UC hnc hcells v2 ns2 CC RC' k1 hnb s1
  go_wp2_with fail
  refine DC.out.mono ?_
  rintro e w3 ⟨rfl, m3, k3⟩
  rw [← HX1.out] at m3
  have q3 : QAt w3 q g base n (some mb) off back false := s2.at_.kept (k3.block _ (lt_of_block s2.at_) (fun e => hqh (by injection e)))
  have b3 : IsTab w3 mb (cs.map Oc.ent) := s2.tab.kept (k3.block _ s2.tab.lt (fun e => mh (by injection e)))
  have t3 := t2.step k3 (fun j e => .inl (.inl (by injection e with e; exact e.symm)))
  have v3 := Lib.hid (V2.out.grownMem s2.mem k3)
  have hs2 := k2.size
  have hnbh : nb ≠ h := by omega
  have n3 : ∀ (i : Nat) (hi : i < ns.length), w3.cell? ⟨nb, i, none⟩ = some (.int .i64 ns[i]) := fun i hi =>
    (World.cell?_of_block (w := w2) (a := ⟨nb, i, none⟩) (k3.block _ (World.block_lt_of_cell? w2 _ (NS2.out i hi)) (fun e => hnbh (by injection e)))).trans (NS2.out i hi)
  have c30 := n3 0 hns0
  rw [show ns[0] = hd by have e := HHD.out; rw [List.getElem?_eq_getElem hns0] at e; injection e] at c30
  have N3 := Lib.hid n3
  clear n3 DC s2 k2 k3 NS2 V2 t2
  go_wp2_with fail
  refine wp_region_noPanic ?_
  refine region_held (S := fun w' => QAt w' q g base n (some mb) off back false) (by kernel_rfl) (fun V d => q3.kept (d.block _)) (fun V3 d3 hS => ?_)
  refine wpAnyH_take (i := 0) (v := (.pointer (some ⟨q, 0, none⟩))) rfl (by kernel_rfl) (by kernel_rfl) (by kernel_rfl) (fun _ _ _ h => h) (Or.inl ⟨by rfl, fun w' h' => ?_⟩) hS ?_
  · go_simp
  simp only [Act.put]
  refine wpAnyH_take (i := 1) (v := (.pointer (some ⟨q, 0, none⟩))) rfl (by kernel_rfl) (by kernel_rfl) (by kernel_rfl) (fun _ _ _ h => h) (Or.inl ⟨by rfl, fun w' h' => ?_⟩) hS ?_
  · go_simp
  simp only [Act.put]
  refine wpAnyH_take (i := 2) (v := (.pointer (some ⟨q, 3, none⟩))) rfl (by kernel_rfl) (by kernel_rfl) (by kernel_rfl) (fun _ _ _ h => h) (Or.inl ⟨by rfl, fun w' h' => ?_⟩) hS ?_
  · go_simp
  simp only [Act.put]
  refine wpAnyH_take (i := 3) (v := (.map (some mb))) rfl (by kernel_rfl) (by kernel_rfl) (by kernel_rfl) (fun _ _ _ h => h) (Or.inl ⟨by rfl, fun w' h' => ?_⟩) hS ?_
  · have c0 := h'.c3
    clear h'
    go_simp
  simp only [Act.put]
  refine wpAnyH_take (i := 4) (v := (.int .i64 hd)) rfl (by kernel_rfl) (by kernel_rfl) (by kernel_rfl) (fun _ _ _ h => h) (Or.inl ⟨by rfl, fun w' h' => ?_⟩) hS ?_
  · go_simp
  simp only [Act.put]
  refine wpAnyH_take (i := 5) (v := (.slice (some ⟨nb, 0, none⟩) l.length cap)) rfl (by kernel_rfl) (by kernel_rfl) (by kernel_rfl) (fun _ _ _ h => h) (Or.inl ⟨by rfl, fun w' h' => ?_⟩) hS ?_
  · go_simp
  simp only [Act.put]
  refine wpAnyH_take (i := 6) (v := (.slice p l.length lcap)) rfl (by kernel_rfl) (by kernel_rfl) (by kernel_rfl) (fun _ _ _ h => h) (Or.inl ⟨by rfl, fun w' h' => ?_⟩) hS ?_
  · go_simp
  simp only [Act.put]
  have q3d : QAt V3 q g base n (some mb) off back false := hS
  have v3d : Hid (IsBufs V3 (.slice p l.length lcap) l) := Lib.hid (v3.out.grown d3.grown)
  have t3d : Turned (QB q h mb) w V3 := t3.step d3.grown (fun j e => by cases e)
  have m3d : Mem V3 g h X1 := m3.same d3.grown
  have b3d : IsTab V3 mb (cs.map Oc.ent) := b3.kept (d3.block _)
  have N3d : Hid (∀ (i : Nat) (hi : i < ns.length), V3.cell? ⟨nb, i, none⟩ = some (.int .i64 ns[i])) := Lib.hid fun i hi => (World.cell?_of_block (w := w3) (a := ⟨nb, i, none⟩) (d3.block _)).trans (N3.out i hi)
  clear v3 t3 m3 b3 N3 q3 c30 d3 hS
  refine wpAnyH_ready (rs := [7]) (by kernel_rfl) (by simp) ?_
  refine AllReadyH.cons rfl (fun K hK => ?_) AllReadyH.nil
  go_simp
  refine (room_any V3 _ l v3d.out (fun x hx => by have := HBL.out x hx; omega)).mono ?_
  rintro e w4 ⟨rfl, k4⟩
  rw [← HRO.out]
  have q4 := q3d.kept (k4.block _ (lt_of_block q3d) (by simp))
  have m4 := m3d.same k4
  have b4 := b3d.kept (k4.block _ b3d.lt (by simp))
  have t4 := t3d.step k4 (fun j e => by cases e)
  have N4 : Hid (∀ (i : Nat) (hi : i < ns.length), w4.cell? ⟨nb, i, none⟩ = some (.int .i64 ns[i])) := Lib.hid fun i hi => (World.cell?_of_block (w := V3) (a := ⟨nb, i, none⟩) (k4.block _ (World.block_lt_of_cell? V3 _ (N3d.out i hi)) (by simp))).trans (N3d.out i hi)
  go_simp
  refine hK.out _ _ q4 (fun _ => ?_)
  clear hK K
  refine wpAnyH_ready (rs := [8]) (by kernel_rfl) (by simp) ?_
  refine AllReadyH.cons rfl (fun K hK => ?_) AllReadyH.nil
  go_simp
  refine hK.out _ _ q4 (fun _ => ?_)
  clear hK K
  obtain ⟨w5, hrun, b5, k5⟩ := b4.add (P := Try.prog) Try.underlying110 Try.underlying3 (WalkArith.wf_i64 (by omega)) HNEW.out (.agg #[.slice (some ⟨nb, 0, none⟩) l.length cap, .int .i64 RO])
  have q5 := q4.kept (k5.block _ (lt_of_block q4) (fun e => mq (by injection e with e; exact e.symm)))
  have m5 := m4.kept k5 (fun e => mg (by injection e with e; exact e.symm)) (fun e => mh (by injection e with e; exact e.symm))
  have t5 := t4.step k5 (fun j e => .inl (.inr (.inr (by injection e with e; exact e.symm))))
  have hnbm : nb ≠ mb := by omega
  have N5 : Hid (∀ (i : Nat) (hi : i < ns.length), w5.cell? ⟨nb, i, none⟩ = some (.int .i64 ns[i])) := Lib.hid fun i hi => (World.cell?_of_block (w := w4) (a := ⟨nb, i, none⟩) (k5.block _ (World.block_lt_of_cell? w4 _ (N4.out i hi)) (fun e => hnbm (by injection e)))).trans (N4.out i hi)
  refine wpAnyH_ready (rs := [9]) (by kernel_rfl) (by simp) ?_
  refine AllReadyH.cons rfl (fun K hK => ?_) AllReadyH.nil
  go_simp
  refine hK.out _ _ q5 (fun _ => ?_)
  clear hK K
  refine wpAnyH_done (by kernel_rfl) (NoPanic.normal ?_) _
  clear hrun q4 m4 b4 t4 N4 N3d m3d b3d t3d v3d k4 k5
  have B5 := Lib.hid b5
  clear b5
  go_wp2_with fail
  have hwrap : IntKind.u64.wrap hd = hd := IntWalk.u64_in _ (by omega)
  refine wp_region_noPanic ?_
  refine region_held (S := fun w' => QAt w' q g base n (some mb) off back false) (by kernel_rfl) (fun V d => q5.kept (d.block _)) (fun V5 d5 hS => ?_)
  refine wpAnyH_take (i := 0) (v := (.pointer (some ⟨q, 0, none⟩))) rfl (by kernel_rfl) (by kernel_rfl) (by kernel_rfl) (fun _ _ _ h => h) (Or.inl ⟨by rfl, fun w' h' => ?_⟩) hS ?_
  · go_simp
  simp only [Act.put]
  refine wpAnyH_take (i := 1) (v := (.pointer (some ⟨q, 0, none⟩))) rfl (by kernel_rfl) (by kernel_rfl) (by kernel_rfl) (fun _ _ _ h => h) (Or.inl ⟨by rfl, fun w' h' => ?_⟩) hS ?_
  · go_simp
  simp only [Act.put]
  refine wpAnyH_take (i := 2) (v := (.pointer (some ⟨q, 0, none⟩))) rfl (by kernel_rfl) (by kernel_rfl) (by kernel_rfl) (fun _ _ _ h => h) (Or.inl ⟨by rfl, fun w' h' => ?_⟩) hS ?_
  · go_simp
  simp only [Act.put]
  refine wpAnyH_take (i := 3) (v := (.pointer (some ⟨q, 0, none⟩))) rfl (by kernel_rfl) (by kernel_rfl) (by kernel_rfl) (fun _ _ _ h => h) (Or.inl ⟨by rfl, fun w' h' => ?_⟩) hS ?_
  · go_simp
  simp only [Act.put]
  refine wpAnyH_take (i := 4) (v := (.pointer (some ⟨g, 0, none⟩))) rfl (by kernel_rfl) (by kernel_rfl) (by kernel_rfl) (fun _ _ _ h => h) (Or.inl ⟨by rfl, fun w' h' => ?_⟩) hS ?_
  · have c0 := h'.c0
    clear h'
    go_simp
  simp only [Act.put]
  refine wpAnyH_take (i := 5) (v := (.pointer (some ⟨q, 0, none⟩))) rfl (by kernel_rfl) (by kernel_rfl) (by kernel_rfl) (fun _ _ _ h => h) (Or.inl ⟨by rfl, fun w' h' => ?_⟩) hS ?_
  · go_simp
  simp only [Act.put]
  refine wpAnyH_take (i := 6) (v := (.pointer (some ⟨q, 0, none⟩))) rfl (by kernel_rfl) (by kernel_rfl) (by kernel_rfl) (fun _ _ _ h => h) (Or.inl ⟨by rfl, fun w' h' => ?_⟩) hS ?_
  · go_simp
  simp only [Act.put]
  refine wpAnyH_take (i := 7) (v := (.pointer (some ⟨q, 0, none⟩))) rfl (by kernel_rfl) (by kernel_rfl) (by kernel_rfl) (fun _ _ _ h => h) (Or.inl ⟨by rfl, fun w' h' => ?_⟩) hS ?_
  · go_simp
  simp only [Act.put]
  refine wpAnyH_take (i := 8) (v := (.agg #[.pointer (some ⟨g, 0, none⟩), .int .i64 base, .int .i64 n])) rfl (by kernel_rfl) (by kernel_rfl) (by kernel_rfl) (fun _ _ _ h => h) (Or.inl ⟨by rfl, fun w' h' => ?_⟩) hS ?_
  · have c0 := h'.c0
    have c1 := h'.c1
    have c2 := h'.c2
    clear h'
    go_simp
  simp only [Act.put]
  refine wpAnyH_take (i := 9) (v := (.pointer (some ⟨q, 0, none⟩))) rfl (by kernel_rfl) (by kernel_rfl) (by kernel_rfl) (fun _ _ _ h => h) (Or.inl ⟨by rfl, fun w' h' => ?_⟩) hS ?_
  · go_simp
  simp only [Act.put]
  refine wpAnyH_take (i := 10) (v := (.pointer (some ⟨q, 0, none⟩))) rfl (by kernel_rfl) (by kernel_rfl) (by kernel_rfl) (fun _ _ _ h => h) (Or.inl ⟨by rfl, fun w' h' => ?_⟩) hS ?_
  · go_simp
  simp only [Act.put]
  refine wpAnyH_take (i := 11) (v := (.pointer (some ⟨q, 4, none⟩))) rfl (by kernel_rfl) (by kernel_rfl) (by kernel_rfl) (fun _ _ _ h => h) (Or.inl ⟨by rfl, fun w' h' => ?_⟩) hS ?_
  · go_simp
  simp only [Act.put]
  refine wpAnyH_take (i := 12) (v := (.int .u16 off)) rfl (by kernel_rfl) (by kernel_rfl) (by kernel_rfl) (fun _ _ _ h => h) (Or.inl ⟨by rfl, fun w' h' => ?_⟩) hS ?_
  · have c0 := h'.c4
    clear h'
    go_simp
  simp only [Act.put]
  refine wpAnyH_take (i := 14) (v := (.int .i64 hd)) rfl (by kernel_rfl) (by kernel_rfl) (by kernel_rfl) (fun _ _ _ h => h) (Or.inl ⟨by rfl, fun w' h' => ?_⟩) hS ?_
  · go_simp
  simp only [Act.put]
  refine wpAnyH_take (i := 15) (v := (.int .u64 hd)) rfl (by kernel_rfl) (by kernel_rfl) (by kernel_rfl) (fun _ _ _ h => h) (Or.inl ⟨by rfl, fun w' h' => ?_⟩) hS ?_
  · go_simp
  simp only [Act.put]
  have q5d : QAt V5 q g base n (some mb) off back false := hS
  have t5d : Turned (QB q h mb) w V5 := t5.step d5.grown (fun j e => by cases e)
  have m5d : Mem V5 g h X1 := m5.same d5.grown
  have B5d : Hid (IsTab V5 mb (cs.map Oc.ent ++ [(hd, .agg #[.slice (some ⟨nb, 0, none⟩) l.length cap, .int .i64 RO])])) := Lib.hid (B5.out.kept (d5.block _))
  have N5d : Hid (∀ (i : Nat) (hi : i < ns.length), V5.cell? ⟨nb, i, none⟩ = some (.int .i64 ns[i])) := Lib.hid fun i hi => (World.cell?_of_block (w := w5) (a := ⟨nb, i, none⟩) (d5.block _)).trans (N5.out i hi)
  clear q5 t5 m5 B5 N5 d5 hS
  refine wpAnyH_ready (rs := [13]) (by kernel_rfl) (by simp) ?_
  refine AllReadyH.cons rfl (fun K hK => ?_) AllReadyH.nil
  go_simp
  have OC := offeredAt_any V5 g base n hb0 hb1 (by omega) (by omega) off off0 off1
  rw [HRo.out] at OC
  refine OC.mono ?_
  clear OC
  rintro e w6 ⟨rfl, k6⟩
  have q6 := q5d.kept (k6.block _ (lt_of_block q5d) (by simp))
  have m6 := m5d.same k6
  have b6 := B5d.out.kept (k6.block _ B5d.out.lt (by simp))
  have t6 := t5d.step k6 (fun j e => by cases e)
  have N6 : Hid (∀ (i : Nat) (hi : i < ns.length), w6.cell? ⟨nb, i, none⟩ = some (.int .i64 ns[i])) := Lib.hid fun i hi => (World.cell?_of_block (w := V5) (a := ⟨nb, i, none⟩) (k6.block _ (World.block_lt_of_cell? V5 _ (N5d.out i hi)) (by simp))).trans (N5d.out i hi)
  go_simp
  refine hK.out _ _ q6 (fun _ => ?_)
  clear hK K
  refine wpAnyH_ready (rs := [16]) (by kernel_rfl) (by simp) ?_
  refine AllReadyH.cons rfl (fun K hK => ?_) AllReadyH.nil
  go_simp
  refine (Put_all w6 g h X1 m6 (by omega) _ 2 hd hd0).mono ?_
  rintro e w7 ⟨rfl, m7, k7⟩
  have q7 := q6.kept (k7.block _ (lt_of_block q6) (fun e => hqh (by injection e)))
  have b7 := b6.kept (k7.block _ b6.lt (fun e => mh (by injection e)))
  have t7 := t6.step k7 (fun j e => .inl (.inl (by injection e with e; exact e.symm)))
  have N7 : Hid (∀ (i : Nat) (hi : i < ns.length), w7.cell? ⟨nb, i, none⟩ = some (.int .i64 ns[i])) := Lib.hid fun i hi => (World.cell?_of_block (w := w6) (a := ⟨nb, i, none⟩) (k7.block _ (World.block_lt_of_cell? w6 _ (N6.out i hi)) (fun e => hnbh (by injection e)))).trans (N6.out i hi)
  go_simp
  refine hK.out _ _ q7 (fun _ => ?_)
  clear hK K
  refine wpAnyH_done (by kernel_rfl) (NoPanic.normal ?_) _
  clear q6 m6 b6 t6 N6 N5d m5d B5d t5d k6 k7 hwrap
  have c4 := q7.c4
  have f4 := q7.fz 4
  have Q7 := Lib.hid q7
  have B7 := Lib.hid b7
  clear q7 b7 q5d
  have hw16 := wrap_u16 (off + 1)
  obtain ⟨o2, ho2⟩ : ∃ o, (off + 1) % 65536 = o := ⟨_, rfl⟩
  have o20 : 0 ≤ o2 := by omega
  have o21 : o2 ≤ 65535 := by omega
  rw [ho2] at hw16
  have HO2 := Lib.hid ho2
  obtain ⟨X2, hX2⟩ : ∃ X, X = putL X1 (base + 16 * n + 4 + 2 * ro) 2 hd := ⟨_, rfl⟩
  rw [← hX2] at m7
  have zX2 : X2.length ≤ 65536 := by rw [hX2, putL_length]; exact zX1
  have HX2 := Lib.hid hX2
  clear ho2 hX2
  go_wp2_with fail
  have k8 := grown_setCell w7 q 4 (.int .u16 o2)
  have q8 : QAt (w7.setCell ⟨q, 4, none⟩ (.int .u16 o2)) q g base n (some mb) o2 back false := set_block Q7.out 4 (.int .u16 o2)
  generalize w7.setCell ⟨q, 4, none⟩ (.int .u16 o2) = w8 at k8 q8 ⊢
  have m8 := m7.kept k8 (fun e => hqg (by injection e)) (fun e => hqh (by injection e with e; exact e.symm))
  have b8 := B7.out.kept (k8.block _ B7.out.lt (fun e => mq (by injection e)))
  have t8 := t7.step k8 (fun j e => .inl (.inr (.inl (by injection e with e; exact e.symm))))
  have hnbq : nb ≠ q := by omega
  have N8 : Hid (∀ (i : Nat) (hi : i < ns.length), w8.cell? ⟨nb, i, none⟩ = some (.int .i64 ns[i])) := Lib.hid fun i hi => (World.cell?_of_block (w := w7) (a := ⟨nb, i, none⟩) (k8.block _ (World.block_lt_of_cell? w7 _ (N7.out i hi)) (fun e => hnbq (by injection e)))).trans (N7.out i hi)
  clear c4 f4 m7 B7 t7 N7 Q7 k8
  refine region_tail 8 (by kernel_rfl) (by kernel_rfl) (fun V8 d8 => ?_)
  have q9 := q8.kept (d8.block _)
  have m9 := m8.same d8.grown
  have b9 := Lib.hid (b8.kept (d8.block _))
  have t9 := t8.step d8.grown (fun j e => by cases e)
  have N9 : Hid (∀ (i : Nat) (hi : i < ns.length), V8.cell? ⟨nb, i, none⟩ = some (.int .i64 ns[i])) := Lib.hid fun i hi => (World.cell?_of_block (w := w8) (a := ⟨nb, i, none⟩) (d8.block _)).trans (N8.out i hi)
  have c0 := q9.c0
  have c1 := q9.c1
  have c2 := q9.c2
  have c4 := q9.c4
  have Q9 := Lib.hid q9
  clear q8 m8 b8 t8 N8 d8 q9
  simp only [List.take_succ_cons, List.take_zero, List.drop_succ_cons, List.drop_zero]
  repeat still_step
  refine wpStill_nil ?_
  go_wp2_with fail
  refine (putOfferedIndex_any V8 g h X2 m9 base n zX2 hb0 hb1 (by omega) (by omega) o2 o20 o21).mono ?_
  rintro e w9 ⟨rfl, m10, k10⟩
  have q10 := Q9.out.kept (k10.block _ (lt_of_block Q9.out) (fun e => hqh (by injection e)))
  have b10 := b9.out.kept (k10.block _ b9.out.lt (fun e => mh (by injection e)))
  have t10 := t9.step k10 (fun j e => .inl (.inl (by injection e with e; exact e.symm)))
  have N10 : ∀ (i : Nat) (hi : i < ns.length), w9.cell? ⟨nb, i, none⟩ = some (.int .i64 ns[i]) := fun i hi => (World.cell?_of_block (w := V8) (a := ⟨nb, i, none⟩) (k10.block _ (World.block_lt_of_cell? V8 _ (N9.out i hi)) (fun e => hnbh (by injection e)))).trans (N9.out i hi)
  have hfin : QS w9 q g h (addL lm base n off ns l) base n mb (cs ++ [⟨⟨hd, ns, RO⟩, nb, cap⟩]) o2 back false := by
    have hadd : addL lm base n off ns l = putL X2 (base + 16 * n + 2) 2 o2 := by
      unfold addL
      rw [HX2.out, HX1.out, HRo.out, HHD2.out, HO2.out]
    refine ⟨by rw [hadd]; exact m10, by rw [addL_length]; exact S0.out.len, q10, ?_, ?_, ?_, ?_, hb0, by rw [addL_length]; exact S0.out.b1, S0.out.size, o20, o21, S0.out.back0, S0.out.back1⟩
    · rw [List.map_append]
      have he : [(⟨⟨hd, ns, RO⟩, nb, cap⟩ : Oc)].map Oc.ent = [(hd, .agg #[.slice (some ⟨nb, 0, none⟩) l.length cap, .int .i64 RO])] := by
        simp only [List.map_cons, List.map_nil, Oc.ent, Oc.val]
        rw [HNL.out]
      rw [he]
      exact b10
    · intro x hx
      rcases List.mem_append.1 hx with hx | hx
      · exact S0.out.numsTurned t10 hx
      · rw [List.mem_singleton] at hx
        subst hx
        exact ⟨by show ns.length ≤ 64; have := HNL.out; omega, N10, fun y hy => by have := HFS.out y (HNSF.out y hy); omega⟩
    · intro x hx
      rcases List.mem_append.1 hx with hx | hx
      · exact S0.out.heads x hx
      · rw [List.mem_singleton] at hx
        subst hx
        exact HHM.out
    · intro x hx
      rcases List.mem_append.1 hx with hx | hx
      · exact S0.out.rooms x hx
      · rw [List.mem_singleton] at hx
        subst hx
        show 0 ≤ RO ∧ RO ≤ 65536000
        have := HROOM.out
        rw [HRO.out]
        omega
  have hch : (⟨hd, ns, RO⟩ : Ch) = newCh cs n l := by
    unfold newCh
    rw [← HF.out, ← HNS.out, HHD2.out, HRO.out]
  have HFIN := Lib.hid hfin
  clear hfin q10 b10 N10 c0 c1 c2 c4 m10
  go_wp2_with fail
  go_ret2
  exact ⟨⟨⟨hd, ns, RO⟩, nb, cap⟩, rfl, hch, knb, by rw [HO2.out]; exact HFIN.out, t10⟩

/-- Without where its numbers lie. -/
theorem Add_ok (w : World) (q g h : Nat) (lm : List UInt8) (base : Int) (n mb : Nat) (cs : List Oc) (off back : Int) (s : QS w q g h lm base n mb cs off back false) (v : Value) (l : List Bf) (hv : IsBufs w v l) (hbd : ∀ x ∈ l, x.n ≤ 9223372036854775807)
    (hE : refuseE lm l (freeL (cs.map Oc.c) n).length = 0) :
    Calls Try.prog 41 #[.pointer (some ⟨q, 0, none⟩), v] w
      fun e w' => ∃ x : Oc, e = .returned (.tuple #[.int .i64 x.c.head, .int .i64 0]) ∧ x.c = newCh cs n l ∧ QS w' q g h (addL lm base n off x.c.of l) base n mb (cs ++ [x]) ((off + 1) % 65536) back false ∧ Turned (QB q h mb) w w' :=
  (Add_new w q g h lm base n mb cs off back s v l hv hbd hE).mono fun _ _ ⟨x, h1, h2, _, h3⟩ => ⟨x, h1, h2, h3⟩

end Go.Proofs.Ytmlicejhkdkhnaa
