/-
  Slices of buffers as lists, and the contracts of package virtq's inOrder and room. Conditions: at most 1000 buffers.
-/
import Derived.Test.YtmlicejhkdkhnaaVirtH
import Derived.Test.YtmlicejhkdkhnaaQueue
namespace Go.Proofs.Ytmlicejhkdkhnaa
open Go.RowKit Go.Sort

/-- A buffer. -/
structure Bf where
  a : Int
  n : Int
  wr : Bool

/-- A buffer's cells. -/
def bfCells (x : Bf) : List Value := [.int .i64 x.a, .int .i64 x.n, .bool x.wr]
/-- The slice reads as these buffers. -/
def IsBufs (w : World) (v : Value) (l : List Bf) : Prop :=
  ∃ (p : Option Addr) (cap : Nat), v = .slice p l.length cap ∧ l.length ≤ 1000 ∧ (0 < l.length → ∃ b o, p = some ⟨b, o, none⟩ ∧ ∀ (i : Nat) (h : i < l.length),
    w.cell? ⟨b, o + i * 3, none⟩ = some (.int .i64 l[i].a) ∧ w.cell? ⟨b, o + i * 3 + 1, none⟩ = some (.int .i64 l[i].n) ∧ w.cell? ⟨b, o + i * 3 + 2, none⟩ = some (.bool l[i].wr))
theorem bufs_nil (w : World) : IsBufs w (.slice none 0 0) [] := ⟨none, 0, rfl, Nat.zero_le _, fun h => absurd h (by simp)⟩
theorem IsBufs.form {w : World} {v : Value} {l : List Bf} (h : IsBufs w v l) : ∃ p cap, v = .slice p l.length cap ∧ l.length ≤ 1000 := by obtain ⟨p, cap, h1, h2, _⟩ := h; exact ⟨p, cap, h1, h2⟩
theorem IsBufs.at_ {w : World} {p : Option Addr} {cap : Nat} {l : List Bf} (h : IsBufs w (.slice p l.length cap) l) (i : Nat) (hi : i < l.length) :
    ∃ b o x, p = some ⟨b, o, none⟩ ∧ l[i]? = some x ∧ w.cell? ⟨b, o + i * 3, none⟩ = some (.int .i64 x.a) ∧ w.cell? ⟨b, o + i * 3 + 1, none⟩ = some (.int .i64 x.n) ∧ w.cell? ⟨b, o + i * 3 + 2, none⟩ = some (.bool x.wr) := by
  obtain ⟨p', cap', e, hl, hc⟩ := h
  injection e with e1 e2 e3
  subst e1
  obtain ⟨b, o, rfl, hi'⟩ := hc (by omega)
  exact ⟨b, o, l[i], rfl, List.getElem?_eq_getElem hi, hi' i hi⟩
theorem IsBufs.kept {w w' : World} {v : Value} {l : List Bf} (h : IsBufs w v l) (k : ∀ b i u, w.cell? ⟨b, i, none⟩ = some u → (∀ x, u ≠ .int .u8 x) → w'.cell? ⟨b, i, none⟩ = some u) : IsBufs w' v l := by
  obtain ⟨p, cap, rfl, hl, hc⟩ := h
  refine ⟨p, cap, rfl, hl, fun hp => ?_⟩
  obtain ⟨b, o, rfl, hi⟩ := hc hp
  refine ⟨b, o, rfl, fun i h => ?_⟩
  obtain ⟨h1, h2, h3⟩ := hi i h
  exact ⟨k _ _ _ h1 (fun x e => by cases e), k _ _ _ h2 (fun x e => by cases e), k _ _ _ h3 (fun x e => by cases e)⟩

theorem Mem.not_u8 {w : World} {g h : Nat} {l : List UInt8} (m : Mem w g h l) {b i : Nat} {u : Value} (hu : w.cell? ⟨b, i, none⟩ = some u) (hn : ∀ x, u ≠ .int .u8 x) : b ≠ h := by
  rintro rfl
  rw [cell_of_block m.2] at hu
  simp at hu
  obtain ⟨y, _, hy⟩ := hu
  exact hn _ hy.symm
theorem IsBufs.grown {w w' : World} {v : Value} {l : List Bf} (h : IsBufs w v l) (k : w.grownBy w' none) : IsBufs w' v l :=
  h.kept fun b i u hu _ => by rw [kept_grown k ⟨b, i, none⟩ (by rw [hu]; rfl)]; exact hu
theorem IsBufs.grownMem {w w' : World} {v : Value} {l : List Bf} (h : IsBufs w v l) {g hb : Nat} {lm : List UInt8} (m : Mem w g hb lm) (k : w.grownBy w' (some hb)) : IsBufs w' v l :=
  h.kept fun b i u hu hn => by
    have h1 := m.not_u8 hu hn
    have h2 := World.block_lt_of_cell? w _ hu
    rw [World.cell?_of_block (w := w) (a := ⟨b, i, none⟩) (k.block b h2 (fun e => h1 (by injection e)))]
    exact hu

/-- Are they in order, behind one that may be written or not? -/
def okFrom : Bool → List Bf → Bool
  | _, [] => true
  | wr, b :: l => !(decide (b.n < 1) || (wr && !b.wr)) && okFrom b.wr l
/-- Has a chain buffers, all with bytes, in order? -/
def inOrd (l : List Bf) : Bool := okFrom false l && decide (0 < l.length)
/-- How many bytes may be written. -/
def roomOf (l : List Bf) : Int := (l.map fun b => if b.wr then b.n else 0).sum

theorem okFrom_at {l : List Bf} {k : Nat} {x : Bf} (wr : Bool) (h : l[k]? = some x) : okFrom wr (l.drop k) = (!(decide (x.n < 1) || (wr && !x.wr)) && okFrom x.wr (l.drop (k + 1))) := by
  have hk := (List.getElem?_eq_some_iff.1 h).1
  have hx := (List.getElem?_eq_some_iff.1 h).2
  rw [List.drop_eq_getElem_cons hk, hx]
  rfl

set_option maxRecDepth 100000 in
set_option maxHeartbeats 1000000 in
theorem inOrder_any (w : World) (v : Value) (l : List Bf) (hv : IsBufs w v l) :
    Calls Try.prog 94 #[v] w fun e w' => e = .returned (.bool (inOrd l)) ∧ w.grownBy w' none := by
  obtain ⟨p, cap, rfl, hle⟩ := hv.form
  obtain ⟨R, hR⟩ : ∃ R, R = inOrd l := ⟨_, rfl⟩
  rw [← hR]
  unfold inOrd at hR
  have HR := Lib.hid hR
  clear hR
  go_enter Try.func94, Try.ntmps94
  go_wp2
  go_loopw [3, 8] (fun wv iv wr => ∃ (k : Nat) (wb : Bool), k ≤ l.length ∧ iv = .int .i64 k ∧ wv = .bool wb ∧ Hid (okFrom false l = okFrom wb (l.drop k)) ∧ w.grownBy wr none) (fun _ iv _ => l.length - (intOf iv).toNat)
  case atStart => exact ⟨0, false, Nat.zero_le _, rfl, rfl, Lib.hid rfl, World.grownBy.refl _ _⟩
  case round =>
    obtain ⟨k, wb, hk, rfl, rfl, Hok, kg⟩ := hrel
    by_cases hlt : k < l.length
    · obtain ⟨b, o, x, rfl, hx, c0, c1, c2⟩ := (hv.grown kg).at_ k hlt
      obtain ⟨xa, xn, xw⟩ := x
      have hstep := okFrom_at wb hx
      rw [← Hok.out] at hstep
      have HS := Lib.hid hstep
      have kg2 := kg.trans (World.grownBy_alloc wr (.cells #[.int .i64 xa, .int .i64 xn, .bool xw] 83) none)
      clear hstep hv hx
      simp only at c0 c1 c2
      by_cases h1 : xn < 1
      · have hv0 : R = false := by rw [HR.out, HS.out, decide_eq_true h1]; rfl
        subst hv0
        go_wp2_with fail
        go_ret
        exact ⟨rfl, kg2⟩
      · have h1' : decide (xn < 1) = false := decide_eq_false h1
        clear h1
        cases wb with
        | true =>
          cases xw with
          | true =>
            have HT : Hid (okFrom false l = okFrom true (l.drop (k + 1))) := by have h := HS.out; rw [h1'] at h; exact Lib.hid (by rw [h]; rfl)
            go_wp2_with fail
            go_roundw
            case rel => exact ⟨k + 1, true, by omega, by go_num, rfl, HT, kg2⟩
            case measure => simp [intOf]; omega
          | false =>
            have hv0 : R = false := by rw [HR.out, HS.out, h1']; rfl
            subst hv0
            go_wp2_with fail
            go_ret
            exact ⟨rfl, kg2⟩
        | false =>
          have HT : Hid (okFrom false l = okFrom xw (l.drop (k + 1))) := by have h := HS.out; rw [h1'] at h; exact Lib.hid (by rw [h]; rfl)
          go_wp2_with fail
          go_roundw
          case rel => exact ⟨k + 1, xw, by omega, by go_num, rfl, HT, kg2⟩
          case measure => simp [intOf]; omega
    · have hv0 : R = decide (0 < l.length) := by
        rw [HR.out, Hok.out, List.drop_eq_nil_of_le (by omega)]
        exact Bool.true_and _
      have hd : decide ((k : Int) < l.length) = false := decide_eq_false (by omega)
      have HV := Lib.hid hv0
      clear hv0 hv
      go_wp2_with fail
      go_ret
      exact ⟨by rw [HV.out]; rfl, kg⟩

theorem roomOf_at {l : List Bf} {k : Nat} {x : Bf} (h : l[k]? = some x) : roomOf (l.take (k + 1)) = roomOf (l.take k) + if x.wr then x.n else 0 := by
  unfold roomOf
  rw [List.take_add_one, h]
  simp
theorem roomOf_bd : ∀ (l : List Bf), (∀ x ∈ l, 0 ≤ x.n ∧ x.n ≤ 65536) → 0 ≤ roomOf l ∧ roomOf l ≤ 65536 * l.length
  | [], _ => by simp [roomOf]
  | b :: l, h => by
    have ih := roomOf_bd l fun x hx => h x (List.mem_cons_of_mem _ hx)
    have hb := h b (List.mem_cons_self ..)
    have e : roomOf (b :: l) = (if b.wr then b.n else 0) + roomOf l := by simp [roomOf]
    rw [e, List.length_cons]
    split <;> omega

set_option maxRecDepth 100000 in
set_option maxHeartbeats 1000000 in
theorem room_any (w : World) (v : Value) (l : List Bf) (hv : IsBufs w v l) (hb : ∀ x ∈ l, 0 ≤ x.n ∧ x.n ≤ 65536) :
    Calls Try.prog 69 #[v] w fun e w' => e = .returned (.int .i64 (roomOf l)) ∧ w.grownBy w' none := by
  obtain ⟨p, cap, rfl, hle⟩ := hv.form
  have HB := Lib.hid hb
  clear hb
  go_enter Try.func69, Try.ntmps69
  go_wp2
  go_loopw [3, 8] (fun sv iv wr => ∃ (k : Nat), k ≤ l.length ∧ iv = .int .i64 k ∧ sv = .int .i64 (roomOf (l.take k)) ∧ w.grownBy wr none) (fun _ iv _ => l.length - (intOf iv).toNat)
  case atStart => exact ⟨0, Nat.zero_le _, rfl, rfl, World.grownBy.refl _ _⟩
  case round =>
    obtain ⟨k, hk, rfl, rfl, kg⟩ := hrel
    by_cases hlt : k < l.length
    · obtain ⟨b, o, x, rfl, hx, c0, c1, c2⟩ := (hv.grown kg).at_ k hlt
      have hxb := HB.out x (List.mem_of_getElem? hx)
      have hr := roomOf_bd (l.take k) fun y hy => HB.out y (List.mem_of_mem_take hy)
      have hstep := roomOf_at hx
      obtain ⟨xa, xn, xw⟩ := x
      have hlen : (l.take k).length ≤ 1000 := by rw [List.length_take]; omega
      obtain ⟨S, hS⟩ : ∃ S, S = roomOf (l.take k) := ⟨_, rfl⟩
      rw [← hS] at hstep hr ⊢
      have hS1 : 0 ≤ S := hr.1
      have hS2 : S ≤ 65536000 := by omega
      obtain ⟨x0, x1⟩ := hxb
      have HS := Lib.hid hstep
      have kg2 := kg.trans (World.grownBy_alloc wr (.cells #[.int .i64 xa, .int .i64 xn, .bool xw] 83) none)
      clear hstep hv hx hr hS hlen
      simp only at c0 c1 c2 x0 x1
      cases xw with
      | true =>
        go_wp2_with fail
        go_roundw
        case rel => exact ⟨k + 1, by omega, by go_num, by rw [HS.out]; rfl, kg2⟩
        case measure => simp [intOf]; omega
      | false =>
        go_wp2_with fail
        go_roundw
        case rel => exact ⟨k + 1, by omega, by go_num, by rw [HS.out]; show _ = Value.int .i64 (S + 0); rw [Int.add_zero], kg2⟩
        case measure => simp [intOf]; omega
    · have hz : roomOf (l.take k) = roomOf l := by rw [List.take_of_length_le (by omega)]
      have hd : decide ((k : Int) < l.length) = false := decide_eq_false (by omega)
      rw [hz]
      clear hv hz
      go_wp2_with fail
      go_ret
      exact ⟨rfl, kg⟩

end Go.Proofs.Ytmlicejhkdkhnaa
