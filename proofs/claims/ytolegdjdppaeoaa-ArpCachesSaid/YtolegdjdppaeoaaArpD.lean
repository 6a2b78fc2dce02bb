/-
  Layer 7: a packet that is read from bytes. Conditions: a text is no longer than a string may be.
-/
import Derived.Test.YtolegdjdppaeoaaArpC
namespace Go.Proofs.Ytolegdjdppaeoaa
open Go.RowKit Go.Sort
set_option linter.unusedVariables false

/-- The address of four that stands from a place on. -/
def ipAt (l : List UInt8) (k : Nat) : Ip4 := ⟨l.getD k 0, l.getD (k + 1) 0, l.getD (k + 2) 0, l.getD (k + 3) 0⟩
theorem ip_front : ∀ (l : List UInt8), 4 ≤ l.length → l = (ipAt l 0).list ++ l.drop 4
  | a :: b :: c :: d :: r, _ => rfl
theorem ip_at (l : List UInt8) (k : Nat) (h : k + 4 ≤ l.length) : l.drop k = (ipAt l k).list ++ l.drop (k + 4) := by
  have h1 := ip_front (l.drop k) (by simp; omega)
  rw [List.drop_drop] at h1
  have h2 : ipAt (l.drop k) 0 = ipAt l k := by simp [ipAt, List.getD_eq_getElem?_getD]
  rw [h2] at h1
  exact h1
/-- The packet whose bytes a text begins with, and why there is none. -/
def rdK (s : ByteArray) : Pk := ⟨num (cutS s 6 2).reverse, macAt s.data.toList 8, ipAt s.data.toList 14, macAt s.data.toList 18, ipAt s.data.toList 24⟩
def rkE (s : ByteArray) : Int := if s.size < 28 then 7 else if ¬ (s.extract 0 6).toList = [0, 1, 8, 0, 6, 4] then 8 else if ¬ ((rdK s).op = 1 ∨ (rdK s).op = 2) then 10 else 0
def rkR (s : ByteArray) : Pk := if rkE s = 0 then rdK s else pkZ

/-- A copy of an address into a packet. -/
theorem copy_at {w : World} {n : Nat} {cs : Array Value} (h : w.heap[n]? = some (.cells cs 27 (0, 0))) (hz : cs.size = 21) (o k : Nat) (hk : o + k ≤ 21) (s : ByteArray) (l r : List UInt8) (hs : s.data.toList = l ++ r) (hl : l.length = k) :
    (Builtin.copy_ #[75, 9] 3 #[.slice (some ⟨n, o, none⟩) k k, .string s]).run Try.prog w = .ok (goInt k) (w.setRow n (cs.toList.take o ++ Lib.byteCells l ++ cs.toList.drop (o + k)).toArray) := by
  have hle : k ≤ s.size := by
    have := congrArg List.length hs
    simp only [List.length_append] at this
    rw [hl, Array.length_toList] at this
    show k ≤ s.data.size
    omega
  rw [run_copy_part (P := Try.prog) w 75 9 3 5 n o k k s cs 27 Try.underlying75 (by kernel_rfl) h hle (by omega)]
  have ht : s.data.toList.take k = l := by rw [hs, ← hl]; exact List.take_left' rfl
  rw [ht]
def cpW (w : World) (n : Nat) (f : Pk) : World := w.setRow n #[.int .i64 f.op, .int .u8 (f.ma.a.toNat : Int), .int .u8 (f.ma.b.toNat : Int), .int .u8 (f.ma.c.toNat : Int), .int .u8 (f.ma.d.toNat : Int), .int .u8 (f.ma.e.toNat : Int), .int .u8 (f.ma.f.toNat : Int), .int .u8 (f.ip.a.toNat : Int), .int .u8 (f.ip.b.toNat : Int), .int .u8 (f.ip.c.toNat : Int), .int .u8 (f.ip.d.toNat : Int), .int .u8 (f.tm.a.toNat : Int), .int .u8 (f.tm.b.toNat : Int), .int .u8 (f.tm.c.toNat : Int), .int .u8 (f.tm.d.toNat : Int), .int .u8 (f.tm.e.toNat : Int), .int .u8 (f.tm.f.toNat : Int), .int .u8 (f.ti.a.toNat : Int), .int .u8 (f.ti.b.toNat : Int), .int .u8 (f.ti.c.toNat : Int), .int .u8 (f.ti.d.toNat : Int)]
theorem cp_at {w : World} {n : Nat} {f g : Pk} (h : PkAt w n f) : PkAt (cpW w n g) n g := setRow_heap w n _ _ _ _ h
theorem cp_other {w : World} {n m : Nat} {g : Pk} (h : m ≠ n) : (cpW w n g).heap[m]? = w.heap[m]? := setRow_other _ _ _ _ h
theorem cp_below {B : Nat} {a w : World} {n : Nat} {g : Pk} (h : Below B a w) (hn : B ≤ n) : Below B a (cpW w n g) := below_setRow h hn _
theorem copy_ma {w : World} {n : Nat} {f : Pk} (h : PkAt w n f) (s : ByteArray) (T : Mac6) (r : List UInt8) (hs : s.data.toList = T.list ++ r) :
    (Builtin.copy_ #[75, 9] 3 #[.slice (some ⟨n, 1, none⟩) 6 6, .string s]).run Try.prog w = .ok (.int .i64 6) (cpW w n ⟨f.op, T, f.ip, f.tm, f.ti⟩) := copy_at h rfl 1 6 (by omega) s T.list r hs rfl
theorem copy_ip {w : World} {n : Nat} {f : Pk} (h : PkAt w n f) (s : ByteArray) (T : Ip4) (r : List UInt8) (hs : s.data.toList = T.list ++ r) :
    (Builtin.copy_ #[75, 9] 3 #[.slice (some ⟨n, 7, none⟩) 4 4, .string s]).run Try.prog w = .ok (.int .i64 4) (cpW w n ⟨f.op, f.ma, T, f.tm, f.ti⟩) := copy_at h rfl 7 4 (by omega) s T.list r hs rfl
theorem copy_tm {w : World} {n : Nat} {f : Pk} (h : PkAt w n f) (s : ByteArray) (T : Mac6) (r : List UInt8) (hs : s.data.toList = T.list ++ r) :
    (Builtin.copy_ #[75, 9] 3 #[.slice (some ⟨n, 11, none⟩) 6 6, .string s]).run Try.prog w = .ok (.int .i64 6) (cpW w n ⟨f.op, f.ma, f.ip, T, f.ti⟩) := copy_at h rfl 11 6 (by omega) s T.list r hs rfl
theorem copy_ti {w : World} {n : Nat} {f : Pk} (h : PkAt w n f) (s : ByteArray) (T : Ip4) (r : List UInt8) (hs : s.data.toList = T.list ++ r) :
    (Builtin.copy_ #[75, 9] 3 #[.slice (some ⟨n, 17, none⟩) 4 4, .string s]).run Try.prog w = .ok (.int .i64 4) (cpW w n ⟨f.op, f.ma, f.ip, f.tm, T⟩) := copy_at h rfl 17 4 (by omega) s T.list r hs rfl

theorem size_far {s : ByteArray} {k : Nat} (h : k ≤ s.size) : ¬ (s.size : Int) < (k : Int) := by omega
set_option maxRecDepth 100000 in
set_option maxHeartbeats 1000000 in
theorem rRead_short (w : World) (s : ByteArray) (h : s.size < 28) :
    Calls Try.prog 19 #[.string s] w fun e w' => e = .returned (.tuple #[.agg #[.int .i64 pkZ.op, .int .u8 (pkZ.ma.a.toNat : Int), .int .u8 (pkZ.ma.b.toNat : Int), .int .u8 (pkZ.ma.c.toNat : Int), .int .u8 (pkZ.ma.d.toNat : Int), .int .u8 (pkZ.ma.e.toNat : Int), .int .u8 (pkZ.ma.f.toNat : Int), .int .u8 (pkZ.ip.a.toNat : Int), .int .u8 (pkZ.ip.b.toNat : Int), .int .u8 (pkZ.ip.c.toNat : Int), .int .u8 (pkZ.ip.d.toNat : Int), .int .u8 (pkZ.tm.a.toNat : Int), .int .u8 (pkZ.tm.b.toNat : Int), .int .u8 (pkZ.tm.c.toNat : Int), .int .u8 (pkZ.tm.d.toNat : Int), .int .u8 (pkZ.tm.e.toNat : Int), .int .u8 (pkZ.tm.f.toNat : Int), .int .u8 (pkZ.ti.a.toNat : Int), .int .u8 (pkZ.ti.b.toNat : Int), .int .u8 (pkZ.ti.c.toNat : Int), .int .u8 (pkZ.ti.d.toNat : Int)], .int .i64 7]) ∧ Below w.heap.size w w' := by
  go_enter Try.func19, Try.ntmps19
  go_upto_region 1 with fail
  have RM : Hid (PkRoom (w.alloc (.cells #[.int .i64 0, .int .u8 0, .int .u8 0, .int .u8 0, .int .u8 0, .int .u8 0, .int .u8 0, .int .u8 0, .int .u8 0, .int .u8 0, .int .u8 0, .int .u8 0, .int .u8 0, .int .u8 0, .int .u8 0, .int .u8 0, .int .u8 0, .int .u8 0, .int .u8 0, .int .u8 0, .int .u8 0] 27)) w.heap.size) := Lib.hid (room_new _ _ _ rfl rfl)
  have BL : Hid (Below w.heap.size w (w.alloc (.cells #[.int .i64 0, .int .u8 0, .int .u8 0, .int .u8 0, .int .u8 0, .int .u8 0, .int .u8 0, .int .u8 0, .int .u8 0, .int .u8 0, .int .u8 0, .int .u8 0, .int .u8 0, .int .u8 0, .int .u8 0, .int .u8 0, .int .u8 0, .int .u8 0, .int .u8 0, .int .u8 0, .int .u8 0] 27))) := Lib.hid ((Below.refl _ _).alloc (Nat.le_refl _) _)
  generalize w.alloc _ = W1 at RM BL ⊢
  obtain ⟨hst, S6⟩ := RM.out.put pkZ
  have S6 := Lib.hid S6
  have B6 := Lib.hid (below_setRow BL.out (Nat.le_refl _) #[.int .i64 pkZ.op, .int .u8 (pkZ.ma.a.toNat : Int), .int .u8 (pkZ.ma.b.toNat : Int), .int .u8 (pkZ.ma.c.toNat : Int), .int .u8 (pkZ.ma.d.toNat : Int), .int .u8 (pkZ.ma.e.toNat : Int), .int .u8 (pkZ.ma.f.toNat : Int), .int .u8 (pkZ.ip.a.toNat : Int), .int .u8 (pkZ.ip.b.toNat : Int), .int .u8 (pkZ.ip.c.toNat : Int), .int .u8 (pkZ.ip.d.toNat : Int), .int .u8 (pkZ.tm.a.toNat : Int), .int .u8 (pkZ.tm.b.toNat : Int), .int .u8 (pkZ.tm.c.toNat : Int), .int .u8 (pkZ.tm.d.toNat : Int), .int .u8 (pkZ.tm.e.toNat : Int), .int .u8 (pkZ.tm.f.toNat : Int), .int .u8 (pkZ.ti.a.toNat : Int), .int .u8 (pkZ.ti.b.toNat : Int), .int .u8 (pkZ.ti.c.toNat : Int), .int .u8 (pkZ.ti.d.toNat : Int)])
  go_wp2_with (refine wpList_storeW 27 _ _ rfl rfl _ w.heap.size rfl rfl hst ?_)
  exact bodyPost_ret (v := .tuple #[.agg #[.int .i64 pkZ.op, .int .u8 (pkZ.ma.a.toNat : Int), .int .u8 (pkZ.ma.b.toNat : Int), .int .u8 (pkZ.ma.c.toNat : Int), .int .u8 (pkZ.ma.d.toNat : Int), .int .u8 (pkZ.ma.e.toNat : Int), .int .u8 (pkZ.ma.f.toNat : Int), .int .u8 (pkZ.ip.a.toNat : Int), .int .u8 (pkZ.ip.b.toNat : Int), .int .u8 (pkZ.ip.c.toNat : Int), .int .u8 (pkZ.ip.d.toNat : Int), .int .u8 (pkZ.tm.a.toNat : Int), .int .u8 (pkZ.tm.b.toNat : Int), .int .u8 (pkZ.tm.c.toNat : Int), .int .u8 (pkZ.tm.d.toNat : Int), .int .u8 (pkZ.tm.e.toNat : Int), .int .u8 (pkZ.tm.f.toNat : Int), .int .u8 (pkZ.ti.a.toNat : Int), .int .u8 (pkZ.ti.b.toNat : Int), .int .u8 (pkZ.ti.c.toNat : Int), .int .u8 (pkZ.ti.d.toNat : Int)], .int .i64 7]) (results_row _ 2 3 27 (by kernel_rfl) _ w.heap.size _ _ _ _ rfl rfl S6.out Try.underlying27 rfl (by kernel_rfl)) rfl ⟨rfl, B6.out⟩
set_option maxRecDepth 100000 in
set_option maxHeartbeats 1000000 in
theorem rRead_form (w : World) (s : ByteArray) (h : 28 ≤ s.size) (h2 : ¬ (s.extract 0 6).toList = [0, 1, 8, 0, 6, 4]) :
    Calls Try.prog 19 #[.string s] w fun e w' => e = .returned (.tuple #[.agg #[.int .i64 pkZ.op, .int .u8 (pkZ.ma.a.toNat : Int), .int .u8 (pkZ.ma.b.toNat : Int), .int .u8 (pkZ.ma.c.toNat : Int), .int .u8 (pkZ.ma.d.toNat : Int), .int .u8 (pkZ.ma.e.toNat : Int), .int .u8 (pkZ.ma.f.toNat : Int), .int .u8 (pkZ.ip.a.toNat : Int), .int .u8 (pkZ.ip.b.toNat : Int), .int .u8 (pkZ.ip.c.toNat : Int), .int .u8 (pkZ.ip.d.toNat : Int), .int .u8 (pkZ.tm.a.toNat : Int), .int .u8 (pkZ.tm.b.toNat : Int), .int .u8 (pkZ.tm.c.toNat : Int), .int .u8 (pkZ.tm.d.toNat : Int), .int .u8 (pkZ.tm.e.toNat : Int), .int .u8 (pkZ.tm.f.toNat : Int), .int .u8 (pkZ.ti.a.toNat : Int), .int .u8 (pkZ.ti.b.toNat : Int), .int .u8 (pkZ.ti.c.toNat : Int), .int .u8 (pkZ.ti.d.toNat : Int)], .int .i64 8]) ∧ Below w.heap.size w w' := by
  have h3 : ¬ s.size < 28 := by omega
  have h4 : 6 ≤ s.size := by omega
  have hx : ((s.extract 0 6).toList == [0, 1, 8, 0, 6, 4]) = false := by simpa using h2
  clear h h2
  go_enter Try.func19, Try.ntmps19
  go_upto_region 1 with fail
  have RM : Hid (PkRoom (w.alloc (.cells #[.int .i64 0, .int .u8 0, .int .u8 0, .int .u8 0, .int .u8 0, .int .u8 0, .int .u8 0, .int .u8 0, .int .u8 0, .int .u8 0, .int .u8 0, .int .u8 0, .int .u8 0, .int .u8 0, .int .u8 0, .int .u8 0, .int .u8 0, .int .u8 0, .int .u8 0, .int .u8 0, .int .u8 0] 27)) w.heap.size) := Lib.hid (room_new _ _ _ rfl rfl)
  have BL : Hid (Below w.heap.size w (w.alloc (.cells #[.int .i64 0, .int .u8 0, .int .u8 0, .int .u8 0, .int .u8 0, .int .u8 0, .int .u8 0, .int .u8 0, .int .u8 0, .int .u8 0, .int .u8 0, .int .u8 0, .int .u8 0, .int .u8 0, .int .u8 0, .int .u8 0, .int .u8 0, .int .u8 0, .int .u8 0, .int .u8 0, .int .u8 0] 27))) := Lib.hid ((Below.refl _ _).alloc (Nat.le_refl _) _)
  generalize w.alloc _ = W1 at RM BL ⊢
  obtain ⟨hst, S6⟩ := RM.out.put pkZ
  have S6 := Lib.hid S6
  have B6 := Lib.hid (below_setRow BL.out (Nat.le_refl _) #[.int .i64 pkZ.op, .int .u8 (pkZ.ma.a.toNat : Int), .int .u8 (pkZ.ma.b.toNat : Int), .int .u8 (pkZ.ma.c.toNat : Int), .int .u8 (pkZ.ma.d.toNat : Int), .int .u8 (pkZ.ma.e.toNat : Int), .int .u8 (pkZ.ma.f.toNat : Int), .int .u8 (pkZ.ip.a.toNat : Int), .int .u8 (pkZ.ip.b.toNat : Int), .int .u8 (pkZ.ip.c.toNat : Int), .int .u8 (pkZ.ip.d.toNat : Int), .int .u8 (pkZ.tm.a.toNat : Int), .int .u8 (pkZ.tm.b.toNat : Int), .int .u8 (pkZ.tm.c.toNat : Int), .int .u8 (pkZ.tm.d.toNat : Int), .int .u8 (pkZ.tm.e.toNat : Int), .int .u8 (pkZ.tm.f.toNat : Int), .int .u8 (pkZ.ti.a.toNat : Int), .int .u8 (pkZ.ti.b.toNat : Int), .int .u8 (pkZ.ti.c.toNat : Int), .int .u8 (pkZ.ti.d.toNat : Int)])
  go_wp2_with (refine wpList_storeW 27 _ _ rfl rfl _ w.heap.size rfl rfl hst ?_)
  exact bodyPost_ret (v := .tuple #[.agg #[.int .i64 pkZ.op, .int .u8 (pkZ.ma.a.toNat : Int), .int .u8 (pkZ.ma.b.toNat : Int), .int .u8 (pkZ.ma.c.toNat : Int), .int .u8 (pkZ.ma.d.toNat : Int), .int .u8 (pkZ.ma.e.toNat : Int), .int .u8 (pkZ.ma.f.toNat : Int), .int .u8 (pkZ.ip.a.toNat : Int), .int .u8 (pkZ.ip.b.toNat : Int), .int .u8 (pkZ.ip.c.toNat : Int), .int .u8 (pkZ.ip.d.toNat : Int), .int .u8 (pkZ.tm.a.toNat : Int), .int .u8 (pkZ.tm.b.toNat : Int), .int .u8 (pkZ.tm.c.toNat : Int), .int .u8 (pkZ.tm.d.toNat : Int), .int .u8 (pkZ.tm.e.toNat : Int), .int .u8 (pkZ.tm.f.toNat : Int), .int .u8 (pkZ.ti.a.toNat : Int), .int .u8 (pkZ.ti.b.toNat : Int), .int .u8 (pkZ.ti.c.toNat : Int), .int .u8 (pkZ.ti.d.toNat : Int)], .int .i64 8]) (results_row _ 2 3 27 (by kernel_rfl) _ w.heap.size _ _ _ _ rfl rfl S6.out Try.underlying27 rfl (by kernel_rfl)) rfl ⟨rfl, B6.out⟩
set_option maxRecDepth 100000 in
set_option maxHeartbeats 1000000 in
theorem rRead_kind (w : World) (s : ByteArray) (hm : s.size ≤ 9223372036854775807) (h : 28 ≤ s.size) (h2 : (s.extract 0 6).toList = [0, 1, 8, 0, 6, 4]) (h5 : ¬ ((rdK s).op = 1 ∨ (rdK s).op = 2)) :
    Calls Try.prog 19 #[.string s] w fun e w' => e = .returned (.tuple #[.agg #[.int .i64 pkZ.op, .int .u8 (pkZ.ma.a.toNat : Int), .int .u8 (pkZ.ma.b.toNat : Int), .int .u8 (pkZ.ma.c.toNat : Int), .int .u8 (pkZ.ma.d.toNat : Int), .int .u8 (pkZ.ma.e.toNat : Int), .int .u8 (pkZ.ma.f.toNat : Int), .int .u8 (pkZ.ip.a.toNat : Int), .int .u8 (pkZ.ip.b.toNat : Int), .int .u8 (pkZ.ip.c.toNat : Int), .int .u8 (pkZ.ip.d.toNat : Int), .int .u8 (pkZ.tm.a.toNat : Int), .int .u8 (pkZ.tm.b.toNat : Int), .int .u8 (pkZ.tm.c.toNat : Int), .int .u8 (pkZ.tm.d.toNat : Int), .int .u8 (pkZ.tm.e.toNat : Int), .int .u8 (pkZ.tm.f.toNat : Int), .int .u8 (pkZ.ti.a.toNat : Int), .int .u8 (pkZ.ti.b.toNat : Int), .int .u8 (pkZ.ti.c.toNat : Int), .int .u8 (pkZ.ti.d.toNat : Int)], .int .i64 10]) ∧ Below w.heap.size w w' := by
  have hk0 : num (cutS s 6 2).reverse < 65536 := num_two s 6
  obtain ⟨K, hK⟩ : ∃ K, K = num (cutS s 6 2).reverse := ⟨_, rfl⟩
  have HK := Lib.hid hK
  rw [show (rdK s).op = ((num (cutS s 6 2).reverse : Nat) : Int) from rfl, ← hK] at h5
  rw [← hK] at hk0
  have hw := wrap_i hk0
  have h0 : okR s.size 6 2 = true := by unfold okR; exact decide_eq_true (by omega)
  have HO := Lib.hid h0
  have h3 : ¬ s.size < 28 := by omega
  have h4 : 6 ≤ s.size := by omega
  have hx : ((s.extract 0 6).toList == [0, 1, 8, 0, 6, 4]) = true := by simpa using h2
  clear h h2 hK h0 hk0
  have hk := fun w => known_any w (K : Int)
  rw [decide_eq_false h5] at hk
  clear h5
  go_enter Try.func19, Try.ntmps19
  go_upto_region 1 with fail
  have RM : Hid (PkRoom (w.alloc (.cells #[.int .i64 0, .int .u8 0, .int .u8 0, .int .u8 0, .int .u8 0, .int .u8 0, .int .u8 0, .int .u8 0, .int .u8 0, .int .u8 0, .int .u8 0, .int .u8 0, .int .u8 0, .int .u8 0, .int .u8 0, .int .u8 0, .int .u8 0, .int .u8 0, .int .u8 0, .int .u8 0, .int .u8 0] 27)) w.heap.size) := Lib.hid (room_new _ _ _ rfl rfl)
  have BL : Hid (Below w.heap.size w (w.alloc (.cells #[.int .i64 0, .int .u8 0, .int .u8 0, .int .u8 0, .int .u8 0, .int .u8 0, .int .u8 0, .int .u8 0, .int .u8 0, .int .u8 0, .int .u8 0, .int .u8 0, .int .u8 0, .int .u8 0, .int .u8 0, .int .u8 0, .int .u8 0, .int .u8 0, .int .u8 0, .int .u8 0, .int .u8 0] 27))) := Lib.hid ((Below.refl _ _).alloc (Nat.le_refl _) _)
  generalize w.alloc _ = W1 at RM BL ⊢
  go_upto_region 6 with (go_at_call 32; refine (ReadBig_all _ s 6 2 (by omega)).mono ?_; rintro e w2 ⟨rfl, k2⟩; rw [← HK.out, HO.out])
  have RM2 : Hid (PkRoom w2 w.heap.size) := Lib.hid (RM.out.kept (k2.block _ RM.out.lt (by simp)))
  have BL2 : Hid (Below w.heap.size w w2) := Lib.hid (BL.out.trans ((Below.of_none k2).mono BL.out.size))
  clear k2 RM BL
  obtain ⟨hst, S6⟩ := RM2.out.put pkZ
  have S6 := Lib.hid S6
  have B6 := Lib.hid (below_setRow BL2.out (Nat.le_refl _) #[.int .i64 pkZ.op, .int .u8 (pkZ.ma.a.toNat : Int), .int .u8 (pkZ.ma.b.toNat : Int), .int .u8 (pkZ.ma.c.toNat : Int), .int .u8 (pkZ.ma.d.toNat : Int), .int .u8 (pkZ.ma.e.toNat : Int), .int .u8 (pkZ.ma.f.toNat : Int), .int .u8 (pkZ.ip.a.toNat : Int), .int .u8 (pkZ.ip.b.toNat : Int), .int .u8 (pkZ.ip.c.toNat : Int), .int .u8 (pkZ.ip.d.toNat : Int), .int .u8 (pkZ.tm.a.toNat : Int), .int .u8 (pkZ.tm.b.toNat : Int), .int .u8 (pkZ.tm.c.toNat : Int), .int .u8 (pkZ.tm.d.toNat : Int), .int .u8 (pkZ.tm.e.toNat : Int), .int .u8 (pkZ.tm.f.toNat : Int), .int .u8 (pkZ.ti.a.toNat : Int), .int .u8 (pkZ.ti.b.toNat : Int), .int .u8 (pkZ.ti.c.toNat : Int), .int .u8 (pkZ.ti.d.toNat : Int)])
  go_wp2_with (first | (go_at_call 30; refine (hk _).mono ?_; rintro e w' ⟨rfl, rfl⟩) | (refine wpList_storeW 27 _ _ rfl rfl _ w.heap.size rfl rfl hst ?_))
  exact bodyPost_ret (v := .tuple #[.agg #[.int .i64 pkZ.op, .int .u8 (pkZ.ma.a.toNat : Int), .int .u8 (pkZ.ma.b.toNat : Int), .int .u8 (pkZ.ma.c.toNat : Int), .int .u8 (pkZ.ma.d.toNat : Int), .int .u8 (pkZ.ma.e.toNat : Int), .int .u8 (pkZ.ma.f.toNat : Int), .int .u8 (pkZ.ip.a.toNat : Int), .int .u8 (pkZ.ip.b.toNat : Int), .int .u8 (pkZ.ip.c.toNat : Int), .int .u8 (pkZ.ip.d.toNat : Int), .int .u8 (pkZ.tm.a.toNat : Int), .int .u8 (pkZ.tm.b.toNat : Int), .int .u8 (pkZ.tm.c.toNat : Int), .int .u8 (pkZ.tm.d.toNat : Int), .int .u8 (pkZ.tm.e.toNat : Int), .int .u8 (pkZ.tm.f.toNat : Int), .int .u8 (pkZ.ti.a.toNat : Int), .int .u8 (pkZ.ti.b.toNat : Int), .int .u8 (pkZ.ti.c.toNat : Int), .int .u8 (pkZ.ti.d.toNat : Int)], .int .i64 10]) (results_row _ 2 3 27 (by kernel_rfl) _ w.heap.size _ _ _ _ rfl rfl S6.out Try.underlying27 rfl (by kernel_rfl)) rfl ⟨rfl, B6.out⟩
set_option maxRecDepth 100000 in
set_option maxHeartbeats 4000000 in
theorem rRead_yes (w : World) (s : ByteArray) (hm : s.size ≤ 9223372036854775807) (h : 28 ≤ s.size) (h2 : (s.extract 0 6).toList = [0, 1, 8, 0, 6, 4]) (h5 : (rdK s).op = 1 ∨ (rdK s).op = 2) (R : Pk) (hR : R = rdK s) :
    Calls Try.prog 19 #[.string s] w fun e w' => e = .returned (.tuple #[.agg #[.int .i64 R.op, .int .u8 (R.ma.a.toNat : Int), .int .u8 (R.ma.b.toNat : Int), .int .u8 (R.ma.c.toNat : Int), .int .u8 (R.ma.d.toNat : Int), .int .u8 (R.ma.e.toNat : Int), .int .u8 (R.ma.f.toNat : Int), .int .u8 (R.ip.a.toNat : Int), .int .u8 (R.ip.b.toNat : Int), .int .u8 (R.ip.c.toNat : Int), .int .u8 (R.ip.d.toNat : Int), .int .u8 (R.tm.a.toNat : Int), .int .u8 (R.tm.b.toNat : Int), .int .u8 (R.tm.c.toNat : Int), .int .u8 (R.tm.d.toNat : Int), .int .u8 (R.tm.e.toNat : Int), .int .u8 (R.tm.f.toNat : Int), .int .u8 (R.ti.a.toNat : Int), .int .u8 (R.ti.b.toNat : Int), .int .u8 (R.ti.c.toNat : Int), .int .u8 (R.ti.d.toNat : Int)], .int .i64 0]) ∧ Below w.heap.size w w' := by
  have hL : s.data.toList.length = s.size := by rw [Array.length_toList]; rfl
  have H1 : Hid ((s.extract 8 s.size).data.toList = R.ma.list ++ s.data.toList.drop 14) := Lib.hid (by rw [hR, extract_list]; exact mac_at _ 8 (by omega))
  have H2 : Hid ((s.extract 14 s.size).data.toList = R.ip.list ++ s.data.toList.drop 18) := Lib.hid (by rw [hR, extract_list]; exact ip_at _ 14 (by omega))
  have H3 : Hid ((s.extract 18 s.size).data.toList = R.tm.list ++ s.data.toList.drop 24) := Lib.hid (by rw [hR, extract_list]; exact mac_at _ 18 (by omega))
  have H4 : Hid ((s.extract 24 s.size).data.toList = R.ti.list ++ s.data.toList.drop 28) := Lib.hid (by rw [hR, extract_list]; exact ip_at _ 24 (by omega))
  have HRO : Hid (R.op = ((num (cutS s 6 2).reverse : Nat) : Int)) := Lib.hid (by rw [hR]; rfl)
  clear hL hR
  have hk0 : num (cutS s 6 2).reverse < 65536 := num_two s 6
  obtain ⟨K, hK⟩ : ∃ K, K = num (cutS s 6 2).reverse := ⟨_, rfl⟩
  have HK := Lib.hid hK
  rw [show (rdK s).op = ((num (cutS s 6 2).reverse : Nat) : Int) from rfl, ← hK] at h5
  rw [← hK] at hk0
  have hw := wrap_i hk0
  have h0 : okR s.size 6 2 = true := by unfold okR; exact decide_eq_true (by omega)
  have HO := Lib.hid h0
  have h3 : ¬ s.size < 28 := by omega
  have h4 : 6 ≤ s.size := by omega
  have hx : ((s.extract 0 6).toList == [0, 1, 8, 0, 6, 4]) = true := by simpa using h2
  clear h h2 hK h0 hk0
  have HROK : Hid (R.op = (K : Int)) := Lib.hid (by rw [HRO.out, HK.out])
  have hk := fun w => known_any w (K : Int)
  rw [decide_eq_true h5] at hk
  have g8 : ¬ (s.size : Int) < 8 := by omega
  have g14 : ¬ (s.size : Int) < 14 := by omega
  have g18 : ¬ (s.size : Int) < 18 := by omega
  have g24 : ¬ (s.size : Int) < 24 := by omega
  clear h5 HRO
  go_enter Try.func19, Try.ntmps19
  go_upto_region 1 with fail
  have RM : Hid (PkRoom (w.alloc (.cells #[.int .i64 0, .int .u8 0, .int .u8 0, .int .u8 0, .int .u8 0, .int .u8 0, .int .u8 0, .int .u8 0, .int .u8 0, .int .u8 0, .int .u8 0, .int .u8 0, .int .u8 0, .int .u8 0, .int .u8 0, .int .u8 0, .int .u8 0, .int .u8 0, .int .u8 0, .int .u8 0, .int .u8 0] 27)) w.heap.size) := Lib.hid (room_new _ _ _ rfl rfl)
  have BL : Hid (Below w.heap.size w (w.alloc (.cells #[.int .i64 0, .int .u8 0, .int .u8 0, .int .u8 0, .int .u8 0, .int .u8 0, .int .u8 0, .int .u8 0, .int .u8 0, .int .u8 0, .int .u8 0, .int .u8 0, .int .u8 0, .int .u8 0, .int .u8 0, .int .u8 0, .int .u8 0, .int .u8 0, .int .u8 0, .int .u8 0, .int .u8 0] 27))) := Lib.hid ((Below.refl _ _).alloc (Nat.le_refl _) _)
  generalize w.alloc _ = W1 at RM BL ⊢
  go_upto_region 6 with (go_at_call 32; refine (ReadBig_all _ s 6 2 (by omega)).mono ?_; rintro e w2 ⟨rfl, k2⟩; rw [← HK.out, HO.out])
  have RM2 : Hid (PkRoom w2 w.heap.size) := Lib.hid (RM.out.kept (k2.block _ RM.out.lt (by simp)))
  have BL2 : Hid (Below w.heap.size w w2) := Lib.hid (BL.out.trans ((Below.of_none k2).mono BL.out.size))
  clear k2 RM BL
  have P0 : PkRoom (w2.alloc (.cells #[.int .i64 pkZ.op, .int .u8 (pkZ.ma.a.toNat : Int), .int .u8 (pkZ.ma.b.toNat : Int), .int .u8 (pkZ.ma.c.toNat : Int), .int .u8 (pkZ.ma.d.toNat : Int), .int .u8 (pkZ.ma.e.toNat : Int), .int .u8 (pkZ.ma.f.toNat : Int), .int .u8 (pkZ.ip.a.toNat : Int), .int .u8 (pkZ.ip.b.toNat : Int), .int .u8 (pkZ.ip.c.toNat : Int), .int .u8 (pkZ.ip.d.toNat : Int), .int .u8 (pkZ.tm.a.toNat : Int), .int .u8 (pkZ.tm.b.toNat : Int), .int .u8 (pkZ.tm.c.toNat : Int), .int .u8 (pkZ.tm.d.toNat : Int), .int .u8 (pkZ.tm.e.toNat : Int), .int .u8 (pkZ.tm.f.toNat : Int), .int .u8 (pkZ.ti.a.toNat : Int), .int .u8 (pkZ.ti.b.toNat : Int), .int .u8 (pkZ.ti.c.toNat : Int), .int .u8 (pkZ.ti.d.toNat : Int)] 27)) w2.heap.size := room_new _ _ _ rfl rfl
  have RM3 : Hid (PkRoom (w2.alloc (.cells #[.int .i64 pkZ.op, .int .u8 (pkZ.ma.a.toNat : Int), .int .u8 (pkZ.ma.b.toNat : Int), .int .u8 (pkZ.ma.c.toNat : Int), .int .u8 (pkZ.ma.d.toNat : Int), .int .u8 (pkZ.ma.e.toNat : Int), .int .u8 (pkZ.ma.f.toNat : Int), .int .u8 (pkZ.ip.a.toNat : Int), .int .u8 (pkZ.ip.b.toNat : Int), .int .u8 (pkZ.ip.c.toNat : Int), .int .u8 (pkZ.ip.d.toNat : Int), .int .u8 (pkZ.tm.a.toNat : Int), .int .u8 (pkZ.tm.b.toNat : Int), .int .u8 (pkZ.tm.c.toNat : Int), .int .u8 (pkZ.tm.d.toNat : Int), .int .u8 (pkZ.tm.e.toNat : Int), .int .u8 (pkZ.tm.f.toNat : Int), .int .u8 (pkZ.ti.a.toNat : Int), .int .u8 (pkZ.ti.b.toNat : Int), .int .u8 (pkZ.ti.c.toNat : Int), .int .u8 (pkZ.ti.d.toNat : Int)] 27)) w.heap.size) := Lib.hid (RM2.out.kept (((Below.refl _ _).alloc (Nat.le_refl _) _).block _ RM2.out.lt))
  have BL3 : Hid (Below w.heap.size w (w2.alloc (.cells #[.int .i64 pkZ.op, .int .u8 (pkZ.ma.a.toNat : Int), .int .u8 (pkZ.ma.b.toNat : Int), .int .u8 (pkZ.ma.c.toNat : Int), .int .u8 (pkZ.ma.d.toNat : Int), .int .u8 (pkZ.ma.e.toNat : Int), .int .u8 (pkZ.ma.f.toNat : Int), .int .u8 (pkZ.ip.a.toNat : Int), .int .u8 (pkZ.ip.b.toNat : Int), .int .u8 (pkZ.ip.c.toNat : Int), .int .u8 (pkZ.ip.d.toNat : Int), .int .u8 (pkZ.tm.a.toNat : Int), .int .u8 (pkZ.tm.b.toNat : Int), .int .u8 (pkZ.tm.c.toNat : Int), .int .u8 (pkZ.tm.d.toNat : Int), .int .u8 (pkZ.tm.e.toNat : Int), .int .u8 (pkZ.tm.f.toNat : Int), .int .u8 (pkZ.ti.a.toNat : Int), .int .u8 (pkZ.ti.b.toNat : Int), .int .u8 (pkZ.ti.c.toNat : Int), .int .u8 (pkZ.ti.d.toNat : Int)] 27))) := Lib.hid (BL2.out.alloc BL2.out.size _)
  obtain ⟨hst, A1⟩ := P0.put ⟨(K : Int), pkZ.ma, pkZ.ip, pkZ.tm, pkZ.ti⟩
  have NE : w.heap.size ≠ w2.heap.size := by have := RM2.out.lt; omega
  have NL : w.heap.size ≤ w2.heap.size := by have := RM2.out.lt; omega
  have A1 := Lib.hid A1
  have RM4 := Lib.hid (RM3.out.kept (w' := cpW (w2.alloc (.cells #[.int .i64 pkZ.op, .int .u8 (pkZ.ma.a.toNat : Int), .int .u8 (pkZ.ma.b.toNat : Int), .int .u8 (pkZ.ma.c.toNat : Int), .int .u8 (pkZ.ma.d.toNat : Int), .int .u8 (pkZ.ma.e.toNat : Int), .int .u8 (pkZ.ma.f.toNat : Int), .int .u8 (pkZ.ip.a.toNat : Int), .int .u8 (pkZ.ip.b.toNat : Int), .int .u8 (pkZ.ip.c.toNat : Int), .int .u8 (pkZ.ip.d.toNat : Int), .int .u8 (pkZ.tm.a.toNat : Int), .int .u8 (pkZ.tm.b.toNat : Int), .int .u8 (pkZ.tm.c.toNat : Int), .int .u8 (pkZ.tm.d.toNat : Int), .int .u8 (pkZ.tm.e.toNat : Int), .int .u8 (pkZ.tm.f.toNat : Int), .int .u8 (pkZ.ti.a.toNat : Int), .int .u8 (pkZ.ti.b.toNat : Int), .int .u8 (pkZ.ti.c.toNat : Int), .int .u8 (pkZ.ti.d.toNat : Int)] 27)) w2.heap.size ⟨(K : Int), pkZ.ma, pkZ.ip, pkZ.tm, pkZ.ti⟩) (cp_other NE))
  have BL4 := Lib.hid (cp_below (n := w2.heap.size) (g := ⟨(K : Int), pkZ.ma, pkZ.ip, pkZ.tm, pkZ.ti⟩) BL3.out NL)
  clear P0 RM3 BL3 RM2 BL2
  go_upto_region 9 with (first | (go_at_call 30; refine (hk _).mono ?_; rintro e w' ⟨rfl, rfl⟩) | (refine wpList_storeW 27 _ _ rfl rfl _ w2.heap.size rfl rfl hst ?_))
  obtain ⟨n, hn⟩ : ∃ n, n = w2.heap.size := ⟨_, rfl⟩
  unfold cpW at RM4 BL4
  clear hst
  generalize (w2.alloc _).setRow _ _ = W2 at A1 RM4 BL4 ⊢
  rw [← hn] at A1 NE NL ⊢
  clear hn
  refine wp_region_noPanic ?_
  refine region_heldE (S := fun _ => True) (by kernel_rfl) (fun V d => trivial) (fun V d hS => ?_)
  have PV := Lib.hid (show PkAt V n ⟨(K : Int), pkZ.ma, pkZ.ip, pkZ.tm, pkZ.ti⟩ from (d.block _).trans A1.out)
  have RV := Lib.hid (RM4.out.kept (w' := V) (d.block _))
  have BV := Lib.hid (BL4.out.trans ((d.below).mono BL4.out.size))
  clear d
  refine wpAnyH_take (i := 0) (oi := ⟨some 28, Op.fieldAddr 27 (Operand.tmp 6) 1, _, _, _, none⟩) (v := (.pointer (some ⟨n, 1, none⟩))) rfl (by kernel_rfl) (by kernel_rfl) (by kernel_rfl) (fun _ _ _ h => h) (Or.inl ⟨by rfl, fun w' h' => ?_⟩) hS ?_
  · clear h'
    go_simp
  simp only [Act.put]
  refine wpAnyH_take (i := 1) (oi := ⟨some 29, Op.slice 23 (Operand.tmp 28) none none none, _, _, _, none⟩) (v := (.slice (some ⟨n, 1, none⟩) 6 6)) rfl (by kernel_rfl) (by kernel_rfl) (by kernel_rfl) (fun _ _ _ h => h) (Or.inl ⟨by rfl, fun w' h' => ?_⟩) hS ?_
  · clear h'
    go_simp
  simp only [Act.put]
  refine wpAnyH_take (i := 2) (oi := ⟨some 30, Op.move (Operand.tmp 0), _, _, _, none⟩) (v := (.string s)) rfl (by kernel_rfl) (by kernel_rfl) (by kernel_rfl) (fun _ _ _ h => h) (Or.inl ⟨by rfl, fun w' h' => ?_⟩) hS ?_
  · clear h'
    go_simp
  simp only [Act.put]
  refine wpAnyH_take (i := 3) (oi := ⟨some 31, Op.slice 9 (Operand.tmp 30) (some (Operand.const (Value.int IntKind.i64 8))) none none, _, _, _, none⟩) (v := (.string (s.extract 8 s.size))) rfl (by kernel_rfl) (by kernel_rfl) (by kernel_rfl) (fun _ _ _ h => h) (Or.inl ⟨by rfl, fun w' h' => ?_⟩) hS ?_
  · have c0 := g8
    clear h'
    go_simp
  simp only [Act.put]
  have hcp := copy_ma (f := ⟨(K : Int), pkZ.ma, pkZ.ip, pkZ.tm, pkZ.ti⟩) PV.out (s.extract 8 s.size) R.ma _ H1.out
  have S4 : PkAt (cpW V n ⟨(K : Int), R.ma, pkZ.ip, pkZ.tm, pkZ.ti⟩) n ⟨(K : Int), R.ma, pkZ.ip, pkZ.tm, pkZ.ti⟩ := cp_at PV.out
  refine wpAnyH_ready (rs := [4]) (by kernel_rfl) (by simp) ?_
  refine AllReadyH.cons rfl (fun K hK => ?_) AllReadyH.nil
  go_simp
  skip
  refine hK.out _ _ trivial (fun _ => ?_)
  clear hK K
  refine wpAnyH_done (by kernel_rfl) (NoPanic.normal ?_) _
  try simp only [List.setIfInBounds_toArray, List.set_cons_zero, List.set_cons_succ]
  have A2 := Lib.hid S4
  have RM5 := Lib.hid (RV.out.kept (w' := cpW V n ⟨(K : Int), R.ma, pkZ.ip, pkZ.tm, pkZ.ti⟩) (cp_other NE))
  have BL5 := Lib.hid (cp_below (n := n) (g := ⟨(K : Int), R.ma, pkZ.ip, pkZ.tm, pkZ.ti⟩) BV.out NL)
  clear RV BV S4 hS hcp PV A1 RM4 BL4
  generalize cpW V n _ = W3 at A2 RM5 BL5 ⊢
  clear V
  go_upto_region 10 with fail
  refine wp_region_noPanic ?_
  refine region_heldE (S := fun _ => True) (by kernel_rfl) (fun V d => trivial) (fun V d hS => ?_)
  have PV := Lib.hid (show PkAt V n ⟨(K : Int), R.ma, pkZ.ip, pkZ.tm, pkZ.ti⟩ from (d.block _).trans A2.out)
  have RV := Lib.hid (RM5.out.kept (w' := V) (d.block _))
  have BV := Lib.hid (BL5.out.trans ((d.below).mono BL5.out.size))
  clear d
  refine wpAnyH_take (i := 0) (oi := ⟨some 33, Op.fieldAddr 27 (Operand.tmp 6) 2, _, _, _, none⟩) (v := (.pointer (some ⟨n, 7, none⟩))) rfl (by kernel_rfl) (by kernel_rfl) (by kernel_rfl) (fun _ _ _ h => h) (Or.inl ⟨by rfl, fun w' h' => ?_⟩) hS ?_
  · clear h'
    go_simp
  simp only [Act.put]
  refine wpAnyH_take (i := 1) (oi := ⟨some 34, Op.slice 25 (Operand.tmp 33) none none none, _, _, _, none⟩) (v := (.slice (some ⟨n, 7, none⟩) 4 4)) rfl (by kernel_rfl) (by kernel_rfl) (by kernel_rfl) (fun _ _ _ h => h) (Or.inl ⟨by rfl, fun w' h' => ?_⟩) hS ?_
  · clear h'
    go_simp
  simp only [Act.put]
  refine wpAnyH_take (i := 2) (oi := ⟨some 35, Op.move (Operand.tmp 0), _, _, _, none⟩) (v := (.string s)) rfl (by kernel_rfl) (by kernel_rfl) (by kernel_rfl) (fun _ _ _ h => h) (Or.inl ⟨by rfl, fun w' h' => ?_⟩) hS ?_
  · clear h'
    go_simp
  simp only [Act.put]
  refine wpAnyH_take (i := 3) (oi := ⟨some 36, Op.slice 9 (Operand.tmp 35) (some (Operand.const (Value.int IntKind.i64 14))) none none, _, _, _, none⟩) (v := (.string (s.extract 14 s.size))) rfl (by kernel_rfl) (by kernel_rfl) (by kernel_rfl) (fun _ _ _ h => h) (Or.inl ⟨by rfl, fun w' h' => ?_⟩) hS ?_
  · have c0 := g14
    clear h'
    go_simp
  simp only [Act.put]
  have hcp := copy_ip (f := ⟨(K : Int), R.ma, pkZ.ip, pkZ.tm, pkZ.ti⟩) PV.out (s.extract 14 s.size) R.ip _ H2.out
  have S4 : PkAt (cpW V n ⟨(K : Int), R.ma, R.ip, pkZ.tm, pkZ.ti⟩) n ⟨(K : Int), R.ma, R.ip, pkZ.tm, pkZ.ti⟩ := cp_at PV.out
  refine wpAnyH_ready (rs := [4]) (by kernel_rfl) (by simp) ?_
  refine AllReadyH.cons rfl (fun K hK => ?_) AllReadyH.nil
  go_simp
  skip
  refine hK.out _ _ trivial (fun _ => ?_)
  clear hK K
  refine wpAnyH_done (by kernel_rfl) (NoPanic.normal ?_) _
  try simp only [List.setIfInBounds_toArray, List.set_cons_zero, List.set_cons_succ]
  have A3 := Lib.hid S4
  have RM6 := Lib.hid (RV.out.kept (w' := cpW V n ⟨(K : Int), R.ma, R.ip, pkZ.tm, pkZ.ti⟩) (cp_other NE))
  have BL6 := Lib.hid (cp_below (n := n) (g := ⟨(K : Int), R.ma, R.ip, pkZ.tm, pkZ.ti⟩) BV.out NL)
  clear RV BV S4 hS hcp PV A2 RM5 BL5
  generalize cpW V n _ = W4 at A3 RM6 BL6 ⊢
  clear V
  go_upto_region 11 with fail
  refine wp_region_noPanic ?_
  refine region_heldE (S := fun _ => True) (by kernel_rfl) (fun V d => trivial) (fun V d hS => ?_)
  have PV := Lib.hid (show PkAt V n ⟨(K : Int), R.ma, R.ip, pkZ.tm, pkZ.ti⟩ from (d.block _).trans A3.out)
  have RV := Lib.hid (RM6.out.kept (w' := V) (d.block _))
  have BV := Lib.hid (BL6.out.trans ((d.below).mono BL6.out.size))
  clear d
  refine wpAnyH_take (i := 0) (oi := ⟨some 38, Op.fieldAddr 27 (Operand.tmp 6) 3, _, _, _, none⟩) (v := (.pointer (some ⟨n, 11, none⟩))) rfl (by kernel_rfl) (by kernel_rfl) (by kernel_rfl) (fun _ _ _ h => h) (Or.inl ⟨by rfl, fun w' h' => ?_⟩) hS ?_
  · clear h'
    go_simp
  simp only [Act.put]
  refine wpAnyH_take (i := 1) (oi := ⟨some 39, Op.slice 23 (Operand.tmp 38) none none none, _, _, _, none⟩) (v := (.slice (some ⟨n, 11, none⟩) 6 6)) rfl (by kernel_rfl) (by kernel_rfl) (by kernel_rfl) (fun _ _ _ h => h) (Or.inl ⟨by rfl, fun w' h' => ?_⟩) hS ?_
  · clear h'
    go_simp
  simp only [Act.put]
  refine wpAnyH_take (i := 2) (oi := ⟨some 40, Op.move (Operand.tmp 0), _, _, _, none⟩) (v := (.string s)) rfl (by kernel_rfl) (by kernel_rfl) (by kernel_rfl) (fun _ _ _ h => h) (Or.inl ⟨by rfl, fun w' h' => ?_⟩) hS ?_
  · clear h'
    go_simp
  simp only [Act.put]
  refine wpAnyH_take (i := 3) (oi := ⟨some 41, Op.slice 9 (Operand.tmp 40) (some (Operand.const (Value.int IntKind.i64 18))) none none, _, _, _, none⟩) (v := (.string (s.extract 18 s.size))) rfl (by kernel_rfl) (by kernel_rfl) (by kernel_rfl) (fun _ _ _ h => h) (Or.inl ⟨by rfl, fun w' h' => ?_⟩) hS ?_
  · have c0 := g18
    clear h'
    go_simp
  simp only [Act.put]
  have hcp := copy_tm (f := ⟨(K : Int), R.ma, R.ip, pkZ.tm, pkZ.ti⟩) PV.out (s.extract 18 s.size) R.tm _ H3.out
  have S4 : PkAt (cpW V n ⟨(K : Int), R.ma, R.ip, R.tm, pkZ.ti⟩) n ⟨(K : Int), R.ma, R.ip, R.tm, pkZ.ti⟩ := cp_at PV.out
  refine wpAnyH_ready (rs := [4]) (by kernel_rfl) (by simp) ?_
  refine AllReadyH.cons rfl (fun K hK => ?_) AllReadyH.nil
  go_simp
  skip
  refine hK.out _ _ trivial (fun _ => ?_)
  clear hK K
  refine wpAnyH_done (by kernel_rfl) (NoPanic.normal ?_) _
  try simp only [List.setIfInBounds_toArray, List.set_cons_zero, List.set_cons_succ]
  have A4 := Lib.hid S4
  have RM7 := Lib.hid (RV.out.kept (w' := cpW V n ⟨(K : Int), R.ma, R.ip, R.tm, pkZ.ti⟩) (cp_other NE))
  have BL7 := Lib.hid (cp_below (n := n) (g := ⟨(K : Int), R.ma, R.ip, R.tm, pkZ.ti⟩) BV.out NL)
  clear RV BV S4 hS hcp PV A3 RM6 BL6
  generalize cpW V n _ = W5 at A4 RM7 BL7 ⊢
  clear V
  go_upto_region 12 with fail
  refine wp_region_noPanic ?_
  refine region_heldE (S := fun _ => True) (by kernel_rfl) (fun V d => trivial) (fun V d hS => ?_)
  have PV := Lib.hid (show PkAt V n ⟨(K : Int), R.ma, R.ip, R.tm, pkZ.ti⟩ from (d.block _).trans A4.out)
  have RV := Lib.hid (RM7.out.kept (w' := V) (d.block _))
  have BV := Lib.hid (BL7.out.trans ((d.below).mono BL7.out.size))
  clear d
  refine wpAnyH_take (i := 0) (oi := ⟨some 43, Op.fieldAddr 27 (Operand.tmp 6) 4, _, _, _, none⟩) (v := (.pointer (some ⟨n, 17, none⟩))) rfl (by kernel_rfl) (by kernel_rfl) (by kernel_rfl) (fun _ _ _ h => h) (Or.inl ⟨by rfl, fun w' h' => ?_⟩) hS ?_
  · clear h'
    go_simp
  simp only [Act.put]
  refine wpAnyH_take (i := 1) (oi := ⟨some 44, Op.slice 25 (Operand.tmp 43) none none none, _, _, _, none⟩) (v := (.slice (some ⟨n, 17, none⟩) 4 4)) rfl (by kernel_rfl) (by kernel_rfl) (by kernel_rfl) (fun _ _ _ h => h) (Or.inl ⟨by rfl, fun w' h' => ?_⟩) hS ?_
  · clear h'
    go_simp
  simp only [Act.put]
  refine wpAnyH_take (i := 2) (oi := ⟨some 45, Op.move (Operand.tmp 0), _, _, _, none⟩) (v := (.string s)) rfl (by kernel_rfl) (by kernel_rfl) (by kernel_rfl) (fun _ _ _ h => h) (Or.inl ⟨by rfl, fun w' h' => ?_⟩) hS ?_
  · clear h'
    go_simp
  simp only [Act.put]
  refine wpAnyH_take (i := 3) (oi := ⟨some 46, Op.slice 9 (Operand.tmp 45) (some (Operand.const (Value.int IntKind.i64 24))) none none, _, _, _, none⟩) (v := (.string (s.extract 24 s.size))) rfl (by kernel_rfl) (by kernel_rfl) (by kernel_rfl) (fun _ _ _ h => h) (Or.inl ⟨by rfl, fun w' h' => ?_⟩) hS ?_
  · have c0 := g24
    clear h'
    go_simp
  simp only [Act.put]
  have hcp := copy_ti (f := ⟨(K : Int), R.ma, R.ip, R.tm, pkZ.ti⟩) PV.out (s.extract 24 s.size) R.ti _ H4.out
  have S4 : PkAt (cpW V n ⟨(K : Int), R.ma, R.ip, R.tm, R.ti⟩) n ⟨(K : Int), R.ma, R.ip, R.tm, R.ti⟩ := cp_at PV.out
  refine wpAnyH_ready (rs := [4]) (by kernel_rfl) (by simp) ?_
  refine AllReadyH.cons rfl (fun K hK => ?_) AllReadyH.nil
  go_simp
  skip
  refine hK.out _ _ trivial (fun _ => ?_)
  clear hK K
  refine wpAnyH_done (by kernel_rfl) (NoPanic.normal ?_) _
  try simp only [List.setIfInBounds_toArray, List.set_cons_zero, List.set_cons_succ]
  have A5 := Lib.hid S4
  have RM8 := Lib.hid (RV.out.kept (w' := cpW V n ⟨(K : Int), R.ma, R.ip, R.tm, R.ti⟩) (cp_other NE))
  have BL8 := Lib.hid (cp_below (n := n) (g := ⟨(K : Int), R.ma, R.ip, R.tm, R.ti⟩) BV.out NL)
  clear RV BV S4 hS hcp PV A4 RM7 BL7
  generalize cpW V n _ = W6 at A5 RM8 BL8 ⊢
  clear V
  go_upto_region 13 with fail
  rw [← HROK.out] at A5
  have A5 : Hid (PkAt W6 n R) := A5
  have hca : W6.rangeAt n 0 [.int .i64 R.op, .int .u8 (R.ma.a.toNat : Int), .int .u8 (R.ma.b.toNat : Int), .int .u8 (R.ma.c.toNat : Int), .int .u8 (R.ma.d.toNat : Int), .int .u8 (R.ma.e.toNat : Int), .int .u8 (R.ma.f.toNat : Int), .int .u8 (R.ip.a.toNat : Int), .int .u8 (R.ip.b.toNat : Int), .int .u8 (R.ip.c.toNat : Int), .int .u8 (R.ip.d.toNat : Int), .int .u8 (R.tm.a.toNat : Int), .int .u8 (R.tm.b.toNat : Int), .int .u8 (R.tm.c.toNat : Int), .int .u8 (R.tm.d.toNat : Int), .int .u8 (R.tm.e.toNat : Int), .int .u8 (R.tm.f.toNat : Int), .int .u8 (R.ti.a.toNat : Int), .int .u8 (R.ti.b.toNat : Int), .int .u8 (R.ti.c.toNat : Int), .int .u8 (R.ti.d.toNat : Int)] := fun i v hv => by
    rw [Nat.zero_add]
    have := cell_of_block (i := i) A5.out
    rw [this]
    first | exact List.getElem?_toArray.trans hv | exact (List.getElem?_toArray ..).trans hv
  have HCA := Lib.hid hca
  obtain ⟨hst, S6⟩ := RM8.out.put R
  have S6 := Lib.hid S6
  have B6 := Lib.hid (below_setRow BL8.out (Nat.le_refl _) #[.int .i64 R.op, .int .u8 (R.ma.a.toNat : Int), .int .u8 (R.ma.b.toNat : Int), .int .u8 (R.ma.c.toNat : Int), .int .u8 (R.ma.d.toNat : Int), .int .u8 (R.ma.e.toNat : Int), .int .u8 (R.ma.f.toNat : Int), .int .u8 (R.ip.a.toNat : Int), .int .u8 (R.ip.b.toNat : Int), .int .u8 (R.ip.c.toNat : Int), .int .u8 (R.ip.d.toNat : Int), .int .u8 (R.tm.a.toNat : Int), .int .u8 (R.tm.b.toNat : Int), .int .u8 (R.tm.c.toNat : Int), .int .u8 (R.tm.d.toNat : Int), .int .u8 (R.tm.e.toNat : Int), .int .u8 (R.tm.f.toNat : Int), .int .u8 (R.ti.a.toNat : Int), .int .u8 (R.ti.b.toNat : Int), .int .u8 (R.ti.c.toNat : Int), .int .u8 (R.ti.d.toNat : Int)])
  clear hca
  go_wp2_with (first | (refine wpList_load_mid rfl 27 (.tmp 6) rfl n 0 rfl [.int .i64 R.op, .int .u8 (R.ma.a.toNat : Int), .int .u8 (R.ma.b.toNat : Int), .int .u8 (R.ma.c.toNat : Int), .int .u8 (R.ma.d.toNat : Int), .int .u8 (R.ma.e.toNat : Int), .int .u8 (R.ma.f.toNat : Int), .int .u8 (R.ip.a.toNat : Int), .int .u8 (R.ip.b.toNat : Int), .int .u8 (R.ip.c.toNat : Int), .int .u8 (R.ip.d.toNat : Int), .int .u8 (R.tm.a.toNat : Int), .int .u8 (R.tm.b.toNat : Int), .int .u8 (R.tm.c.toNat : Int), .int .u8 (R.tm.d.toNat : Int), .int .u8 (R.tm.e.toNat : Int), .int .u8 (R.tm.f.toNat : Int), .int .u8 (R.ti.a.toNat : Int), .int .u8 (R.ti.b.toNat : Int), .int .u8 (R.ti.c.toNat : Int), .int .u8 (R.ti.d.toNat : Int)] _ HCA.out Try.underlying27 rfl (by kernel_rfl) ?_) | (refine wpList_storeW 27 _ _ rfl rfl _ w.heap.size rfl rfl hst ?_))
  exact bodyPost_ret (v := .tuple #[.agg #[.int .i64 R.op, .int .u8 (R.ma.a.toNat : Int), .int .u8 (R.ma.b.toNat : Int), .int .u8 (R.ma.c.toNat : Int), .int .u8 (R.ma.d.toNat : Int), .int .u8 (R.ma.e.toNat : Int), .int .u8 (R.ma.f.toNat : Int), .int .u8 (R.ip.a.toNat : Int), .int .u8 (R.ip.b.toNat : Int), .int .u8 (R.ip.c.toNat : Int), .int .u8 (R.ip.d.toNat : Int), .int .u8 (R.tm.a.toNat : Int), .int .u8 (R.tm.b.toNat : Int), .int .u8 (R.tm.c.toNat : Int), .int .u8 (R.tm.d.toNat : Int), .int .u8 (R.tm.e.toNat : Int), .int .u8 (R.tm.f.toNat : Int), .int .u8 (R.ti.a.toNat : Int), .int .u8 (R.ti.b.toNat : Int), .int .u8 (R.ti.c.toNat : Int), .int .u8 (R.ti.d.toNat : Int)], .int .i64 0]) (results_row _ 2 3 27 (by kernel_rfl) _ w.heap.size _ _ _ _ rfl rfl S6.out Try.underlying27 rfl (by kernel_rfl)) rfl ⟨rfl, B6.out⟩

theorem rRead_any (w : World) (s : ByteArray) (hm : s.size ≤ 9223372036854775807) (R : Pk) (hR : R = rkR s) :
    Calls Try.prog 19 #[.string s] w fun e w' => e = .returned (.tuple #[.agg #[.int .i64 R.op, .int .u8 (R.ma.a.toNat : Int), .int .u8 (R.ma.b.toNat : Int), .int .u8 (R.ma.c.toNat : Int), .int .u8 (R.ma.d.toNat : Int), .int .u8 (R.ma.e.toNat : Int), .int .u8 (R.ma.f.toNat : Int), .int .u8 (R.ip.a.toNat : Int), .int .u8 (R.ip.b.toNat : Int), .int .u8 (R.ip.c.toNat : Int), .int .u8 (R.ip.d.toNat : Int), .int .u8 (R.tm.a.toNat : Int), .int .u8 (R.tm.b.toNat : Int), .int .u8 (R.tm.c.toNat : Int), .int .u8 (R.tm.d.toNat : Int), .int .u8 (R.tm.e.toNat : Int), .int .u8 (R.tm.f.toNat : Int), .int .u8 (R.ti.a.toNat : Int), .int .u8 (R.ti.b.toNat : Int), .int .u8 (R.ti.c.toNat : Int), .int .u8 (R.ti.d.toNat : Int)], .int .i64 (rkE s)]) ∧ Below w.heap.size w w' := by
  by_cases h1 : s.size < 28
  · have e1 : rkE s = 7 := if_pos h1
    rw [rkR, e1, if_neg (by decide)] at hR
    subst hR
    rw [e1]
    exact rRead_short w s h1
  · by_cases h2 : (s.extract 0 6).toList = [0, 1, 8, 0, 6, 4]
    · by_cases h3 : (rdK s).op = 1 ∨ (rdK s).op = 2
      · have e1 : rkE s = 0 := by rw [rkE, if_neg h1, if_neg (fun h => h h2), if_neg (fun h => h h3)]
        rw [rkR, e1, if_pos rfl] at hR
        rw [e1]
        exact rRead_yes w s hm (by omega) h2 h3 R hR
      · have e1 : rkE s = 10 := by rw [rkE, if_neg h1, if_neg (fun h => h h2), if_pos h3]
        rw [rkR, e1, if_neg (by decide)] at hR
        subst hR
        rw [e1]
        exact rRead_kind w s hm (by omega) h2 h3
    · have e1 : rkE s = 8 := by rw [rkE, if_neg h1, if_pos h2]
      rw [rkR, e1, if_neg (by decide)] at hR
      subst hR
      rw [e1]
      exact rRead_form w s (by omega) h2

end Go.Proofs.Ytolegdjdppaeoaa
