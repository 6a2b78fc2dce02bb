/-
  A store of a whole value at a region's operation, whose run is known. No program in it; no conditions.
-/
import Derived.Test.YtbjoibgkhooljaaIpI
import Derived.Test.YtbjoibgkhooljaaIpO
import Derived.Test.YtbjoibgkhooljaaArpH
import Derived.Test.YtbjoibgkhooljaaRef
import Derived.Laws.AppendOwn
import Derived.Test.YtbjoibgkhooljaaKeep
import Derived.Test.YtbjoibgkhooljaaEthD
namespace Go.Proofs.Ytbjoibgkhooljaa
open Go.RowKit
set_option linter.unusedVariables false

theorem size_list (s : ByteArray) : s.data.toList.length = s.size := by rw [Array.length_toList]; rfl
theorem pdE_zero {f : Pd} : pdE f = 0 ↔ (mayB f = true ∧ f.da.size ≤ 566) := by
  unfold pdE
  cases h : mayB f
  · simp
  · by_cases h2 : 566 < f.da.size
    · rw [if_neg (by decide), if_pos h2]; constructor
      · intro h; cases h
      · intro h; omega
    · rw [if_neg (by decide), if_neg h2]; simp; omega
theorem pdS_list {f : Pd} (h : pdE f = 0) : (pdS f).data.toList = hdL f ++ f.da.data.toList := by rw [pdS, if_pos h]
theorem pdS_size {f : Pd} (h : pdE f = 0) : (pdS f).size = 20 + f.da.size := by
  rw [← size_list, pdS_list h, List.length_append, hdL_length, size_list]
theorem two_bytes (n : Nat) : two n = [UInt8.ofNat (n / 256), UInt8.ofNat (n % 256)] := rfl
theorem two_val {n : Nat} (h : n ≤ 65535) : 256 * (UInt8.ofNat (n / 256)).toNat + (UInt8.ofNat (n % 256)).toNat = n := by
  have := tot_two h
  simpa [two, tot] using this
/-- The head, byte by byte. -/
def hdX (f : Pd) (k : Nat) : List UInt8 := [69, 0] ++ two (20 + f.da.size) ++ two f.id.toNat ++ two (plN f) ++ [UInt8.ofNat f.tl.toNat, UInt8.ofNat f.pr.toNat] ++ two k ++ f.sr.list ++ f.ds.list
theorem hdL_eq (f : Pd) : hdL f = hdX f (sumT (ahL f ++ two 0 ++ bhL f)) := by
  unfold hdL hdX ahL bhL
  simp [List.append_assoc]
theorem hdL_sum (f : Pd) : sumT (hdL f) = 0 := by
  have := sum_placed (ahL f) (bhL f) (by rw [ahL_length])
  exact this
theorem wd_of (a : List UInt8) (n : Nat) (b : List UInt8) (k : Nat) (hk : a.length = k) (hn : n ≤ 65535) : wd (a ++ two n ++ b) k = n := by
  subst hk
  have h0 : (a ++ two n ++ b).getD a.length 0 = UInt8.ofNat (n / 256) := by simp [two, List.getD]
  have h1 : (a ++ two n ++ b).getD (a.length + 1) 0 = UInt8.ofNat (n % 256) := by simp [two, List.getD]
  rw [wd, bt, bt, h0, h1, two_val hn]
theorem bt_of (a : List UInt8) (x : UInt8) (b : List UInt8) (k : Nat) (hk : a.length = k) : bt (a ++ x :: b) k = x.toNat := by
  subst hk
  simp [bt, List.getD]
theorem ip_of (a : List UInt8) (m : Ip4) (b : List UInt8) (k : Nat) (hk : a.length = k) : ipAt (a ++ m.list ++ b) k = m := by
  subst hk
  unfold ipAt
  apply Ip4.same
  simp [Ip4.list, List.getD]
theorem plN_lt {f : Pd} (h : mayB f = true) : plN f < 16384 := by
  obtain ⟨-, -, -, -, -, -, p8, p0, p1, -, -⟩ := mayB_all h
  unfold plN; split <;> omega
theorem plN_parts {f : Pd} (h : mayB f = true) : ((plN f % 8192 * 8 : Nat) : Int) = f.ps ∧ decide (plN f / 8192 % 2 = 1) = f.mo := by
  obtain ⟨-, -, -, -, -, -, p8, p0, p1, -, -⟩ := mayB_all h
  unfold plN
  cases f.mo
  · rw [if_neg (by decide)]
    exact ⟨by omega, decide_eq_false (by omega)⟩
  · rw [if_pos rfl]
    exact ⟨by omega, decide_eq_true (by omega)⟩
theorem bytes_end (h : List UInt8) (d r : List UInt8) (S : ByteArray) (hS : S.data.toList = h ++ d ++ r) (n k : Nat) (hn : h.length = n) (hk : d.length = k) : (S.extract n (n + k)).data.toList = d := by
  subst hn hk
  rw [Lib.extract_data, hS, List.append_assoc, List.drop_left]
  simp
/-- What stands in the bytes of a packet, with anything behind. -/
theorem read_bytes (f : Pd) (h : pdE f = 0) (S : ByteArray) (r : List UInt8) (hS : S.data.toList = hdL f ++ f.da.data.toList ++ r) : rhE S = 0 ∧ rdQ S = f ∧ rdN S = 20 ∧ wd S.data.toList 2 = 20 + f.da.size ∧ wd S.data.toList 6 = plN f := by
  obtain ⟨hm, hz⟩ := pdE_zero.1 h
  obtain ⟨i0, i1, r0, r1, t0, t1, p8, p0, p1, ps, -⟩ := mayB_all hm
  have hL := hdL_eq f
  generalize sumT (ahL f ++ two 0 ++ bhL f) = K at hL
  have b0 : bt S.data.toList 0 = 69 := by rw [hS, hL, hdX]; rfl
  have hl : S.size = 20 + f.da.size + r.length := by rw [← size_list, hS, List.length_append, List.length_append, hdL_length, size_list]
  have w2 : wd S.data.toList 2 = 20 + f.da.size := by
    have e : S.data.toList = [69, 0] ++ two (20 + f.da.size) ++ (two f.id.toNat ++ two (plN f) ++ [UInt8.ofNat f.tl.toNat, UInt8.ofNat f.pr.toNat] ++ two K ++ f.sr.list ++ f.ds.list ++ f.da.data.toList ++ r) := by rw [hS, hL, hdX]; simp only [List.append_assoc]
    rw [e]; exact wd_of _ _ _ _ rfl (by omega)
  have w4 : wd S.data.toList 4 = f.id.toNat := by
    have e : S.data.toList = ([69, 0] ++ two (20 + f.da.size)) ++ two f.id.toNat ++ (two (plN f) ++ [UInt8.ofNat f.tl.toNat, UInt8.ofNat f.pr.toNat] ++ two K ++ f.sr.list ++ f.ds.list ++ f.da.data.toList ++ r) := by rw [hS, hL, hdX]; simp only [List.append_assoc]
    rw [e]; exact wd_of _ _ _ _ rfl (by omega)
  have w6 : wd S.data.toList 6 = plN f := by
    have e : S.data.toList = ([69, 0] ++ two (20 + f.da.size) ++ two f.id.toNat) ++ two (plN f) ++ ([UInt8.ofNat f.tl.toNat, UInt8.ofNat f.pr.toNat] ++ two K ++ f.sr.list ++ f.ds.list ++ f.da.data.toList ++ r) := by rw [hS, hL, hdX]; simp only [List.append_assoc]
    rw [e]; exact wd_of _ _ _ _ rfl (by have := plN_lt hm; omega)
  have b8 : bt S.data.toList 8 = f.tl.toNat := by
    have e : S.data.toList = ([69, 0] ++ two (20 + f.da.size) ++ two f.id.toNat ++ two (plN f)) ++ UInt8.ofNat f.tl.toNat :: ([UInt8.ofNat f.pr.toNat] ++ two K ++ f.sr.list ++ f.ds.list ++ f.da.data.toList ++ r) := by rw [hS, hL, hdX]; simp only [List.append_assoc, List.cons_append, List.nil_append]
    rw [e]; refine (bt_of _ _ _ _ rfl).trans ?_; rw [UInt8.toNat_ofNat']; omega
  have b9 : bt S.data.toList 9 = f.pr.toNat := by
    have e : S.data.toList = ([69, 0] ++ two (20 + f.da.size) ++ two f.id.toNat ++ two (plN f) ++ [UInt8.ofNat f.tl.toNat]) ++ UInt8.ofNat f.pr.toNat :: (two K ++ f.sr.list ++ f.ds.list ++ f.da.data.toList ++ r) := by rw [hS, hL, hdX]; simp only [List.append_assoc, List.cons_append, List.nil_append]
    rw [e]; refine (bt_of _ _ _ _ rfl).trans ?_; rw [UInt8.toNat_ofNat']; omega
  have a12 : ipAt S.data.toList 12 = f.sr := by
    have e : S.data.toList = ([69, 0] ++ two (20 + f.da.size) ++ two f.id.toNat ++ two (plN f) ++ [UInt8.ofNat f.tl.toNat, UInt8.ofNat f.pr.toNat] ++ two K) ++ f.sr.list ++ (f.ds.list ++ f.da.data.toList ++ r) := by rw [hS, hL, hdX]; simp only [List.append_assoc]
    rw [e]; exact ip_of _ _ _ _ rfl
  have a16 : ipAt S.data.toList 16 = f.ds := by
    have e : S.data.toList = ([69, 0] ++ two (20 + f.da.size) ++ two f.id.toNat ++ two (plN f) ++ [UInt8.ofNat f.tl.toNat, UInt8.ofNat f.pr.toNat] ++ two K ++ f.sr.list) ++ f.ds.list ++ (f.da.data.toList ++ r) := by rw [hS, hL, hdX]; simp only [List.append_assoc]
    rw [e]; exact ip_of _ _ _ _ rfl
  have hN : rdN S = 20 := by rw [rdN, b0]
  have hE : rhE S = 0 := by
    have ht : S.data.toList.take 20 = hdL f := by rw [hS, List.append_assoc, List.take_append_of_le_length (by rw [hdL_length]; exact Nat.le_refl _), List.take_of_length_le (by rw [hdL_length]; exact Nat.le_refl _)]
    rw [rhE, if_neg (by omega), b0, if_neg (by omega), if_neg (by omega), show 4 * (69 - 64) = 20 from rfl, ht, hdL_sum, if_pos rfl]
  have hD : S.extract 20 (20 + f.da.size) = f.da := by
    apply ByteArray.ext
    apply Array.toList_inj.1
    exact bytes_end (hdL f) _ r S hS 20 f.da.size (hdL_length f) (size_list _)
  refine ⟨hE, ?_, hN, w2, w6⟩
  obtain ⟨q1, q2⟩ := plN_parts hm
  refine Pd.same ⟨?_, a12, a16, ?_, ?_, ?_, ?_, ?_⟩
  · show ((wd S.data.toList 4 : Nat) : Int) = f.id
    rw [w4]; omega
  · show ((bt S.data.toList 9 : Nat) : Int) = f.pr
    rw [b9]; omega
  · show ((bt S.data.toList 8 : Nat) : Int) = f.tl
    rw [b8]; omega
  · show ((wd S.data.toList 6 % 8192 * 8 : Nat) : Int) = f.ps
    rw [w6]; exact q1
  · show decide (wd S.data.toList 6 / 8192 % 2 = 1) = f.mo
    rw [w6]; exact q2
  · show S.extract (rdN S) (wd S.data.toList 2) = f.da
    rw [hN, w2]; exact hD
theorem read_back8 (f : Pd) (h : pdE f = 0) (b : ByteArray) : rqP (pdS f ++ b) = f ∧ rqE (pdS f ++ b) = 0 := by
  obtain ⟨hm, hz⟩ := pdE_zero.1 h
  have hS : (pdS f ++ b).data.toList = hdL f ++ f.da.data.toList ++ b.data.toList := by rw [show (pdS f ++ b).data.toList = (pdS f).data.toList ++ b.data.toList by simp, pdS_list h]
  obtain ⟨h1, h2, h3, h4, h5⟩ := read_bytes f h _ _ hS
  have hl : (pdS f ++ b).size = 20 + f.da.size + b.size := by rw [ByteArray.size_append, pdS_size h]
  have he : rqE (pdS f ++ b) = 0 := by
    rw [rqE, if_pos h1, h3, h4, h5, h2, hm, if_neg (by omega), if_neg (by omega), if_neg]
    have := plN_lt hm
    simp; omega
  exact ⟨by rw [rqP, if_pos he, h2], he⟩
/-- Without its last byte a packet is not read. -/
theorem read_cut8 (f : Pd) (h : pdE f = 0) : rqE ((pdS f).extract 0 (19 + f.da.size)) = 7 := by
  obtain ⟨hm, hz⟩ := pdE_zero.1 h
  have hzs : ((pdS f).extract 0 (19 + f.da.size)).size = 19 + f.da.size := by rw [ByteArray.size_extract, pdS_size h]; omega
  have hd : ((pdS f).extract 0 (19 + f.da.size)).data.toList = (hdL f ++ f.da.data.toList).take (19 + f.da.size) := by rw [extract_take, pdS_list h]
  by_cases h0 : f.da.size = 0
  · have hE : rhE ((pdS f).extract 0 (19 + f.da.size)) = 7 := by rw [rhE, if_pos (by omega)]
    rw [rqE, hE, if_neg (by decide)]
  · have hsp : (hdL f ++ f.da.data.toList).take (19 + f.da.size) = hdL f ++ f.da.data.toList.take (f.da.size - 1) := by
      rw [List.take_append, hdL_length, List.take_of_length_le (by rw [hdL_length]; omega), show 19 + f.da.size - 20 = f.da.size - 1 by omega]
    have hL := hdL_eq f
    have hs := hdL_sum f
    rw [hsp] at hd
    generalize hSg : (pdS f).extract 0 (19 + f.da.size) = S at hzs hd
    generalize sumT (ahL f ++ two 0 ++ bhL f) = K at hL
    have b0 : bt S.data.toList 0 = 69 := by rw [hd, hL, hdX]; rfl
    have w2 : wd S.data.toList 2 = 20 + f.da.size := by
      have e : S.data.toList = [69, 0] ++ two (20 + f.da.size) ++ (two f.id.toNat ++ two (plN f) ++ [UInt8.ofNat f.tl.toNat, UInt8.ofNat f.pr.toNat] ++ two K ++ f.sr.list ++ f.ds.list ++ f.da.data.toList.take (f.da.size - 1)) := by rw [hd, hL, hdX]; simp only [List.append_assoc]
      rw [e]; exact wd_of _ _ _ _ rfl (by omega)
    have hE : rhE S = 0 := by
      have ht : S.data.toList.take 20 = hdL f := by rw [hd, List.take_append_of_le_length (by rw [hdL_length]; exact Nat.le_refl _), List.take_of_length_le (by rw [hdL_length]; exact Nat.le_refl _)]
      rw [rhE, if_neg (by omega), b0, if_neg (by omega), if_neg (by omega), show 4 * (69 - 64) = 20 from rfl, ht, hs, if_pos rfl]
    have hN : rdN S = 20 := by rw [rdN, b0]
    rw [rqE, if_pos hE, w2, hN, if_neg (by omega), if_pos (by omega)]

end Go.Proofs.Ytbjoibgkhooljaa

namespace Go.Proofs.Ytbjoibgkhooljaa
open Go.RowKit
set_option linter.unusedVariables false

theorem pkE_zero (f : Pk) : pkE f = 0 ↔ (f.op = 1 ∨ f.op = 2) := by
  unfold pkE
  split <;> simp_all
def pkX (x : UInt8) (f : Pk) : List UInt8 := 0 :: 1 :: 8 :: 0 :: 6 :: 4 :: 0 :: x :: (f.ma.list ++ (f.ip.list ++ (f.tm.list ++ f.ti.list)))
theorem pkL_eq (f : Pk) (x : UInt8) (h : f.op = (x.toNat : Int)) (h2 : (leL f.op 2).reverse = [0, x]) : pkL f = pkX x f := by
  unfold pkL pkX hd6
  rw [h2]
  simp
theorem pk_bytes (f : Pk) (h : f.op = 1 ∨ f.op = 2) : ∃ x : UInt8, f.op = (x.toNat : Int) ∧ (x = 1 ∨ x = 2) ∧ (pkS f).data.toList = pkX x f := by
  have h0 : pkS f = ⟨(pkL f).toArray⟩ := by rw [pkS, if_pos ((pkE_zero f).2 h)]
  rcases h with h | h
  · exact ⟨1, by rw [h]; rfl, .inl rfl, by rw [h0, pkL_eq f 1 (by rw [h]; rfl) (by rw [h]; decide)]⟩
  · exact ⟨2, by rw [h]; rfl, .inr rfl, by rw [h0, pkL_eq f 2 (by rw [h]; rfl) (by rw [h]; decide)]⟩
theorem extract0 (s : ByteArray) (k : Nat) : (s.extract 0 k).toList = s.data.toList.take k := by
  rw [ByteArray.toList_eq]
  obtain ⟨⟨l⟩⟩ := s
  rw [ByteArray.extract_mk]
  simp
theorem read_of (s : ByteArray) (x : UInt8) (f : Pk) (r : List UInt8) (hx : x = 1 ∨ x = 2) (ho : f.op = (x.toNat : Int)) (hs : s.data.toList = pkX x f ++ r) : rkR s = f ∧ rkE s = 0 := by
  have hz : 28 ≤ s.size := by
    have h1 : s.data.toList.length = s.size := by rw [Array.length_toList]; rfl
    rw [← h1, hs, List.length_append]
    exact Nat.le_add_right 28 _
  have hc : cutS s 6 2 = [0, x] := by
    unfold cutS okR
    rw [if_pos (decide_eq_true (by omega)), hs]
    rfl
  have hk : rdK s = f := by
    refine Pk.same ⟨?_, ?_, ?_, ?_, ?_⟩
    · show ((num (cutS s 6 2).reverse : Nat) : Int) = f.op
      rw [hc, ho]
      simp [num]
    · show macAt s.data.toList 8 = _
      rw [hs]; rfl
    · show ipAt s.data.toList 14 = _
      rw [hs]; rfl
    · show macAt s.data.toList 18 = _
      rw [hs]; rfl
    · show ipAt s.data.toList 24 = _
      rw [hs]; rfl
  have he : rkE s = 0 := by
    have h1 : (rdK s).op = 1 ∨ (rdK s).op = 2 := by
      rw [hk, ho]
      rcases hx with rfl | rfl
      · exact .inl rfl
      · exact .inr rfl
    have h2 : (s.extract 0 6).toList = [0, 1, 8, 0, 6, 4] := by rw [extract0, hs]; rfl
    rw [rkE, if_neg (by omega), if_neg (fun h => h h2), if_neg (fun h => h h1)]
  exact ⟨by rw [rkR, if_pos he, hk], he⟩
theorem data_add (a b : ByteArray) : (a ++ b).data.toList = a.data.toList ++ b.data.toList := by
  simp
theorem pk_back (f : Pk) (h : f.op = 1 ∨ f.op = 2) (b : ByteArray) : rkR (pkS f ++ b) = f ∧ rkE (pkS f ++ b) = 0 := by
  obtain ⟨x, h1, h2, h3⟩ := pk_bytes f h
  exact read_of _ x f b.data.toList h2 h1 (by rw [data_add, h3])
theorem pk_size (f : Pk) (h : f.op = 1 ∨ f.op = 2) : (pkS f).size = 28 := by
  obtain ⟨x, _, _, h3⟩ := pk_bytes f h
  have h1 : (pkS f).data.toList.length = (pkS f).size := by rw [Array.length_toList]; rfl
  rw [← h1, h3]
  rfl
theorem pk_same (f g : Pk) (hf : f.op = 1 ∨ f.op = 2) (hg : g.op = 1 ∨ g.op = 2) : ((pkS f).toList == (pkS g).toList) = decide (f = g) := by
  rw [Bool.eq_iff_iff]
  simp only [beq_iff_eq, decide_eq_true_eq]
  constructor
  · intro h
    rw [ByteArray.toList_eq, ByteArray.toList_eq] at h
    obtain ⟨x, h1, h2, h3⟩ := pk_bytes f hf
    obtain ⟨y, k1, k2, k3⟩ := pk_bytes g hg
    have r1 := (read_of (pkS f) x f [] h2 h1 (by rw [h3, List.append_nil])).1
    have r2 := (read_of (pkS f) y g [] k2 k1 (by rw [h, k3, List.append_nil])).1
    rw [← r1, r2]
  · rintro rfl; rfl



end Go.Proofs.Ytbjoibgkhooljaa

namespace Go.Proofs.Ytbjoibgkhooljaa
open Go.RowKit Go.Sort
set_option linter.unusedVariables false

/-- A slice of bytes that has a block of its own. -/
abbrev ByRow (w : World) (base : Nat) (v : Value) (l : List UInt8) : Prop := w.ownsRow base 5 1 v l.length (l.map eb)
theorem info_u8 : ∃ i z, Try.prog.info? 5 = some i ∧ i.zero = some z ∧ i.size = 1 ∧ i.bytes = 1 ∧ z.cells.size = 1 := by
  have h : (Try.prog.info? 5).map (fun i => (i.zero.map (fun z => z.cells.size), i.size, i.bytes)) = some (some 1, 1, 1) := by kernel_rfl
  cases hi : Try.prog.info? 5 with
  | none => rw [hi] at h; cases h
  | some i =>
    rw [hi] at h
    simp only [Option.map_some, Option.some.injEq, Prod.mk.injEq] at h
    obtain ⟨h1, h2, h3⟩ := h
    cases hz : i.zero with
    | none => rw [hz] at h1; cases h1
    | some z => rw [hz] at h1; exact ⟨i, z, rfl, hz, h2, h3, by simpa using h1⟩
theorem wpList_append_byte {ops : Array Oper} {rest : List Oper} {o : Oper} {a : Act} {w : World} {Q : Exit → Act → World → Prop} (hg : o.guard = none) (s x : Operand)
    (hop : o.op = Op.call { callee := Callee.builtin Builtin.append, args := #[s, x], argTypes := #[61, 61] })
    (base : Nat) (v : Value) (l : List UInt8) (hs : a.eval s = v) (hown : ByRow w base v l) (hl : l.length ≤ 100000)
    (b : Nat) (c : Nat) (X : UInt8) (hx : a.eval x = .slice (some ⟨b, 0, none⟩) 1 c) (hc : w.cell? ⟨b, 0, none⟩ = some (eb X)) (hb : base ≤ w.heap.size)
    (hK : ∀ v' w', ByRow w' base v' (l ++ [X]) → w.grownBy w' v.ownBlock → wpList Try.prog ops Q rest (a.put o.dst v') w') : wpList Try.prog ops Q (o :: rest) a w := by
  obtain ⟨i, z, h1, h2, h3, h4, h5⟩ := info_u8
  refine wpList_append_own _ hg s x 61 hop base 5 i z 1 1 Try.underlying61 h1 h2 h3 h4 h5 (by decide) v l.length (l.map eb) hs hown ⟨b, 0, none⟩ 1 c [eb X] hx rfl ?_ ?_ (by unfold maxLen; omega) (by omega) hb ?_
  · intro j u hu
    rcases j with _ | j
    · have : u = eb X := by simpa using hu.symm
      subst this
      have ha : (⟨b, 0, none⟩ : Addr).add 0 = ⟨b, 0, none⟩ := by unfold Addr.add; split <;> simp_all
      rw [ha]
      exact hc
    · simp at hu
  · intro u hu
    have : u = eb X := by simpa using hu
    subst this
    rfl
  · intro v' w' g1 g2 _
    refine hK v' w' ?_ g2
    unfold ByRow
    rw [List.length_append, List.map_append]
    exact g1
theorem ByRow.shape {w : World} {base : Nat} {v : Value} {l : List UInt8} (h : ByRow w base v l) : ∃ p c, v = .slice p l.length c := by
  rcases h.2 with ⟨rfl, h0⟩ | ⟨b, cap, _, rfl, _⟩
  · exact ⟨none, 0, by rw [h0]⟩
  · exact ⟨_, _, rfl⟩
theorem ByRow.block {w : World} {base : Nat} {v : Value} {l : List UInt8} (h : ByRow w base v l) {k : Nat} (hk : v.ownBlock = some k) : base ≤ k := by
  rcases h.2 with ⟨rfl, h0⟩ | ⟨b, cap, _, rfl, hb, _⟩
  · simp [Value.ownBlock] at hk
  · simp [Value.ownBlock] at hk
    omega
/-- A row of its own as a text. -/
theorem ByRow.conv {w : World} {base : Nat} {v : Value} {l : List UInt8} (h : ByRow w base v l) (h0 : 0 < l.length) : (convert 61 9 v).run Try.prog w = .ok (.string ⟨l.toArray⟩) w := by
  rcases h.2 with ⟨_, h1⟩ | ⟨b, cap, cur, rfl, _, hb, h1, h2, h3, h4⟩
  · omega
  · refine conv_text w b 0 l.length cap l rfl ?_
    intro j hj
    have hj' : j < l.length := by simpa using hj
    refine ⟨?_, by simp [World.frozen?, hb]⟩
    rw [Nat.zero_add, cell_of_row w b j cur _ (0, 0) hb]
    have h5 : (cur.toList.take (l.length * 1))[j]? = (l.map eb)[j]? := by rw [h4]
    rw [List.getElem?_take, if_pos (by omega)] at h5
    rw [← Array.getElem?_toList, h5, List.getElem?_map, List.getElem?_eq_getElem hj']
    simp [getElem!_pos l.toArray j (by simpa using hj')]

theorem list_at (l : List UInt8) (k : Nat) (h : k < l.length) : ∃ X : UInt8, l[k]? = some X ∧ l.take (k + 1) = l.take k ++ [X] :=
  ⟨l[k]'h, List.getElem?_eq_getElem h, by rw [List.take_succ_eq_append_getElem h]⟩
theorem holds_get {w : World} {n o : Nat} {l : List UInt8} (h : Holds eb w n o l.toArray) (k : Nat) (X : UInt8) (hX : l[k]? = some X) : w.cell? ⟨n, o + k, none⟩ = some (.int .u8 (X.toNat : Int)) := by
  have hk : k < l.toArray.size := by simpa using (List.getElem?_eq_some_iff.1 hX).1
  rw [(h k hk).1]
  simp [eb, getElem!_pos l.toArray k hk, (List.getElem?_eq_some_iff.1 hX).2]




end Go.Proofs.Ytbjoibgkhooljaa

namespace Go.Proofs.Ytbjoibgkhooljaa
open Go.RowKit Go.Sort
set_option linter.unusedVariables false

theorem tot_nought (l : List UInt8) : tot (l ++ [0]) = tot l := by
  rw [tot_push]
  split <;> rfl
theorem tot_pair (l : List UInt8) (k : Nat) (X Y : UInt8) (hk : k % 2 = 0) (h1 : l[k]? = some X) (h2 : l[k + 1]? = some Y) : tot (l.take (k + 2)) = tot (l.take k) + (256 * X.toNat + Y.toNat) := by
  rw [tot_next l (k + 1) Y h2, if_neg (by omega), tot_next l k X h1, if_pos hk]
  omega
theorem wrap_nat (n : Nat) (h : n < 9223372036854775808) : IntKind.i64.wrap (n : Int) = (n : Int) := IntWalk.i64_in _ (by omega)

set_option maxRecDepth 100000 in
set_option maxHeartbeats 4000000 in
theorem rSum_any (w : World) (s : ByteArray) (hs : s.size ≤ 100000) :
    Calls Try.prog 28 #[.string s] w fun e w' => e = .returned (.int .i64 (sumT s.data.toList)) ∧ Below w.heap.size w w' := by
  obtain ⟨R, hR⟩ : ∃ R, R = sumT s.data.toList := ⟨_, rfl⟩
  rw [← hR]
  have HR := Lib.hid hR
  clear hR
  have hv := conv_one w 0 (by decide) (by decide)
  by_cases ho : s.size % 2 = 1
  · have e1 : ((s.size : Int) % 2 == 1) = true := by simp; omega
    have s1 : ¬ 9223372036854775807 < s.size + 1 := by omega
    have zT : (s ++ ⟨#[0]⟩ : ByteArray).size = s.size + 1 := by rw [ByteArray.size_append]; rfl
    have lT : (s ++ ⟨#[0]⟩ : ByteArray).data.toList = s.data.toList ++ [0] := by simp
    go_enter Try.func28, Try.ntmps28
    go_upto_region 3 with fail
    have BL : Hid (Below w.heap.size w (w.alloc (.cells #[.int .u8 0] 5))) := Lib.hid ((Below.refl _ _).alloc (Nat.le_refl _) _)
    generalize w.alloc _ = W1 at BL ⊢
    generalize s ++ ⟨#[0]⟩ = T at zT lT ⊢
    have hz : T.size % 2 = 0 := by omega
    have hm : T.size ≤ 100001 := by omega
    have HT : Hid (R = 65535 - cm (tot T.data.toList)) := Lib.hid (by rw [HR.out, lT, sumT, tot_nought])
    clear zT lT e1 s1 ho hv hs
    have hl := size_list T
    have HL := Lib.hid hl
    clear hl
    go_wp2
    go_loopw [3, 4] (fun x i wr => ∃ j : Nat, j % 2 = 0 ∧ j ≤ T.size ∧ i = .int .i64 j ∧ x = .int .i64 (tot (T.data.toList.take j)) ∧ Hid (Below w.heap.size w wr)) (fun _ i _ => T.size - (intOf i).toNat)
    case atStart => exact ⟨0, rfl, by omega, rfl, rfl, BL⟩
    case round =>
      obtain ⟨j, hj2, hj, rfl, rfl, bl⟩ := hrel
      clear BL
      by_cases hlt : j < T.size
      · have hlt2 : j + 1 < T.size := by omega
        obtain ⟨X, hX⟩ : ∃ X : Nat, (T[j]'hlt).toNat = X := ⟨_, rfl⟩
        obtain ⟨Y, hY⟩ : ∃ Y : Nat, (T[j + 1]'hlt2).toNat = Y := ⟨_, rfl⟩
        have hp := tot_pair T.data.toList j T[j] T[j + 1] hj2 (by rw [Array.getElem?_toList]; exact Array.getElem?_eq_getElem hlt) (by rw [Array.getElem?_toList]; exact Array.getElem?_eq_getElem hlt2)
        rw [hX, hY] at hp
        have hX2 : X < 256 := by rw [← hX]; exact UInt8.toNat_lt _
        have hY2 : Y < 256 := by rw [← hY]; exact UInt8.toNat_lt _
        have hb := tot_take_le T.data.toList j 100001 (by omega)
        obtain ⟨Z, hZ⟩ : ∃ Z, tot (T.data.toList.take j) = Z := ⟨_, rfl⟩
        rw [hZ] at hp hb ⊢
        have HP := Lib.hid hp
        have HX := Lib.hid hX
        have HY := Lib.hid hY
        have w1 := Lib.hid (wrap_nat X (by omega))
        have w2 : Hid (IntKind.i64.wrap (256 * (X : Int)) = 256 * (X : Int)) := Lib.hid (IntWalk.i64_in _ (by omega))
        have w3 : Hid (IntKind.i64.wrap ((Z : Int) + 256 * (X : Int)) = (Z : Int) + 256 * (X : Int)) := Lib.hid (IntWalk.i64_in _ (by omega))
        have w4 : Hid (IntKind.i64.wrap ((j : Int) + 1) = (j : Int) + 1) := Lib.hid (IntWalk.i64_in _ (by omega))
        have w5 := Lib.hid (wrap_nat Y (by omega))
        have w6 : Hid (IntKind.i64.wrap ((Z : Int) + 256 * (X : Int) + (Y : Int)) = (Z : Int) + 256 * (X : Int) + (Y : Int)) := Lib.hid (IntWalk.i64_in _ (by omega))
        have hN : ((j : Int) + 1).toNat = j + 1 := by omega
        have HN := Lib.hid hN
        clear hp hX hY hZ hb hN
        go_upto_region 7 with fail
        refine wp_region_noPanic ?_
        refine region_heldE (S := fun _ => True) (by kernel_rfl) (fun V d => trivial) (fun V d hS => ?_)
        have BV := bstep bl d.below
        clear d
        refine wpAnyH_take (i := 0) (oi := ⟨some 19, Op.move (Operand.tmp 3), _, _, _, none⟩) (v := (.int .i64 (Z : Int))) rfl (by kernel_rfl) (by kernel_rfl) (by kernel_rfl) (fun _ _ _ h => h) (Or.inl ⟨by rfl, fun w' h' => ?_⟩) hS ?_
        · clear h'
          go_simp
        simp only [Act.put]
        refine wpAnyH_take (i := 1) (oi := ⟨some 20, Op.move (Operand.tmp 0), _, _, _, none⟩) (v := (.string T)) rfl (by kernel_rfl) (by kernel_rfl) (by kernel_rfl) (fun _ _ _ h => h) (Or.inl ⟨by rfl, fun w' h' => ?_⟩) hS ?_
        · clear h'
          go_simp
        simp only [Act.put]
        refine wpAnyH_take (i := 2) (oi := ⟨some 21, Op.move (Operand.tmp 4), _, _, _, none⟩) (v := (.int .i64 (j : Int))) rfl (by kernel_rfl) (by kernel_rfl) (by kernel_rfl) (fun _ _ _ h => h) (Or.inl ⟨by rfl, fun w' h' => ?_⟩) hS ?_
        · clear h'
          go_simp
        simp only [Act.put]
        refine wpAnyH_take (i := 3) (oi := ⟨some 22, Op.index 9 (Operand.tmp 20) (Operand.tmp 21), _, _, _, none⟩) (v := (.int .u8 (X : Int))) rfl (by kernel_rfl) (by kernel_rfl) (by kernel_rfl) (fun _ _ _ h => h) (Or.inl ⟨by rfl, fun w' h' => ?_⟩) hS ?_
        · have c0 := HX.out
          clear h'
          go_simp
          try intro hq
          try omega
        simp only [Act.put]
        refine wpAnyH_take (i := 4) (oi := ⟨some 23, Op.convert 5 3 (Operand.tmp 22), _, _, _, none⟩) (v := (.int .i64 (X : Int))) rfl (by kernel_rfl) (by kernel_rfl) (by kernel_rfl) (fun _ _ _ h => h) (Or.inl ⟨by rfl, fun w' h' => ?_⟩) hS ?_
        · have c0 := w1.out
          clear h'
          go_simp
        simp only [Act.put]
        refine wpAnyH_take (i := 5) (oi := ⟨some 24, Op.binOp BinOp.mul 3 (Operand.const (Value.int IntKind.i64 256)) (Operand.tmp 23) 3, _, _, _, none⟩) (v := (.int .i64 (256 * (X : Int)))) rfl (by kernel_rfl) (by kernel_rfl) (by kernel_rfl) (fun _ _ _ h => h) (Or.inl ⟨by rfl, fun w' h' => ?_⟩) hS ?_
        · have c0 := w2.out
          clear h'
          go_simp
        simp only [Act.put]
        refine wpAnyH_take (i := 6) (oi := ⟨some 25, Op.binOp BinOp.add 3 (Operand.tmp 19) (Operand.tmp 24) 3, _, _, _, none⟩) (v := (.int .i64 ((Z : Int) + 256 * (X : Int)))) rfl (by kernel_rfl) (by kernel_rfl) (by kernel_rfl) (fun _ _ _ h => h) (Or.inl ⟨by rfl, fun w' h' => ?_⟩) hS ?_
        · have c0 := w3.out
          clear h'
          go_simp
        simp only [Act.put]
        refine wpAnyH_take (i := 7) (oi := ⟨some 26, Op.move (Operand.tmp 0), _, _, _, none⟩) (v := (.string T)) rfl (by kernel_rfl) (by kernel_rfl) (by kernel_rfl) (fun _ _ _ h => h) (Or.inl ⟨by rfl, fun w' h' => ?_⟩) hS ?_
        · clear h'
          go_simp
        simp only [Act.put]
        refine wpAnyH_take (i := 8) (oi := ⟨some 27, Op.move (Operand.tmp 4), _, _, _, none⟩) (v := (.int .i64 (j : Int))) rfl (by kernel_rfl) (by kernel_rfl) (by kernel_rfl) (fun _ _ _ h => h) (Or.inl ⟨by rfl, fun w' h' => ?_⟩) hS ?_
        · clear h'
          go_simp
        simp only [Act.put]
        refine wpAnyH_take (i := 9) (oi := ⟨some 28, Op.binOp BinOp.add 3 (Operand.tmp 27) (Operand.const (Value.int IntKind.i64 1)) 3, _, _, _, none⟩) (v := (.int .i64 ((j : Int) + 1))) rfl (by kernel_rfl) (by kernel_rfl) (by kernel_rfl) (fun _ _ _ h => h) (Or.inl ⟨by rfl, fun w' h' => ?_⟩) hS ?_
        · have c0 := w4.out
          clear h'
          go_simp
        simp only [Act.put]
        refine wpAnyH_take (i := 10) (oi := ⟨some 29, Op.index 9 (Operand.tmp 26) (Operand.tmp 28), _, _, _, none⟩) (v := (.int .u8 (Y : Int))) rfl (by kernel_rfl) (by kernel_rfl) (by kernel_rfl) (fun _ _ _ h => h) (Or.inl ⟨by rfl, fun w' h' => ?_⟩) hS ?_
        · have c0 := HY.out
          have c1 := HN.out
          clear h'
          go_simp
          try intro hq
          try omega
        simp only [Act.put]
        refine wpAnyH_take (i := 11) (oi := ⟨some 30, Op.convert 5 3 (Operand.tmp 29), _, _, _, none⟩) (v := (.int .i64 (Y : Int))) rfl (by kernel_rfl) (by kernel_rfl) (by kernel_rfl) (fun _ _ _ h => h) (Or.inl ⟨by rfl, fun w' h' => ?_⟩) hS ?_
        · have c0 := w5.out
          clear h'
          go_simp
        simp only [Act.put]
        refine wpAnyH_take (i := 12) (oi := ⟨some 31, Op.binOp BinOp.add 3 (Operand.tmp 25) (Operand.tmp 30) 3, _, _, _, none⟩) (v := (.int .i64 ((Z : Int) + 256 * (X : Int) + (Y : Int)))) rfl (by kernel_rfl) (by kernel_rfl) (by kernel_rfl) (fun _ _ _ h => h) (Or.inl ⟨by rfl, fun w' h' => ?_⟩) hS ?_
        · have c0 := w6.out
          clear h'
          go_simp
        simp only [Act.put]
        refine wpAnyH_take (i := 13) (oi := ⟨some 3, Op.assign (Operand.tmp 31), _, _, _, none⟩) (v := (.int .i64 ((Z : Int) + 256 * (X : Int) + (Y : Int)))) rfl (by kernel_rfl) (by kernel_rfl) (by kernel_rfl) (fun _ _ _ h => h) (Or.inl ⟨by rfl, fun w' h' => ?_⟩) hS ?_
        · clear h'
          go_simp
        simp only [Act.put]
        refine wpAnyH_done (by kernel_rfl) (NoPanic.normal ?_) _
        
        simp only [List.setIfInBounds_toArray, List.set_cons_zero, List.set_cons_succ]
        go_wp2_with fail
        go_roundw
        case rel => exact ⟨j + 2, by omega, by omega, by go_num, by rw [HP.out]; go_num, BV⟩
        case measure => simp [intOf]; omega
      · have hz2 : j = T.size := by omega
        have htk : T.data.toList.take j = T.data.toList := List.take_of_length_le (by rw [HL.out]; omega)
        have hb := tot_take_le T.data.toList j 100001 (by omega)
        rw [htk] at hb ⊢
        clear htk
        generalize tot T.data.toList = V at hb HT ⊢
        subst hz2
        go_wp2
        go_loopw [3] (fun x wr => ∃ m : Nat, m ≤ V ∧ cm m = cm V ∧ x = .int .i64 m ∧ Hid (Below w.heap.size w wr)) (fun x _ => (intOf x).toNat)
        case atStart => exact ⟨V, Nat.le_refl _, rfl, rfl, bl⟩
        case round =>
          obtain ⟨m, hmV, hcm, rfl, bm⟩ := hrel
          have HC := Lib.hid hcm
          clear hcm bl
          by_cases h65 : 65535 < m
          · go_wp2
            go_roundw
            case rel => exact ⟨m / 65536 + m % 65536, by omega, by rw [cm_step h65, HC.out], by go_num, bm⟩
            case measure => simp [intOf]; omega
          · have e3 : cm m = m := cm_small (by omega)
            have e4 := HC.out
            rw [e3] at e4
            have hRm : Hid (R = 65535 - m) := Lib.hid (by rw [HT.out, ← e4])
            clear e3 e4
            go_wp2
            go_ret
            exact ⟨by rw [hRm.out]; go_num, bm.out⟩
  · have e1 : ((s.size : Int) % 2 == 1) = false := by simp; omega
    go_enter Try.func28, Try.ntmps28
    go_upto_region 3 with fail
    have BL : Hid (Below w.heap.size w w) := Lib.hid (Below.refl _ _)
    have hz : s.size % 2 = 0 := by omega
    have hm : s.size ≤ 100001 := by omega
    have HT : Hid (R = 65535 - cm (tot s.data.toList)) := Lib.hid (by rw [HR.out, sumT])
    clear e1 ho hv hs
    have hl := size_list s
    have HL := Lib.hid hl
    clear hl
    go_wp2
    go_loopw [3, 4] (fun x i wr => ∃ j : Nat, j % 2 = 0 ∧ j ≤ s.size ∧ i = .int .i64 j ∧ x = .int .i64 (tot (s.data.toList.take j)) ∧ Hid (Below w.heap.size w wr)) (fun _ i _ => s.size - (intOf i).toNat)
    case atStart => exact ⟨0, rfl, by omega, rfl, rfl, BL⟩
    case round =>
      obtain ⟨j, hj2, hj, rfl, rfl, bl⟩ := hrel
      clear BL
      by_cases hlt : j < s.size
      · have hlt2 : j + 1 < s.size := by omega
        obtain ⟨X, hX⟩ : ∃ X : Nat, (s[j]'hlt).toNat = X := ⟨_, rfl⟩
        obtain ⟨Y, hY⟩ : ∃ Y : Nat, (s[j + 1]'hlt2).toNat = Y := ⟨_, rfl⟩
        have hp := tot_pair s.data.toList j s[j] s[j + 1] hj2 (by rw [Array.getElem?_toList]; exact Array.getElem?_eq_getElem hlt) (by rw [Array.getElem?_toList]; exact Array.getElem?_eq_getElem hlt2)
        rw [hX, hY] at hp
        have hX2 : X < 256 := by rw [← hX]; exact UInt8.toNat_lt _
        have hY2 : Y < 256 := by rw [← hY]; exact UInt8.toNat_lt _
        have hb := tot_take_le s.data.toList j 100001 (by omega)
        obtain ⟨Z, hZ⟩ : ∃ Z, tot (s.data.toList.take j) = Z := ⟨_, rfl⟩
        rw [hZ] at hp hb ⊢
        have HP := Lib.hid hp
        have HX := Lib.hid hX
        have HY := Lib.hid hY
        have w1 := Lib.hid (wrap_nat X (by omega))
        have w2 : Hid (IntKind.i64.wrap (256 * (X : Int)) = 256 * (X : Int)) := Lib.hid (IntWalk.i64_in _ (by omega))
        have w3 : Hid (IntKind.i64.wrap ((Z : Int) + 256 * (X : Int)) = (Z : Int) + 256 * (X : Int)) := Lib.hid (IntWalk.i64_in _ (by omega))
        have w4 : Hid (IntKind.i64.wrap ((j : Int) + 1) = (j : Int) + 1) := Lib.hid (IntWalk.i64_in _ (by omega))
        have w5 := Lib.hid (wrap_nat Y (by omega))
        have w6 : Hid (IntKind.i64.wrap ((Z : Int) + 256 * (X : Int) + (Y : Int)) = (Z : Int) + 256 * (X : Int) + (Y : Int)) := Lib.hid (IntWalk.i64_in _ (by omega))
        have hN : ((j : Int) + 1).toNat = j + 1 := by omega
        have HN := Lib.hid hN
        clear hp hX hY hZ hb hN
        go_upto_region 7 with fail
        refine wp_region_noPanic ?_
        refine region_heldE (S := fun _ => True) (by kernel_rfl) (fun V d => trivial) (fun V d hS => ?_)
        have BV := bstep bl d.below
        clear d
        refine wpAnyH_take (i := 0) (oi := ⟨some 19, Op.move (Operand.tmp 3), _, _, _, none⟩) (v := (.int .i64 (Z : Int))) rfl (by kernel_rfl) (by kernel_rfl) (by kernel_rfl) (fun _ _ _ h => h) (Or.inl ⟨by rfl, fun w' h' => ?_⟩) hS ?_
        · clear h'
          go_simp
        simp only [Act.put]
        refine wpAnyH_take (i := 1) (oi := ⟨some 20, Op.move (Operand.tmp 0), _, _, _, none⟩) (v := (.string s)) rfl (by kernel_rfl) (by kernel_rfl) (by kernel_rfl) (fun _ _ _ h => h) (Or.inl ⟨by rfl, fun w' h' => ?_⟩) hS ?_
        · clear h'
          go_simp
        simp only [Act.put]
        refine wpAnyH_take (i := 2) (oi := ⟨some 21, Op.move (Operand.tmp 4), _, _, _, none⟩) (v := (.int .i64 (j : Int))) rfl (by kernel_rfl) (by kernel_rfl) (by kernel_rfl) (fun _ _ _ h => h) (Or.inl ⟨by rfl, fun w' h' => ?_⟩) hS ?_
        · clear h'
          go_simp
        simp only [Act.put]
        refine wpAnyH_take (i := 3) (oi := ⟨some 22, Op.index 9 (Operand.tmp 20) (Operand.tmp 21), _, _, _, none⟩) (v := (.int .u8 (X : Int))) rfl (by kernel_rfl) (by kernel_rfl) (by kernel_rfl) (fun _ _ _ h => h) (Or.inl ⟨by rfl, fun w' h' => ?_⟩) hS ?_
        · have c0 := HX.out
          clear h'
          go_simp
          try intro hq
          try omega
        simp only [Act.put]
        refine wpAnyH_take (i := 4) (oi := ⟨some 23, Op.convert 5 3 (Operand.tmp 22), _, _, _, none⟩) (v := (.int .i64 (X : Int))) rfl (by kernel_rfl) (by kernel_rfl) (by kernel_rfl) (fun _ _ _ h => h) (Or.inl ⟨by rfl, fun w' h' => ?_⟩) hS ?_
        · have c0 := w1.out
          clear h'
          go_simp
        simp only [Act.put]
        refine wpAnyH_take (i := 5) (oi := ⟨some 24, Op.binOp BinOp.mul 3 (Operand.const (Value.int IntKind.i64 256)) (Operand.tmp 23) 3, _, _, _, none⟩) (v := (.int .i64 (256 * (X : Int)))) rfl (by kernel_rfl) (by kernel_rfl) (by kernel_rfl) (fun _ _ _ h => h) (Or.inl ⟨by rfl, fun w' h' => ?_⟩) hS ?_
        · have c0 := w2.out
          clear h'
          go_simp
        simp only [Act.put]
        refine wpAnyH_take (i := 6) (oi := ⟨some 25, Op.binOp BinOp.add 3 (Operand.tmp 19) (Operand.tmp 24) 3, _, _, _, none⟩) (v := (.int .i64 ((Z : Int) + 256 * (X : Int)))) rfl (by kernel_rfl) (by kernel_rfl) (by kernel_rfl) (fun _ _ _ h => h) (Or.inl ⟨by rfl, fun w' h' => ?_⟩) hS ?_
        · have c0 := w3.out
          clear h'
          go_simp
        simp only [Act.put]
        refine wpAnyH_take (i := 7) (oi := ⟨some 26, Op.move (Operand.tmp 0), _, _, _, none⟩) (v := (.string s)) rfl (by kernel_rfl) (by kernel_rfl) (by kernel_rfl) (fun _ _ _ h => h) (Or.inl ⟨by rfl, fun w' h' => ?_⟩) hS ?_
        · clear h'
          go_simp
        simp only [Act.put]
        refine wpAnyH_take (i := 8) (oi := ⟨some 27, Op.move (Operand.tmp 4), _, _, _, none⟩) (v := (.int .i64 (j : Int))) rfl (by kernel_rfl) (by kernel_rfl) (by kernel_rfl) (fun _ _ _ h => h) (Or.inl ⟨by rfl, fun w' h' => ?_⟩) hS ?_
        · clear h'
          go_simp
        simp only [Act.put]
        refine wpAnyH_take (i := 9) (oi := ⟨some 28, Op.binOp BinOp.add 3 (Operand.tmp 27) (Operand.const (Value.int IntKind.i64 1)) 3, _, _, _, none⟩) (v := (.int .i64 ((j : Int) + 1))) rfl (by kernel_rfl) (by kernel_rfl) (by kernel_rfl) (fun _ _ _ h => h) (Or.inl ⟨by rfl, fun w' h' => ?_⟩) hS ?_
        · have c0 := w4.out
          clear h'
          go_simp
        simp only [Act.put]
        refine wpAnyH_take (i := 10) (oi := ⟨some 29, Op.index 9 (Operand.tmp 26) (Operand.tmp 28), _, _, _, none⟩) (v := (.int .u8 (Y : Int))) rfl (by kernel_rfl) (by kernel_rfl) (by kernel_rfl) (fun _ _ _ h => h) (Or.inl ⟨by rfl, fun w' h' => ?_⟩) hS ?_
        · have c0 := HY.out
          have c1 := HN.out
          clear h'
          go_simp
          try intro hq
          try omega
        simp only [Act.put]
        refine wpAnyH_take (i := 11) (oi := ⟨some 30, Op.convert 5 3 (Operand.tmp 29), _, _, _, none⟩) (v := (.int .i64 (Y : Int))) rfl (by kernel_rfl) (by kernel_rfl) (by kernel_rfl) (fun _ _ _ h => h) (Or.inl ⟨by rfl, fun w' h' => ?_⟩) hS ?_
        · have c0 := w5.out
          clear h'
          go_simp
        simp only [Act.put]
        refine wpAnyH_take (i := 12) (oi := ⟨some 31, Op.binOp BinOp.add 3 (Operand.tmp 25) (Operand.tmp 30) 3, _, _, _, none⟩) (v := (.int .i64 ((Z : Int) + 256 * (X : Int) + (Y : Int)))) rfl (by kernel_rfl) (by kernel_rfl) (by kernel_rfl) (fun _ _ _ h => h) (Or.inl ⟨by rfl, fun w' h' => ?_⟩) hS ?_
        · have c0 := w6.out
          clear h'
          go_simp
        simp only [Act.put]
        refine wpAnyH_take (i := 13) (oi := ⟨some 3, Op.assign (Operand.tmp 31), _, _, _, none⟩) (v := (.int .i64 ((Z : Int) + 256 * (X : Int) + (Y : Int)))) rfl (by kernel_rfl) (by kernel_rfl) (by kernel_rfl) (fun _ _ _ h => h) (Or.inl ⟨by rfl, fun w' h' => ?_⟩) hS ?_
        · clear h'
          go_simp
        simp only [Act.put]
        refine wpAnyH_done (by kernel_rfl) (NoPanic.normal ?_) _
        
        simp only [List.setIfInBounds_toArray, List.set_cons_zero, List.set_cons_succ]
        go_wp2_with fail
        go_roundw
        case rel => exact ⟨j + 2, by omega, by omega, by go_num, by rw [HP.out]; go_num, BV⟩
        case measure => simp [intOf]; omega
      · have hz2 : j = s.size := by omega
        have htk : s.data.toList.take j = s.data.toList := List.take_of_length_le (by rw [HL.out]; omega)
        have hb := tot_take_le s.data.toList j 100001 (by omega)
        rw [htk] at hb ⊢
        clear htk
        generalize tot s.data.toList = V at hb HT ⊢
        subst hz2
        go_wp2
        go_loopw [3] (fun x wr => ∃ m : Nat, m ≤ V ∧ cm m = cm V ∧ x = .int .i64 m ∧ Hid (Below w.heap.size w wr)) (fun x _ => (intOf x).toNat)
        case atStart => exact ⟨V, Nat.le_refl _, rfl, rfl, bl⟩
        case round =>
          obtain ⟨m, hmV, hcm, rfl, bm⟩ := hrel
          have HC := Lib.hid hcm
          clear hcm bl
          by_cases h65 : 65535 < m
          · go_wp2
            go_roundw
            case rel => exact ⟨m / 65536 + m % 65536, by omega, by rw [cm_step h65, HC.out], by go_num, bm⟩
            case measure => simp [intOf]; omega
          · have e3 : cm m = m := cm_small (by omega)
            have e4 := HC.out
            rw [e3] at e4
            have hRm : Hid (R = 65535 - m) := Lib.hid (by rw [HT.out, ← e4])
            clear e3 e4
            go_wp2
            go_ret
            exact ⟨by rw [hRm.out]; go_num, bm.out⟩

end Go.Proofs.Ytbjoibgkhooljaa

namespace Go.Proofs.Ytbjoibgkhooljaa
open Go.RowKit Go.Sort
set_option linter.unusedVariables false

theorem upon_store9 {P : Program} {o : Oper} {a : Act} {w w' : World} {K : Act → World → Prop} {Q : Exit → Act → World → Prop} (t : TypeId) (p x : Operand) (ho : o.op = .store t p x) (hd : o.dst = none) (v : Value) (g : Nat) (hp : a.eval p = .pointer (some ⟨g, 0, none⟩)) (hx : a.eval x = v)
    (hr : (storeVar t ⟨g, 0, none⟩ v).run P w = .ok () w') (h : K a w') : o.wp P a w K Q :=
  upon_store t p x ho v g hp hx hr (by rw [hd]; exact h)
theorem rdy_store9 {P : Program} {ops : Array Oper} {Q : Exit → Act → World → Prop} {md : Region.Mode} {S : World → Prop} {fuel : Nat} {listed : Array Bool} {a : Act} {w w' : World} {n : Nat} {o : Oper} (ho : ops[n]? = some o) (hgd : o.guard = none) (t : TypeId) (p x : Operand) (hop : o.op = .store t p x) (hd : o.dst = none) (v : Value) (g : Nat) (hp : a.eval p = .pointer (some ⟨g, 0, none⟩)) (hx : a.eval x = v)
    (hr : (storeVar t ⟨g, 0, none⟩ v).run P w = .ok () w') (hS : S w') (h : wpAnyH P md ops Q S fuel (listed.setIfInBounds n true) a w') : AllReadyH P md ops Q S fuel listed a w [n] :=
  AllReadyH.cons ho (fun K hK => by
    have hw : Region.wanted o (yielded ops a.tmps) = true := by simp [Region.wanted, hgd]
    rw [if_pos hw]
    exact upon_store9 t p x hop hd v g hp hx hr (hK.out _ _ hS (fun _ => h))) AllReadyH.nil

end Go.Proofs.Ytbjoibgkhooljaa
