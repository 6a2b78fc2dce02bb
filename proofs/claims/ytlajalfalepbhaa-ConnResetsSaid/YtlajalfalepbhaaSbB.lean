/-
  Layer 13: slices.Delete of the first bytes; Write, Ack, Get. Conditions: as said.
-/
import Derived.Test.YtlajalfalepbhaaSbA
import Derived.Lib.AppendStr
namespace Go.Proofs.Ytlajalfalepbhaa
open Go.RowKit
set_option linter.unusedVariables false

theorem wpList_appS {P : Program} {ops : Array Oper} {rest : List Oper} {o : Oper} {a : Act} {w : World} {Q : Exit → Act → World → Prop} (hg : o.guard = none) (s x : Operand) (t t' : TypeId) (hop : o.op = Op.call { callee := Callee.builtin Builtin.append, args := #[s, x], argTypes := #[t, t'] })
    (vs vx v : Value) (w' : World) (hs : a.eval s = vs) (hx : a.eval x = vx) (hr : ∀ ty, (Builtin.append_ #[t, t'] ty #[vs, vx]).run P w = .ok v w') (hK : wpList P ops Q rest (a.put o.dst v) w') : wpList P ops Q (o :: rest) a w := by
  refine wpList_plain hg fun K hKK => ?_
  unfold Oper.wp
  simp only [execOp, hop, resolve, invoke, builtin, Sem.run_bind, Sem.run_pure, Result.andThen_ok, List.map_toArray, List.map_cons, List.map_nil, hs, hx, hr]
  exact hKK _ _ hK
theorem step_appS {P : Program} {ops : Array Oper} {o : Oper} {a : Act} {w : World} {K : Act → World → Prop} {Q : Exit → Act → World → Prop} {E : Prop} (hg : o.guard = none) (s x : Operand) (t t' : TypeId) (hop : o.op = Op.call { callee := Callee.builtin Builtin.append, args := #[s, x], argTypes := #[t, t'] })
    (vs vx v : Value) (w' : World) (hs : a.eval s = vs) (hx : a.eval x = vx) (hr : ∀ ty, (Builtin.append_ #[t, t'] ty #[vs, vx]).run P w = .ok v w') (hK : K (a.put o.dst v) w') : if Region.wanted o (yielded ops a.tmps) = true then Oper.wp P o a w K Q else E := by
  have hw : Region.wanted o (yielded ops a.tmps) = true := by simp [Region.wanted, hg]
  rw [if_pos hw]
  unfold Oper.wp
  simp only [execOp, hop, resolve, invoke, builtin, Sem.run_bind, Sem.run_pure, Result.andThen_ok, List.map_toArray, List.map_cons, List.map_nil, hs, hx, hr]
  exact hK
theorem strCells_map (D : ByteArray) : Lib.strCells D = D.data.toList.map ebS := rfl
theorem padB_push {L : List UInt8} {n : Nat} (d : List UInt8) (h : L.length + d.length ≤ n) : (padB L n).take L.length ++ d.map ebS ++ (padB L n).drop (L.length + d.length) = padB (L ++ d) n := by
  unfold padB
  rw [List.take_left' (by rw [List.length_map]), List.drop_append, List.length_map, List.drop_eq_nil_of_le (by rw [List.length_map]; omega), List.nil_append, List.drop_replicate, List.map_append, List.length_append]
  congr 2
  omega
theorem app_in {w : World} {b n : Nat} {L : List UInt8} (h : w.heap[b]? = some (.cells (padB L n).toArray 5 (0, 0))) (D : ByteArray) (d : List UInt8) (hd : D.data.toList = d) (k : L.length + d.length ≤ n) (ty : TypeId) :
    (Builtin.append_ #[51, 9] ty #[.slice (some ⟨b, 0, none⟩) L.length n, .string D]).run Try.prog w = .ok (.slice (some ⟨b, 0, none⟩) (L.length + d.length) n) (w.setRow b (padB (L ++ d) n).toArray) := by
  obtain ⟨i, z, hi, hz, h1, h2, h3⟩ := info_u8
  have hs : D.size = d.length := by rw [← hd, Array.length_toList]; rfl
  have hl : (padB L n).length = n := padB_len (by omega)
  have hr := Lib.run_append_room_string (P := Try.prog) w 51 9 ty 5 i Try.underlying51 Try.underlying9 hi h1 b L.length n (padB L n).toArray h D (by omega) (by rw [List.size_toArray, hl]; omega)
  rw [strCells_map, hs, hd, padB_push d k] at hr
  exact hr
section
variable {w w' : World} {g b n : Nat} {u : Int} {L : List UInt8}
theorem Sb.pushed (h : Sb w g b n u L) (d : List UInt8) (k : L.length + d.length ≤ n) :
    Sb ((w.setRow b (padB (L ++ d) n).toArray).setCell ⟨g, 2, none⟩ (.slice (some ⟨b, 0, none⟩) (L.length + d.length) n)) g b n u (L ++ d) := by
  refine ⟨?_, ?_, h.ne, by rw [List.length_append]; exact k, h.n1, h.n2, h.x0, h.x1⟩
  · have e0 := (setRow_other w b g (padB (L ++ d) n).toArray (fun e => h.ne e.symm)).trans h.at_
    rw [set_cellsB e0 _ (by show 2 < 4; omega), List.length_append]
    rfl
  · rw [Below.heap_setCell _ _ _ _ (by show b ≠ g; exact h.ne)]
    exact setRow_heap w b _ _ _ _ h.row
end
set_option maxRecDepth 100000 in
set_option maxHeartbeats 2000000 in
theorem sawrite_ok {w : World} {g b n : Nat} {u : Int} {L : List UInt8} (h : Sb w g b n u L) (D : ByteArray) (k : Nat) (hk : k = min D.size (n - L.length)) (d : List UInt8) (hd : d = D.data.toList.take k) :
    Calls Try.prog 51 #[.pointer (some ⟨g, 0, none⟩), .string D] w fun e w' => e = .returned (.int .i64 k) ∧ Sb w' g b n u (L ++ d) ∧ Turn w w' (fun j => j = g ∨ j = b) := by
  have hle := h.le
  have hn2 := h.n2
  have hdl : d.length = k := by rw [hd, List.length_take, Array.length_toList]; show min k D.size = k; omega
  have hE : (D.extract 0 k).data.toList = d := by rw [ByteArray.data_extract, Array.toList_extract, List.extract_eq_take_drop, List.drop_zero, Nat.sub_zero, hd]
  have e1 : min (D.size : Int) ((n - L.length : Nat) : Int) = (k : Int) := by omega
  have e2 : (k : Int) ≤ (D.size : Int) := by omega
  have e3 : (0 : Int) ≤ (k : Int) := by omega
  obtain ⟨r, hr⟩ : ∃ r, r = n - L.length := ⟨_, rfl⟩
  have KR := Lib.hid (saroom_ok h r (by omega))
  rw [← hr] at e1
  have HH := Lib.hid h
  have HD := Lib.hid (show L.length + d.length ≤ n by omega)
  have HE := Lib.hid hE
  have HDL := Lib.hid hdl
  clear h hk hd hle hE hr hdl
  generalize hEX : D.extract 0 k = E at HE
  go_enter Try.func51, Try.ntmps51
  go_upto_region 4 with (first | (go_at_call 75; refine (snone_no HH.out).mono ?_; rintro e w' ⟨rfl, rfl⟩) | (go_at_call 57; refine KR.out.mono ?_; rintro e w2 ⟨rfl, q⟩; have Q0 := Lib.hid q; clear q))
  have H1 := Lib.hid (HH.out.below Q0.out)
  have c2 := H1.out.c2
  obtain ⟨W1, hW1⟩ : ∃ W1, W1 = w2.drew.setRow b (padB (L ++ d) n).toArray := ⟨_, rfl⟩
  have KA : Hid (∀ ty, (Builtin.append_ #[51, 9] ty #[.slice (some ⟨b, 0, none⟩) L.length n, .string E]).run Try.prog w2.drew = .ok (.slice (some ⟨b, 0, none⟩) (L.length + d.length) n) W1) := Lib.hid (fun ty => by
    rw [hW1]
    exact app_in (w := w2.drew) H1.out.row E d HE.out HD.out ty)
  have HS : Hid (Sb (W1.setCell ⟨g, 2, none⟩ (.slice (some ⟨b, 0, none⟩) (L.length + d.length) n)) g b n u (L ++ d)) := Lib.hid (by
    rw [hW1]
    exact Sb.pushed (w := w2.drew) (H1.out.below ((Below.refl _ _).drew)) d HD.out)
  have T1 : Hid (Turn w (W1.setCell ⟨g, 2, none⟩ (.slice (some ⟨b, 0, none⟩) (L.length + d.length) n)) (fun j => j = g ∨ j = b)) := Lib.hid (by
    rw [hW1]
    exact ((Turn.of_below (Q0.out.drew)).setRow (.inr rfl) _).setCell (.inl rfl) _ _)
  have e0 : W1.heap[g]? = some (.cells #[.int .u32 u, .int .i64 n, .slice (some ⟨b, 0, none⟩) L.length n, .pointer (some ⟨g, 0, none⟩)] 85 (0, 0)) := by
    rw [hW1]
    exact (setRow_other w2.drew b g (padB (L ++ d) n).toArray (fun e => H1.out.ne e.symm)).trans H1.out.at_
  have f2 : W1.frozen? ⟨g, 2, none⟩ = false := by simp [World.frozen?, e0]
  have k2 : W1.cell? ⟨g, 2, none⟩ = some (.slice (some ⟨b, 0, none⟩) L.length n) := by rw [cell_of_block e0]; rfl
  clear hW1 e0 H1
  go_region_law (refine step_appS rfl (.tmp 17) (.tmp 20) 51 9 rfl (.slice (some ⟨b, 0, none⟩) L.length n) (.string E) _ _ (by simp [Act.eval]) (by simp [Act.eval]) KA.out ?_)
  go_wp2_with fail
  go_ret
  exact ⟨rfl, HS.out, T1.out⟩
end Go.Proofs.Ytlajalfalepbhaa
