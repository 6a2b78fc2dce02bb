/-
  The document's port of layer 2: the contracts of Free, inside and Done. Conditions: the memory has at most 5000 bytes, the base is at most 5000, a queue's size is one that may be.
-/
import Derived.Test.YtjelgifijhcnnaaQueue
import Derived.StillTailTactics
import Derived.Deep.RegionWith
namespace Go.Proofs.Ytjelgifijhcnnaa
open Go.RowKit Go.Sort

set_option maxHeartbeats 400000 in
theorem Free_any (base : Int) (n : Nat) (told back : Int) (broken : Bool) (v : Value) (l : List Ch) (w : World) (hn : n ≤ 64) (hv : IsChs w v l) :
    Calls Try.prog 19 #[.agg #[.int .i64 base, .int .i64 n, v, .int .i64 told, .int .i64 back, .bool broken]] w
      fun e w' => e = .returned (.int .i64 (freeL l n).length) ∧ w.grownBy w' none := by
  have hv0 := hv
  obtain ⟨p, cap, rfl, _⟩ := hv0
  have FC := Lib.hid (fun w0 (hw : w.grownBy w0 none) => free_any base n told back broken (.slice p l.length cap) l w0 hn (hv.kept (kept_grown hw)))
  clear hv
  go_enter Try.func19, Try.ntmps19
  go_wp2_with fail
  refine (FC.out _ (World.grownBy_alloc _ _ _)).mono ?_
  rintro e w1 ⟨⟨r, rfl, hr⟩, k1⟩
  obtain ⟨q, m, rfl, _⟩ := hr
  have k2 := (World.grownBy_alloc w (.cells #[.int .i64 base, .int .i64 n, .slice p l.length cap, .int .i64 told, .int .i64 back, .bool broken] 40) none).trans k1
  go_wp2_with fail
  go_ret
  exact ⟨rfl, k2⟩

set_option maxHeartbeats 400000 in
theorem rinside_any (w : World) (l : List UInt8) (a n : Int) (b : Bool) (hl : l.length ≤ 9223372036854775807) :
    Calls Try.prog 71 #[.string ⟨l.toArray⟩, .agg #[.int .i64 a, .int .i64 n, .bool b]] w
      fun e w' => e = .returned (.bool (textE l a n == 0)) ∧ w.grownBy w' none := by
  obtain ⟨E, hE⟩ : ∃ E, E = textE l a n := ⟨_, rfl⟩
  have RC := fun w => refText_all w l a n hl
  rw [← hE] at RC ⊢
  have RC' := Lib.hid RC
  clear RC hE
  go_enter Try.func71, Try.ntmps71
  go_wp2_with fail
  refine (RC'.out _).mono ?_
  rintro e w1 ⟨rfl, rfl⟩
  go_wp2_with fail
  go_ret
  exact ⟨rfl, World.grownBy_alloc _ _ _⟩

end Go.Proofs.Ytjelgifijhcnnaa
