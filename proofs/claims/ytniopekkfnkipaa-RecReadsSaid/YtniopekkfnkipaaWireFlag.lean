/-
  What wire.Flag does.
-/
import Derived.Test.YtniopekkfnkipaaWireCutM
namespace Go.Proofs.Ytniopekkfnkipaa
open Go.RowKit
set_option linter.unusedVariables false
set_option linter.unusedSimpArgs false

theorem own_one (w : World) (b : UInt8) (u : Value) (h : u = bv b) : Own (w.alloc (.cells #[u] 5)) w.heap.size (.slice (some ⟨w.heap.size, 0, none⟩) 1 1) [b] := by
  subst h
  refine ⟨rfl, .inr ⟨w.heap.size, 1, #[bv b], rfl, Nat.le_refl _, heap_alloc_new w _, Nat.le_refl _, by unfold maxLen; omega, rfl, rfl⟩⟩
def encF_ (on : Bool) : List UInt8 := if on then [1] else [0]
set_option maxHeartbeats 400000 in
theorem wFlag_any (on : Bool) (w : World) :
    Calls Try.prog 53 #[.bool on] w fun e w' => ∃ v', e = .returned v' ∧ Own w' w.heap.size v' (encF_ on) ∧ Below w.heap.size w w' := by
  cases on with
  | true =>
    have HO := Lib.hid (own_one w 1 (.int .u8 1) rfl)
    go_enter Try.func53, Try.ntmps53
    go_wp2_with fail
    go_ret
    exact ⟨_, rfl, HO.out, (Below.refl _ _).alloc (Nat.le_refl _) _⟩
  | false =>
    have HO := Lib.hid (own_one w 0 (.int .u8 0) rfl)
    go_enter Try.func53, Try.ntmps53
    go_wp2_with fail
    go_ret
    exact ⟨_, rfl, HO.out, (Below.refl _ _).alloc (Nat.le_refl _) _⟩
end Go.Proofs.Ytniopekkfnkipaa
