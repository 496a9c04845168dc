/-
  What a reader's At does.
-/
import Derived.Test.YtgbdgpacnpeahaaWireNew
namespace Go.Proofs.Ytgbdgpacnpeahaa
open Go.RowKit
set_option linter.unusedVariables false
set_option linter.unusedSimpArgs false

set_option maxHeartbeats 400000 in
theorem at_any (g c p err : Nat) (A : Option Addr) (l : List UInt8) (w : World) (h : Rd w g A c l p err) :
    Calls Try.prog 14 #[.pointer (some ⟨g, 0, none⟩)] w fun e w' => e = .returned (.int .i64 (p : Int)) ∧ w' = w := by
  have c1 := h.c1
  clear h
  go_enter Try.func14, Try.ntmps14
  go_wp2_with go_in
  go_ret
  exact ⟨rfl, rfl⟩
end Go.Proofs.Ytgbdgpacnpeahaa
