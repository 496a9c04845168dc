/-
  A batch of noughts.
-/
import Derived.Test.YtapnhhoegoakiaaRecA
namespace Go.Proofs.Ytapnhhoegoakiaa
open Go.RowKit
set_option linter.unusedVariables false
set_option linter.unusedSimpArgs false

def zB : Bat := ⟨0, 0, 0, 0, 0, 0, []⟩
end Go.Proofs.Ytapnhhoegoakiaa
