/-
  A batch of noughts.
-/
import Derived.Test.YtkdpfajoeajenaaRecA
namespace Go.Proofs.Ytkdpfajoeajenaa
open Go.RowKit
set_option linter.unusedVariables false
set_option linter.unusedSimpArgs false

def zB : Bat := ⟨0, 0, 0, 0, 0, 0, []⟩
end Go.Proofs.Ytkdpfajoeajenaa
