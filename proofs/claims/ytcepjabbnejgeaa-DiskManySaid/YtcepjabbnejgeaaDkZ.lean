/-
  DiskMany as pure data.
-/
import Derived.Test.YtcepjabbnejgeaaDkX
namespace Go.Proofs.Ytcepjabbnejgeaa
open Go.RowKit Go.Lib Go.Sort Go.Maps
set_option linter.unusedVariables false
set_option linter.unusedSimpArgs false

deriving instance DecidableEq for Fl
deriving instance DecidableEq for PD
def nmM (i : Nat) : ByteArray := ⟨#[102, UInt8.ofNat (97 + i / 26), UInt8.ofNat (97 + i % 26)]⟩
def manyP (k : Nat) : PD := ⟨(List.range k).map fun i => ⟨nmM i, [120], 0⟩, 1000, false, 0⟩
theorem many_step : ∀ k, k < 128 → (manyP k).append (nmM k) [120] = (0, manyP (k + 1)) := by decide +kernel
theorem many_full : ∀ k, k < 19 → (manyP 128).append (nmM (128 + k)) [120] = (5, manyP 128) := by decide +kernel
end Go.Proofs.Ytcepjabbnejgeaa
