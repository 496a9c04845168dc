/-
  A text that is cut, as the law does it.
-/
import Derived.Test.YtebkgcnldbkgeaaDkQ
namespace Go.Proofs.Ytebkgcnldbkgeaa
open Go.RowKit Go.Lib Go.Sort Go.Maps
set_option linter.unusedVariables false
set_option linter.unusedSimpArgs false

def shortB (s : ByteArray) (m : Nat) : ByteArray := if m < s.size then s.extract 0 m else s
theorem short_size (s : ByteArray) (m : Nat) : (shortB s m).size ≤ m := by
  unfold shortB
  split
  · rw [ByteArray.size_extract]; omega
  · omega
set_option maxHeartbeats 1000000 in
theorem short_any4 (s : ByteArray) (m : Nat) (w : World) (hs : s.size ≤ maxLen) (hm : m ≤ 1000) : Calls Try.prog 22 #[.string s, .int .i64 (m : Int)] w fun e w' => e = .returned (.string (shortB s m)) ∧ w' = w := by
  unfold maxLen at hs
  go_enter Try.func22, Try.ntmps22
  by_cases h : m < s.size
  · have d1 : decide ((m : Int) < (s.size : Int)) = true := by rw [decide_eq_true_iff]; omega
    have d1' : decide (m < s.size) = true := decide_eq_true h
    have hX : Hid (shortB s m = s.extract 0 m) := by unfold shortB; rw [Hid, if_pos h]
    go_wp2_with fail
    go_ret
    exact ⟨by rw [hX.out]; rfl, rfl⟩
  · have d1 : decide ((m : Int) < (s.size : Int)) = false := by rw [decide_eq_false_iff_not]; omega
    have d1' : decide (m < s.size) = false := decide_eq_false h
    have hX : Hid (shortB s m = s) := by unfold shortB; rw [Hid, if_neg h]
    go_wp2_with fail
    go_ret
    exact ⟨by rw [hX.out]; rfl, rfl⟩
end Go.Proofs.Ytebkgcnldbkgeaa
