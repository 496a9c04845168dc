/-
  A piece of a batch is a part of it.
-/
import Derived.Test.YtapnhhoegoakiaaRecPp
namespace Go.Proofs.Ytapnhhoegoakiaa
open Go.RowKit
set_option linter.unusedVariables false
set_option linter.unusedSimpArgs false

theorem fine_seq {b : Bat} (hF : Fine b) (h : b.pid = 0) : b.seq = 0 := by
  have h1 := hF.form
  unfold formB at h1
  by_cases hs : b.seq = 0
  · exact hs
  · rw [if_pos (by simp [h, hs])] at h1
    cases h1
theorem piece_part {b : Bat} (hF : Fine b) (i : Nat) : pieceB b i b.L.length = partB b i b.L.length := by
  unfold pieceB partB
  have hp := hF.p1
  by_cases h : b.pid = 0
  · rw [if_pos h, if_neg (by omega), fine_seq hF h]
  · rw [if_neg h, if_pos (by omega)]
theorem part_zero {b : Bat} : partB b 0 b.L.length = b := by
  unfold partB
  obtain ⟨base, pid, epoch, seq, kind, time, L⟩ := b
  by_cases h : pid = 0 <;> simp [h]
theorem fine_long {b : Bat} (hF : Fine b) (h : markB b = false) : 0 < b.L.length := by
  have h1 := hF.form
  unfold formB at h1
  split at h1
  · cases h1
  · rw [h] at h1
    simpa using h1

end Go.Proofs.Ytapnhhoegoakiaa
