/-
  A piece of a batch is a part of it.
  What merging batches comes to, as data.
-/
import Derived.Test.YtkdpfajoeajenaaRecPp
import Derived.Test.YtkdpfajoeajenaaRecFi
import Derived.Test.YtkdpfajoeajenaaGa
import Derived.Test.YtkdpfajoeajenaaGb
namespace Go.Proofs.Ytkdpfajoeajenaa
open Go.RowKit
set_option linter.unusedVariables false
set_option linter.unusedSimpArgs false

theorem fine_seq {b : Bat} (hF : Fine b) (h : b.pid = 0) : b.seq = 0 := by
  have h1 := hF.form
  unfold formB at h1
  by_cases hs : b.seq = 0
  · exact hs
  · rw [if_pos (by simp [h, hs])] at h1
    cases h1
theorem piece_part {b : Bat} (hF : Fine b) (i : Nat) : pieceB b i b.L.length = partB b i b.L.length := by
  unfold pieceB partB
  have hp := hF.p1
  by_cases h : b.pid = 0
  · rw [if_pos h, if_neg (by omega), fine_seq hF h]
  · rw [if_neg h, if_pos (by omega)]
theorem part_zero {b : Bat} : partB b 0 b.L.length = b := by
  unfold partB
  obtain ⟨base, pid, epoch, seq, kind, time, L⟩ := b
  by_cases h : pid = 0 <;> simp [h]
theorem fine_long {b : Bat} (hF : Fine b) (h : markB b = false) : 0 < b.L.length := by
  have h1 := hF.form
  unfold formB at h1
  split at h1
  · cases h1
  · rw [h] at h1
    simpa using h1

end Go.Proofs.Ytkdpfajoeajenaa
namespace Go.Proofs.Ytkdpfajoeajenaa
open Go.RowKit
set_option linter.unusedVariables false
set_option linter.unusedSimpArgs false

/-- each stands to the one ahead of it as a part does -/
def chainB : List Bat → Bool
  | a :: b :: l => folB a b && chainB (b :: l)
  | _ => true
def mergeE (l : List Bat) : Int := if l.length = 0 then 3 else if badE l ≠ 0 then badE l else if chainB l = false then 2 else if 64 < (catL l).length then 7 else 0
def mergeB (l : List Bat) : Bat := if mergeE l = 0 then { (l.getD 0 zB) with L := catL l } else zB
theorem chain_no : ∀ (l : List Bat) (k : Nat), k + 1 < l.length → folB (l.getD k zB) (l.getD (k + 1) zB) = false → chainB l = false := by
  intro l
  induction l with
  | nil => intro k h; simp at h
  | cons a l ih =>
    intro k hk hf
    cases l with
    | nil => simp at hk
    | cons b l =>
      unfold chainB
      cases k with
      | zero => have hf' : folB a b = false := by simpa using hf
                rw [hf']; rfl
      | succ k => rw [ih k (by simpa using hk) (by simpa using hf)]; simp
theorem chain_yes : ∀ (l : List Bat), (∀ k, k + 1 < l.length → folB (l.getD k zB) (l.getD (k + 1) zB) = true) → chainB l = true := by
  intro l
  induction l with
  | nil => intro _; rfl
  | cons a l ih =>
    intro h
    cases l with
    | nil => rfl
    | cons b l =>
      unfold chainB
      have h0 : folB a b = true := by simpa using h 0 (by simp)
      rw [h0, ih fun k hk => by simpa using h (k + 1) (by simpa using hk)]
      rfl
end Go.Proofs.Ytkdpfajoeajenaa
