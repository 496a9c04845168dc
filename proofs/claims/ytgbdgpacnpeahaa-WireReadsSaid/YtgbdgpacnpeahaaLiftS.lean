/-
  Structs, and slices of texts and of numbers, as a row reads them: down to cells.
-/
import Derived.Test.YtgbdgpacnpeahaaLiftI
import Derived.Test.YtgbdgpacnpeahaaLiftF
import Derived.Deep.Fields
import Derived.SliceStrings
namespace Go.Proofs.Ytgbdgpacnpeahaa
open Go.ChangeShapes Go.WideShapes Go.ChangeAt Go.RowKit Go.Deep
set_option linter.unusedVariables false
section
variable {H : Type} {enc : TypeId × Value → H} {W W' : World} {base : Nat} {spare : Nat → Bool} {held : Bool}
theorem texts_cell {fuel : Nat} {v : Value} {x : DataW H × List MemPlace} (h : DataW.trod enc Try.prog W base spare held fuel 25 [v] = some x) :
    ∃ A n c, ∃ L : List ByteArray, v = .slice A n c ∧ n ≤ c ∧ c ≤ maxLen ∧ L.length = n ∧ Lies W W.heap.size A (L.map .string) := by
  rcases open_strings Try.underlying25 Try.underlying9 (by kernel_rfl) h with ⟨hcs, _⟩ | ⟨a, len, cap, ss, hcs, _, hl, hm, hz, _, hcell, _⟩
  · simp at hcs
    exact ⟨none, 0, 0, [], hcs, by omega, by simp [maxLen], rfl, Lies.empty⟩
  · simp at hcs
    have hz' : len ≤ ss.length := by
      have := hz
      split at this <;> omega
    refine ⟨some a, len, cap, ss.take len, hcs, hl, hm, by rw [List.length_take]; omega, ⟨fun j u hj => ?_⟩⟩
    rw [List.getElem?_map, List.getElem?_take] at hj
    split at hj
    · rename_i hjl
      have hc := hcell j (by omega)
      rw [List.getElem?_eq_getElem (by omega)] at hj
      simp only [Option.map_some, Option.some.injEq] at hj
      rw [List.getD_eq_getElem?_getD, List.getElem?_eq_getElem (by omega), Option.getD_some, hj] at hc
      exact ⟨a, rfl, by have := cell_lt hc; rwa [add_block] at this, hc⟩
    · cases hj
theorem ints_cell {fuel : Nat} {v : Value} {x : DataW H × List MemPlace} (h : DataW.trod enc Try.prog W base spare held fuel 26 [v] = some x) :
    ∃ A n c l, v = .slice A n c ∧ n ≤ c ∧ c ≤ maxLen ∧ Is W W.heap.size A n l := by
  rcases open_ints Try.underlying26 Try.underlying2 (by kernel_rfl) h with ⟨hcs, _⟩ | ⟨a, len, cap, zs, hcs, _, hl, hm, hz, _, hcell, hwz⟩
  · simp at hcs
    exact ⟨none, 0, 0, [], hcs, by omega, by simp [maxLen], ⟨rfl, fun k hk => absurd hk (by omega)⟩⟩
  · simp at hcs
    have hz' : len ≤ zs.length := by
      have := hz
      split at this <;> omega
    refine ⟨some a, len, cap, zs.take len, hcs, hl, hm, ⟨by rw [List.length_take]; omega, fun k hk => ?_⟩⟩
    have hkz : k < zs.length := by omega
    have e : (zs.take len).getD k 0 = zs.getD k 0 := by
      rw [List.getD_eq_getElem?_getD, List.getD_eq_getElem?_getD, List.getElem?_take, if_pos hk]
    have hc := hcell k hkz
    have hb := bd_i64 (hwz (zs.getD k 0) (by rw [List.getD_eq_getElem?_getD, List.getElem?_eq_getElem hkz]; exact List.getElem_mem hkz))
    rw [e]
    exact ⟨a, rfl, by have := cell_lt hc; rwa [add_block] at this, hc, hb.1, hb.2⟩
end
end Go.Proofs.Ytgbdgpacnpeahaa
