/-
  Structs as a row reads them: down to cells.
-/
import Derived.Test.YtebkgcnldbkgeaaLift
import Derived.Deep.Fields
import Derived.SliceStrings
namespace Go.Proofs.Ytebkgcnldbkgeaa
open Go.ChangeShapes Go.WideShapes Go.ChangeAt Go.RowKit Go.Deep
set_option linter.unusedVariables false
section
variable {H : Type} {enc : TypeId × Value → H} {W W' : World} {base : Nat} {spare : Nat → Bool} {held : Bool}
/-- a struct whose fields take one cell each: what each cell reads as -/
theorem each_field {t : TypeId} {fs : Array Field} {fuel : Nat} {cs : List Value} {x : DataW H × List MemPlace} (hs : Try.prog.underlying t = some (.struct fs)) (hone : oneCellFields Try.prog fs = true) (hC : Try.prog.cellsOf t = fs.size)
    (h : DataW.trod enc Try.prog W base spare held fuel t cs = some x) :
    cs.length = fs.size ∧ ∃ m, ∀ (j : Nat) (f : Field), fs[j]? = some f → ∃ v y, cs[j]? = some v ∧ DataW.trod enc Try.prog W base spare held m f.type [v] = some y := by
  obtain ⟨xs, m, _, _, hl, hxl, hf⟩ := DataW.trod_struct hs h
  rw [hC] at hl
  refine ⟨hl, m, fun j f hj => ?_⟩
  have hjl : j < fs.size := (Array.getElem?_eq_some_iff.1 hj).1
  obtain ⟨ho, hk⟩ := hone_of hone j f hj
  have h1 := hf j f hj
  rw [ho, hk, List.drop_eq_getElem_cons (by omega), List.take_succ_cons, List.take_zero, List.getElem?_eq_getElem (by omega)] at h1
  exact ⟨_, _, List.getElem?_eq_getElem (by omega), h1⟩
theorem pick_list {α : Type} [Inhabited α] {n : Nat} {Q : Nat → α → Prop} (h : ∀ i, i < n → ∃ l, Q i l) : ∃ L : List α, L.length = n ∧ ∀ i, i < n → Q i (L.getD i default) := by
  have h2 : ∀ i, ∃ l, i < n → Q i l := fun i => by
    by_cases hi : i < n
    · obtain ⟨l, hl⟩ := h i hi
      exact ⟨l, fun _ => hl⟩
    · exact ⟨default, fun h => absurd h hi⟩
  refine ⟨(List.range n).map (fun i => Classical.choose (h2 i)), by simp, fun i hi => ?_⟩
  have e : ((List.range n).map (fun i => Classical.choose (h2 i))).getD i default = Classical.choose (h2 i) := by
    rw [List.getD_eq_getElem?_getD, List.getElem?_map, List.getElem?_range hi]
    rfl
  rw [e]
  exact Classical.choose_spec (h2 i) hi
end
end Go.Proofs.Ytebkgcnldbkgeaa
