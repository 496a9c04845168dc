/-
  A slice of numbers (int) that came in.
-/
import Derived.Test.YtebkgcnldbkgeaaLift
import Derived.Test.YtebkgcnldbkgeaaIdxN
namespace Go.Proofs.Ytebkgcnldbkgeaa
open Go.ChangeShapes Go.WideShapes Go.ChangeAt Go.RowKit
set_option linter.unusedVariables false
section
variable {H : Type} {enc : TypeId × Value → H} {W W' : World}
set_option maxRecDepth 100000 in
theorem insl_in {base0 : Nat} {v : Value} {d : DataW H} {p : List MemPlace} (hv : Value.okWide Try.prog W .any base0 29 v) (h : DataW.Trod enc Try.prog W 0 (fun _ => true) true 29 v d p) :
    ∃ A n c l, v = .slice A n c ∧ n ≤ c ∧ c ≤ maxLen ∧ Ins W W.heap.size A n l := by
  obtain ⟨A0, n0, c0, rfl⟩ := okWide_slice Try.underlying29 hv
  obtain ⟨fuel, hf⟩ := h
  rcases open_ints Try.underlying29 Try.underlying3 (by kernel_rfl) hf with ⟨hcs, _⟩ | ⟨a, len, cap, zs, hcs, _, hl, hm, hz, _, hcell, hwz⟩
  · simp [Value.cells] at hcs
    obtain ⟨rfl, rfl, rfl⟩ := hcs
    exact ⟨none, 0, 0, [], rfl, by omega, by simp [maxLen], ⟨rfl, fun k hk => absurd hk (by omega)⟩⟩
  · simp [Value.cells] at hcs
    obtain ⟨rfl, rfl, rfl⟩ := hcs
    have hz' : n0 ≤ zs.length := by
      have := hz
      simp at this
      omega
    refine ⟨some a, n0, c0, zs.take n0, rfl, hl, hm, ⟨by rw [List.length_take]; omega, fun k hk => ?_⟩⟩
    have hkz : k < zs.length := by omega
    have e : (zs.take n0).getD k 0 = zs.getD k 0 := by
      rw [List.getD_eq_getElem?_getD, List.getD_eq_getElem?_getD, List.getElem?_take, if_pos hk]
    have hc := hcell k hkz
    have hb := bd_i64 (hwz (zs.getD k 0) (by rw [List.getD_eq_getElem?_getD, List.getElem?_eq_getElem hkz]; exact List.getElem_mem hkz))
    rw [e]
    exact ⟨a, rfl, by have := cell_lt hc; rwa [add_block] at this, hc, hb.1, hb.2⟩
end
end Go.Proofs.Ytebkgcnldbkgeaa
