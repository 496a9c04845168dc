/-
  '[]byte(s)' of a text: the world behind it.
-/
import Derived.Test.YtebkgcnldbkgeaaDkQ
import Derived.Lib.ConvBytes
namespace Go.Proofs.Ytebkgcnldbkgeaa
open Go.RowKit Go.Lib Go.Sort Go.Maps
set_option linter.unusedVariables false
set_option linter.unusedSimpArgs false

/-- the world behind '[]byte(s)': a new block that holds the bytes -/
structure Cv (W : World) (s : ByteArray) (cap : Nat) (W' : World) : Prop where
  run : (convert 9 33 (.string s)).run Try.prog W = .ok (.slice (some ⟨W.heap.size, 0, none⟩) s.size cap) W'
  below : Below W.heap.size W W'
  size : W'.heap.size = W.heap.size + 1
  bs : ∀ V : World, V.heap[W.heap.size]? = W'.heap[W.heap.size]? → Bs V (W.heap.size + 1) (some ⟨W.heap.size, 0, none⟩) s.size s.data.toList
  c1 : s.size ≤ cap
  c2 : cap ≤ maxLen
theorem conv_any (W : World) (s : ByteArray) (hs : s.size ≤ maxLen) : ∃ (cap : Nat) (W' : World), Cv W s cap W' := by
  refine ⟨_, _, Lib.run_convert_string_bytes W 9 33 5 s Try.underlying9 Try.underlying33 Try.underlying5, ⟨rfl, rfl, rfl, by rw [Lib.bytesWorld_size]; omega, fun k hk => Lib.bytesWorld_at_old W _ s k hk⟩, Lib.bytesWorld_size W _ s, fun V hV => ⟨by simp, ⟨fun j u hj => ?_⟩⟩, grownCap_ge _ _ _ _, grownCap_le_maxLen _ _ _ _ hs⟩
  have hjl : j < s.size := by
    have := (List.getElem?_eq_some_iff.1 hj).1
    rw [bvs_length] at this
    simpa using this
  refine ⟨_, rfl, by simp, ?_⟩
  have h1 := Lib.bytesWorld_cell W 5 s j hjl
  have h2 : (⟨W.heap.size, 0, none⟩ : Addr).add j = ⟨W.heap.size, j, none⟩ := by
    unfold Addr.add
    simp
    exact fun h => h.symm
  rw [h2, World.cell?_of_block (a := ⟨W.heap.size, j, none⟩) hV, h1, ← hj]
  unfold bvs
  rw [List.getElem?_map, List.getElem?_eq_getElem (by simpa using hjl), List.getD_eq_getElem?_getD, List.getElem?_eq_getElem (by simpa using hjl)]
  rfl
end Go.Proofs.Ytebkgcnldbkgeaa
