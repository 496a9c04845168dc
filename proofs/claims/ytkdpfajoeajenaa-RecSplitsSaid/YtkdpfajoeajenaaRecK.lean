/-
  Helpers for the laws of chapter 3 that cut a batch.
-/
import Derived.Test.YtkdpfajoeajenaaRecCut
namespace Go.Proofs.Ytkdpfajoeajenaa
open Go.RowKit
set_option linter.unusedVariables false
set_option linter.unusedSimpArgs false
theorem Rcs.twoc {w w' : World} {g d n : Nat} {A : Option Addr} {L : List Rec} (h : Rcs w w.heap.size A n L) (hT : Two g d w w') (hA : ∀ p, A = some p → p.block ≠ g ∧ p.block ≠ d) : Rcs w' w'.heap.size A n L :=
  ⟨h.len, ⟨fun j u hj => by
    obtain ⟨p, e, hb, hc⟩ := h.lies.get j u hj
    obtain ⟨h1, h2⟩ := hA p e
    exact ⟨p, e, Nat.lt_of_lt_of_le hb hT.size, (World.cell?_of_block (hT.block _ (by rw [add_block]; exact hb) (by rw [add_block]; exact h1) (by rw [add_block]; exact h2))).trans hc⟩⟩, h.ok⟩
theorem set7c {w : World} {g : Nat} {T : TypeId} {x0 x1 x2 x3 x4 x5 x6 : Value} (y0 y1 y2 y3 y4 y5 y6 : Value) (h : w.heap[g]? = some (.cells #[x0, x1, x2, x3, x4, x5, x6] T (0, 0))) :
    (((((((w.setCell ⟨g, 0, none⟩ y0).setCell ⟨g, 1, none⟩ y1).setCell ⟨g, 2, none⟩ y2).setCell ⟨g, 3, none⟩ y3).setCell ⟨g, 4, none⟩ y4).setCell ⟨g, 5, none⟩ y5).setCell ⟨g, 6, none⟩ y6).heap[g]? = some (.cells #[y0, y1, y2, y3, y4, y5, y6] T (0, 0)) ∧
    Two g g w (((((((w.setCell ⟨g, 0, none⟩ y0).setCell ⟨g, 1, none⟩ y1).setCell ⟨g, 2, none⟩ y2).setCell ⟨g, 3, none⟩ y3).setCell ⟨g, 4, none⟩ y4).setCell ⟨g, 5, none⟩ y5).setCell ⟨g, 6, none⟩ y6) := by
  have h0 : (w.setCell ⟨g, 0, none⟩ y0).heap[g]? = some (.cells #[y0, x1, x2, x3, x4, x5, x6] T (0, 0)) := by rw [heap_setCell_same _ g 0 _ _ _ h]; rfl
  have h1 : ((w.setCell ⟨g, 0, none⟩ y0).setCell ⟨g, 1, none⟩ y1).heap[g]? = some (.cells #[y0, y1, x2, x3, x4, x5, x6] T (0, 0)) := by rw [heap_setCell_same _ g 1 _ _ _ h0]; rfl
  have h2 : (((w.setCell ⟨g, 0, none⟩ y0).setCell ⟨g, 1, none⟩ y1).setCell ⟨g, 2, none⟩ y2).heap[g]? = some (.cells #[y0, y1, y2, x3, x4, x5, x6] T (0, 0)) := by rw [heap_setCell_same _ g 2 _ _ _ h1]; rfl
  have h3 : ((((w.setCell ⟨g, 0, none⟩ y0).setCell ⟨g, 1, none⟩ y1).setCell ⟨g, 2, none⟩ y2).setCell ⟨g, 3, none⟩ y3).heap[g]? = some (.cells #[y0, y1, y2, y3, x4, x5, x6] T (0, 0)) := by rw [heap_setCell_same _ g 3 _ _ _ h2]; rfl
  have h4 : (((((w.setCell ⟨g, 0, none⟩ y0).setCell ⟨g, 1, none⟩ y1).setCell ⟨g, 2, none⟩ y2).setCell ⟨g, 3, none⟩ y3).setCell ⟨g, 4, none⟩ y4).heap[g]? = some (.cells #[y0, y1, y2, y3, y4, x5, x6] T (0, 0)) := by rw [heap_setCell_same _ g 4 _ _ _ h3]; rfl
  have h5 : ((((((w.setCell ⟨g, 0, none⟩ y0).setCell ⟨g, 1, none⟩ y1).setCell ⟨g, 2, none⟩ y2).setCell ⟨g, 3, none⟩ y3).setCell ⟨g, 4, none⟩ y4).setCell ⟨g, 5, none⟩ y5).heap[g]? = some (.cells #[y0, y1, y2, y3, y4, y5, x6] T (0, 0)) := by rw [heap_setCell_same _ g 5 _ _ _ h4]; rfl
  refine ⟨by rw [heap_setCell_same _ g 6 _ _ _ h5]; rfl, ?_⟩
  exact (((((((Two.set w 0 _).trans (Two.set _ 1 _)).trans (Two.set _ 2 _)).trans (Two.set _ 3 _)).trans (Two.set _ 4 _)).trans (Two.set _ 5 _)).trans (Two.set _ 6 _))
theorem cutB_ok (b : Bat) (h : b.ok) : (cutB b).ok := ⟨h.base, h.pid, h.epoch, h.seq, h.kind, h.time⟩
theorem beq_self_l (l : List UInt8) : (l == l) = true := by simp
end Go.Proofs.Ytkdpfajoeajenaa
