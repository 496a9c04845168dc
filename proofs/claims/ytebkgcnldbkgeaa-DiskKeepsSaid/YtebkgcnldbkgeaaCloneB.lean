/-
  slices.Clone of bytes.
-/
import Derived.Test.YtebkgcnldbkgeaaBytesA
import Derived.Lib.SliceRun
namespace Go.Proofs.Ytebkgcnldbkgeaa
open Go.RowKit
set_option linter.unusedVariables false
set_option linter.unusedSimpArgs false

set_option maxRecDepth 100000 in
set_option maxHeartbeats 1000000 in
theorem cloneD_any (A : Option Addr) (n c B : Nat) (l : List UInt8) (w : World) (h : Bs w B A n l) (hn : n ≤ 1099511627776) (hB : B ≤ w.heap.size) :
    Calls Try.prog 37 #[.slice A n c] w fun e w' => ∃ v', e = .returned v' ∧ Own w' w.heap.size v' l ∧ Below w.heap.size w w' := by
  obtain ⟨i0, hi0, hz0, hz1, hz2⟩ := info_parts byte_info
  have hl := h.len
  cases A with
  | none =>
    have hl0 : l = [] := by
      cases l with
      | nil => rfl
      | cons x r => obtain ⟨p, hp, _⟩ := h.at_ (k := 0) (by rw [← hl]; simp); cases hp
    subst hl0
    clear h
    have hnil : ∀ W : World, (binOp .eql 33 (.slice none n c) (.slice none 0 0)).run Try.prog W = .ok (.bool true) W := fun W : World => Lib.run_eql_slice_nil (P := Try.prog) W 33 5 none n c 0 0 Try.underlying33
    go_enter Try.func37, Try.ntmps37
    go_wp2_with fail
    go_ret
    exact ⟨_, rfl, Own.nil_ _ _, Below.refl _ _⟩
  | some p =>
    have hb1 : Bs (w.alloc (.cells #[] 5)) w.heap.size (some p) n l := (h.wider hB).alloc (Nat.le_refl _) _
    have HB := Lib.hid ((Below.refl w.heap.size w).alloc (Nat.le_refl _) (.cells #[] 5))
    have ho : Own (w.alloc (.cells #[] 5)) w.heap.size (.slice (some ⟨w.heap.size, 0, none⟩) 0 0) [] := by
      refine ⟨rfl, .inr ⟨w.heap.size, 0, #[], rfl, Nat.le_refl _, heap_alloc_new w _, by simp, by unfold maxLen; omega, rfl, rfl⟩⟩
    clear h
    have hnil : ∀ W : World, (binOp .eql 33 (.slice (some p) n c) (.slice none 0 0)).run Try.prog W = .ok (.bool false) W := fun W : World => Lib.run_eql_slice_nil (P := Try.prog) W 33 5 (some p) n c 0 0 Try.underlying33
    go_enter Try.func37, Try.ntmps37
    go_wp2_with (at_builtin; refine wpList_append_src _ rfl (.tmp 5) (.tmp 6) 33 rfl w.heap.size 5 i0 _ 1 Try.underlying33 hi0 hz0 hz1 hz2 rfl _ 0 [] rfl ho w.heap.size (some p) n c (bvs l) rfl (by rw [bvs_length]; exact hl) hb1.lies (bvs_one l) (by unfold maxLen; omega) (by omega) (by simp) ?_)
    intro v2 w2 ho2 hg2 _
    have hb2 := HB.out.trans (grown_below ho hg2 (by simp))
    have R : Own w2 w.heap.size v2 l := by
      unfold Own
      rw [hl]
      simpa using ho2
    clear ho2 hg2 ho
    go_wp2_with fail
    go_ret
    exact ⟨_, rfl, R, hb2⟩

end Go.Proofs.Ytebkgcnldbkgeaa
