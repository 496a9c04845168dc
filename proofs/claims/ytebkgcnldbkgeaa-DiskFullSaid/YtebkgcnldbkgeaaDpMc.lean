/-
  What the document's Copy does.
-/
import Derived.Test.YtebkgcnldbkgeaaDpM
namespace Go.Proofs.Ytebkgcnldbkgeaa
open Go.RowKit Go.Lib Go.Sort Go.Maps
set_option linter.unusedVariables false
set_option linter.unusedSimpArgs false

set_option maxRecDepth 100000 in
set_option maxHeartbeats 4000000 in
theorem rcopy_any (base r : Nat) (v : Value) (p : PD) (w : World) (h : Rk w base r v p) (hR : p.F.length ≤ 100000) :
    Calls Try.prog 17 #[.pointer (some ⟨r, 0, none⟩)] w fun e w' => ∃ r2 v2, e = .returned (.pointer (some ⟨r2, 0, none⟩)) ∧ Rk w' w.heap.size r2 v2 p ∧ Below w.heap.size w w' := by
  obtain ⟨k0, qk0, qz0, qz1, qz2⟩ := info_parts zero_rfile
  obtain ⟨A, c, rfl, hc, _, hA⟩ := Ths.of_row h.row rfl
  have c0 := h.c0
  have c2 := h.c2
  have c3 := h.c3
  have hrl := h.rlt
  have HR := Lib.hid h
  have hBx : Below w.heap.size w ((w.alloc (.cells #[.int .i64 p.room, .slice none 0 0, .int .i64 p.lf, .bool p.burnt] 78)).drew) := ((Below.refl _ _).alloc (Nat.le_refl _) _).drew
  have hNx : ((w.alloc (.cells #[.int .i64 p.room, .slice none 0 0, .int .i64 p.lf, .bool p.burnt] 78)).drew).heap[w.heap.size]? = some (.cells #[.int .i64 p.room, .slice none 0 0, .int .i64 p.lf, .bool p.burnt] 78 (0, 0)) := heap_alloc_new w _
  obtain ⟨w5, hw5⟩ : ∃ w5, (w.alloc (.cells #[.int .i64 p.room, .slice none 0 0, .int .i64 p.lf, .bool p.burnt] 78)).drew = w5 := ⟨_, rfl⟩
  rw [hw5] at hBx hNx
  have HW5 := Lib.hid hw5
  have hnl := (Array.getElem?_eq_some_iff.1 hNx).1
  have hA5 := hA.below hBx
  have c1 : w5.cell? ⟨r, 1, none⟩ = some (.slice A p.F.length c) := (hBx.cell (p := ⟨r, 1, none⟩) hrl).trans h.c1
  have n1 := cell_of_row _ _ 1 _ _ _ hNx
  have f1 := frozen_of_row _ w.heap.size 1 _ _ hNx
  have HBX : Hid (∀ W : World, W.heap = w5.heap → W.os = w5.os → W.tape = w5.tape → W.output = w5.output → Below w.heap.size w W) := fun W e1 e2 e3 e4 => hBx.trans ⟨e2, e3, e4, by rw [e1]; exact Nat.le_refl _, fun i _ => by rw [e1]⟩
  have HNX : Hid (∀ W : World, W.heap = w5.heap → W.heap[w.heap.size]? = some (.cells #[.int .i64 p.room, .slice none 0 0, .int .i64 p.lf, .bool p.burnt] 78 (0, 0))) := fun W e => by rw [e]; exact hNx
  have HNL : Hid (∀ W : World, W.heap = w5.heap → w.heap.size < W.heap.size) := fun W e => by rw [e]; exact hnl
  obtain ⟨n, hn⟩ : ∃ n, p.F.length = n := ⟨_, rfl⟩
  have HN := Lib.hid hn
  rw [hn] at hc hA hA5 c1 hR
  clear hw5 hBx hNx h hn
  go_enter Try.func17, Try.ntmps17
  go_upto_region 1 with fail
  go_still_tail 13, (by kernel_rfl)
  change wpList _ _ _ _ _ w.drew
  go_upto_region 2 with fail
  rw [HW5.out]
  clear c0 c2 c3
  rcases Nat.eq_zero_or_pos n with h0 | h0
  · subst h0
    have hF : p.F = [] := List.length_eq_zero_iff.1 HN.out
    have HF := Lib.hid hF
    clear hA hA5 hF
    go_region_law (refine step_append_zeroF (by rfl) (.tmp 22) (.tmp 26) 76 (by rfl) 84 k0 _ Try.underlying76 qk0 qz0 A c (by rfl) (by rfl) ?_)
    all_goals
      go_wp2_with fail
      go_ret
      have hf := Rk.copied (p := p) (HNX.out _ (by rfl)) (HBX.out _ (by rfl) (by rfl) (by rfl) (by rfl)) (Nat.le_refl _) (World.grownBy.refl _ _) (by rw [HF.out]; exact World.ownsRow_nil _ _ _ _) (by simp [Value.ownBlock])
      first | exact ⟨_, _, rfl, hf.1, hf.2⟩ | exact ⟨_, _, rfl, hf.1.drew_, hf.2.drew⟩
  · cases A with
    | none =>
      exfalso
      obtain ⟨p', hp', _⟩ := Fs.row hA (k := 0) h0
      cases hp'
    | some q =>
      have HNW : Hid (∀ W : World, W.heap = w5.heap → ∀ j u, (fcs p.F)[j]? = some u → W.cell? (q.add j) = some u) := fun W e j u hj => by
        obtain ⟨q', hq, _, hcq⟩ := hA5.lies.get j u hj
        injection hq with hq
        subst hq
        exact (World.cell?_of_block (a := q.add j) (by rw [e])).trans hcq
      have HFL : Hid ((fcs p.F).length = n * 3) := by show _ = _; rw [fcs_length, HN.out]
      clear hA hA5
      go_region_law (refine step_append_lies _ (by rfl) (.tmp 22) (.tmp 26) 76 (by rfl) w.heap.size 84 k0 _ 3 40 Try.underlying76 qk0 qz0 qz1 qz2 (by rfl) (by decide) (.slice none 0 0) 0 [] (by rfl) (World.ownsRow_nil _ _ _ _) q n c (fcs p.F) (by rfl) HFL.out (HNW.out _ (by rfl)) (fcs_one p.F) h0 (by unfold maxLen; omega) (by omega) (by have := HNL.out _ (by rfl); exact Nat.le_of_lt this) _ rfl ?_; intro gg cap w8 hown1 hgrow hat hlt'; have y6' := (hgrow.cell_far ⟨w.heap.size, 1, none⟩ (HNL.out _ (by rfl)) (by simp [Value.ownBlock])).trans (cell_of_row _ _ 1 _ _ _ (HNX.out _ (by rfl))); have f6' := (hgrow.frozen_far ⟨w.heap.size, 1, none⟩ (HNL.out _ (by rfl)) (by simp [Value.ownBlock])).trans (frozen_of_row _ _ 1 _ _ (HNX.out _ (by rfl))); have HF1 := Lib.hid (Rk.copied (p := p) (v2 := .slice (some ⟨gg, 0, none⟩) n cap) (HNX.out _ (by rfl)) (HBX.out _ (by rfl) (by rfl) (by rfl) (by rfl)) (Nat.le_refl _) hgrow (by rw [HN.out]; simpa using hown1) (own_neF gg n cap w.heap.size _ hat (HNL.out _ (by rfl)))); clear hgrow hown1 hat)
      all_goals
        go_wp2_with fail
        go_ret
        exact ⟨_, _, rfl, HF1.out.1, HF1.out.2⟩
end Go.Proofs.Ytebkgcnldbkgeaa
