/-
  RecOne.
-/
import Derived.Test.YtfiagnkdembkaaaRecT
import Derived.Test.YtfiagnkdembkaaaRecX
import Derived.Test.YtfiagnkdembkaaaRecV
import Derived.Test.YtfiagnkdembkaaaRecAw
namespace Go.Proofs.Ytfiagnkdembkaaa
open Go.RowKit
set_option linter.unusedVariables false
set_option linter.unusedSimpArgs false

theorem Rcs.two_ {w w' : World} {g d n : Nat} {A : Option Addr} {L : List Rec} (h : Rcs w w.heap.size A n L) (hT : Two g d w w') (hA : ∀ p, A = some p → p.block ≠ g ∧ p.block ≠ d) : Rcs w' w'.heap.size A n L :=
  ⟨h.len, ⟨fun j u hj => by
    obtain ⟨p, e, hb, hc⟩ := h.lies.get j u hj
    obtain ⟨h1, h2⟩ := hA p e
    exact ⟨p, e, Nat.lt_of_lt_of_le hb hT.size, (World.cell?_of_block (hT.block _ (by rw [add_block]; exact hb) (by rw [add_block]; exact h1) (by rw [add_block]; exact h2))).trans hc⟩⟩, h.ok⟩
theorem set7_ {w : World} {g : Nat} {T : TypeId} {x0 x1 x2 x3 x4 x5 x6 : Value} (y0 y1 y2 y3 y4 y5 y6 : Value) (h : w.heap[g]? = some (.cells #[x0, x1, x2, x3, x4, x5, x6] T (0, 0))) :
    (((((((w.setCell ⟨g, 0, none⟩ y0).setCell ⟨g, 1, none⟩ y1).setCell ⟨g, 2, none⟩ y2).setCell ⟨g, 3, none⟩ y3).setCell ⟨g, 4, none⟩ y4).setCell ⟨g, 5, none⟩ y5).setCell ⟨g, 6, none⟩ y6).heap[g]? = some (.cells #[y0, y1, y2, y3, y4, y5, y6] T (0, 0)) ∧
    Two g g w (((((((w.setCell ⟨g, 0, none⟩ y0).setCell ⟨g, 1, none⟩ y1).setCell ⟨g, 2, none⟩ y2).setCell ⟨g, 3, none⟩ y3).setCell ⟨g, 4, none⟩ y4).setCell ⟨g, 5, none⟩ y5).setCell ⟨g, 6, none⟩ y6) := by
  have h0 : (w.setCell ⟨g, 0, none⟩ y0).heap[g]? = some (.cells #[y0, x1, x2, x3, x4, x5, x6] T (0, 0)) := by rw [heap_setCell_same _ g 0 _ _ _ h]; rfl
  have h1 : ((w.setCell ⟨g, 0, none⟩ y0).setCell ⟨g, 1, none⟩ y1).heap[g]? = some (.cells #[y0, y1, x2, x3, x4, x5, x6] T (0, 0)) := by rw [heap_setCell_same _ g 1 _ _ _ h0]; rfl
  have h2 : (((w.setCell ⟨g, 0, none⟩ y0).setCell ⟨g, 1, none⟩ y1).setCell ⟨g, 2, none⟩ y2).heap[g]? = some (.cells #[y0, y1, y2, x3, x4, x5, x6] T (0, 0)) := by rw [heap_setCell_same _ g 2 _ _ _ h1]; rfl
  have h3 : ((((w.setCell ⟨g, 0, none⟩ y0).setCell ⟨g, 1, none⟩ y1).setCell ⟨g, 2, none⟩ y2).setCell ⟨g, 3, none⟩ y3).heap[g]? = some (.cells #[y0, y1, y2, y3, x4, x5, x6] T (0, 0)) := by rw [heap_setCell_same _ g 3 _ _ _ h2]; rfl
  have h4 : (((((w.setCell ⟨g, 0, none⟩ y0).setCell ⟨g, 1, none⟩ y1).setCell ⟨g, 2, none⟩ y2).setCell ⟨g, 3, none⟩ y3).setCell ⟨g, 4, none⟩ y4).heap[g]? = some (.cells #[y0, y1, y2, y3, y4, x5, x6] T (0, 0)) := by rw [heap_setCell_same _ g 4 _ _ _ h3]; rfl
  have h5 : ((((((w.setCell ⟨g, 0, none⟩ y0).setCell ⟨g, 1, none⟩ y1).setCell ⟨g, 2, none⟩ y2).setCell ⟨g, 3, none⟩ y3).setCell ⟨g, 4, none⟩ y4).setCell ⟨g, 5, none⟩ y5).heap[g]? = some (.cells #[y0, y1, y2, y3, y4, y5, x6] T (0, 0)) := by rw [heap_setCell_same _ g 5 _ _ _ h4]; rfl
  refine ⟨by rw [heap_setCell_same _ g 6 _ _ _ h5]; rfl, ?_⟩
  exact (((((((Two.set w 0 _).trans (Two.set _ 1 _)).trans (Two.set _ 2 _)).trans (Two.set _ 3 _)).trans (Two.set _ 4 _)).trans (Two.set _ 5 _)).trans (Two.set _ 6 _))
/-- Encode, of any batch -/
theorem encode_any (b : Bat) (A : Option Addr) (c B : Nat) (w : World) (hL : Rcs w B A b.L.length b.L) (hB : B ≤ w.heap.size) (hl : b.L.length ≤ maxLen) :
    Calls Try.prog 33 #[.agg (b.cells A c)] w fun e w' => ∃ A' c' l, e = .returned (.tuple #[.slice A' l.length c', .int .i64 (validE b)]) ∧ Bs w' w'.heap.size A' l.length l ∧ (validE b = 0 → l = encB b) ∧ Below w.heap.size w w' := by
  by_cases hv : validE b = 0
  · refine (encode_yes b A c B w hL hB ((fine_iff b).1 hv)).mono ?_
    rintro e w' ⟨v, rfl, ho, hb⟩
    obtain ⟨A', c', rfl, h1, h2, h3, _, _⟩ := ho.form
    exact ⟨A', c', _, by rw [hv], h3, fun _ => rfl, hb⟩
  · refine (encode_no b A c B w hL hB hl hv).mono ?_
    rintro e w' ⟨rfl, hb⟩
    exact ⟨none, 0, [], rfl, Bs.nil_, fun h => absurd h hv, hb⟩

set_option maxRecDepth 100000 in
set_option maxHeartbeats 8000000 in
theorem one3_walk (a b : Bat) (A1 A2 : Option Addr) (c1 c2 : Nat) (w : World) (h1 : Rcs w w.heap.size A1 a.L.length a.L) (h2 : Rcs w w.heap.size A2 b.L.length b.L) (hl1 : a.L.length ≤ maxLen) (hl2 : b.L.length ≤ maxLen) :
    Calls Try.prog 10 #[.agg (a.cells A1 c1), .agg (b.cells A2 c2)] w fun e w' => e = .returned (.bool true) ∧ Below w.heap.size w w' := by
  have HCA : Hid (∀ W, Below w.heap.size w W → Calls Try.prog 25 #[.agg (a.cells A1 c1)] W fun e w' => ∃ A' c', e = .returned (.agg ((cutB a).cells A' c')) ∧ (cutB a).L.length ≤ c' ∧ c' ≤ maxLen ∧ Rcs w' w'.heap.size A' (cutB a).L.length (cutB a).L ∧ (∀ p, A' = some p → W.heap.size ≤ p.block) ∧ Below W.heap.size W w') := fun W h => cutB_any a A1 c1 w.heap.size W (h1.below h) h.size hl1
  have HCB : Hid (∀ W, Below w.heap.size w W → Calls Try.prog 25 #[.agg (b.cells A2 c2)] W fun e w' => ∃ A' c', e = .returned (.agg ((cutB b).cells A' c')) ∧ (cutB b).L.length ≤ c' ∧ c' ≤ maxLen ∧ Rcs w' w'.heap.size A' (cutB b).L.length (cutB b).L ∧ (∀ p, A' = some p → W.heap.size ≤ p.block) ∧ Below W.heap.size W w') := fun W h => cutB_any b A2 c2 w.heap.size W (h2.below h) h.size hl2
  have HLA : Hid ((cutB a).L.length ≤ maxLen) := by show _ ≤ _; simp only [cutB, List.length_map, List.length_take]; unfold maxLen; omega
  have HLB : Hid ((cutB b).L.length ≤ maxLen) := by show _ ≤ _; simp only [cutB, List.length_map, List.length_take]; unfold maxLen; omega
  generalize cutB a = a' at *
  generalize cutB b = b' at *
  obtain ⟨b1, p1, e1, s1, k1, t1, L1⟩ := a
  obtain ⟨b2, p2, e2, s2, k2, t2, L2⟩ := b
  obtain ⟨x1, x2, x3, x4, x5, x6, M1⟩ := a'
  obtain ⟨y1, y2, y3, y4, y5, y6, M2⟩ := b'
  unfold Bat.cells at *
  simp only at *
  clear h1 h2
  have hW := ((Below.refl w.heap.size w).alloc (Nat.le_refl _) (.cells #[.int .i64 b1, .int .i64 p1, .int .i64 e1, .int .i64 s1, .int .i64 k1, .int .i64 t1, .slice A1 L1.length c1] 49)).alloc (by simp) (.cells #[.int .i64 b2, .int .i64 p2, .int .i64 e2, .int .i64 s2, .int .i64 k2, .int .i64 t2, .slice A2 L2.length c2] 49)
  have q3 := heap_alloc_new w (.cells #[.int .i64 b1, .int .i64 p1, .int .i64 e1, .int .i64 s1, .int .i64 k1, .int .i64 t1, .slice A1 L1.length c1] 49)
  have q4 := (((Below.refl (w.alloc (.cells #[.int .i64 b1, .int .i64 p1, .int .i64 e1, .int .i64 s1, .int .i64 k1, .int .i64 t1, .slice A1 L1.length c1] 49)).heap.size _).alloc (Nat.le_refl _) (.cells #[.int .i64 b2, .int .i64 p2, .int .i64 e2, .int .i64 s2, .int .i64 k2, .int .i64 t2, .slice A2 L2.length c2] 49)).block w.heap.size (by simp)).trans q3
  have q5 := heap_alloc_new (w.alloc (.cells #[.int .i64 b1, .int .i64 p1, .int .i64 e1, .int .i64 s1, .int .i64 k1, .int .i64 t1, .slice A1 L1.length c1] 49)) (.cells #[.int .i64 b2, .int .i64 p2, .int .i64 e2, .int .i64 s2, .int .i64 k2, .int .i64 t2, .slice A2 L2.length c2] 49)
  rw [show (w.alloc (.cells #[.int .i64 b1, .int .i64 p1, .int .i64 e1, .int .i64 s1, .int .i64 k1, .int .i64 t1, .slice A1 L1.length c1] 49)).heap.size = w.heap.size + 1 from by simp] at q5
  generalize hW0 : (w.alloc (.cells #[.int .i64 b1, .int .i64 p1, .int .i64 e1, .int .i64 s1, .int .i64 k1, .int .i64 t1, .slice A1 L1.length c1] 49)).alloc (.cells #[.int .i64 b2, .int .i64 p2, .int .i64 e2, .int .i64 s2, .int .i64 k2, .int .i64 t2, .slice A2 L2.length c2] 49) = W0 at *
  have HW0 := Lib.hid hW0
  have hz0 : w.heap.size + 1 < W0.heap.size := (Array.getElem?_eq_some_iff.1 q5).1
  have HQ4 := Lib.hid q4
  have HQ5 := Lib.hid q5
  have HQ0 := Lib.hid hW.drew
  clear hW0 q3
  have m0 : W0.cell? ⟨w.heap.size, 0, none⟩ = some (.int .i64 b1) := cell_of_row _ _ 0 _ _ _ q4
  have d0 : W0.cell? ⟨w.heap.size + 1, 0, none⟩ = some (.int .i64 b2) := cell_of_row _ _ 0 _ _ _ q5
  have m1 : W0.cell? ⟨w.heap.size, 1, none⟩ = some (.int .i64 p1) := cell_of_row _ _ 1 _ _ _ q4
  have d1 : W0.cell? ⟨w.heap.size + 1, 1, none⟩ = some (.int .i64 p2) := cell_of_row _ _ 1 _ _ _ q5
  have m2 : W0.cell? ⟨w.heap.size, 2, none⟩ = some (.int .i64 e1) := cell_of_row _ _ 2 _ _ _ q4
  have d2 : W0.cell? ⟨w.heap.size + 1, 2, none⟩ = some (.int .i64 e2) := cell_of_row _ _ 2 _ _ _ q5
  have m3 : W0.cell? ⟨w.heap.size, 3, none⟩ = some (.int .i64 s1) := cell_of_row _ _ 3 _ _ _ q4
  have d3 : W0.cell? ⟨w.heap.size + 1, 3, none⟩ = some (.int .i64 s2) := cell_of_row _ _ 3 _ _ _ q5
  have m4 : W0.cell? ⟨w.heap.size, 4, none⟩ = some (.int .i64 k1) := cell_of_row _ _ 4 _ _ _ q4
  have d4 : W0.cell? ⟨w.heap.size + 1, 4, none⟩ = some (.int .i64 k2) := cell_of_row _ _ 4 _ _ _ q5
  have m5 : W0.cell? ⟨w.heap.size, 5, none⟩ = some (.int .i64 t1) := cell_of_row _ _ 5 _ _ _ q4
  have d5 : W0.cell? ⟨w.heap.size + 1, 5, none⟩ = some (.int .i64 t2) := cell_of_row _ _ 5 _ _ _ q5
  have m6 : W0.cell? ⟨w.heap.size, 6, none⟩ = some (.slice A1 L1.length c1) := cell_of_row _ _ 6 _ _ _ q4
  have d6 : W0.cell? ⟨w.heap.size + 1, 6, none⟩ = some (.slice A2 L2.length c2) := cell_of_row _ _ 6 _ _ _ q5
  clear q4 q5 hW
  go_enter Try.func10, Try.ntmps10
  go_upto_region 1 with fail
  rw [HW0.out]
  go_cut [10] (fun s10 wx => ∃ D1 f1 D2 f2, M1.length ≤ f1 ∧ f1 ≤ maxLen ∧ M2.length ≤ f2 ∧ f2 ≤ maxLen ∧ wx.heap[w.heap.size]? = some (.cells #[.int .i64 x1, .int .i64 x2, .int .i64 x3, .int .i64 x4, .int .i64 x5, .int .i64 x6, .slice D1 M1.length f1] 49 (0, 0)) ∧ wx.heap[w.heap.size + 1]? = some (.cells #[.int .i64 y1, .int .i64 y2, .int .i64 y3, .int .i64 y4, .int .i64 y5, .int .i64 y6, .slice D2 M2.length f2] 49 (0, 0)) ∧ Rcs wx wx.heap.size D1 M1.length M1 ∧ Rcs wx wx.heap.size D2 M2.length M2 ∧ Below w.heap.size w wx)
  case first =>
    go_region_with (first
      | (go_at_call 25; (with_reducible refine (HCA.out _ HQ0.out).mono ?_); rintro e w1 ⟨D1, f1, rfl, hf1, hf1m, hR1, hD1, hb1⟩; have HR1 := Lib.hid hR1; have HD1 := Lib.hid hD1; have hQ1 := HQ0.out.trans (hb1.mono HQ0.out.size); have r4 := (hb1.block w.heap.size (by show w.heap.size < W0.heap.size; omega)).trans HQ4.out; have r5 := (hb1.block (w.heap.size + 1) (by show w.heap.size + 1 < W0.heap.size; omega)).trans HQ5.out; have m0 : w1.cell? ⟨w.heap.size, 0, none⟩ = some (.int .i64 b1) := cell_of_row _ _ 0 _ _ _ r4; have m1 : w1.cell? ⟨w.heap.size, 1, none⟩ = some (.int .i64 p1) := cell_of_row _ _ 1 _ _ _ r4; have m2 : w1.cell? ⟨w.heap.size, 2, none⟩ = some (.int .i64 e1) := cell_of_row _ _ 2 _ _ _ r4; have m3 : w1.cell? ⟨w.heap.size, 3, none⟩ = some (.int .i64 s1) := cell_of_row _ _ 3 _ _ _ r4; have m4 : w1.cell? ⟨w.heap.size, 4, none⟩ = some (.int .i64 k1) := cell_of_row _ _ 4 _ _ _ r4; have m5 : w1.cell? ⟨w.heap.size, 5, none⟩ = some (.int .i64 t1) := cell_of_row _ _ 5 _ _ _ r4; have m6 : w1.cell? ⟨w.heap.size, 6, none⟩ = some (.slice A1 L1.length c1) := cell_of_row _ _ 6 _ _ _ r4; have d0 : w1.cell? ⟨w.heap.size + 1, 0, none⟩ = some (.int .i64 b2) := cell_of_row _ _ 0 _ _ _ r5; have d1 : w1.cell? ⟨w.heap.size + 1, 1, none⟩ = some (.int .i64 p2) := cell_of_row _ _ 1 _ _ _ r5; have d2 : w1.cell? ⟨w.heap.size + 1, 2, none⟩ = some (.int .i64 e2) := cell_of_row _ _ 2 _ _ _ r5; have d3 : w1.cell? ⟨w.heap.size + 1, 3, none⟩ = some (.int .i64 s2) := cell_of_row _ _ 3 _ _ _ r5; have d4 : w1.cell? ⟨w.heap.size + 1, 4, none⟩ = some (.int .i64 k2) := cell_of_row _ _ 4 _ _ _ r5; have d5 : w1.cell? ⟨w.heap.size + 1, 5, none⟩ = some (.int .i64 t2) := cell_of_row _ _ 5 _ _ _ r5; have d6 : w1.cell? ⟨w.heap.size + 1, 6, none⟩ = some (.slice A2 L2.length c2) := cell_of_row _ _ 6 _ _ _ r5; have R4 := Lib.hid r4; have R5 := Lib.hid r5; have HZ1 := Lib.hid hb1.size; clear r4 r5 hR1 hD1 hb1)
      | (go_at_call 25; (with_reducible refine (HCB.out _ hQ1).mono ?_); rintro e w2 ⟨D2, f2, rfl, hf2, hf2m, hR2, hD2, hb2⟩; have HR2 := Lib.hid hR2; have HD2 := Lib.hid hD2; have HQ2 := Lib.hid (hQ1.trans (hb2.mono hQ1.size)); have hz1 : W0.heap.size ≤ w1.heap.size := HZ1.out; have r4 := (hb2.block w.heap.size (by omega)).trans R4.out; have r5 := (hb2.block (w.heap.size + 1) (by omega)).trans R5.out; have HR1' := Lib.hid ((HR1.out.below hb2).wider hb2.size); have m0 : w2.cell? ⟨w.heap.size, 0, none⟩ = some (.int .i64 b1) := cell_of_row _ _ 0 _ _ _ r4; have m1 : w2.cell? ⟨w.heap.size, 1, none⟩ = some (.int .i64 p1) := cell_of_row _ _ 1 _ _ _ r4; have m2 : w2.cell? ⟨w.heap.size, 2, none⟩ = some (.int .i64 e1) := cell_of_row _ _ 2 _ _ _ r4; have m3 : w2.cell? ⟨w.heap.size, 3, none⟩ = some (.int .i64 s1) := cell_of_row _ _ 3 _ _ _ r4; have m4 : w2.cell? ⟨w.heap.size, 4, none⟩ = some (.int .i64 k1) := cell_of_row _ _ 4 _ _ _ r4; have m5 : w2.cell? ⟨w.heap.size, 5, none⟩ = some (.int .i64 t1) := cell_of_row _ _ 5 _ _ _ r4; have m6 : w2.cell? ⟨w.heap.size, 6, none⟩ = some (.slice A1 L1.length c1) := cell_of_row _ _ 6 _ _ _ r4; have d0 : w2.cell? ⟨w.heap.size + 1, 0, none⟩ = some (.int .i64 b2) := cell_of_row _ _ 0 _ _ _ r5; have d1 : w2.cell? ⟨w.heap.size + 1, 1, none⟩ = some (.int .i64 p2) := cell_of_row _ _ 1 _ _ _ r5; have d2 : w2.cell? ⟨w.heap.size + 1, 2, none⟩ = some (.int .i64 e2) := cell_of_row _ _ 2 _ _ _ r5; have d3 : w2.cell? ⟨w.heap.size + 1, 3, none⟩ = some (.int .i64 s2) := cell_of_row _ _ 3 _ _ _ r5; have d4 : w2.cell? ⟨w.heap.size + 1, 4, none⟩ = some (.int .i64 k2) := cell_of_row _ _ 4 _ _ _ r5; have d5 : w2.cell? ⟨w.heap.size + 1, 5, none⟩ = some (.int .i64 t2) := cell_of_row _ _ 5 _ _ _ r5; have d6 : w2.cell? ⟨w.heap.size + 1, 6, none⟩ = some (.slice A2 L2.length c2) := cell_of_row _ _ 6 _ _ _ r5; have n0 : w2.frozen? ⟨w.heap.size, 0, none⟩ = false := frozen_of_row _ _ 0 _ _ r4; have n1 : w2.frozen? ⟨w.heap.size, 1, none⟩ = false := frozen_of_row _ _ 1 _ _ r4; have n2 : w2.frozen? ⟨w.heap.size, 2, none⟩ = false := frozen_of_row _ _ 2 _ _ r4; have n3 : w2.frozen? ⟨w.heap.size, 3, none⟩ = false := frozen_of_row _ _ 3 _ _ r4; have n4 : w2.frozen? ⟨w.heap.size, 4, none⟩ = false := frozen_of_row _ _ 4 _ _ r4; have n5 : w2.frozen? ⟨w.heap.size, 5, none⟩ = false := frozen_of_row _ _ 5 _ _ r4; have n6 : w2.frozen? ⟨w.heap.size, 6, none⟩ = false := frozen_of_row _ _ 6 _ _ r4; have g0 : w2.frozen? ⟨w.heap.size + 1, 0, none⟩ = false := frozen_of_row _ _ 0 _ _ r5; have g1 : w2.frozen? ⟨w.heap.size + 1, 1, none⟩ = false := frozen_of_row _ _ 1 _ _ r5; have g2 : w2.frozen? ⟨w.heap.size + 1, 2, none⟩ = false := frozen_of_row _ _ 2 _ _ r5; have g3 : w2.frozen? ⟨w.heap.size + 1, 3, none⟩ = false := frozen_of_row _ _ 3 _ _ r5; have g4 : w2.frozen? ⟨w.heap.size + 1, 4, none⟩ = false := frozen_of_row _ _ 4 _ _ r5; have g5 : w2.frozen? ⟨w.heap.size + 1, 5, none⟩ = false := frozen_of_row _ _ 5 _ _ r5; have g6 : w2.frozen? ⟨w.heap.size + 1, 6, none⟩ = false := frozen_of_row _ _ 6 _ _ r5; have S4 := Lib.hid r4; have S5 := Lib.hid r5; clear r4 r5 hR2 hD2 hb2))
    all_goals
      go_wp2_with fail
      go_meet
      have u1 := set7_ (.int .i64 x1) (.int .i64 x2) (.int .i64 x3) (.int .i64 x4) (.int .i64 x5) (.int .i64 x6) (.slice D1 M1.length f1) S4.out
      have z2 : w.heap.size + 1 < w2.heap.size := (Array.getElem?_eq_some_iff.1 S5.out).1
      have v5 := (u1.2.block (w.heap.size + 1) z2 (by omega) (by omega)).trans S5.out
      have u2 := set7_ (.int .i64 y1) (.int .i64 y2) (.int .i64 y3) (.int .i64 y4) (.int .i64 y5) (.int .i64 y6) (.slice D2 M2.length f2) v5
      have z3 := u1.2.size
      have hz1 : W0.heap.size ≤ w1.heap.size := HZ1.out
      refine ⟨D1, f1, D2, f2, hf1, hf1m, hf2, hf2m, (u2.2.block w.heap.size (by omega) (by omega) (by omega)).trans u1.1, u2.1, ?_, ?_, ?_⟩
      · exact (HR1'.out.two_ u1.2 (fun p hp => by have : W0.heap.size ≤ p.block := HD1.out p hp; omega)).two_ u2.2 (fun p hp => by have : W0.heap.size ≤ p.block := HD1.out p hp; omega)
      · exact (HR2.out.two_ u1.2 (fun p hp => by have := HD2.out p hp; omega)).two_ u2.2 (fun p hp => by have := HD2.out p hp; omega)
      · exact (HQ2.out.trans (u1.2.below (Nat.le_refl _) (Nat.le_refl _) HQ2.out.size)).trans (u2.2.below (by omega) (by omega) (by omega))
  case rest =>
    obtain ⟨D1, f1, D2, f2, hf1, hf1m, hf2, hf2m, q4, q5, hR1, hR2, hBc⟩ := hcut
    have hgz : w.heap.size + 1 < wc.heap.size := (Array.getElem?_eq_some_iff.1 q5).1
    obtain ⟨sm, hsm⟩ := bool_of ((⟨x1, x2, x3, x4, x5, x6, M1⟩ : Bat) = (⟨y1, y2, y3, y4, y5, y6, M2⟩ : Bat))
    have HRA : Hid (∀ W, Below wc.heap.size wc W → Rcs W W.heap.size D1 M1.length M1) := fun W h => (hR1.below h).wider h.size
    have HRB : Hid (∀ W, Below wc.heap.size wc W → Rcs W W.heap.size D2 M2.length M2) := fun W h => (hR2.below h).wider h.size
    have HCELL : Hid (∀ W, Below wc.heap.size wc W → W.cell? ⟨w.heap.size, 0, none⟩ = some (.int .i64 x1) ∧ W.cell? ⟨w.heap.size, 1, none⟩ = some (.int .i64 x2) ∧ W.cell? ⟨w.heap.size, 2, none⟩ = some (.int .i64 x3) ∧ W.cell? ⟨w.heap.size, 3, none⟩ = some (.int .i64 x4) ∧ W.cell? ⟨w.heap.size, 4, none⟩ = some (.int .i64 x5) ∧ W.cell? ⟨w.heap.size, 5, none⟩ = some (.int .i64 x6) ∧ W.cell? ⟨w.heap.size, 6, none⟩ = some (.slice D1 M1.length f1) ∧ W.cell? ⟨w.heap.size + 1, 0, none⟩ = some (.int .i64 y1) ∧ W.cell? ⟨w.heap.size + 1, 1, none⟩ = some (.int .i64 y2) ∧ W.cell? ⟨w.heap.size + 1, 2, none⟩ = some (.int .i64 y3) ∧ W.cell? ⟨w.heap.size + 1, 3, none⟩ = some (.int .i64 y4) ∧ W.cell? ⟨w.heap.size + 1, 4, none⟩ = some (.int .i64 y5) ∧ W.cell? ⟨w.heap.size + 1, 5, none⟩ = some (.int .i64 y6) ∧ W.cell? ⟨w.heap.size + 1, 6, none⟩ = some (.slice D2 M2.length f2)) := fun W h => by
      have k4 := (h.block w.heap.size (by omega)).trans q4
      have k5 := (h.block (w.heap.size + 1) hgz).trans q5
      exact ⟨cell_of_row _ _ 0 _ _ _ k4, cell_of_row _ _ 1 _ _ _ k4, cell_of_row _ _ 2 _ _ _ k4, cell_of_row _ _ 3 _ _ _ k4, cell_of_row _ _ 4 _ _ _ k4, cell_of_row _ _ 5 _ _ _ k4, cell_of_row _ _ 6 _ _ _ k4, cell_of_row _ _ 0 _ _ _ k5, cell_of_row _ _ 1 _ _ _ k5, cell_of_row _ _ 2 _ _ _ k5, cell_of_row _ _ 3 _ _ _ k5, cell_of_row _ _ 4 _ _ _ k5, cell_of_row _ _ 5 _ _ _ k5, cell_of_row _ _ 6 _ _ _ k5⟩
    have HEA : Hid (∀ W, Below wc.heap.size wc W → Calls Try.prog 33 #[.agg #[.int .i64 x1, .int .i64 x2, .int .i64 x3, .int .i64 x4, .int .i64 x5, .int .i64 x6, .slice D1 M1.length f1]] W fun e w' => ∃ A' c' l, e = .returned (.tuple #[.slice A' l.length c', .int .i64 (validE (⟨x1, x2, x3, x4, x5, x6, M1⟩ : Bat))]) ∧ Bs w' w'.heap.size A' l.length l ∧ (validE (⟨x1, x2, x3, x4, x5, x6, M1⟩ : Bat) = 0 → l = encB (⟨x1, x2, x3, x4, x5, x6, M1⟩ : Bat)) ∧ Below W.heap.size W w') := fun W h => encode_any (⟨x1, x2, x3, x4, x5, x6, M1⟩ : Bat) D1 f1 W.heap.size W (HRA.out W h) (Nat.le_refl _) HLA.out
    have HEB : Hid (∀ W, Below wc.heap.size wc W → Calls Try.prog 33 #[.agg #[.int .i64 y1, .int .i64 y2, .int .i64 y3, .int .i64 y4, .int .i64 y5, .int .i64 y6, .slice D2 M2.length f2]] W fun e w' => ∃ A' c' l, e = .returned (.tuple #[.slice A' l.length c', .int .i64 (validE (⟨y1, y2, y3, y4, y5, y6, M2⟩ : Bat))]) ∧ Bs w' w'.heap.size A' l.length l ∧ (validE (⟨y1, y2, y3, y4, y5, y6, M2⟩ : Bat) = 0 → l = encB (⟨y1, y2, y3, y4, y5, y6, M2⟩ : Bat)) ∧ Below W.heap.size W w') := fun W h => encode_any (⟨y1, y2, y3, y4, y5, y6, M2⟩ : Bat) D2 f2 W.heap.size W (HRB.out W h) (Nat.le_refl _) HLB.out
    have HS1 : Hid (∀ W, Below wc.heap.size wc W → Calls Try.prog 39 #[.agg #[.int .i64 x1, .int .i64 x2, .int .i64 x3, .int .i64 x4, .int .i64 x5, .int .i64 x6, .slice D1 M1.length f1], .agg #[.int .i64 y1, .int .i64 y2, .int .i64 y3, .int .i64 y4, .int .i64 y5, .int .i64 y6, .slice D2 M2.length f2]] W fun e w' => e = .returned (.bool sm) ∧ Below W.heap.size W w') := fun W h => same_any sm (⟨x1, x2, x3, x4, x5, x6, M1⟩ : Bat) (⟨y1, y2, y3, y4, y5, y6, M2⟩ : Bat) D1 D2 f1 f2 W.heap.size W (HRA.out W h) (HRB.out W h) (Nat.le_refl _) HLA.out HLB.out hsm
    have HS2 : Hid (∀ W, Below wc.heap.size wc W → Calls Try.prog 39 #[.agg #[.int .i64 y1, .int .i64 y2, .int .i64 y3, .int .i64 y4, .int .i64 y5, .int .i64 y6, .slice D2 M2.length f2], .agg #[.int .i64 x1, .int .i64 x2, .int .i64 x3, .int .i64 x4, .int .i64 x5, .int .i64 x6, .slice D1 M1.length f1]] W fun e w' => e = .returned (.bool sm) ∧ Below W.heap.size W w') := fun W h => same_any sm (⟨y1, y2, y3, y4, y5, y6, M2⟩ : Bat) (⟨x1, x2, x3, x4, x5, x6, M1⟩ : Bat) D2 D1 f2 f1 W.heap.size W (HRB.out W h) (HRA.out W h) (Nat.le_refl _) HLB.out HLA.out ⟨fun h => (hsm.1 h).symm, fun h => hsm.2 h.symm⟩
    have HS3 : Hid (∀ W, Below wc.heap.size wc W → Calls Try.prog 39 #[.agg #[.int .i64 x1, .int .i64 x2, .int .i64 x3, .int .i64 x4, .int .i64 x5, .int .i64 x6, .slice D1 M1.length f1], .agg #[.int .i64 x1, .int .i64 x2, .int .i64 x3, .int .i64 x4, .int .i64 x5, .int .i64 x6, .slice D1 M1.length f1]] W fun e w' => e = .returned (.bool true) ∧ Below W.heap.size W w') := fun W h => same_any true (⟨x1, x2, x3, x4, x5, x6, M1⟩ : Bat) (⟨x1, x2, x3, x4, x5, x6, M1⟩ : Bat) D1 D1 f1 f1 W.heap.size W (HRA.out W h) (HRA.out W h) (Nat.le_refl _) HLA.out HLA.out ⟨fun _ => rfl, fun _ => rfl⟩
    have HS4 : Hid (∀ W, Below wc.heap.size wc W → Calls Try.prog 37 #[.agg #[.int .i64 x1, .int .i64 x2, .int .i64 x3, .int .i64 x4, .int .i64 x5, .int .i64 x6, .slice D1 M1.length f1], .agg #[.int .i64 y1, .int .i64 y2, .int .i64 y3, .int .i64 y4, .int .i64 y5, .int .i64 y6, .slice D2 M2.length f2]] W fun e w' => e = .returned (.bool sm) ∧ Below W.heap.size W w') := fun W h => by
      cases sm with
      | true =>
        have e := hsm.1 rfl
        have r2 := HRB.out W h
        injection e with i1 i2 i3 i4 i5 i6 i7
        subst i1 i2 i3 i4 i5 i6 i7
        exact rsame_yes (⟨x1, x2, x3, x4, x5, x6, M1⟩ : Bat) D1 D2 f1 f2 W.heap.size W (HRA.out W h) r2 (Nat.le_refl _) HLA.out
      | false => exact rsame_no (⟨x1, x2, x3, x4, x5, x6, M1⟩ : Bat) (⟨y1, y2, y3, y4, y5, y6, M2⟩ : Bat) D1 D2 f1 f2 W.heap.size W (HRA.out W h) (HRB.out W h) (Nat.le_refl _) HLA.out HLB.out (fun e => by have := hsm.2 e; cases this)
    have HFIN : Hid (∀ la lb : List UInt8, (validE (⟨x1, x2, x3, x4, x5, x6, M1⟩ : Bat) = 0 → la = encB (⟨x1, x2, x3, x4, x5, x6, M1⟩ : Bat)) → (validE (⟨y1, y2, y3, y4, y5, y6, M2⟩ : Bat) = 0 → lb = encB (⟨y1, y2, y3, y4, y5, y6, M2⟩ : Bat)) → validE (⟨x1, x2, x3, x4, x5, x6, M1⟩ : Bat) = 0 → validE (⟨y1, y2, y3, y4, y5, y6, M2⟩ : Bat) = 0 → (la == lb) = sm) := fun la lb h1 h2 h3 h4 => by
      rw [Bool.eq_iff_iff, hsm, beq_iff_eq, h1 h3, h2 h4]
      exact ⟨fun h => encB_one ((fine_iff _).1 h3) ((fine_iff _).1 h4) h, fun h => by rw [h]⟩
    generalize validE (⟨x1, x2, x3, x4, x5, x6, M1⟩ : Bat) = Va at *
    generalize validE (⟨y1, y2, y3, y4, y5, y6, M2⟩ : Bat) = Vb at *
    have HBC := Lib.hid hBc
    clear hR1 hR2 hsm q4 q5 hBc HCA HCB HRA HRB HQ0 HQ4 HQ5 HW0 m0 m1 m2 m3 m4 m5 m6 d0 d1 d2 d3 d4 d5 d6
    obtain ⟨m0, m1, m2, m3, m4, m5, m6, d0, d1, d2, d3, d4, d5, d6⟩ := HCELL.out wc (Below.refl _ _)
    go_wp2_with fail
    refine (HEA.out _ (Below.refl _ _)).mono ?_
    rintro e w5 ⟨A5, c5, la, rfl, hbs5, hla, hQ5⟩
    clear m0 m1 m2 m3 m4 m5 m6 d0 d1 d2 d3 d4 d5 d6
    obtain ⟨m0, m1, m2, m3, m4, m5, m6, d0, d1, d2, d3, d4, d5, d6⟩ := HCELL.out w5 hQ5
    have z5 := hQ5.size
    have HLA5 := Lib.hid hla
    clear hla HEA
    go_wp2_with fail
    refine (HEB.out _ hQ5).mono ?_
    rintro e w6 ⟨A6, c6, lb, rfl, hbs6, hlb, hb6⟩
    clear m0 m1 m2 m3 m4 m5 m6 d0 d1 d2 d3 d4 d5 d6
    have hQ6 := hQ5.trans (hb6.mono z5)
    have z6 := hQ6.size
    have hbs5' := (hbs5.below hb6).wider hb6.size
    obtain ⟨m0, m1, m2, m3, m4, m5, m6, d0, d1, d2, d3, d4, d5, d6⟩ := HCELL.out w6 hQ6
    have HLB6 := Lib.hid hlb
    clear hlb HEB hbs5 hb6
    go_wp2_with fail
    refine (HS1.out _ hQ6).mono ?_
    rintro e w7 ⟨rfl, hb7⟩
    clear m0 m1 m2 m3 m4 m5 m6 d0 d1 d2 d3 d4 d5 d6
    have hQ7 := hQ6.trans (hb7.mono z6)
    have z7 := hQ7.size
    have hbs5 := (hbs5'.below hb7).wider hb7.size
    have hbs6' := (hbs6.below hb7).wider hb7.size
    obtain ⟨m0, m1, m2, m3, m4, m5, m6, d0, d1, d2, d3, d4, d5, d6⟩ := HCELL.out w7 hQ7
    clear hb7 hbs5' hbs6 HS1
    go_wp2_with fail
    refine (HS4.out _ hQ7).mono ?_
    rintro e w8 ⟨rfl, hb8⟩
    clear m0 m1 m2 m3 m4 m5 m6 d0 d1 d2 d3 d4 d5 d6
    have hQ8 := hQ7.trans (hb8.mono z7)
    have z8 := hQ8.size
    have hbs5' := (hbs5.below hb8).wider hb8.size
    have hbs6 := (hbs6'.below hb8).wider hb8.size
    obtain ⟨m0, m1, m2, m3, m4, m5, m6, d0, d1, d2, d3, d4, d5, d6⟩ := HCELL.out w8 hQ8
    have ess : (sm != sm) = false := by simp
    clear hb8 hbs5 hbs6' HS4
    go_wp2_with fail
    refine (HS3.out _ hQ8).mono ?_
    rintro e w9 ⟨rfl, hb9⟩
    clear m0 m1 m2 m3 m4 m5 m6 d0 d1 d2 d3 d4 d5 d6
    have hQ9 := hQ8.trans (hb9.mono z8)
    have z9 := hQ9.size
    have hbs5 := (hbs5'.below hb9).wider hb9.size
    have hbs6' := (hbs6.below hb9).wider hb9.size
    obtain ⟨m0, m1, m2, m3, m4, m5, m6, d0, d1, d2, d3, d4, d5, d6⟩ := HCELL.out w9 hQ9
    clear hb9 hbs5' hbs6 HS3
    go_wp2_with fail
    refine (HS2.out _ hQ9).mono ?_
    rintro e w10 ⟨rfl, hb10⟩
    clear m0 m1 m2 m3 m4 m5 m6 d0 d1 d2 d3 d4 d5 d6
    have hQ10 := hQ9.trans (hb10.mono z9)
    have hbs5' := (hbs5.below hb10).wider hb10.size
    have hbs6 := (hbs6'.below hb10).wider hb10.size
    clear hb10 hbs5 hbs6' HS2 HCELL
    have s1 := hbs5'.str (P := Try.prog) (src := 23) (dst := 9) (e := 5) Try.underlying23 Try.underlying5 Try.underlying9 c5
    have s2 := hbs6.str (P := Try.prog) (src := 23) (dst := 9) (e := 5) Try.underlying23 Try.underlying5 Try.underlying9 c6
    have hB10 := HBC.out.trans (hQ10.mono HBC.out.size)
    rcases Bool.eq_false_or_eq_true (Va == 0) with ha0 | ha0
    · rcases Bool.eq_false_or_eq_true (Vb == 0) with hb0 | hb0
      · have hll : (la == lb) = sm := HFIN.out la lb HLA5.out HLB6.out (by simpa using ha0) (by simpa using hb0)
        clear HFIN HLA5 HLB6
        go_wp2_with fail
        refine (awake3_any _).mono ?_
        rintro e w11 ⟨rfl, hb11⟩
        go_wp2_with fail
        go_ret
        exact ⟨rfl, hB10.trans (hb11.mono hB10.size)⟩
      · clear HFIN HLA5 HLB6
        go_wp2_with fail
        refine (awake3_any _).mono ?_
        rintro e w11 ⟨rfl, hb11⟩
        go_wp2_with fail
        go_ret
        exact ⟨rfl, hB10.trans (hb11.mono hB10.size)⟩
    · clear HFIN HLA5 HLB6
      go_wp2_with fail
      refine (awake3_any _).mono ?_
      rintro e w11 ⟨rfl, hb11⟩
      go_wp2_with fail
      go_ret
      exact ⟨rfl, hB10.trans (hb11.mono hB10.size)⟩
end Go.Proofs.Ytfiagnkdembkaaa
