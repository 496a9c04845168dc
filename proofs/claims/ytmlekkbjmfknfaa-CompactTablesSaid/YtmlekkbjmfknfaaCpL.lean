/-
  What awake of chapter 9's statements does.
-/
import Derived.Test.YtmlekkbjmfknfaaCpK
namespace Go.Proofs.Ytmlekkbjmfknfaa
open Go.RowKit Go.Lib Go.Sort
set_option linter.unusedVariables false
set_option linter.unusedSimpArgs false

def r3 : AtC := ⟨3, ⟨#[98]⟩, ⟨#[51]⟩, false, 0⟩
theorem pos_r3 {key : ByteArray} {r : Nat} (hk : lessB r3.key key = false) (h : posOk [r3] key r) : r = 0 := by
  rcases Nat.eq_zero_or_pos r with h0 | h0
  · exact h0
  · have := h.2.1 0 h0
    have e : ([r3].getD 0 default).key = r3.key := rfl
    rw [e, hk] at this; cases this
theorem get_b (base g : Nat) (next : Int) (v : Value) (w : World) (hT : Tbl w base g next v [r3]) :
    Calls Try.prog 49 #[.pointer (some ⟨g, 0, none⟩), .string ⟨#[98]⟩] w fun e w' => e = .returned (.tuple #[.agg #[.int .i64 3, .string ⟨#[98]⟩, .string ⟨#[51]⟩, .bool false, .int .i64 0], .bool true]) ∧ Below w.heap.size w w' := by
  refine (get9_any base g next v [r3] ⟨#[98]⟩ w hT (by simp)).mono ?_
  rintro e w' ⟨r, hp, rfl, hb⟩
  obtain rfl := pos_r3 (by simp [lessB, r3, ByteArray.toList_eq, Op.bytesLess]) hp
  exact ⟨rfl, hb⟩
theorem get_a (base g : Nat) (next : Int) (v : Value) (w : World) (hT : Tbl w base g next v [r3]) :
    Calls Try.prog 49 #[.pointer (some ⟨g, 0, none⟩), .string ⟨#[97]⟩] w fun e w' => e = .returned (.tuple #[.agg #[.int .i64 0, .string ⟨#[]⟩, .string ⟨#[]⟩, .bool false, .int .i64 0], .bool false]) ∧ Below w.heap.size w w' := by
  refine (get9_any base g next v [r3] ⟨#[97]⟩ w hT (by simp)).mono ?_
  rintro e w' ⟨r, hp, rfl, hb⟩
  obtain rfl := pos_r3 (by simp [lessB, r3, ByteArray.toList_eq, Op.bytesLess]) hp
  exact ⟨rfl, hb⟩
set_option maxRecDepth 100000 in
set_option maxHeartbeats 4000000 in
theorem awake9_any (w : World) : Calls Try.prog 15 #[] w fun e w' => e = .returned (.bool true) ∧ Below w.heap.size w w' := by
  have HEX : Hid (∀ W, Calls Try.prog 54 #[] W fun e w' => e = .returned (.slice (some ⟨W.heap.size, 0, none⟩) 4 4) ∧ Acs w' (W.heap.size + 1) (some ⟨W.heap.size, 0, none⟩) 4 exL ∧ Below W.heap.size W w' ∧ w'.heap.size = W.heap.size + 1) := fun W => example_any W
  have HCL : Hid (∀ (W : World) h A, Acs W W.heap.size A 4 exL → Calls Try.prog 53 #[.int .i64 h, .slice A 4 4] W fun e w' => ∃ v, e = .returned v ∧ w'.ownsRow W.heap.size 81 5 v (cleanR h exL).length (ccells (cleanR h exL)) ∧ Below W.heap.size W w') := fun W h A hA => clean_any h A 4 4 exL W hA (by omega)
  have HSP : Hid (∀ (W : World) A, Acs W W.heap.size A 4 exL → Calls Try.prog 55 #[.int .i64 9, .slice A 4 4] W fun e w' => e = .returned (.int .i64 3) ∧ Below W.heap.size W w') := fun W A hA => spare_any 9 A 4 4 exL W hA (by omega)
  have HNW : Hid (∀ W : World, Calls Try.prog 8 #[] W fun e w' => e = .returned (.pointer (some ⟨W.heap.size, 0, none⟩)) ∧ Hid (w' = W.alloc (.cells #[.int .i64 0, .slice none 0 0] 70))) := fun W => cnew_any W
  have HAP : Hid (∀ (W : World) g A, Tbl W W.heap.size g 0 (.slice none 0 0) [] → Acs W W.heap.size A 4 exL → (∀ p, A = some p → p.block ≠ g) → Calls Try.prog 47 #[.pointer (some ⟨g, 0, none⟩), .slice A 4 4] W fun e w' => ∃ v', e = .returned (.int .i64 0) ∧ Tbl w' W.heap.size g 4 v' [r3] ∧ Tw W.heap.size g W w') := fun W g A h1 h2 h3 => by
    refine (Apply_ok W.heap.size g 3 4 0 _ [] exL A W h1 (Nat.le_refl _) h2 h3 (by omega) (by simp) ex_ok).mono ?_
    rintro e w' ⟨v', rfl, h4, h5⟩
    rw [ex_app] at h4
    exact ⟨v', rfl, h4, h5⟩
  have HGB : Hid (∀ base g next v W, Tbl W base g next v [r3] → Calls Try.prog 49 #[.pointer (some ⟨g, 0, none⟩), .string ⟨#[98]⟩] W fun e w' => e = .returned (.tuple #[.agg #[.int .i64 3, .string ⟨#[98]⟩, .string ⟨#[51]⟩, .bool false, .int .i64 0], .bool true]) ∧ Below W.heap.size W w') := get_b
  have HGA : Hid (∀ base g next v W, Tbl W base g next v [r3] → Calls Try.prog 49 #[.pointer (some ⟨g, 0, none⟩), .string ⟨#[97]⟩] W fun e w' => e = .returned (.tuple #[.agg #[.int .i64 0, .string ⟨#[]⟩, .string ⟨#[]⟩, .bool false, .int .i64 0], .bool false]) ∧ Below W.heap.size W w') := get_a
  have HNX : Hid (∀ base g next v W, Tbl W base g next v [r3] → Calls Try.prog 39 #[.pointer (some ⟨g, 0, none⟩)] W fun e w' => e = .returned (.int .i64 next) ∧ w' = W) := fun base g next v W h => next9_any base g next v [r3] W h
  go_enter Try.func15, Try.ntmps15
  go_upto_region 2 with (first
    | (go_at_call 54; (with_reducible refine (HEX.out _).mono ?_); rintro e w1 ⟨rfl, ha1, hb1, hz1⟩)
    | (go_at_call 53; (with_reducible refine (HCL.out _ _ _ (ha1.wider (by omega))).mono ?_); rintro e w2 ⟨v1, rfl, hv1, hb2⟩))
  rw [ex_clean9] at hv1
  obtain ⟨A1, c1, rfl, _, _, hA1⟩ := Acs.of_row hv1 rfl (fun r hr => by simp at hr; subst hr; exact ex_fit _ (by simp [exL]))
  obtain ⟨p1, rfl, hp1, x1, _⟩ := hA1.row (show 0 < 1 by omega)
  rw [Nat.zero_mul, add_zero5] at x1
  have X1 : Hid (w2.cell? p1 = some (.int .i64 3)) := x1
  have B2 : Hid (Below w.heap.size w w2) := hb1.trans (hb2.mono (by omega))
  clear hv1 hA1 x1 ha1 hb1 hb2 hz1
  go_upto_region 3 with (first
    | (go_at_call 54; (with_reducible refine (HEX.out _).mono ?_); rintro e w3 ⟨rfl, ha1, hb1, hz1⟩)
    | (go_at_call 53; (with_reducible refine (HCL.out _ _ _ (ha1.wider (by omega))).mono ?_); rintro e w4 ⟨v2, rfl, hv1, hb2⟩))
  rw [ex_clean5] at hv1
  obtain ⟨A2, c2, rfl, _, _, hA1⟩ := Acs.of_row hv1 rfl (fun r hr => by simp at hr; rcases hr with rfl | rfl <;> exact ex_fit _ (by simp [exL]))
  obtain ⟨p2, rfl, hp2, _, _, _, x2, _⟩ := hA1.row (show 0 < 2 by omega)
  rw [Nat.zero_mul, add_zero5] at x2
  have hb24 : Below w2.heap.size w2 w4 := hb1.trans (hb2.mono (by omega))
  have X2 : Hid (w4.cell? ⟨p2.block, p2.off + 3, none⟩ = some (.bool true)) := x2
  have Y1 : Hid (w4.cell? p1 = some (.int .i64 3)) := (hb24.cell hp1).trans X1.out
  have B4 : Hid (Below w.heap.size w w4) := B2.out.trans (hb24.mono B2.out.size)
  have hz24 := hb24.size
  clear hv1 hA1 x2 ha1 hb1 hb2 hz1 X1 B2 hb24
  go_upto_region 4 with (go_at_call 8; (with_reducible refine (HNW.out _).mono ?_); rintro e w5 ⟨rfl, h5⟩)
  have T5 : Hid (Tbl w5 w5.heap.size w4.heap.size 0 (.slice none 0 0) []) := by show Tbl _ _ _ _ _ _; rw [h5.out]; exact Tbl.made w4 _
  have B5 : Below w4.heap.size w4 w5 := by rw [h5.out]; exact (Below.refl _ _).alloc (Nat.le_refl _) _
  have z5 : Hid (w5.heap.size = w4.heap.size + 1) := by show _ = _; rw [h5.out]; simp
  clear h5
  go_upto_region 5 with (first
    | (go_at_call 54; (with_reducible refine (HEX.out _).mono ?_); rintro e w6 ⟨rfl, ha1, hb1, hz1⟩)
    | (go_at_call 47; (with_reducible refine (HAP.out _ _ _ ((T5.out.below hb1).rebase _) (ha1.wider (by omega)) ?_).mono ?_); (intro p hp; injection hp with hp; subst hp; show w5.heap.size ≠ _; have := z5.out; omega); rintro e w7 ⟨v7, rfl, ht7, htw7⟩))
  have T7 := Lib.hid ht7
  have W7 : Hid (Tw w4.heap.size w4.heap.size w4 w7) := (Tw.of_below (B5.trans (hb1.mono (by have := z5.out; omega))) (Nat.le_refl _)).trans ⟨htw7.os, htw7.tape, htw7.output, htw7.size, fun k hk hn => htw7.block k (by have := z5.out; omega) hn⟩
  clear ht7 htw7 ha1 hb1 hz1 B5 T5 z5
  go_upto_region 6 with (go_at_call 49; (with_reducible refine (HGB.out _ _ _ _ _ T7.out).mono ?_); rintro e w8 ⟨rfl, hb8⟩)
  have T8 := Lib.hid (T7.out.below hb8)
  have W8 := Lib.hid (W7.out.trans (Tw.of_below hb8 W7.out.size))
  have hN := heap_alloc_new w8 (.cells #[.int .i64 3, .string ⟨#[98]⟩, .string ⟨#[51]⟩, .bool false, .int .i64 0] 81)
  have hal := (Below.refl w8.heap.size w8).alloc (Nat.le_refl _) (.cells #[.int .i64 3, .string ⟨#[98]⟩, .string ⟨#[51]⟩, .bool false, .int .i64 0] 81)
  obtain ⟨w9, hw9⟩ : ∃ w9, w8.alloc (.cells #[.int .i64 3, .string ⟨#[98]⟩, .string ⟨#[51]⟩, .bool false, .int .i64 0] 81) = w9 := ⟨_, rfl⟩
  rw [hw9] at hN hal ⊢
  have T9 := Lib.hid (T8.out.below hal)
  have W9 := Lib.hid (W8.out.trans (Tw.of_below hal W8.out.size))
  have hz9 : w8.heap.size < w9.heap.size := (Array.getElem?_eq_some_iff.1 hN).1
  clear hb8 hw9 hal T7 W7 T8 W8
  go_upto_region 7 with (go_at_call 49; (with_reducible refine (HGA.out _ _ _ _ _ T9.out).mono ?_); rintro e w10 ⟨rfl, hb10⟩)
  have hb11 := hb10.alloc hb10.size (.cells #[.int .i64 0, .string ⟨#[]⟩, .string ⟨#[]⟩, .bool false, .int .i64 0] 81)
  obtain ⟨w11, hw11⟩ : ∃ w11, w10.alloc (.cells #[.int .i64 0, .string ⟨#[]⟩, .string ⟨#[]⟩, .bool false, .int .i64 0] 81) = w11 := ⟨_, rfl⟩
  rw [hw11] at hb11 ⊢
  have T11 := Lib.hid (T9.out.below hb11)
  have W11 := Lib.hid (W9.out.trans (Tw.of_below hb11 W9.out.size))
  have y0 : w11.cell? p1 = some (.int .i64 3) := (World.cell?_of_block (W11.out.block _ (by omega) (by omega))).trans Y1.out
  have y2 : w11.cell? ⟨p2.block, p2.off + 3, none⟩ = some (.bool true) := (World.cell?_of_block (a := ⟨p2.block, p2.off + 3, none⟩) (W11.out.block p2.block (by omega) (by omega))).trans X2.out
  have hN11 := (hb11.block _ hz9).trans hN
  have y3 : w11.cell? ⟨w8.heap.size, 2, none⟩ = some (.string ⟨#[51]⟩) := cell_of_row _ _ 2 _ _ _ hN11
  have hz11 : w8.heap.size < w11.heap.size := Nat.lt_of_lt_of_le hz9 hb11.size
  have hp11 : p1.block < w11.heap.size := by have := W11.out.size; omega
  have hq11 : p2.block < w11.heap.size := by have := W11.out.size; omega
  clear hN hN11 hb10 hb11 hw11 T9 W9 Y1 X2
  go_wp2_with (first
    | (go_at_call 54; (with_reducible refine (HEX.out _).mono ?_); rintro e w12 ⟨rfl, ha1, hb12, hz12⟩)
    | (go_at_call 55; (with_reducible refine (HSP.out _ _ (ha1.wider (by omega))).mono ?_); rintro e w13 ⟨rfl, hb13⟩; have hb113 : Below w11.heap.size w11 w13 := hb12.trans (hb13.mono (by omega)); have T13 := Lib.hid (T11.out.below hb113); have q3 := (hb113.cell (p := ⟨w8.heap.size, 2, none⟩) hz11).trans y3)
    | (go_at_call 39; (with_reducible refine (HNX.out _ _ _ _ _ T13.out).mono ?_); rintro e w14 ⟨rfl, rfl⟩))
  go_ret
  have hW := W11.out.trans (Tw.of_below hb113 W11.out.size)
  exact ⟨rfl, B4.out.trans (hW.below B4.out.size B4.out.size)⟩
end Go.Proofs.Ytmlekkbjmfknfaa
