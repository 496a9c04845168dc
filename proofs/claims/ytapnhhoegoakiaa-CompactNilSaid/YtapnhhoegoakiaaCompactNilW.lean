/-
  What a table that is not there answers; the walk through CompactNil.
-/
import Derived.Test.YtapnhhoegoakiaaCpL
namespace Go.Proofs.Ytapnhhoegoakiaa
open Go.RowKit Go.Lib Go.Sort
set_option linter.unusedVariables false
set_option linter.unusedSimpArgs false

set_option maxRecDepth 100000 in
set_option maxHeartbeats 1000000 in
theorem nGet9 (key : ByteArray) (w : World) : Calls Try.prog 26 #[.pointer none, .string key] w fun e w' => e = .returned (.tuple #[.agg #[.int .i64 0, .string ⟨#[]⟩, .string ⟨#[]⟩, .bool false, .int .i64 0], .bool false]) ∧ Below w.heap.size w w' := by
  go_enter Try.func26, Try.ntmps26
  go_wp2
  refine bodyPost_ret (v := .tuple #[.agg #[.int .i64 0, .string ⟨#[]⟩, .string ⟨#[]⟩, .bool false, .int .i64 0], .bool false]) (by simp [results, Try.results26, go_sem]) rfl ⟨rfl, ?_⟩
  repeat refine Below.setCell ?_ (by simp) _
  exact (Below.refl _ _).alloc (Nat.le_refl _) _
set_option maxRecDepth 100000 in
set_option maxHeartbeats 1000000 in
theorem nApply9 (w : World) : Calls Try.prog 21 #[.pointer none, .slice none 0 0] w fun e w' => e = .returned (.int .i64 1) ∧ Below w.heap.size w w' := by
  go_enter Try.func21, Try.ntmps21
  go_wp2
  go_ret
  exact ⟨rfl, Below.refl _ _⟩
set_option maxRecDepth 100000 in
set_option maxHeartbeats 1000000 in
theorem nRange9 (a b : ByteArray) (n : Int) (w : World) : Calls Try.prog 27 #[.pointer none, .string a, .string b, .int .i64 n] w fun e w' => e = .returned (.slice none 0 0) ∧ Below w.heap.size w w' := by
  go_enter Try.func27, Try.ntmps27
  go_wp2
  go_ret
  exact ⟨rfl, Below.refl _ _⟩
set_option maxRecDepth 100000 in
set_option maxHeartbeats 1000000 in
theorem nAll9 (w : World) : Calls Try.prog 24 #[.pointer none] w fun e w' => e = .returned (.slice none 0 0) ∧ Below w.heap.size w w' := by
  go_enter Try.func24, Try.ntmps24
  go_wp2
  go_ret
  exact ⟨rfl, Below.refl _ _⟩
set_option maxRecDepth 100000 in
set_option maxHeartbeats 1000000 in
theorem nLen9 (w : World) : Calls Try.prog 22 #[.pointer none] w fun e w' => e = .returned (.int .i64 0) ∧ Below w.heap.size w w' := by
  go_enter Try.func22, Try.ntmps22
  go_wp2
  go_ret
  exact ⟨rfl, Below.refl _ _⟩
set_option maxRecDepth 100000 in
set_option maxHeartbeats 1000000 in
theorem nNext9 (w : World) : Calls Try.prog 23 #[.pointer none] w fun e w' => e = .returned (.int .i64 0) ∧ Below w.heap.size w w' := by
  go_enter Try.func23, Try.ntmps23
  go_wp2
  go_ret
  exact ⟨rfl, Below.refl _ _⟩
set_option maxRecDepth 100000 in
set_option maxHeartbeats 1000000 in
theorem nSame9 (p : Option Addr) (w : World) : Calls Try.prog 25 #[.pointer none, .pointer p] w fun e w' => e = .returned (.bool false) ∧ Below w.heap.size w w' := by
  go_enter Try.func25, Try.ntmps25
  go_wp2
  go_ret
  exact ⟨rfl, Below.refl _ _⟩
set_option maxRecDepth 100000 in
set_option maxHeartbeats 1000000 in
theorem sameN9 (p : Addr) (w : World) : Calls Try.prog 25 #[.pointer (some p), .pointer none] w fun e w' => e = .returned (.bool false) ∧ Below w.heap.size w w' := by
  go_enter Try.func25, Try.ntmps25
  go_wp2
  go_ret
  exact ⟨rfl, Below.refl _ _⟩
set_option maxRecDepth 100000 in
set_option maxHeartbeats 1000000 in
theorem nCopy9 (w : World) : Calls Try.prog 28 #[.pointer none] w fun e w' => e = .returned (.pointer none) ∧ Below w.heap.size w w' := by
  go_enter Try.func28, Try.ntmps28
  go_wp2
  go_ret
  exact ⟨rfl, Below.refl _ _⟩
theorem eq_at (x : Value) (hx : x = .agg #[.int .i64 0, .string ⟨#[]⟩, .string ⟨#[]⟩, .bool false, .int .i64 0]) (w : World) : (binOp .eql 48 x x).run Try.prog w = .ok (.bool true) w := by subst hx; kernel_rfl
set_option maxRecDepth 100000 in
set_option maxHeartbeats 2000000 in
theorem compactNil_any (key : ByteArray) (most : Int) (w : World) (hk : key.size ≤ maxLen) : Calls Try.prog 8 #[.string key, .int .i64 most] w fun e w' => e = .returned (.bool true) ∧ Below w.heap.size w w' := by
  have HG : Hid (∀ k W, Calls Try.prog 26 #[.pointer none, .string k] W fun e w' => e = .returned (.tuple #[.agg #[.int .i64 0, .string ⟨#[]⟩, .string ⟨#[]⟩, .bool false, .int .i64 0], .bool false]) ∧ Below W.heap.size W w') := nGet9
  have heq := fun w => eq_at _ rfl w
  unfold maxLen at hk
  have HAP : Hid (∀ W, Calls Try.prog 21 #[.pointer none, .slice none 0 0] W fun e w' => e = .returned (.int .i64 1) ∧ Below W.heap.size W w') := nApply9
  have HRA : Hid (∀ a b n W, Calls Try.prog 27 #[.pointer none, .string a, .string b, .int .i64 n] W fun e w' => e = .returned (.slice none 0 0) ∧ Below W.heap.size W w') := nRange9
  have HALL : Hid (∀ W, Calls Try.prog 24 #[.pointer none] W fun e w' => e = .returned (.slice none 0 0) ∧ Below W.heap.size W w') := nAll9
  have HLEN : Hid (∀ W, Calls Try.prog 22 #[.pointer none] W fun e w' => e = .returned (.int .i64 0) ∧ Below W.heap.size W w') := nLen9
  have HNX : Hid (∀ W, Calls Try.prog 23 #[.pointer none] W fun e w' => e = .returned (.int .i64 0) ∧ Below W.heap.size W w') := nNext9
  have HNW : Hid (∀ W : World, Calls Try.prog 20 #[] W fun e w' => e = .returned (.pointer (some ⟨W.heap.size, 0, none⟩)) ∧ Below W.heap.size W w') := fun W => (cnew_any W).mono fun e w' ⟨h1, h2⟩ => ⟨h1, by rw [h2]; exact (Below.refl _ _).alloc (Nat.le_refl _) _⟩
  have HSM : Hid (∀ p W, Calls Try.prog 25 #[.pointer none, .pointer p] W fun e w' => e = .returned (.bool false) ∧ Below W.heap.size W w') := nSame9
  have HSN : Hid (∀ p W, Calls Try.prog 25 #[.pointer (some p), .pointer none] W fun e w' => e = .returned (.bool false) ∧ Below W.heap.size W w') := sameN9
  have HCP : Hid (∀ W, Calls Try.prog 28 #[.pointer none] W fun e w' => e = .returned (.pointer none) ∧ Below W.heap.size W w') := nCopy9
  have HAW : Hid (∀ W, Calls Try.prog 19 #[] W fun e w' => e = .returned (.bool true) ∧ Below W.heap.size W w') := awake9_any
  rcases Nat.lt_or_ge 100 key.size with hl | hl
  · have hl1 : decide (100 < (key.size : Int)) = true := by simp; omega
    have hl2 : (100 : Nat) ≤ key.size := by omega
    go_enter Try.func8, Try.ntmps8
    go_upto_region 5 with (go_at_call 26; (with_reducible refine (HG.out _ _).mono ?_); rintro e w1 ⟨rfl, hb1⟩)
    have hN := heap_alloc_new w1 (.cells #[.int .i64 0, .string ⟨#[]⟩, .string ⟨#[]⟩, .bool false, .int .i64 0] 48)
    have hb2 := hb1.alloc hb1.size (.cells #[.int .i64 0, .string ⟨#[]⟩, .string ⟨#[]⟩, .bool false, .int .i64 0] 48)
    obtain ⟨w2, hw2⟩ : ∃ w2, w1.alloc (.cells #[.int .i64 0, .string ⟨#[]⟩, .string ⟨#[]⟩, .bool false, .int .i64 0] 48) = w2 := ⟨_, rfl⟩
    rw [hw2] at hN hb2 ⊢
    have y0 := cell_of_row _ _ 0 _ _ _ hN
    have y1 := cell_of_row _ _ 1 _ _ _ hN
    have y2 := cell_of_row _ _ 2 _ _ _ hN
    have y3 := cell_of_row _ _ 3 _ _ _ hN
    have y4 := cell_of_row _ _ 4 _ _ _ hN
    have hzz : w1.heap.size < w2.heap.size := (Array.getElem?_eq_some_iff.1 hN).1
    have HB2 := Lib.hid hb2
    clear hN hb2 hw2 hb1
    go_wp2_with (first
      | (go_at_call 21; (with_reducible refine (HAP.out _).mono ?_); rintro e w3 ⟨rfl, hb3⟩; have z0 := (hb3.cell (p := ⟨w1.heap.size, 0, none⟩) hzz).trans y0; have z1 := (hb3.cell (p := ⟨w1.heap.size, 1, none⟩) hzz).trans y1; have z2 := (hb3.cell (p := ⟨w1.heap.size, 2, none⟩) hzz).trans y2; have z3 := (hb3.cell (p := ⟨w1.heap.size, 3, none⟩) hzz).trans y3; have z4 := (hb3.cell (p := ⟨w1.heap.size, 4, none⟩) hzz).trans y4; replace HB2 := Lib.hid (HB2.out.trans (hb3.mono HB2.out.size)); clear hb3)
      | (go_at_call 27; (with_reducible refine (HRA.out _ _ _ _).mono ?_); rintro e w4 ⟨rfl, hb4⟩; replace HB2 := Lib.hid (HB2.out.trans (hb4.mono HB2.out.size)); clear hb4)
      | (go_at_call 24; (with_reducible refine (HALL.out _).mono ?_); rintro e w5 ⟨rfl, hb5⟩; replace HB2 := Lib.hid (HB2.out.trans (hb5.mono HB2.out.size)); clear hb5)
      | (go_at_call 22; (with_reducible refine (HLEN.out _).mono ?_); rintro e w6 ⟨rfl, hb6⟩; replace HB2 := Lib.hid (HB2.out.trans (hb6.mono HB2.out.size)); clear hb6)
      | (go_at_call 23; (with_reducible refine (HNX.out _).mono ?_); rintro e w7 ⟨rfl, hb7⟩; replace HB2 := Lib.hid (HB2.out.trans (hb7.mono HB2.out.size)); clear hb7)
      | (go_at_call 20; (with_reducible refine (HNW.out _).mono ?_); rintro e w8 ⟨rfl, hb8⟩; replace HB2 := Lib.hid (HB2.out.trans (hb8.mono HB2.out.size)); clear hb8)
      | (go_at_call 25; (with_reducible refine (HSM.out _ _).mono ?_); rintro e w9 ⟨rfl, hb9⟩; replace HB2 := Lib.hid (HB2.out.trans (hb9.mono HB2.out.size)); clear hb9)
      | (go_at_call 25; (with_reducible refine (HSN.out _ _).mono ?_); rintro e w10 ⟨rfl, hb10⟩; replace HB2 := Lib.hid (HB2.out.trans (hb10.mono HB2.out.size)); clear hb10)
      | (go_at_call 28; (with_reducible refine (HCP.out _).mono ?_); rintro e w11 ⟨rfl, hb11⟩; replace HB2 := Lib.hid (HB2.out.trans (hb11.mono HB2.out.size)); clear hb11)
      | (go_at_call 19; (with_reducible refine (HAW.out _).mono ?_); rintro e w12 ⟨rfl, hb12⟩; replace HB2 := Lib.hid (HB2.out.trans (hb12.mono HB2.out.size)); clear hb12))
    go_ret
    exact ⟨rfl, HB2.out⟩
  · have hl1 : decide (100 < (key.size : Int)) = false := by simp; omega
    go_enter Try.func8, Try.ntmps8
    go_upto_region 5 with (go_at_call 26; (with_reducible refine (HG.out _ _).mono ?_); rintro e w1 ⟨rfl, hb1⟩)
    have hN := heap_alloc_new w1 (.cells #[.int .i64 0, .string ⟨#[]⟩, .string ⟨#[]⟩, .bool false, .int .i64 0] 48)
    have hb2 := hb1.alloc hb1.size (.cells #[.int .i64 0, .string ⟨#[]⟩, .string ⟨#[]⟩, .bool false, .int .i64 0] 48)
    obtain ⟨w2, hw2⟩ : ∃ w2, w1.alloc (.cells #[.int .i64 0, .string ⟨#[]⟩, .string ⟨#[]⟩, .bool false, .int .i64 0] 48) = w2 := ⟨_, rfl⟩
    rw [hw2] at hN hb2 ⊢
    have y0 := cell_of_row _ _ 0 _ _ _ hN
    have y1 := cell_of_row _ _ 1 _ _ _ hN
    have y2 := cell_of_row _ _ 2 _ _ _ hN
    have y3 := cell_of_row _ _ 3 _ _ _ hN
    have y4 := cell_of_row _ _ 4 _ _ _ hN
    have hzz : w1.heap.size < w2.heap.size := (Array.getElem?_eq_some_iff.1 hN).1
    have HB2 := Lib.hid hb2
    clear hN hb2 hw2 hb1
    go_wp2_with (first
      | (go_at_call 21; (with_reducible refine (HAP.out _).mono ?_); rintro e w3 ⟨rfl, hb3⟩; have z0 := (hb3.cell (p := ⟨w1.heap.size, 0, none⟩) hzz).trans y0; have z1 := (hb3.cell (p := ⟨w1.heap.size, 1, none⟩) hzz).trans y1; have z2 := (hb3.cell (p := ⟨w1.heap.size, 2, none⟩) hzz).trans y2; have z3 := (hb3.cell (p := ⟨w1.heap.size, 3, none⟩) hzz).trans y3; have z4 := (hb3.cell (p := ⟨w1.heap.size, 4, none⟩) hzz).trans y4; replace HB2 := Lib.hid (HB2.out.trans (hb3.mono HB2.out.size)); clear hb3)
      | (go_at_call 27; (with_reducible refine (HRA.out _ _ _ _).mono ?_); rintro e w4 ⟨rfl, hb4⟩; replace HB2 := Lib.hid (HB2.out.trans (hb4.mono HB2.out.size)); clear hb4)
      | (go_at_call 24; (with_reducible refine (HALL.out _).mono ?_); rintro e w5 ⟨rfl, hb5⟩; replace HB2 := Lib.hid (HB2.out.trans (hb5.mono HB2.out.size)); clear hb5)
      | (go_at_call 22; (with_reducible refine (HLEN.out _).mono ?_); rintro e w6 ⟨rfl, hb6⟩; replace HB2 := Lib.hid (HB2.out.trans (hb6.mono HB2.out.size)); clear hb6)
      | (go_at_call 23; (with_reducible refine (HNX.out _).mono ?_); rintro e w7 ⟨rfl, hb7⟩; replace HB2 := Lib.hid (HB2.out.trans (hb7.mono HB2.out.size)); clear hb7)
      | (go_at_call 20; (with_reducible refine (HNW.out _).mono ?_); rintro e w8 ⟨rfl, hb8⟩; replace HB2 := Lib.hid (HB2.out.trans (hb8.mono HB2.out.size)); clear hb8)
      | (go_at_call 25; (with_reducible refine (HSM.out _ _).mono ?_); rintro e w9 ⟨rfl, hb9⟩; replace HB2 := Lib.hid (HB2.out.trans (hb9.mono HB2.out.size)); clear hb9)
      | (go_at_call 25; (with_reducible refine (HSN.out _ _).mono ?_); rintro e w10 ⟨rfl, hb10⟩; replace HB2 := Lib.hid (HB2.out.trans (hb10.mono HB2.out.size)); clear hb10)
      | (go_at_call 28; (with_reducible refine (HCP.out _).mono ?_); rintro e w11 ⟨rfl, hb11⟩; replace HB2 := Lib.hid (HB2.out.trans (hb11.mono HB2.out.size)); clear hb11)
      | (go_at_call 19; (with_reducible refine (HAW.out _).mono ?_); rintro e w12 ⟨rfl, hb12⟩; replace HB2 := Lib.hid (HB2.out.trans (hb12.mono HB2.out.size)); clear hb12))
    go_ret
    exact ⟨rfl, HB2.out⟩
end Go.Proofs.Ytapnhhoegoakiaa
