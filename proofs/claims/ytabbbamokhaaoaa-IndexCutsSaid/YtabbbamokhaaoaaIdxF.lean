/-
  Chapter 5's example: towpathlaw05.awake answers true.
-/
import Derived.Test.YtabbbamokhaaoaaIdxE
import Derived.Laws.StructEq
namespace Go.Proofs.Ytabbbamokhaaoaa
open Go.RowKit
set_option linter.unusedVariables false
set_option linter.unusedSimpArgs false

set_option maxRecDepth 100000 in
theorem eqEnt (o1 p1 b1 o2 p2 b2 : Int) (w : World) : (binOp .eql 28 (.agg #[.int .i64 o1, .int .i64 p1, .int .i64 b1]) (.agg #[.int .i64 o2, .int .i64 p2, .int .i64 b2])).run Try.prog w = .ok (.bool (o1 == o2 && p1 == p2 && b1 == b2)) w := by
  have u3 := Try.underlying3
  have u2 := Try.underlying2
  have a3 := Try.isAgg3
  have z3 := Try.sizeOf3
  have a2 := Try.isAgg2
  have z2 := Try.sizeOf2
  have hS : Try.prog.underlying 28 = some (.struct (Try.prog.fieldsOf 28)) := by kernel_rfl
  have hp : Try.prog.stoodInHeld 28 = false := by kernel_rfl
  rw [run_eql_struct, show (10000 : Nat) = 9999 + 1 from rfl, run_equalIn_agg w 9999 28 _ _ hS hp]
  simp only [Program.fieldsOf, Try.underlying28]
  go_simp
  by_cases h1 : o1 = o2 <;> by_cases h2 : p1 = p2 <;> by_cases h3 : b1 = b2 <;> simp [h1, h2, h3]

def ix0 : Idx := ⟨100, [], -1, -1, -1⟩
def ix1 : Idx := ⟨100, [⟨0, 0, -1⟩], 0, 0, 5⟩
def ix2 : Idx := ⟨100, [⟨0, 0, -1⟩], 7, 60, 9⟩
def ix3 : Idx := ⟨100, [⟨0, 0, -1⟩, ⟨9, 130, 9⟩], 9, 130, 9⟩
theorem ix1_eq : ix0.note 0 0 5 = ix1 := by rfl
theorem ix2_eq : ix1.note 7 60 9 = ix2 := by rfl
theorem ix3_eq : ix2.note 9 130 3 = ix3 := by rfl
theorem ix3_srt : Srt ix3 := by
  have h1 := (Srt.new 100).note (o := 0) 0 5 (by decide)
  have h2 := Srt.note (x := ix1) (by rw [← ix1_eq]; exact h1) (o := 7) 60 9 (by decide)
  have h3 := Srt.note (x := ix2) (by rw [← ix2_eq]; exact h2) (o := 9) 130 3 (by decide)
  rw [← ix3_eq]; exact h3
theorem ix3_find : Upto (atMost 8) ix3.L 1 := by
  refine ⟨by decide, fun t ht => ?_, fun t h1 h2 => ?_⟩
  · have e : t = 0 := by omega
    subst e
    rfl
  · have hl : ix3.L.length = 2 := rfl
    have e : t = 1 := by omega
    subst e
    rfl
theorem ix3_after : Upto (ahead_ 10) ix3.L 2 := by
  refine ⟨by decide, fun t ht => ?_, fun t h1 h2 => ?_⟩
  · rcases Nat.lt_or_ge t 1 with h | h
    · have e : t = 0 := by omega
      subst e
      rfl
    · have e : t = 1 := by omega
      subst e
      rfl
  · have hl : ix3.L.length = 2 := rfl
    omega
theorem pl0 : ∀ a, a < ix0.L.length → 0 ≤ (ix0.L.getD a default).pl ∧ (ix0.L.getD a default).pl ≤ 4194304 := fun a h => absurd h (by simp [ix0])
theorem pl1 : ∀ a, a < ix1.L.length → 0 ≤ (ix1.L.getD a default).pl ∧ (ix1.L.getD a default).pl ≤ 4194304 := fun a h => by
  obtain rfl : a = 0 := by simp [ix1] at h; exact h
  decide
theorem pl2 : ∀ a, a < ix2.L.length → 0 ≤ (ix2.L.getD a default).pl ∧ (ix2.L.getD a default).pl ≤ 4194304 := fun a h => by
  obtain rfl : a = 0 := by simp [ix2] at h; exact h
  decide

set_option maxRecDepth 100000 in
set_option maxHeartbeats 4000000 in
theorem awake5_any (w : World) :
    Calls Try.prog 16 #[] w fun e w' => e = .returned (.bool true) ∧ Below w.heap.size w w' := by
  have HQ := Lib.hid eqEnt
  go_enter Try.func16, Try.ntmps16
  go_wp2_with fail
  refine (new_any 100 _ (by omega) (by omega)).mono ?_
  rintro e w1 ⟨rfl, hx1, hb1⟩
  have z1 := hb1.size
  have HN1 := Lib.hid (note_ok _ _ _ ix0 0 0 5 w1 hx1 z1 (by decide) (by omega) (by omega) (by omega) (by omega) (by omega) (by omega) (by decide) (by decide) pl0)
  have HB1 := Lib.hid hb1
  clear hx1 hb1 z1
  go_wp2_with fail
  refine HN1.out.mono ?_
  rintro e w2 ⟨rfl, v2, hx2, hbt2, hn2⟩
  rw [ix1_eq] at hx2
  have HB2 := Lib.hid (HB1.out.trans (hbt2.below (by have := HB1.out.size; omega) (fun j hj => by simp [Value.ownBlock] at hj) HB1.out.size))
  have HN2 := Lib.hid (note_ok _ _ _ ix1 7 60 9 w2 hx2 (HB2.out.size) (by decide) (by omega) (by omega) (by omega) (by omega) (by omega) (by omega) (by decide) (by decide) pl1)
  have HV2 := Lib.hid (World.ownsRow.lt hx2.own)
  clear hx2 hbt2 hn2 HB1 HN1
  go_wp2_with fail
  refine HN2.out.mono ?_
  rintro e w3 ⟨rfl, v3, hx3, hbt3, hn3⟩
  rw [ix2_eq] at hx3
  have HB3 := Lib.hid (HB2.out.trans (hbt3.below (Nat.le_refl _) (fun j hj => (HV2.out j hj).1) HB2.out.size))
  have HN3 := Lib.hid (note_ok _ _ _ ix2 9 130 3 w3 hx3 (HB3.out.size) (by decide) (by omega) (by omega) (by omega) (by omega) (by omega) (by omega) (by decide) (by decide) pl2)
  have HV3 := Lib.hid (World.ownsRow.lt hx3.own)
  clear hx3 hbt3 hn3 HB2 HN2 HV2
  go_wp2_with fail
  refine HN3.out.mono ?_
  rintro e w4 ⟨rfl, v4, hx4, hbt4, hn4⟩
  rw [ix3_eq] at hx4
  have HB4 := Lib.hid (HB3.out.trans (hbt4.below (Nat.le_refl _) (fun j hj => (HV3.out j hj).1) HB3.out.size))
  have HF := Lib.hid (find_any _ _ _ ix3 8 w4 hx4 (by decide) ix3_srt)
  have HX4 := Lib.hid hx4
  clear hx4 hbt4 hn4 HB3 HN3 HV3
  go_wp2_with fail
  refine HF.out.mono ?_
  rintro e w5 ⟨r, rfl, hU, hb5⟩
  obtain rfl := hU.one ix3_find
  rw [show lastE ix3.L 1 = ⟨0, 0, -1⟩ from rfl, show decide (0 < 1) = true from rfl]
  simp only [Ent.cells]
  have HB5 := Lib.hid (HB4.out.trans (hb5.mono HB4.out.size))
  have HX5 := Lib.hid (HX4.out.below hb5 (Nat.le_refl _))
  have HF2 : Hid (∀ o, Calls Try.prog 21 #[.pointer (some ⟨w.heap.size, 0, none⟩), .int .i64 10] (w5.alloc o) fun e w' => ∃ r : Nat, e = .returned (.tuple #[.agg (lastE ix3.L r).cells.toArray, .bool (decide (0 < r))]) ∧ Upto (ahead_ 10) ix3.L r ∧ Below (w5.alloc o).heap.size (w5.alloc o) w') := fun o => after_any _ _ _ ix3 10 _ (HX5.out.below ((Below.refl _ _).alloc (Nat.le_refl _) o) (Nat.le_refl _)) (by decide) ix3_srt
  clear hU hb5 HF HX4
  go_wp2_with fail
  refine (HF2.out _).mono ?_
  rintro e w6 ⟨r, rfl, hU, hb6⟩
  obtain rfl := hU.one ix3_after
  rw [show lastE ix3.L 2 = ⟨9, 130, 9⟩ from rfl, show decide (0 < 2) = true from rfl]
  simp only [Ent.cells]
  have hal := (Below.refl w5.heap.size w5).alloc (Nat.le_refl _) (.cells #[.int .i64 0, .int .i64 0, .int .i64 (-1)] 28)
  have hN5 := (hb6.block w5.heap.size (by simp)).trans (heap_alloc_new w5 (.cells #[.int .i64 0, .int .i64 0, .int .i64 (-1)] 28))
  have hz6 : w5.heap.size < w6.heap.size := by have := hb6.size; simp at this; omega
  have HB6 := Lib.hid (HB5.out.trans ((hal.trans (hb6.mono (by simp))).mono HB5.out.size))
  have HX6 := Lib.hid (HX5.out.below (hal.trans (hb6.mono (by simp))) (Nat.le_refl _))
  have hal6 := (Below.refl w6.heap.size w6).alloc (Nat.le_refl _) (.cells #[.int .i64 9, .int .i64 130, .int .i64 9] 28)
  have HX7 := Lib.hid (HX6.out.below hal6 (Nat.le_refl _))
  have HB7 := Lib.hid (HB6.out.trans (hal6.mono HB6.out.size))
  have k0 := cell_of_row _ _ 0 _ _ _ ((hal6.block w5.heap.size hz6).trans hN5)
  have k1 := cell_of_row _ _ 1 _ _ _ ((hal6.block w5.heap.size hz6).trans hN5)
  have k2 := cell_of_row _ _ 2 _ _ _ ((hal6.block w5.heap.size hz6).trans hN5)
  have HL := Lib.hid (len_any _ _ _ ix3 _ HX7.out)
  have q := HQ.out
  clear hU hb6 HF2 HX5 hal hN5 HX6 hal6 HB5 HB6
  go_wp2_with fail
  refine HL.out.mono ?_
  rintro e w7 ⟨rfl, rfl⟩
  go_wp2_with fail
  go_ret
  exact ⟨rfl, HB7.out⟩
end Go.Proofs.Ytabbbamokhaaoaa
