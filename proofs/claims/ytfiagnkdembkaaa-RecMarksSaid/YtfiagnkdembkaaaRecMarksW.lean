/-
  RecMarks.
-/
import Derived.Test.YtfiagnkdembkaaaRecAw
namespace Go.Proofs.Ytfiagnkdembkaaa
open Go.RowKit
set_option linter.unusedVariables false
set_option linter.unusedSimpArgs false

theorem mark_fine (pid epoch time : Int) (commit : Bool) : validE (markOf pid epoch commit time) = 0 ↔ (1 ≤ pid ∧ pid ≤ 1048576 ∧ 0 ≤ epoch ∧ epoch ≤ 32767 ∧ 0 ≤ time ∧ time ≤ 1099511627776) := by
  rw [fine_iff]
  have hmk : markB (markOf pid epoch commit time) = true := by cases commit <;> rfl
  constructor
  · intro h
    have hf := h.form
    unfold formB at hf
    have p1 := h.p1; have p2 := h.p2; have e1 := h.e1; have e2 := h.e2; have t1 := h.t1; have t2 := h.t2
    simp only [markOf] at p1 p2 e1 e2 t1 t2
    refine ⟨?_, p2, e1, e2, t1, t2⟩
    rcases Int.lt_or_le pid 1 with g | g
    · exfalso
      have hp : pid = 0 := by omega
      subst hp
      cases commit <;> simp [markOf] at hf
    · exact g
  · rintro ⟨p1, p2, e1, e2, t1, t2⟩
    have hp : (pid == 0) = false := by rw [beq_eq_false_iff_ne]; omega
    have hff : formB (markOf pid epoch commit time) = true := by
      unfold formB
      rw [hmk]
      simp [markOf, hp]
    have hcc : countE (markOf pid epoch commit time) = 0 := by
      unfold countE spanI
      rw [hmk]
      simp [markOf]
    exact ⟨by cases commit <;> simp [markOf], by cases commit <;> simp [markOf], by simp [markOf], by simp [markOf], by simp only [markOf]; omega, p2, e1, e2, by simp [markOf], by simp [markOf], t1, t2, hff, by simp [markOf], (fun r hr => by cases hr), hcc⟩

set_option maxRecDepth 100000 in
set_option maxHeartbeats 8000000 in
theorem marks_walk (pid epoch time : Int) (commit : Bool) (w : World) : Calls Try.prog 7 #[.int .i64 pid, .int .i64 epoch, .bool commit, .int .i64 time] w fun e w' => e = .returned (.bool true) ∧ Below w.heap.size w w' := by
  have HK := Lib.hid (mark_fine pid epoch time commit)
  have HM := Lib.hid (mark_any pid epoch time commit)
  have HV : Hid (∀ W, Calls Try.prog 28 #[.agg ((markOf pid epoch commit time).cells none 0)] W fun e w' => e = .returned (.int .i64 (validE (markOf pid epoch commit time))) ∧ Below W.heap.size W w') := fun W => valid_any (markOf pid epoch commit time) none 0 0 W Rcs.nil_ (Nat.zero_le _) (Nat.zero_le _)
  have HS : Hid (∀ W, Calls Try.prog 29 #[.agg ((markOf pid epoch commit time).cells none 0)] W fun e w' => e = .returned (.int .i64 1) ∧ Below W.heap.size W w') := fun W => by
    have := span_any (markOf pid epoch commit time) none 0 W
    have h1 : spanI (markOf pid epoch commit time) = 1 := by cases commit <;> rfl
    rw [h1] at this
    exact this
  generalize validE (markOf pid epoch commit time) = V at *
  unfold markOf Bat.cells at *
  simp only at *
  have ep : (pid != pid) = false := by simp
  have ee : (epoch != epoch) = false := by simp
  have et : (time != time) = false := by simp
  have fin : ∀ mb : Bool, (V == 0) = mb → (mb = true → 1 ≤ pid ∧ pid ≤ 1048576 ∧ 0 ≤ epoch ∧ epoch ≤ 32767 ∧ 0 ≤ time ∧ time ≤ 1099511627776) → True := fun _ _ _ => trivial
  clear fin
  cases commit with
  | true =>
    simp only [if_true, if_false, reduceIte, Bool.false_eq_true] at *
    by_cases x0 : 1 ≤ pid
    rotate_left
    · have y0 : decide (1 ≤ pid) = false := by simpa using x0
      have hV : (V == 0) = false := by
        rw [beq_eq_false_iff_ne]
        intro h
        have := HK.out.1 h
        omega
      clear HK x0
      go_enter Try.func7, Try.ntmps7
      go_wp2_with fail
      refine (HM.out _).mono ?_
      rintro e w1 ⟨rfl, hb1⟩
      have hB1 := hb1.alloc hb1.size (.cells #[.int .i64 0, .int .i64 pid, .int .i64 epoch, .int .i64 0, .int .i64 2, .int .i64 time, .slice none 0 0] 49)
      have hk1 := heap_alloc_new w1 (.cells #[.int .i64 0, .int .i64 pid, .int .i64 epoch, .int .i64 0, .int .i64 2, .int .i64 time, .slice none 0 0] 49)
      have hz1 : w1.heap.size < (w1.alloc (.cells #[.int .i64 0, .int .i64 pid, .int .i64 epoch, .int .i64 0, .int .i64 2, .int .i64 time, .slice none 0 0] 49)).heap.size := by simp
      have HB1 := Lib.hid hB1
      have HK1 := Lib.hid hk1
      clear hb1 hB1 hk1
      go_wp2_with fail
      generalize w1.alloc (.cells #[.int .i64 0, .int .i64 pid, .int .i64 epoch, .int .i64 0, .int .i64 2, .int .i64 time, .slice none 0 0] 49) = W1 at *
      refine (HV.out _).mono ?_
      rintro e w2 ⟨rfl, hb2⟩
      have hB2 := HB1.out.trans (hb2.mono HB1.out.size)
      have hk2 := (hb2.block w1.heap.size hz1).trans HK1.out
      have m0 : w2.cell? ⟨w1.heap.size, 0, none⟩ = some (.int .i64 0) := cell_of_row _ _ 0 _ _ _ hk2
      have m1 : w2.cell? ⟨w1.heap.size, 1, none⟩ = some (.int .i64 pid) := cell_of_row _ _ 1 _ _ _ hk2
      have m2 : w2.cell? ⟨w1.heap.size, 2, none⟩ = some (.int .i64 epoch) := cell_of_row _ _ 2 _ _ _ hk2
      have m3 : w2.cell? ⟨w1.heap.size, 3, none⟩ = some (.int .i64 0) := cell_of_row _ _ 3 _ _ _ hk2
      have m4 : w2.cell? ⟨w1.heap.size, 4, none⟩ = some (.int .i64 2) := cell_of_row _ _ 4 _ _ _ hk2
      have m5 : w2.cell? ⟨w1.heap.size, 5, none⟩ = some (.int .i64 time) := cell_of_row _ _ 5 _ _ _ hk2
      have m6 : w2.cell? ⟨w1.heap.size, 6, none⟩ = some (.slice none 0 0) := cell_of_row _ _ 6 _ _ _ hk2
      clear hb2 hk2
      go_wp2_with fail
      refine (HS.out _).mono ?_
      rintro e w3 ⟨rfl, hb3⟩
      have hB3 := hB2.trans (hb3.mono hB2.size)
      go_wp2_with fail
      refine (awake3_any _).mono ?_
      rintro e w4 ⟨rfl, hb4⟩
      go_wp2_with fail
      go_ret
      exact ⟨rfl, hB3.trans (hb4.mono hB3.size)⟩
    have y0 : decide (1 ≤ pid) = true := by simpa using x0
    by_cases x1 : pid ≤ 1048576
    rotate_left
    · have y1 : decide (pid ≤ 1048576) = false := by simpa using x1
      have hV : (V == 0) = false := by
        rw [beq_eq_false_iff_ne]
        intro h
        have := HK.out.1 h
        omega
      clear HK x1
      go_enter Try.func7, Try.ntmps7
      go_wp2_with fail
      refine (HM.out _).mono ?_
      rintro e w1 ⟨rfl, hb1⟩
      have hB1 := hb1.alloc hb1.size (.cells #[.int .i64 0, .int .i64 pid, .int .i64 epoch, .int .i64 0, .int .i64 2, .int .i64 time, .slice none 0 0] 49)
      have hk1 := heap_alloc_new w1 (.cells #[.int .i64 0, .int .i64 pid, .int .i64 epoch, .int .i64 0, .int .i64 2, .int .i64 time, .slice none 0 0] 49)
      have hz1 : w1.heap.size < (w1.alloc (.cells #[.int .i64 0, .int .i64 pid, .int .i64 epoch, .int .i64 0, .int .i64 2, .int .i64 time, .slice none 0 0] 49)).heap.size := by simp
      have HB1 := Lib.hid hB1
      have HK1 := Lib.hid hk1
      clear hb1 hB1 hk1
      go_wp2_with fail
      generalize w1.alloc (.cells #[.int .i64 0, .int .i64 pid, .int .i64 epoch, .int .i64 0, .int .i64 2, .int .i64 time, .slice none 0 0] 49) = W1 at *
      refine (HV.out _).mono ?_
      rintro e w2 ⟨rfl, hb2⟩
      have hB2 := HB1.out.trans (hb2.mono HB1.out.size)
      have hk2 := (hb2.block w1.heap.size hz1).trans HK1.out
      have m0 : w2.cell? ⟨w1.heap.size, 0, none⟩ = some (.int .i64 0) := cell_of_row _ _ 0 _ _ _ hk2
      have m1 : w2.cell? ⟨w1.heap.size, 1, none⟩ = some (.int .i64 pid) := cell_of_row _ _ 1 _ _ _ hk2
      have m2 : w2.cell? ⟨w1.heap.size, 2, none⟩ = some (.int .i64 epoch) := cell_of_row _ _ 2 _ _ _ hk2
      have m3 : w2.cell? ⟨w1.heap.size, 3, none⟩ = some (.int .i64 0) := cell_of_row _ _ 3 _ _ _ hk2
      have m4 : w2.cell? ⟨w1.heap.size, 4, none⟩ = some (.int .i64 2) := cell_of_row _ _ 4 _ _ _ hk2
      have m5 : w2.cell? ⟨w1.heap.size, 5, none⟩ = some (.int .i64 time) := cell_of_row _ _ 5 _ _ _ hk2
      have m6 : w2.cell? ⟨w1.heap.size, 6, none⟩ = some (.slice none 0 0) := cell_of_row _ _ 6 _ _ _ hk2
      clear hb2 hk2
      go_wp2_with fail
      refine (HS.out _).mono ?_
      rintro e w3 ⟨rfl, hb3⟩
      have hB3 := hB2.trans (hb3.mono hB2.size)
      go_wp2_with fail
      refine (awake3_any _).mono ?_
      rintro e w4 ⟨rfl, hb4⟩
      go_wp2_with fail
      go_ret
      exact ⟨rfl, hB3.trans (hb4.mono hB3.size)⟩
    have y1 : decide (pid ≤ 1048576) = true := by simpa using x1
    by_cases x2 : 0 ≤ epoch
    rotate_left
    · have y2 : decide (0 ≤ epoch) = false := by simpa using x2
      have hV : (V == 0) = false := by
        rw [beq_eq_false_iff_ne]
        intro h
        have := HK.out.1 h
        omega
      clear HK x2
      go_enter Try.func7, Try.ntmps7
      go_wp2_with fail
      refine (HM.out _).mono ?_
      rintro e w1 ⟨rfl, hb1⟩
      have hB1 := hb1.alloc hb1.size (.cells #[.int .i64 0, .int .i64 pid, .int .i64 epoch, .int .i64 0, .int .i64 2, .int .i64 time, .slice none 0 0] 49)
      have hk1 := heap_alloc_new w1 (.cells #[.int .i64 0, .int .i64 pid, .int .i64 epoch, .int .i64 0, .int .i64 2, .int .i64 time, .slice none 0 0] 49)
      have hz1 : w1.heap.size < (w1.alloc (.cells #[.int .i64 0, .int .i64 pid, .int .i64 epoch, .int .i64 0, .int .i64 2, .int .i64 time, .slice none 0 0] 49)).heap.size := by simp
      have HB1 := Lib.hid hB1
      have HK1 := Lib.hid hk1
      clear hb1 hB1 hk1
      go_wp2_with fail
      generalize w1.alloc (.cells #[.int .i64 0, .int .i64 pid, .int .i64 epoch, .int .i64 0, .int .i64 2, .int .i64 time, .slice none 0 0] 49) = W1 at *
      refine (HV.out _).mono ?_
      rintro e w2 ⟨rfl, hb2⟩
      have hB2 := HB1.out.trans (hb2.mono HB1.out.size)
      have hk2 := (hb2.block w1.heap.size hz1).trans HK1.out
      have m0 : w2.cell? ⟨w1.heap.size, 0, none⟩ = some (.int .i64 0) := cell_of_row _ _ 0 _ _ _ hk2
      have m1 : w2.cell? ⟨w1.heap.size, 1, none⟩ = some (.int .i64 pid) := cell_of_row _ _ 1 _ _ _ hk2
      have m2 : w2.cell? ⟨w1.heap.size, 2, none⟩ = some (.int .i64 epoch) := cell_of_row _ _ 2 _ _ _ hk2
      have m3 : w2.cell? ⟨w1.heap.size, 3, none⟩ = some (.int .i64 0) := cell_of_row _ _ 3 _ _ _ hk2
      have m4 : w2.cell? ⟨w1.heap.size, 4, none⟩ = some (.int .i64 2) := cell_of_row _ _ 4 _ _ _ hk2
      have m5 : w2.cell? ⟨w1.heap.size, 5, none⟩ = some (.int .i64 time) := cell_of_row _ _ 5 _ _ _ hk2
      have m6 : w2.cell? ⟨w1.heap.size, 6, none⟩ = some (.slice none 0 0) := cell_of_row _ _ 6 _ _ _ hk2
      clear hb2 hk2
      go_wp2_with fail
      refine (HS.out _).mono ?_
      rintro e w3 ⟨rfl, hb3⟩
      have hB3 := hB2.trans (hb3.mono hB2.size)
      go_wp2_with fail
      refine (awake3_any _).mono ?_
      rintro e w4 ⟨rfl, hb4⟩
      go_wp2_with fail
      go_ret
      exact ⟨rfl, hB3.trans (hb4.mono hB3.size)⟩
    have y2 : decide (0 ≤ epoch) = true := by simpa using x2
    by_cases x3 : epoch ≤ 32767
    rotate_left
    · have y3 : decide (epoch ≤ 32767) = false := by simpa using x3
      have hV : (V == 0) = false := by
        rw [beq_eq_false_iff_ne]
        intro h
        have := HK.out.1 h
        omega
      clear HK x3
      go_enter Try.func7, Try.ntmps7
      go_wp2_with fail
      refine (HM.out _).mono ?_
      rintro e w1 ⟨rfl, hb1⟩
      have hB1 := hb1.alloc hb1.size (.cells #[.int .i64 0, .int .i64 pid, .int .i64 epoch, .int .i64 0, .int .i64 2, .int .i64 time, .slice none 0 0] 49)
      have hk1 := heap_alloc_new w1 (.cells #[.int .i64 0, .int .i64 pid, .int .i64 epoch, .int .i64 0, .int .i64 2, .int .i64 time, .slice none 0 0] 49)
      have hz1 : w1.heap.size < (w1.alloc (.cells #[.int .i64 0, .int .i64 pid, .int .i64 epoch, .int .i64 0, .int .i64 2, .int .i64 time, .slice none 0 0] 49)).heap.size := by simp
      have HB1 := Lib.hid hB1
      have HK1 := Lib.hid hk1
      clear hb1 hB1 hk1
      go_wp2_with fail
      generalize w1.alloc (.cells #[.int .i64 0, .int .i64 pid, .int .i64 epoch, .int .i64 0, .int .i64 2, .int .i64 time, .slice none 0 0] 49) = W1 at *
      refine (HV.out _).mono ?_
      rintro e w2 ⟨rfl, hb2⟩
      have hB2 := HB1.out.trans (hb2.mono HB1.out.size)
      have hk2 := (hb2.block w1.heap.size hz1).trans HK1.out
      have m0 : w2.cell? ⟨w1.heap.size, 0, none⟩ = some (.int .i64 0) := cell_of_row _ _ 0 _ _ _ hk2
      have m1 : w2.cell? ⟨w1.heap.size, 1, none⟩ = some (.int .i64 pid) := cell_of_row _ _ 1 _ _ _ hk2
      have m2 : w2.cell? ⟨w1.heap.size, 2, none⟩ = some (.int .i64 epoch) := cell_of_row _ _ 2 _ _ _ hk2
      have m3 : w2.cell? ⟨w1.heap.size, 3, none⟩ = some (.int .i64 0) := cell_of_row _ _ 3 _ _ _ hk2
      have m4 : w2.cell? ⟨w1.heap.size, 4, none⟩ = some (.int .i64 2) := cell_of_row _ _ 4 _ _ _ hk2
      have m5 : w2.cell? ⟨w1.heap.size, 5, none⟩ = some (.int .i64 time) := cell_of_row _ _ 5 _ _ _ hk2
      have m6 : w2.cell? ⟨w1.heap.size, 6, none⟩ = some (.slice none 0 0) := cell_of_row _ _ 6 _ _ _ hk2
      clear hb2 hk2
      go_wp2_with fail
      refine (HS.out _).mono ?_
      rintro e w3 ⟨rfl, hb3⟩
      have hB3 := hB2.trans (hb3.mono hB2.size)
      go_wp2_with fail
      refine (awake3_any _).mono ?_
      rintro e w4 ⟨rfl, hb4⟩
      go_wp2_with fail
      go_ret
      exact ⟨rfl, hB3.trans (hb4.mono hB3.size)⟩
    have y3 : decide (epoch ≤ 32767) = true := by simpa using x3
    by_cases x4 : 0 ≤ time
    rotate_left
    · have y4 : decide (0 ≤ time) = false := by simpa using x4
      have hV : (V == 0) = false := by
        rw [beq_eq_false_iff_ne]
        intro h
        have := HK.out.1 h
        omega
      clear HK x4
      go_enter Try.func7, Try.ntmps7
      go_wp2_with fail
      refine (HM.out _).mono ?_
      rintro e w1 ⟨rfl, hb1⟩
      have hB1 := hb1.alloc hb1.size (.cells #[.int .i64 0, .int .i64 pid, .int .i64 epoch, .int .i64 0, .int .i64 2, .int .i64 time, .slice none 0 0] 49)
      have hk1 := heap_alloc_new w1 (.cells #[.int .i64 0, .int .i64 pid, .int .i64 epoch, .int .i64 0, .int .i64 2, .int .i64 time, .slice none 0 0] 49)
      have hz1 : w1.heap.size < (w1.alloc (.cells #[.int .i64 0, .int .i64 pid, .int .i64 epoch, .int .i64 0, .int .i64 2, .int .i64 time, .slice none 0 0] 49)).heap.size := by simp
      have HB1 := Lib.hid hB1
      have HK1 := Lib.hid hk1
      clear hb1 hB1 hk1
      go_wp2_with fail
      generalize w1.alloc (.cells #[.int .i64 0, .int .i64 pid, .int .i64 epoch, .int .i64 0, .int .i64 2, .int .i64 time, .slice none 0 0] 49) = W1 at *
      refine (HV.out _).mono ?_
      rintro e w2 ⟨rfl, hb2⟩
      have hB2 := HB1.out.trans (hb2.mono HB1.out.size)
      have hk2 := (hb2.block w1.heap.size hz1).trans HK1.out
      have m0 : w2.cell? ⟨w1.heap.size, 0, none⟩ = some (.int .i64 0) := cell_of_row _ _ 0 _ _ _ hk2
      have m1 : w2.cell? ⟨w1.heap.size, 1, none⟩ = some (.int .i64 pid) := cell_of_row _ _ 1 _ _ _ hk2
      have m2 : w2.cell? ⟨w1.heap.size, 2, none⟩ = some (.int .i64 epoch) := cell_of_row _ _ 2 _ _ _ hk2
      have m3 : w2.cell? ⟨w1.heap.size, 3, none⟩ = some (.int .i64 0) := cell_of_row _ _ 3 _ _ _ hk2
      have m4 : w2.cell? ⟨w1.heap.size, 4, none⟩ = some (.int .i64 2) := cell_of_row _ _ 4 _ _ _ hk2
      have m5 : w2.cell? ⟨w1.heap.size, 5, none⟩ = some (.int .i64 time) := cell_of_row _ _ 5 _ _ _ hk2
      have m6 : w2.cell? ⟨w1.heap.size, 6, none⟩ = some (.slice none 0 0) := cell_of_row _ _ 6 _ _ _ hk2
      clear hb2 hk2
      go_wp2_with fail
      refine (HS.out _).mono ?_
      rintro e w3 ⟨rfl, hb3⟩
      have hB3 := hB2.trans (hb3.mono hB2.size)
      go_wp2_with fail
      refine (awake3_any _).mono ?_
      rintro e w4 ⟨rfl, hb4⟩
      go_wp2_with fail
      go_ret
      exact ⟨rfl, hB3.trans (hb4.mono hB3.size)⟩
    have y4 : decide (0 ≤ time) = true := by simpa using x4
    by_cases x5 : time ≤ 1099511627776
    rotate_left
    · have y5 : decide (time ≤ 1099511627776) = false := by simpa using x5
      have hV : (V == 0) = false := by
        rw [beq_eq_false_iff_ne]
        intro h
        have := HK.out.1 h
        omega
      clear HK x5
      go_enter Try.func7, Try.ntmps7
      go_wp2_with fail
      refine (HM.out _).mono ?_
      rintro e w1 ⟨rfl, hb1⟩
      have hB1 := hb1.alloc hb1.size (.cells #[.int .i64 0, .int .i64 pid, .int .i64 epoch, .int .i64 0, .int .i64 2, .int .i64 time, .slice none 0 0] 49)
      have hk1 := heap_alloc_new w1 (.cells #[.int .i64 0, .int .i64 pid, .int .i64 epoch, .int .i64 0, .int .i64 2, .int .i64 time, .slice none 0 0] 49)
      have hz1 : w1.heap.size < (w1.alloc (.cells #[.int .i64 0, .int .i64 pid, .int .i64 epoch, .int .i64 0, .int .i64 2, .int .i64 time, .slice none 0 0] 49)).heap.size := by simp
      have HB1 := Lib.hid hB1
      have HK1 := Lib.hid hk1
      clear hb1 hB1 hk1
      go_wp2_with fail
      generalize w1.alloc (.cells #[.int .i64 0, .int .i64 pid, .int .i64 epoch, .int .i64 0, .int .i64 2, .int .i64 time, .slice none 0 0] 49) = W1 at *
      refine (HV.out _).mono ?_
      rintro e w2 ⟨rfl, hb2⟩
      have hB2 := HB1.out.trans (hb2.mono HB1.out.size)
      have hk2 := (hb2.block w1.heap.size hz1).trans HK1.out
      have m0 : w2.cell? ⟨w1.heap.size, 0, none⟩ = some (.int .i64 0) := cell_of_row _ _ 0 _ _ _ hk2
      have m1 : w2.cell? ⟨w1.heap.size, 1, none⟩ = some (.int .i64 pid) := cell_of_row _ _ 1 _ _ _ hk2
      have m2 : w2.cell? ⟨w1.heap.size, 2, none⟩ = some (.int .i64 epoch) := cell_of_row _ _ 2 _ _ _ hk2
      have m3 : w2.cell? ⟨w1.heap.size, 3, none⟩ = some (.int .i64 0) := cell_of_row _ _ 3 _ _ _ hk2
      have m4 : w2.cell? ⟨w1.heap.size, 4, none⟩ = some (.int .i64 2) := cell_of_row _ _ 4 _ _ _ hk2
      have m5 : w2.cell? ⟨w1.heap.size, 5, none⟩ = some (.int .i64 time) := cell_of_row _ _ 5 _ _ _ hk2
      have m6 : w2.cell? ⟨w1.heap.size, 6, none⟩ = some (.slice none 0 0) := cell_of_row _ _ 6 _ _ _ hk2
      clear hb2 hk2
      go_wp2_with fail
      refine (HS.out _).mono ?_
      rintro e w3 ⟨rfl, hb3⟩
      have hB3 := hB2.trans (hb3.mono hB2.size)
      go_wp2_with fail
      refine (awake3_any _).mono ?_
      rintro e w4 ⟨rfl, hb4⟩
      go_wp2_with fail
      go_ret
      exact ⟨rfl, hB3.trans (hb4.mono hB3.size)⟩
    have y5 : decide (time ≤ 1099511627776) = true := by simpa using x5
    have hV : (V == 0) = true := by
      rw [beq_iff_eq]
      exact HK.out.2 ⟨x0, x1, x2, x3, x4, x5⟩
    clear HK
    go_enter Try.func7, Try.ntmps7
    go_wp2_with fail
    refine (HM.out _).mono ?_
    rintro e w1 ⟨rfl, hb1⟩
    have hB1 := hb1.alloc hb1.size (.cells #[.int .i64 0, .int .i64 pid, .int .i64 epoch, .int .i64 0, .int .i64 2, .int .i64 time, .slice none 0 0] 49)
    have hk1 := heap_alloc_new w1 (.cells #[.int .i64 0, .int .i64 pid, .int .i64 epoch, .int .i64 0, .int .i64 2, .int .i64 time, .slice none 0 0] 49)
    have hz1 : w1.heap.size < (w1.alloc (.cells #[.int .i64 0, .int .i64 pid, .int .i64 epoch, .int .i64 0, .int .i64 2, .int .i64 time, .slice none 0 0] 49)).heap.size := by simp
    have HB1 := Lib.hid hB1
    have HK1 := Lib.hid hk1
    clear hb1 hB1 hk1
    go_wp2_with fail
    generalize w1.alloc (.cells #[.int .i64 0, .int .i64 pid, .int .i64 epoch, .int .i64 0, .int .i64 2, .int .i64 time, .slice none 0 0] 49) = W1 at *
    refine (HV.out _).mono ?_
    rintro e w2 ⟨rfl, hb2⟩
    have hB2 := HB1.out.trans (hb2.mono HB1.out.size)
    have hk2 := (hb2.block w1.heap.size hz1).trans HK1.out
    have m0 : w2.cell? ⟨w1.heap.size, 0, none⟩ = some (.int .i64 0) := cell_of_row _ _ 0 _ _ _ hk2
    have m1 : w2.cell? ⟨w1.heap.size, 1, none⟩ = some (.int .i64 pid) := cell_of_row _ _ 1 _ _ _ hk2
    have m2 : w2.cell? ⟨w1.heap.size, 2, none⟩ = some (.int .i64 epoch) := cell_of_row _ _ 2 _ _ _ hk2
    have m3 : w2.cell? ⟨w1.heap.size, 3, none⟩ = some (.int .i64 0) := cell_of_row _ _ 3 _ _ _ hk2
    have m4 : w2.cell? ⟨w1.heap.size, 4, none⟩ = some (.int .i64 2) := cell_of_row _ _ 4 _ _ _ hk2
    have m5 : w2.cell? ⟨w1.heap.size, 5, none⟩ = some (.int .i64 time) := cell_of_row _ _ 5 _ _ _ hk2
    have m6 : w2.cell? ⟨w1.heap.size, 6, none⟩ = some (.slice none 0 0) := cell_of_row _ _ 6 _ _ _ hk2
    clear hb2 hk2
    go_wp2_with fail
    refine (HS.out _).mono ?_
    rintro e w3 ⟨rfl, hb3⟩
    have hB3 := hB2.trans (hb3.mono hB2.size)
    go_wp2_with fail
    refine (awake3_any _).mono ?_
    rintro e w4 ⟨rfl, hb4⟩
    go_wp2_with fail
    go_ret
    exact ⟨rfl, hB3.trans (hb4.mono hB3.size)⟩
  | false =>
    simp only [if_true, if_false, reduceIte, Bool.false_eq_true] at *
    by_cases x0 : 1 ≤ pid
    rotate_left
    · have y0 : decide (1 ≤ pid) = false := by simpa using x0
      have hV : (V == 0) = false := by
        rw [beq_eq_false_iff_ne]
        intro h
        have := HK.out.1 h
        omega
      clear HK x0
      go_enter Try.func7, Try.ntmps7
      go_wp2_with fail
      refine (HM.out _).mono ?_
      rintro e w1 ⟨rfl, hb1⟩
      have hB1 := hb1.alloc hb1.size (.cells #[.int .i64 0, .int .i64 pid, .int .i64 epoch, .int .i64 0, .int .i64 3, .int .i64 time, .slice none 0 0] 49)
      have hk1 := heap_alloc_new w1 (.cells #[.int .i64 0, .int .i64 pid, .int .i64 epoch, .int .i64 0, .int .i64 3, .int .i64 time, .slice none 0 0] 49)
      have hz1 : w1.heap.size < (w1.alloc (.cells #[.int .i64 0, .int .i64 pid, .int .i64 epoch, .int .i64 0, .int .i64 3, .int .i64 time, .slice none 0 0] 49)).heap.size := by simp
      have HB1 := Lib.hid hB1
      have HK1 := Lib.hid hk1
      clear hb1 hB1 hk1
      go_wp2_with fail
      generalize w1.alloc (.cells #[.int .i64 0, .int .i64 pid, .int .i64 epoch, .int .i64 0, .int .i64 3, .int .i64 time, .slice none 0 0] 49) = W1 at *
      refine (HV.out _).mono ?_
      rintro e w2 ⟨rfl, hb2⟩
      have hB2 := HB1.out.trans (hb2.mono HB1.out.size)
      have hk2 := (hb2.block w1.heap.size hz1).trans HK1.out
      have m0 : w2.cell? ⟨w1.heap.size, 0, none⟩ = some (.int .i64 0) := cell_of_row _ _ 0 _ _ _ hk2
      have m1 : w2.cell? ⟨w1.heap.size, 1, none⟩ = some (.int .i64 pid) := cell_of_row _ _ 1 _ _ _ hk2
      have m2 : w2.cell? ⟨w1.heap.size, 2, none⟩ = some (.int .i64 epoch) := cell_of_row _ _ 2 _ _ _ hk2
      have m3 : w2.cell? ⟨w1.heap.size, 3, none⟩ = some (.int .i64 0) := cell_of_row _ _ 3 _ _ _ hk2
      have m4 : w2.cell? ⟨w1.heap.size, 4, none⟩ = some (.int .i64 3) := cell_of_row _ _ 4 _ _ _ hk2
      have m5 : w2.cell? ⟨w1.heap.size, 5, none⟩ = some (.int .i64 time) := cell_of_row _ _ 5 _ _ _ hk2
      have m6 : w2.cell? ⟨w1.heap.size, 6, none⟩ = some (.slice none 0 0) := cell_of_row _ _ 6 _ _ _ hk2
      clear hb2 hk2
      go_wp2_with fail
      refine (HS.out _).mono ?_
      rintro e w3 ⟨rfl, hb3⟩
      have hB3 := hB2.trans (hb3.mono hB2.size)
      go_wp2_with fail
      refine (awake3_any _).mono ?_
      rintro e w4 ⟨rfl, hb4⟩
      go_wp2_with fail
      go_ret
      exact ⟨rfl, hB3.trans (hb4.mono hB3.size)⟩
    have y0 : decide (1 ≤ pid) = true := by simpa using x0
    by_cases x1 : pid ≤ 1048576
    rotate_left
    · have y1 : decide (pid ≤ 1048576) = false := by simpa using x1
      have hV : (V == 0) = false := by
        rw [beq_eq_false_iff_ne]
        intro h
        have := HK.out.1 h
        omega
      clear HK x1
      go_enter Try.func7, Try.ntmps7
      go_wp2_with fail
      refine (HM.out _).mono ?_
      rintro e w1 ⟨rfl, hb1⟩
      have hB1 := hb1.alloc hb1.size (.cells #[.int .i64 0, .int .i64 pid, .int .i64 epoch, .int .i64 0, .int .i64 3, .int .i64 time, .slice none 0 0] 49)
      have hk1 := heap_alloc_new w1 (.cells #[.int .i64 0, .int .i64 pid, .int .i64 epoch, .int .i64 0, .int .i64 3, .int .i64 time, .slice none 0 0] 49)
      have hz1 : w1.heap.size < (w1.alloc (.cells #[.int .i64 0, .int .i64 pid, .int .i64 epoch, .int .i64 0, .int .i64 3, .int .i64 time, .slice none 0 0] 49)).heap.size := by simp
      have HB1 := Lib.hid hB1
      have HK1 := Lib.hid hk1
      clear hb1 hB1 hk1
      go_wp2_with fail
      generalize w1.alloc (.cells #[.int .i64 0, .int .i64 pid, .int .i64 epoch, .int .i64 0, .int .i64 3, .int .i64 time, .slice none 0 0] 49) = W1 at *
      refine (HV.out _).mono ?_
      rintro e w2 ⟨rfl, hb2⟩
      have hB2 := HB1.out.trans (hb2.mono HB1.out.size)
      have hk2 := (hb2.block w1.heap.size hz1).trans HK1.out
      have m0 : w2.cell? ⟨w1.heap.size, 0, none⟩ = some (.int .i64 0) := cell_of_row _ _ 0 _ _ _ hk2
      have m1 : w2.cell? ⟨w1.heap.size, 1, none⟩ = some (.int .i64 pid) := cell_of_row _ _ 1 _ _ _ hk2
      have m2 : w2.cell? ⟨w1.heap.size, 2, none⟩ = some (.int .i64 epoch) := cell_of_row _ _ 2 _ _ _ hk2
      have m3 : w2.cell? ⟨w1.heap.size, 3, none⟩ = some (.int .i64 0) := cell_of_row _ _ 3 _ _ _ hk2
      have m4 : w2.cell? ⟨w1.heap.size, 4, none⟩ = some (.int .i64 3) := cell_of_row _ _ 4 _ _ _ hk2
      have m5 : w2.cell? ⟨w1.heap.size, 5, none⟩ = some (.int .i64 time) := cell_of_row _ _ 5 _ _ _ hk2
      have m6 : w2.cell? ⟨w1.heap.size, 6, none⟩ = some (.slice none 0 0) := cell_of_row _ _ 6 _ _ _ hk2
      clear hb2 hk2
      go_wp2_with fail
      refine (HS.out _).mono ?_
      rintro e w3 ⟨rfl, hb3⟩
      have hB3 := hB2.trans (hb3.mono hB2.size)
      go_wp2_with fail
      refine (awake3_any _).mono ?_
      rintro e w4 ⟨rfl, hb4⟩
      go_wp2_with fail
      go_ret
      exact ⟨rfl, hB3.trans (hb4.mono hB3.size)⟩
    have y1 : decide (pid ≤ 1048576) = true := by simpa using x1
    by_cases x2 : 0 ≤ epoch
    rotate_left
    · have y2 : decide (0 ≤ epoch) = false := by simpa using x2
      have hV : (V == 0) = false := by
        rw [beq_eq_false_iff_ne]
        intro h
        have := HK.out.1 h
        omega
      clear HK x2
      go_enter Try.func7, Try.ntmps7
      go_wp2_with fail
      refine (HM.out _).mono ?_
      rintro e w1 ⟨rfl, hb1⟩
      have hB1 := hb1.alloc hb1.size (.cells #[.int .i64 0, .int .i64 pid, .int .i64 epoch, .int .i64 0, .int .i64 3, .int .i64 time, .slice none 0 0] 49)
      have hk1 := heap_alloc_new w1 (.cells #[.int .i64 0, .int .i64 pid, .int .i64 epoch, .int .i64 0, .int .i64 3, .int .i64 time, .slice none 0 0] 49)
      have hz1 : w1.heap.size < (w1.alloc (.cells #[.int .i64 0, .int .i64 pid, .int .i64 epoch, .int .i64 0, .int .i64 3, .int .i64 time, .slice none 0 0] 49)).heap.size := by simp
      have HB1 := Lib.hid hB1
      have HK1 := Lib.hid hk1
      clear hb1 hB1 hk1
      go_wp2_with fail
      generalize w1.alloc (.cells #[.int .i64 0, .int .i64 pid, .int .i64 epoch, .int .i64 0, .int .i64 3, .int .i64 time, .slice none 0 0] 49) = W1 at *
      refine (HV.out _).mono ?_
      rintro e w2 ⟨rfl, hb2⟩
      have hB2 := HB1.out.trans (hb2.mono HB1.out.size)
      have hk2 := (hb2.block w1.heap.size hz1).trans HK1.out
      have m0 : w2.cell? ⟨w1.heap.size, 0, none⟩ = some (.int .i64 0) := cell_of_row _ _ 0 _ _ _ hk2
      have m1 : w2.cell? ⟨w1.heap.size, 1, none⟩ = some (.int .i64 pid) := cell_of_row _ _ 1 _ _ _ hk2
      have m2 : w2.cell? ⟨w1.heap.size, 2, none⟩ = some (.int .i64 epoch) := cell_of_row _ _ 2 _ _ _ hk2
      have m3 : w2.cell? ⟨w1.heap.size, 3, none⟩ = some (.int .i64 0) := cell_of_row _ _ 3 _ _ _ hk2
      have m4 : w2.cell? ⟨w1.heap.size, 4, none⟩ = some (.int .i64 3) := cell_of_row _ _ 4 _ _ _ hk2
      have m5 : w2.cell? ⟨w1.heap.size, 5, none⟩ = some (.int .i64 time) := cell_of_row _ _ 5 _ _ _ hk2
      have m6 : w2.cell? ⟨w1.heap.size, 6, none⟩ = some (.slice none 0 0) := cell_of_row _ _ 6 _ _ _ hk2
      clear hb2 hk2
      go_wp2_with fail
      refine (HS.out _).mono ?_
      rintro e w3 ⟨rfl, hb3⟩
      have hB3 := hB2.trans (hb3.mono hB2.size)
      go_wp2_with fail
      refine (awake3_any _).mono ?_
      rintro e w4 ⟨rfl, hb4⟩
      go_wp2_with fail
      go_ret
      exact ⟨rfl, hB3.trans (hb4.mono hB3.size)⟩
    have y2 : decide (0 ≤ epoch) = true := by simpa using x2
    by_cases x3 : epoch ≤ 32767
    rotate_left
    · have y3 : decide (epoch ≤ 32767) = false := by simpa using x3
      have hV : (V == 0) = false := by
        rw [beq_eq_false_iff_ne]
        intro h
        have := HK.out.1 h
        omega
      clear HK x3
      go_enter Try.func7, Try.ntmps7
      go_wp2_with fail
      refine (HM.out _).mono ?_
      rintro e w1 ⟨rfl, hb1⟩
      have hB1 := hb1.alloc hb1.size (.cells #[.int .i64 0, .int .i64 pid, .int .i64 epoch, .int .i64 0, .int .i64 3, .int .i64 time, .slice none 0 0] 49)
      have hk1 := heap_alloc_new w1 (.cells #[.int .i64 0, .int .i64 pid, .int .i64 epoch, .int .i64 0, .int .i64 3, .int .i64 time, .slice none 0 0] 49)
      have hz1 : w1.heap.size < (w1.alloc (.cells #[.int .i64 0, .int .i64 pid, .int .i64 epoch, .int .i64 0, .int .i64 3, .int .i64 time, .slice none 0 0] 49)).heap.size := by simp
      have HB1 := Lib.hid hB1
      have HK1 := Lib.hid hk1
      clear hb1 hB1 hk1
      go_wp2_with fail
      generalize w1.alloc (.cells #[.int .i64 0, .int .i64 pid, .int .i64 epoch, .int .i64 0, .int .i64 3, .int .i64 time, .slice none 0 0] 49) = W1 at *
      refine (HV.out _).mono ?_
      rintro e w2 ⟨rfl, hb2⟩
      have hB2 := HB1.out.trans (hb2.mono HB1.out.size)
      have hk2 := (hb2.block w1.heap.size hz1).trans HK1.out
      have m0 : w2.cell? ⟨w1.heap.size, 0, none⟩ = some (.int .i64 0) := cell_of_row _ _ 0 _ _ _ hk2
      have m1 : w2.cell? ⟨w1.heap.size, 1, none⟩ = some (.int .i64 pid) := cell_of_row _ _ 1 _ _ _ hk2
      have m2 : w2.cell? ⟨w1.heap.size, 2, none⟩ = some (.int .i64 epoch) := cell_of_row _ _ 2 _ _ _ hk2
      have m3 : w2.cell? ⟨w1.heap.size, 3, none⟩ = some (.int .i64 0) := cell_of_row _ _ 3 _ _ _ hk2
      have m4 : w2.cell? ⟨w1.heap.size, 4, none⟩ = some (.int .i64 3) := cell_of_row _ _ 4 _ _ _ hk2
      have m5 : w2.cell? ⟨w1.heap.size, 5, none⟩ = some (.int .i64 time) := cell_of_row _ _ 5 _ _ _ hk2
      have m6 : w2.cell? ⟨w1.heap.size, 6, none⟩ = some (.slice none 0 0) := cell_of_row _ _ 6 _ _ _ hk2
      clear hb2 hk2
      go_wp2_with fail
      refine (HS.out _).mono ?_
      rintro e w3 ⟨rfl, hb3⟩
      have hB3 := hB2.trans (hb3.mono hB2.size)
      go_wp2_with fail
      refine (awake3_any _).mono ?_
      rintro e w4 ⟨rfl, hb4⟩
      go_wp2_with fail
      go_ret
      exact ⟨rfl, hB3.trans (hb4.mono hB3.size)⟩
    have y3 : decide (epoch ≤ 32767) = true := by simpa using x3
    by_cases x4 : 0 ≤ time
    rotate_left
    · have y4 : decide (0 ≤ time) = false := by simpa using x4
      have hV : (V == 0) = false := by
        rw [beq_eq_false_iff_ne]
        intro h
        have := HK.out.1 h
        omega
      clear HK x4
      go_enter Try.func7, Try.ntmps7
      go_wp2_with fail
      refine (HM.out _).mono ?_
      rintro e w1 ⟨rfl, hb1⟩
      have hB1 := hb1.alloc hb1.size (.cells #[.int .i64 0, .int .i64 pid, .int .i64 epoch, .int .i64 0, .int .i64 3, .int .i64 time, .slice none 0 0] 49)
      have hk1 := heap_alloc_new w1 (.cells #[.int .i64 0, .int .i64 pid, .int .i64 epoch, .int .i64 0, .int .i64 3, .int .i64 time, .slice none 0 0] 49)
      have hz1 : w1.heap.size < (w1.alloc (.cells #[.int .i64 0, .int .i64 pid, .int .i64 epoch, .int .i64 0, .int .i64 3, .int .i64 time, .slice none 0 0] 49)).heap.size := by simp
      have HB1 := Lib.hid hB1
      have HK1 := Lib.hid hk1
      clear hb1 hB1 hk1
      go_wp2_with fail
      generalize w1.alloc (.cells #[.int .i64 0, .int .i64 pid, .int .i64 epoch, .int .i64 0, .int .i64 3, .int .i64 time, .slice none 0 0] 49) = W1 at *
      refine (HV.out _).mono ?_
      rintro e w2 ⟨rfl, hb2⟩
      have hB2 := HB1.out.trans (hb2.mono HB1.out.size)
      have hk2 := (hb2.block w1.heap.size hz1).trans HK1.out
      have m0 : w2.cell? ⟨w1.heap.size, 0, none⟩ = some (.int .i64 0) := cell_of_row _ _ 0 _ _ _ hk2
      have m1 : w2.cell? ⟨w1.heap.size, 1, none⟩ = some (.int .i64 pid) := cell_of_row _ _ 1 _ _ _ hk2
      have m2 : w2.cell? ⟨w1.heap.size, 2, none⟩ = some (.int .i64 epoch) := cell_of_row _ _ 2 _ _ _ hk2
      have m3 : w2.cell? ⟨w1.heap.size, 3, none⟩ = some (.int .i64 0) := cell_of_row _ _ 3 _ _ _ hk2
      have m4 : w2.cell? ⟨w1.heap.size, 4, none⟩ = some (.int .i64 3) := cell_of_row _ _ 4 _ _ _ hk2
      have m5 : w2.cell? ⟨w1.heap.size, 5, none⟩ = some (.int .i64 time) := cell_of_row _ _ 5 _ _ _ hk2
      have m6 : w2.cell? ⟨w1.heap.size, 6, none⟩ = some (.slice none 0 0) := cell_of_row _ _ 6 _ _ _ hk2
      clear hb2 hk2
      go_wp2_with fail
      refine (HS.out _).mono ?_
      rintro e w3 ⟨rfl, hb3⟩
      have hB3 := hB2.trans (hb3.mono hB2.size)
      go_wp2_with fail
      refine (awake3_any _).mono ?_
      rintro e w4 ⟨rfl, hb4⟩
      go_wp2_with fail
      go_ret
      exact ⟨rfl, hB3.trans (hb4.mono hB3.size)⟩
    have y4 : decide (0 ≤ time) = true := by simpa using x4
    by_cases x5 : time ≤ 1099511627776
    rotate_left
    · have y5 : decide (time ≤ 1099511627776) = false := by simpa using x5
      have hV : (V == 0) = false := by
        rw [beq_eq_false_iff_ne]
        intro h
        have := HK.out.1 h
        omega
      clear HK x5
      go_enter Try.func7, Try.ntmps7
      go_wp2_with fail
      refine (HM.out _).mono ?_
      rintro e w1 ⟨rfl, hb1⟩
      have hB1 := hb1.alloc hb1.size (.cells #[.int .i64 0, .int .i64 pid, .int .i64 epoch, .int .i64 0, .int .i64 3, .int .i64 time, .slice none 0 0] 49)
      have hk1 := heap_alloc_new w1 (.cells #[.int .i64 0, .int .i64 pid, .int .i64 epoch, .int .i64 0, .int .i64 3, .int .i64 time, .slice none 0 0] 49)
      have hz1 : w1.heap.size < (w1.alloc (.cells #[.int .i64 0, .int .i64 pid, .int .i64 epoch, .int .i64 0, .int .i64 3, .int .i64 time, .slice none 0 0] 49)).heap.size := by simp
      have HB1 := Lib.hid hB1
      have HK1 := Lib.hid hk1
      clear hb1 hB1 hk1
      go_wp2_with fail
      generalize w1.alloc (.cells #[.int .i64 0, .int .i64 pid, .int .i64 epoch, .int .i64 0, .int .i64 3, .int .i64 time, .slice none 0 0] 49) = W1 at *
      refine (HV.out _).mono ?_
      rintro e w2 ⟨rfl, hb2⟩
      have hB2 := HB1.out.trans (hb2.mono HB1.out.size)
      have hk2 := (hb2.block w1.heap.size hz1).trans HK1.out
      have m0 : w2.cell? ⟨w1.heap.size, 0, none⟩ = some (.int .i64 0) := cell_of_row _ _ 0 _ _ _ hk2
      have m1 : w2.cell? ⟨w1.heap.size, 1, none⟩ = some (.int .i64 pid) := cell_of_row _ _ 1 _ _ _ hk2
      have m2 : w2.cell? ⟨w1.heap.size, 2, none⟩ = some (.int .i64 epoch) := cell_of_row _ _ 2 _ _ _ hk2
      have m3 : w2.cell? ⟨w1.heap.size, 3, none⟩ = some (.int .i64 0) := cell_of_row _ _ 3 _ _ _ hk2
      have m4 : w2.cell? ⟨w1.heap.size, 4, none⟩ = some (.int .i64 3) := cell_of_row _ _ 4 _ _ _ hk2
      have m5 : w2.cell? ⟨w1.heap.size, 5, none⟩ = some (.int .i64 time) := cell_of_row _ _ 5 _ _ _ hk2
      have m6 : w2.cell? ⟨w1.heap.size, 6, none⟩ = some (.slice none 0 0) := cell_of_row _ _ 6 _ _ _ hk2
      clear hb2 hk2
      go_wp2_with fail
      refine (HS.out _).mono ?_
      rintro e w3 ⟨rfl, hb3⟩
      have hB3 := hB2.trans (hb3.mono hB2.size)
      go_wp2_with fail
      refine (awake3_any _).mono ?_
      rintro e w4 ⟨rfl, hb4⟩
      go_wp2_with fail
      go_ret
      exact ⟨rfl, hB3.trans (hb4.mono hB3.size)⟩
    have y5 : decide (time ≤ 1099511627776) = true := by simpa using x5
    have hV : (V == 0) = true := by
      rw [beq_iff_eq]
      exact HK.out.2 ⟨x0, x1, x2, x3, x4, x5⟩
    clear HK
    go_enter Try.func7, Try.ntmps7
    go_wp2_with fail
    refine (HM.out _).mono ?_
    rintro e w1 ⟨rfl, hb1⟩
    have hB1 := hb1.alloc hb1.size (.cells #[.int .i64 0, .int .i64 pid, .int .i64 epoch, .int .i64 0, .int .i64 3, .int .i64 time, .slice none 0 0] 49)
    have hk1 := heap_alloc_new w1 (.cells #[.int .i64 0, .int .i64 pid, .int .i64 epoch, .int .i64 0, .int .i64 3, .int .i64 time, .slice none 0 0] 49)
    have hz1 : w1.heap.size < (w1.alloc (.cells #[.int .i64 0, .int .i64 pid, .int .i64 epoch, .int .i64 0, .int .i64 3, .int .i64 time, .slice none 0 0] 49)).heap.size := by simp
    have HB1 := Lib.hid hB1
    have HK1 := Lib.hid hk1
    clear hb1 hB1 hk1
    go_wp2_with fail
    generalize w1.alloc (.cells #[.int .i64 0, .int .i64 pid, .int .i64 epoch, .int .i64 0, .int .i64 3, .int .i64 time, .slice none 0 0] 49) = W1 at *
    refine (HV.out _).mono ?_
    rintro e w2 ⟨rfl, hb2⟩
    have hB2 := HB1.out.trans (hb2.mono HB1.out.size)
    have hk2 := (hb2.block w1.heap.size hz1).trans HK1.out
    have m0 : w2.cell? ⟨w1.heap.size, 0, none⟩ = some (.int .i64 0) := cell_of_row _ _ 0 _ _ _ hk2
    have m1 : w2.cell? ⟨w1.heap.size, 1, none⟩ = some (.int .i64 pid) := cell_of_row _ _ 1 _ _ _ hk2
    have m2 : w2.cell? ⟨w1.heap.size, 2, none⟩ = some (.int .i64 epoch) := cell_of_row _ _ 2 _ _ _ hk2
    have m3 : w2.cell? ⟨w1.heap.size, 3, none⟩ = some (.int .i64 0) := cell_of_row _ _ 3 _ _ _ hk2
    have m4 : w2.cell? ⟨w1.heap.size, 4, none⟩ = some (.int .i64 3) := cell_of_row _ _ 4 _ _ _ hk2
    have m5 : w2.cell? ⟨w1.heap.size, 5, none⟩ = some (.int .i64 time) := cell_of_row _ _ 5 _ _ _ hk2
    have m6 : w2.cell? ⟨w1.heap.size, 6, none⟩ = some (.slice none 0 0) := cell_of_row _ _ 6 _ _ _ hk2
    clear hb2 hk2
    go_wp2_with fail
    refine (HS.out _).mono ?_
    rintro e w3 ⟨rfl, hb3⟩
    have hB3 := hB2.trans (hb3.mono hB2.size)
    go_wp2_with fail
    refine (awake3_any _).mono ?_
    rintro e w4 ⟨rfl, hb4⟩
    go_wp2_with fail
    go_ret
    exact ⟨rfl, hB3.trans (hb4.mono hB3.size)⟩
end Go.Proofs.Ytfiagnkdembkaaa
