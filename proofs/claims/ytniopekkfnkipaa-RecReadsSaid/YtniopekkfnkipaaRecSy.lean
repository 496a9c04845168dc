/-
  What towpathref03.Same does of equal batches.
-/
import Derived.Test.YtniopekkfnkipaaRecC
import Derived.Laws.StructEq
namespace Go.Proofs.Ytniopekkfnkipaa
open Go.RowKit
set_option linter.unusedVariables false
set_option linter.unusedSimpArgs false

set_option maxRecDepth 100000 in
set_option maxHeartbeats 4000000 in
theorem rsame_yes (b : Bat) (A1 A2 : Option Addr) (c1 c2 B : Nat) (w : World) (h1 : Rcs w B A1 b.L.length b.L) (h2 : Rcs w B A2 b.L.length b.L) (hB : B ≤ w.heap.size) (hl : b.L.length ≤ maxLen) :
    Calls Try.prog 7 #[.agg (b.cells A1 c1), .agg (b.cells A2 c2)] w fun e w' => e = .returned (.bool true) ∧ Below w.heap.size w w' := by
  unfold maxLen at hl
  obtain ⟨base, pid, epoch, seq, kind, time, L⟩ := b
  unfold Bat.cells at *
  simp only at *
  have hW := ((Below.refl w.heap.size w).alloc (Nat.le_refl _) (.cells #[.int .i64 base, .int .i64 pid, .int .i64 epoch, .int .i64 seq, .int .i64 kind, .int .i64 time, .slice A1 L.length c1] 24)).alloc (by simp) (.cells #[.int .i64 base, .int .i64 pid, .int .i64 epoch, .int .i64 seq, .int .i64 kind, .int .i64 time, .slice A2 L.length c2] 24)
  have b2 := heap_alloc_new w (.cells #[.int .i64 base, .int .i64 pid, .int .i64 epoch, .int .i64 seq, .int .i64 kind, .int .i64 time, .slice A1 L.length c1] 24)
  have b2' := (((Below.refl (w.alloc (.cells #[.int .i64 base, .int .i64 pid, .int .i64 epoch, .int .i64 seq, .int .i64 kind, .int .i64 time, .slice A1 L.length c1] 24)).heap.size _).alloc (Nat.le_refl _) (.cells #[.int .i64 base, .int .i64 pid, .int .i64 epoch, .int .i64 seq, .int .i64 kind, .int .i64 time, .slice A2 L.length c2] 24)).block w.heap.size (by simp)).trans b2
  have b3 := heap_alloc_new (w.alloc (.cells #[.int .i64 base, .int .i64 pid, .int .i64 epoch, .int .i64 seq, .int .i64 kind, .int .i64 time, .slice A1 L.length c1] 24)) (.cells #[.int .i64 base, .int .i64 pid, .int .i64 epoch, .int .i64 seq, .int .i64 kind, .int .i64 time, .slice A2 L.length c2] 24)
  rw [show (w.alloc (.cells #[.int .i64 base, .int .i64 pid, .int .i64 epoch, .int .i64 seq, .int .i64 kind, .int .i64 time, .slice A1 L.length c1] 24)).heap.size = w.heap.size + 1 from by simp] at b3
  generalize hW0 : (w.alloc (.cells #[.int .i64 base, .int .i64 pid, .int .i64 epoch, .int .i64 seq, .int .i64 kind, .int .i64 time, .slice A1 L.length c1] 24)).alloc (.cells #[.int .i64 base, .int .i64 pid, .int .i64 epoch, .int .i64 seq, .int .i64 kind, .int .i64 time, .slice A2 L.length c2] 24) = W0 at *
  have HW0 := Lib.hid hW0
  clear hW0 b2
  have m0 : W0.cell? ⟨w.heap.size, 0, none⟩ = some (.int .i64 base) := cell_of_row _ _ 0 _ _ _ b2'
  have d0 : W0.cell? ⟨w.heap.size + 1, 0, none⟩ = some (.int .i64 base) := cell_of_row _ _ 0 _ _ _ b3
  have m1 : W0.cell? ⟨w.heap.size, 1, none⟩ = some (.int .i64 pid) := cell_of_row _ _ 1 _ _ _ b2'
  have d1 : W0.cell? ⟨w.heap.size + 1, 1, none⟩ = some (.int .i64 pid) := cell_of_row _ _ 1 _ _ _ b3
  have m2 : W0.cell? ⟨w.heap.size, 2, none⟩ = some (.int .i64 epoch) := cell_of_row _ _ 2 _ _ _ b2'
  have d2 : W0.cell? ⟨w.heap.size + 1, 2, none⟩ = some (.int .i64 epoch) := cell_of_row _ _ 2 _ _ _ b3
  have m3 : W0.cell? ⟨w.heap.size, 3, none⟩ = some (.int .i64 seq) := cell_of_row _ _ 3 _ _ _ b2'
  have d3 : W0.cell? ⟨w.heap.size + 1, 3, none⟩ = some (.int .i64 seq) := cell_of_row _ _ 3 _ _ _ b3
  have m4 : W0.cell? ⟨w.heap.size, 4, none⟩ = some (.int .i64 kind) := cell_of_row _ _ 4 _ _ _ b2'
  have d4 : W0.cell? ⟨w.heap.size + 1, 4, none⟩ = some (.int .i64 kind) := cell_of_row _ _ 4 _ _ _ b3
  have m5 : W0.cell? ⟨w.heap.size, 5, none⟩ = some (.int .i64 time) := cell_of_row _ _ 5 _ _ _ b2'
  have d5 : W0.cell? ⟨w.heap.size + 1, 5, none⟩ = some (.int .i64 time) := cell_of_row _ _ 5 _ _ _ b3
  have m6 : W0.cell? ⟨w.heap.size, 6, none⟩ = some (.slice A1 L.length c1) := cell_of_row _ _ 6 _ _ _ b2'
  have d6 : W0.cell? ⟨w.heap.size + 1, 6, none⟩ = some (.slice A2 L.length c2) := cell_of_row _ _ 6 _ _ _ b3
  have H1 := Lib.hid (h1.below (hW.mono hB))
  have H2 := Lib.hid (h2.below (hW.mono hB))
  have HB := Lib.hid hW
  clear h1 h2 hW b2' b3
  have enn : ((L.length : Int) != (L.length : Int)) = false := by simp
  go_enter Try.func7, Try.ntmps7
  go_upto_region 1 with fail
  rw [HW0.out]
  go_wp2_with fail
  go_loopw [16] (fun i wr => ∃ k : Nat, k ≤ L.length ∧ i = .int .i64 k ∧ ∃ q, wr = W0.drewN q) (fun i _ => L.length - (intOf i).toNat)
  case atStart => exact ⟨0, by omega, rfl, 0, rfl⟩
  case round =>
    obtain ⟨k, hk, rfl, q, rfl⟩ := hrel
    by_cases hlt : k < L.length
    · obtain ⟨p, rfl, hp, r0, r1, r2, r3⟩ := H1.out.row hlt
      obtain ⟨p', rfl, hp', r0', r1', r2', r3'⟩ := H2.out.row hlt
      generalize L.getD k default = r at *
      obtain ⟨key, value, gone, rt⟩ := r
      simp only at r0 r1 r2 r3 r0' r1' r2' r3'
      go_wp2_with fail
      go_quiet (fail)
      go_wp2_with fail
      go_roundw
      case rel => exact ⟨k + 1, by omega, by go_num, q + nq, by simp⟩
      case measure => simp [intOf]; omega
    · obtain rfl : k = L.length := by omega
      go_wp2_with fail
      go_ret
      exact ⟨rfl, below_draws HB.out q⟩

end Go.Proofs.Ytniopekkfnkipaa
