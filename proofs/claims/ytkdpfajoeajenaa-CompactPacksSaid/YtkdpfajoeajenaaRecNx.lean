/-
  What rec.Next does.
-/
import Derived.Test.YtkdpfajoeajenaaRecV
namespace Go.Proofs.Ytkdpfajoeajenaa
open Go.RowKit
set_option linter.unusedVariables false
set_option linter.unusedSimpArgs false

def nextI (b : Bat) : Int := if validE b = 0 then b.base + spanI b else 0
theorem span_bd (b : Bat) (h : b.L.length ≤ 64) : 0 ≤ spanI b ∧ spanI b ≤ 64 := by unfold spanI; split <;> omega
set_option maxRecDepth 100000 in
set_option maxHeartbeats 4000000 in
theorem next_any (b : Bat) (A : Option Addr) (c B : Nat) (w : World) (hL : Rcs w B A b.L.length b.L) (hB : B ≤ w.heap.size) (hl : b.L.length ≤ maxLen) :
    Calls Try.prog 15 #[.agg (b.cells A c)] w fun e w' => e = .returned (.int .i64 (nextI b)) ∧ Below w.heap.size w w' := by
  have HVA : Hid (∀ W, Below w.heap.size w W → Calls Try.prog 10 #[.agg (b.cells A c)] W fun e w' => e = .returned (.int .i64 (validE b)) ∧ Below W.heap.size W w') := fun W h => valid_any b A c B W (hL.below (h.mono hB)) (Nat.le_trans hB h.size) hl
  have HSP : Hid (∀ W, Calls Try.prog 43 #[.agg (b.cells A c)] W fun e w' => e = .returned (.int .i64 (spanI b)) ∧ Below W.heap.size W w') := fun W => span_any b A c W
  have HX : Hid (nextI b = if validE b = 0 then b.base + spanI b else 0) := rfl
  have HF : Hid (validE b = 0 → 0 ≤ b.base ∧ b.base ≤ 1099511627776 ∧ 0 ≤ spanI b ∧ spanI b ≤ 64) := fun h => by
    have hF := (fine_iff b).1 h
    exact ⟨hF.b1, hF.b2, span_bd b hF.len⟩
  generalize nextI b = N at *
  generalize validE b = V at *
  obtain ⟨base, pid, epoch, seq, kind, time, L⟩ := b
  unfold Bat.cells at *
  simp only at *
  generalize spanI _ = sp at *
  clear hL
  have hB0 := (Below.refl w.heap.size w).alloc (Nat.le_refl _) (.cells #[.int .i64 base, .int .i64 pid, .int .i64 epoch, .int .i64 seq, .int .i64 kind, .int .i64 time, .slice A L.length c] 24)
  have hk0 := heap_alloc_new w (.cells #[.int .i64 base, .int .i64 pid, .int .i64 epoch, .int .i64 seq, .int .i64 kind, .int .i64 time, .slice A L.length c] 24)
  have hzz : w.heap.size < (w.alloc (.cells #[.int .i64 base, .int .i64 pid, .int .i64 epoch, .int .i64 seq, .int .i64 kind, .int .i64 time, .slice A L.length c] 24)).heap.size := by simp
  obtain ⟨w1, hw1⟩ : ∃ w1, w.alloc (.cells #[.int .i64 base, .int .i64 pid, .int .i64 epoch, .int .i64 seq, .int .i64 kind, .int .i64 time, .slice A L.length c] 24) = w1 := ⟨_, rfl⟩
  rw [hw1] at hB0 hk0 hzz
  have HW1 := Lib.hid hw1
  have HB0 := Lib.hid hB0
  have HK0 := Lib.hid hk0
  clear hw1 hB0 hk0
  go_enter Try.func15, Try.ntmps15
  go_wp2_with fail
  rw [HW1.out]
  refine (HVA.out _ HB0.out).mono ?_
  rintro e w2 ⟨rfl, hb2⟩
  have hB2 := HB0.out.trans (hb2.mono HB0.out.size)
  have hkk := (hb2.block w.heap.size hzz).trans HK0.out
  have c0 : w2.cell? ⟨w.heap.size, 0, none⟩ = some (.int .i64 base) := cell_of_row _ _ 0 _ _ _ hkk
  have c1 : w2.cell? ⟨w.heap.size, 1, none⟩ = some (.int .i64 pid) := cell_of_row _ _ 1 _ _ _ hkk
  have c2 : w2.cell? ⟨w.heap.size, 2, none⟩ = some (.int .i64 epoch) := cell_of_row _ _ 2 _ _ _ hkk
  have c3 : w2.cell? ⟨w.heap.size, 3, none⟩ = some (.int .i64 seq) := cell_of_row _ _ 3 _ _ _ hkk
  have c4 : w2.cell? ⟨w.heap.size, 4, none⟩ = some (.int .i64 kind) := cell_of_row _ _ 4 _ _ _ hkk
  have c5 : w2.cell? ⟨w.heap.size, 5, none⟩ = some (.int .i64 time) := cell_of_row _ _ 5 _ _ _ hkk
  have c6 : w2.cell? ⟨w.heap.size, 6, none⟩ = some (.slice A L.length c) := cell_of_row _ _ 6 _ _ _ hkk
  rcases Bool.eq_false_or_eq_true (V != 0) with hv | hv
  · have hv' : V ≠ 0 := by simpa using hv
    have HN : Hid (N = 0) := by show _ = _; rw [HX.out, if_neg hv']
    clear hv' HX HF
    go_wp2_with fail
    go_ret
    exact ⟨by rw [HN.out]; rfl, hB2⟩
  · have hv' : V = 0 := by simpa using hv
    obtain ⟨q1, q2, q3, q4⟩ := HF.out hv'
    have HN : Hid (N = base + sp) := by show _ = _; rw [HX.out, if_pos hv']
    clear hv' HX HF
    have ew1 : IntKind.i64.wrap (base + sp) = base + sp := IntWalk.i64_in _ (by omega)
    have HSQ : Hid (∀ d os, Calls Try.prog 43 #[.agg #[.int .i64 base, .int .i64 pid, .int .i64 epoch, .int .i64 seq, .int .i64 kind, .int .i64 time, .slice A L.length c]] (Sort.grow (redrawn w2 d) os) fun e w'' => e = .returned (.int .i64 sp) ∧ ∃ p : Regrown, w'' = Sort.grow (redrawn w2 p.d) p.os) := fun d os => Calls.regrown_of (HSP.out _)
    have g0 := cell_regrown c0
    have g1 := cell_regrown c1
    have g2 := cell_regrown c2
    have g3 := cell_regrown c3
    have g4 := cell_regrown c4
    have g5 := cell_regrown c5
    have g6 := cell_regrown c6
    go_wp2_with fail
    refine wp_region_quiet_below (by kernel_rfl) (by kernel_rfl) ?_
    repeat (go_big_quiet_step (exact HSQ.out _ _))
    refine wpQuiet_nil ?_
    intro _ hw'
    obtain ⟨⟨dq, osq⟩, hw''⟩ := hw'
    subst hw''
    clear ew1
    go_wp2_with fail
    go_ret
    exact ⟨by rw [HN.out]; rfl, hB2.trans ((below_regrown w2 dq osq).mono hB2.size)⟩

end Go.Proofs.Ytkdpfajoeajenaa
