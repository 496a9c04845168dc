/-
  rec.Next; RecValid.
-/
import Derived.Test.YtfiagnkdembkaaaRecV
import Derived.Test.YtfiagnkdembkaaaRecAw
namespace Go.Proofs.Ytfiagnkdembkaaa
open Go.RowKit
set_option linter.unusedVariables false
set_option linter.unusedSimpArgs false

theorem Rcs.two {w w' : World} {g d n : Nat} {A : Option Addr} {L : List Rec} (h : Rcs w w.heap.size A n L) (hT : Two g d w w') (hA : ∀ p, A = some p → p.block ≠ g ∧ p.block ≠ d) : Rcs w' w'.heap.size A n L :=
  ⟨h.len, ⟨fun j u hj => by
    obtain ⟨p, e, hb, hc⟩ := h.lies.get j u hj
    obtain ⟨h1, h2⟩ := hA p e
    exact ⟨p, e, Nat.lt_of_lt_of_le hb hT.size, (World.cell?_of_block (hT.block _ (by rw [add_block]; exact hb) (by rw [add_block]; exact h1) (by rw [add_block]; exact h2))).trans hc⟩⟩, h.ok⟩
theorem set7 {w : World} {g : Nat} {T : TypeId} {x0 x1 x2 x3 x4 x5 x6 y0 y1 y2 y3 y4 y5 y6 : Value} (h : w.heap[g]? = some (.cells #[x0, x1, x2, x3, x4, x5, x6] T (0, 0))) :
    (((((((w.setCell ⟨g, 0, none⟩ y0).setCell ⟨g, 1, none⟩ y1).setCell ⟨g, 2, none⟩ y2).setCell ⟨g, 3, none⟩ y3).setCell ⟨g, 4, none⟩ y4).setCell ⟨g, 5, none⟩ y5).setCell ⟨g, 6, none⟩ y6).heap[g]? = some (.cells #[y0, y1, y2, y3, y4, y5, y6] T (0, 0)) := by
  have h0 : (w.setCell ⟨g, 0, none⟩ y0).heap[g]? = some (.cells #[y0, x1, x2, x3, x4, x5, x6] T (0, 0)) := by rw [heap_setCell_same _ g 0 _ _ _ h]; rfl
  have h1 : ((w.setCell ⟨g, 0, none⟩ y0).setCell ⟨g, 1, none⟩ y1).heap[g]? = some (.cells #[y0, y1, x2, x3, x4, x5, x6] T (0, 0)) := by rw [heap_setCell_same _ g 1 _ _ _ h0]; rfl
  have h2 : (((w.setCell ⟨g, 0, none⟩ y0).setCell ⟨g, 1, none⟩ y1).setCell ⟨g, 2, none⟩ y2).heap[g]? = some (.cells #[y0, y1, y2, x3, x4, x5, x6] T (0, 0)) := by rw [heap_setCell_same _ g 2 _ _ _ h1]; rfl
  have h3 : ((((w.setCell ⟨g, 0, none⟩ y0).setCell ⟨g, 1, none⟩ y1).setCell ⟨g, 2, none⟩ y2).setCell ⟨g, 3, none⟩ y3).heap[g]? = some (.cells #[y0, y1, y2, y3, x4, x5, x6] T (0, 0)) := by rw [heap_setCell_same _ g 3 _ _ _ h2]; rfl
  have h4 : (((((w.setCell ⟨g, 0, none⟩ y0).setCell ⟨g, 1, none⟩ y1).setCell ⟨g, 2, none⟩ y2).setCell ⟨g, 3, none⟩ y3).setCell ⟨g, 4, none⟩ y4).heap[g]? = some (.cells #[y0, y1, y2, y3, y4, x5, x6] T (0, 0)) := by rw [heap_setCell_same _ g 4 _ _ _ h3]; rfl
  have h5 : ((((((w.setCell ⟨g, 0, none⟩ y0).setCell ⟨g, 1, none⟩ y1).setCell ⟨g, 2, none⟩ y2).setCell ⟨g, 3, none⟩ y3).setCell ⟨g, 4, none⟩ y4).setCell ⟨g, 5, none⟩ y5).heap[g]? = some (.cells #[y0, y1, y2, y3, y4, y5, x6] T (0, 0)) := by rw [heap_setCell_same _ g 5 _ _ _ h4]; rfl
  rw [heap_setCell_same _ g 6 _ _ _ h5]
  rfl
def nextI (b : Bat) : Int := if validE b = 0 then b.base + spanI b else 0
theorem span_bd (b : Bat) (h : b.L.length ≤ 64) : 0 ≤ spanI b ∧ spanI b ≤ 64 := by unfold spanI; split <;> omega
set_option maxRecDepth 100000 in
set_option maxHeartbeats 4000000 in
theorem next_any (b : Bat) (A : Option Addr) (c B : Nat) (w : World) (hL : Rcs w B A b.L.length b.L) (hB : B ≤ w.heap.size) (hl : b.L.length ≤ maxLen) :
    Calls Try.prog 30 #[.agg (b.cells A c)] w fun e w' => e = .returned (.int .i64 (nextI b)) ∧ Below w.heap.size w w' := by
  have HVA : Hid (∀ W, Below w.heap.size w W → Calls Try.prog 28 #[.agg (b.cells A c)] W fun e w' => e = .returned (.int .i64 (validE b)) ∧ Below W.heap.size W w') := fun W h => valid_any b A c B W (hL.below (h.mono hB)) (Nat.le_trans hB h.size) hl
  have HSP : Hid (∀ W, Calls Try.prog 29 #[.agg (b.cells A c)] W fun e w' => e = .returned (.int .i64 (spanI b)) ∧ Below W.heap.size W w') := fun W => span_any b A c W
  have HX : Hid (nextI b = if validE b = 0 then b.base + spanI b else 0) := rfl
  have HF : Hid (validE b = 0 → 0 ≤ b.base ∧ b.base ≤ 1099511627776 ∧ 0 ≤ spanI b ∧ spanI b ≤ 64) := fun h => by
    have hF := (fine_iff b).1 h
    exact ⟨hF.b1, hF.b2, span_bd b hF.len⟩
  generalize nextI b = N at *
  generalize validE b = V at *
  obtain ⟨base, pid, epoch, seq, kind, time, L⟩ := b
  unfold Bat.cells at *
  simp only at *
  generalize spanI _ = sp at *
  clear hL
  have hB0 := (Below.refl w.heap.size w).alloc (Nat.le_refl _) (.cells #[.int .i64 base, .int .i64 pid, .int .i64 epoch, .int .i64 seq, .int .i64 kind, .int .i64 time, .slice A L.length c] 49)
  have hk0 := heap_alloc_new w (.cells #[.int .i64 base, .int .i64 pid, .int .i64 epoch, .int .i64 seq, .int .i64 kind, .int .i64 time, .slice A L.length c] 49)
  have hzz : w.heap.size < (w.alloc (.cells #[.int .i64 base, .int .i64 pid, .int .i64 epoch, .int .i64 seq, .int .i64 kind, .int .i64 time, .slice A L.length c] 49)).heap.size := by simp
  obtain ⟨w1, hw1⟩ : ∃ w1, w.alloc (.cells #[.int .i64 base, .int .i64 pid, .int .i64 epoch, .int .i64 seq, .int .i64 kind, .int .i64 time, .slice A L.length c] 49) = w1 := ⟨_, rfl⟩
  rw [hw1] at hB0 hk0 hzz
  have HW1 := Lib.hid hw1
  have HB0 := Lib.hid hB0
  have HK0 := Lib.hid hk0
  clear hw1 hB0 hk0
  go_enter Try.func30, Try.ntmps30
  go_wp2_with fail
  rw [HW1.out]
  refine (HVA.out _ HB0.out).mono ?_
  rintro e w2 ⟨rfl, hb2⟩
  have hB2 := HB0.out.trans (hb2.mono HB0.out.size)
  have hkk := (hb2.block w.heap.size hzz).trans HK0.out
  have c0 : w2.cell? ⟨w.heap.size, 0, none⟩ = some (.int .i64 base) := cell_of_row _ _ 0 _ _ _ hkk
  have c1 : w2.cell? ⟨w.heap.size, 1, none⟩ = some (.int .i64 pid) := cell_of_row _ _ 1 _ _ _ hkk
  have c2 : w2.cell? ⟨w.heap.size, 2, none⟩ = some (.int .i64 epoch) := cell_of_row _ _ 2 _ _ _ hkk
  have c3 : w2.cell? ⟨w.heap.size, 3, none⟩ = some (.int .i64 seq) := cell_of_row _ _ 3 _ _ _ hkk
  have c4 : w2.cell? ⟨w.heap.size, 4, none⟩ = some (.int .i64 kind) := cell_of_row _ _ 4 _ _ _ hkk
  have c5 : w2.cell? ⟨w.heap.size, 5, none⟩ = some (.int .i64 time) := cell_of_row _ _ 5 _ _ _ hkk
  have c6 : w2.cell? ⟨w.heap.size, 6, none⟩ = some (.slice A L.length c) := cell_of_row _ _ 6 _ _ _ hkk
  rcases Bool.eq_false_or_eq_true (V != 0) with hv | hv
  · have hv' : V ≠ 0 := by simpa using hv
    have HN : Hid (N = 0) := by show _ = _; rw [HX.out, if_neg hv']
    clear hv' HX HF
    go_wp2_with fail
    go_ret
    exact ⟨by rw [HN.out]; rfl, hB2⟩
  · have hv' : V = 0 := by simpa using hv
    obtain ⟨q1, q2, q3, q4⟩ := HF.out hv'
    have HN : Hid (N = base + sp) := by show _ = _; rw [HX.out, if_pos hv']
    clear hv' HX HF
    have ew1 : IntKind.i64.wrap (base + sp) = base + sp := IntWalk.i64_in _ (by omega)
    have HSQ : Hid (∀ d os, Calls Try.prog 29 #[.agg #[.int .i64 base, .int .i64 pid, .int .i64 epoch, .int .i64 seq, .int .i64 kind, .int .i64 time, .slice A L.length c]] (Sort.grow (redrawn w2 d) os) fun e w'' => e = .returned (.int .i64 sp) ∧ ∃ p : Regrown, w'' = Sort.grow (redrawn w2 p.d) p.os) := fun d os => Calls.regrown_of (HSP.out _)
    have g0 := cell_regrown c0
    have g1 := cell_regrown c1
    have g2 := cell_regrown c2
    have g3 := cell_regrown c3
    have g4 := cell_regrown c4
    have g5 := cell_regrown c5
    have g6 := cell_regrown c6
    go_wp2_with fail
    refine wp_region_quiet_below (by kernel_rfl) (by kernel_rfl) ?_
    repeat (go_big_quiet_step (exact HSQ.out _ _))
    refine wpQuiet_nil ?_
    intro _ hw'
    obtain ⟨⟨dq, osq⟩, hw''⟩ := hw'
    subst hw''
    clear ew1
    go_wp2_with fail
    go_ret
    exact ⟨by rw [HN.out]; rfl, hB2.trans ((below_regrown w2 dq osq).mono hB2.size)⟩

set_option maxRecDepth 100000 in
set_option maxHeartbeats 8000000 in
theorem validL_walk (b : Bat) (A : Option Addr) (c : Nat) (w : World) (hL : Rcs w w.heap.size A b.L.length b.L) (hl : b.L.length ≤ maxLen) :
    Calls Try.prog 6 #[.agg (b.cells A c)] w fun e w' => e = .returned (.bool true) ∧ Below w.heap.size w w' := by
  have HCU : Hid (∀ W, Below w.heap.size w W → Calls Try.prog 25 #[.agg (b.cells A c)] W fun e w' => ∃ A' c', e = .returned (.agg ((cutB b).cells A' c')) ∧ (cutB b).L.length ≤ c' ∧ c' ≤ maxLen ∧ Rcs w' w'.heap.size A' (cutB b).L.length (cutB b).L ∧ (∀ p, A' = some p → W.heap.size ≤ p.block) ∧ Below W.heap.size W w') := fun W h => cutB_any b A c w.heap.size W (hL.below h) h.size hl
  have HCL : Hid ((cutB b).L.length ≤ 80) := by show _ ≤ _; simp only [cutB, List.length_map, List.length_take]; omega
  generalize cutB b = b' at *
  obtain ⟨b0, p0, e0, s0, k0, t0, L0⟩ := b
  unfold Bat.cells at HCU ⊢
  simp only at HCU ⊢
  clear hL
  have hB0 := (Below.refl w.heap.size w).alloc (Nat.le_refl _) (.cells #[.int .i64 b0, .int .i64 p0, .int .i64 e0, .int .i64 s0, .int .i64 k0, .int .i64 t0, .slice A L0.length c] 49)
  have hk0 := heap_alloc_new w (.cells #[.int .i64 b0, .int .i64 p0, .int .i64 e0, .int .i64 s0, .int .i64 k0, .int .i64 t0, .slice A L0.length c] 49)
  have hzz : w.heap.size < (w.alloc (.cells #[.int .i64 b0, .int .i64 p0, .int .i64 e0, .int .i64 s0, .int .i64 k0, .int .i64 t0, .slice A L0.length c] 49)).heap.size := by simp
  obtain ⟨w1, hw1⟩ : ∃ w1, w.alloc (.cells #[.int .i64 b0, .int .i64 p0, .int .i64 e0, .int .i64 s0, .int .i64 k0, .int .i64 t0, .slice A L0.length c] 49) = w1 := ⟨_, rfl⟩
  rw [hw1] at hB0 hk0 hzz
  have HW1 := Lib.hid hw1
  have HB0 := Lib.hid hB0
  have HK0 := Lib.hid hk0
  clear hw1 hB0 hk0
  go_enter Try.func6, Try.ntmps6
  go_wp2_with fail
  rw [HW1.out]
  refine (HCU.out w1 HB0.out).mono ?_
  rintro e w2 ⟨A', c', rfl, hc1, hc2, hR2, hA2, hb2⟩
  have hB2 := HB0.out.trans (hb2.mono HB0.out.size)
  have hk2 := (hb2.block w.heap.size hzz).trans HK0.out
  have hlm : b'.L.length ≤ maxLen := by have := HCL.out; unfold maxLen; omega
  obtain ⟨base, pid, epoch, seq, kind, time, L⟩ := b'
  simp only at hc1 hR2 hlm ⊢
  have y0 : w2.cell? ⟨w.heap.size, 0, none⟩ = some (.int .i64 b0) := cell_of_row _ _ 0 _ _ _ hk2
  have f0 : w2.frozen? ⟨w.heap.size, 0, none⟩ = false := frozen_of_row _ _ 0 _ _ hk2
  have y1 : w2.cell? ⟨w.heap.size, 1, none⟩ = some (.int .i64 p0) := cell_of_row _ _ 1 _ _ _ hk2
  have f1 : w2.frozen? ⟨w.heap.size, 1, none⟩ = false := frozen_of_row _ _ 1 _ _ hk2
  have y2 : w2.cell? ⟨w.heap.size, 2, none⟩ = some (.int .i64 e0) := cell_of_row _ _ 2 _ _ _ hk2
  have f2 : w2.frozen? ⟨w.heap.size, 2, none⟩ = false := frozen_of_row _ _ 2 _ _ hk2
  have y3 : w2.cell? ⟨w.heap.size, 3, none⟩ = some (.int .i64 s0) := cell_of_row _ _ 3 _ _ _ hk2
  have f3 : w2.frozen? ⟨w.heap.size, 3, none⟩ = false := frozen_of_row _ _ 3 _ _ hk2
  have y4 : w2.cell? ⟨w.heap.size, 4, none⟩ = some (.int .i64 k0) := cell_of_row _ _ 4 _ _ _ hk2
  have f4 : w2.frozen? ⟨w.heap.size, 4, none⟩ = false := frozen_of_row _ _ 4 _ _ hk2
  have y5 : w2.cell? ⟨w.heap.size, 5, none⟩ = some (.int .i64 t0) := cell_of_row _ _ 5 _ _ _ hk2
  have f5 : w2.frozen? ⟨w.heap.size, 5, none⟩ = false := frozen_of_row _ _ 5 _ _ hk2
  have y6 : w2.cell? ⟨w.heap.size, 6, none⟩ = some (.slice A L0.length c) := cell_of_row _ _ 6 _ _ _ hk2
  have f6 : w2.frozen? ⟨w.heap.size, 6, none⟩ = false := frozen_of_row _ _ 6 _ _ hk2
  obtain ⟨W3, hW3⟩ : ∃ W3, (((((((w2.setCell ⟨w.heap.size, 0, none⟩ (.int .i64 base)).setCell ⟨w.heap.size, 1, none⟩ (.int .i64 pid)).setCell ⟨w.heap.size, 2, none⟩ (.int .i64 epoch)).setCell ⟨w.heap.size, 3, none⟩ (.int .i64 seq)).setCell ⟨w.heap.size, 4, none⟩ (.int .i64 kind)).setCell ⟨w.heap.size, 5, none⟩ (.int .i64 time)).setCell ⟨w.heap.size, 6, none⟩ (.slice A' L.length c')) = W3 := ⟨_, rfl⟩
  have hT3 : Two w.heap.size w.heap.size w2 W3 := by
    rw [← hW3]
    exact (((((((Two.set w2 0 _).trans (Two.set _ 1 _)).trans (Two.set _ 2 _)).trans (Two.set _ 3 _)).trans (Two.set _ 4 _)).trans (Two.set _ 5 _)).trans (Two.set _ 6 _))
  have hk3 : W3.heap[w.heap.size]? = some (.cells #[.int .i64 base, .int .i64 pid, .int .i64 epoch, .int .i64 seq, .int .i64 kind, .int .i64 time, .slice A' L.length c'] 49 (0, 0)) := by
    rw [← hW3]
    exact set7 hk2
  have hR3 : Rcs W3 W3.heap.size A' L.length L := by
    exact hR2.two hT3 (fun p hp => by have := hA2 p hp; omega)
  have hB3 : Below w.heap.size w W3 := hB2.trans (hT3.below (Nat.le_refl _) (Nat.le_refl _) hB2.size)
  have HW3 := Lib.hid hW3
  have hz3 : w.heap.size < W3.heap.size := (Array.getElem?_eq_some_iff.1 hk3).1
  clear hW3 hT3 hR2 hk2 hb2 hB2 hA2
  have HBT : Hid (∀ (W : World), Below W3.heap.size W3 W → Rcs W W.heap.size A' L.length L) := fun W h => (hR3.below h).wider h.size
  have HRV : Hid (∀ W, Below W3.heap.size W3 W → Calls Try.prog 26 #[.agg #[.int .i64 base, .int .i64 pid, .int .i64 epoch, .int .i64 seq, .int .i64 kind, .int .i64 time, .slice A' L.length c']] W fun e w' => e = .returned (.int .i64 (validE ⟨base, pid, epoch, seq, kind, time, L⟩)) ∧ Below W.heap.size W w') := fun W h => rvalid_any ⟨base, pid, epoch, seq, kind, time, L⟩ A' c' W.heap.size W (HBT.out W h) (Nat.le_refl _) hlm
  have HPV : Hid (∀ W, Below W3.heap.size W3 W → Calls Try.prog 28 #[.agg #[.int .i64 base, .int .i64 pid, .int .i64 epoch, .int .i64 seq, .int .i64 kind, .int .i64 time, .slice A' L.length c']] W fun e w' => e = .returned (.int .i64 (validE ⟨base, pid, epoch, seq, kind, time, L⟩)) ∧ Below W.heap.size W w') := fun W h => valid_any ⟨base, pid, epoch, seq, kind, time, L⟩ A' c' W.heap.size W (HBT.out W h) (Nat.le_refl _) hlm
  have HPN : Hid (∀ W, Below W3.heap.size W3 W → Calls Try.prog 30 #[.agg #[.int .i64 base, .int .i64 pid, .int .i64 epoch, .int .i64 seq, .int .i64 kind, .int .i64 time, .slice A' L.length c']] W fun e w' => e = .returned (.int .i64 (nextI ⟨base, pid, epoch, seq, kind, time, L⟩)) ∧ Below W.heap.size W w') := fun W h => next_any ⟨base, pid, epoch, seq, kind, time, L⟩ A' c' W.heap.size W (HBT.out W h) (Nat.le_refl _) hlm
  have HPS : Hid (∀ W, Calls Try.prog 29 #[.agg #[.int .i64 base, .int .i64 pid, .int .i64 epoch, .int .i64 seq, .int .i64 kind, .int .i64 time, .slice A' L.length c']] W fun e w' => e = .returned (.int .i64 (spanI ⟨base, pid, epoch, seq, kind, time, L⟩)) ∧ Below W.heap.size W w') := fun W => span_any ⟨base, pid, epoch, seq, kind, time, L⟩ A' c' W
  have HRS : Hid (∀ W, Calls Try.prog 27 #[.agg #[.int .i64 base, .int .i64 pid, .int .i64 epoch, .int .i64 seq, .int .i64 kind, .int .i64 time, .slice A' L.length c']] W fun e w' => e = .returned (.int .i64 (spanI ⟨base, pid, epoch, seq, kind, time, L⟩)) ∧ Below W.heap.size W w') := fun W => rspan_any ⟨base, pid, epoch, seq, kind, time, L⟩ A' c' W
  have HX : Hid (nextI ⟨base, pid, epoch, seq, kind, time, L⟩ = if validE ⟨base, pid, epoch, seq, kind, time, L⟩ = 0 then base + spanI ⟨base, pid, epoch, seq, kind, time, L⟩ else 0) := rfl
  have HF : Hid (validE ⟨base, pid, epoch, seq, kind, time, L⟩ = 0 → 0 ≤ base ∧ base ≤ 1099511627776 ∧ 0 ≤ spanI ⟨base, pid, epoch, seq, kind, time, L⟩ ∧ spanI ⟨base, pid, epoch, seq, kind, time, L⟩ ≤ 64) := fun h => by
    have hF := (fine_iff _).1 h
    exact ⟨hF.b1, hF.b2, span_bd _ hF.len⟩
  generalize nextI ⟨base, pid, epoch, seq, kind, time, L⟩ = N at *
  generalize validE ⟨base, pid, epoch, seq, kind, time, L⟩ = V at *
  generalize spanI ⟨base, pid, epoch, seq, kind, time, L⟩ = sp at *
  have HB3 := Lib.hid hB3
  have HK3 := Lib.hid hk3
  clear hR3 HCU hB3 hk3 HBT HB0 HK0
  go_upto_region 2 with fail
  rw [HW3.out]
  have hkk := HK3.out
  have c0 : W3.cell? ⟨w.heap.size, 0, none⟩ = some (.int .i64 base) := cell_of_row _ _ 0 _ _ _ hkk
  have c1 : W3.cell? ⟨w.heap.size, 1, none⟩ = some (.int .i64 pid) := cell_of_row _ _ 1 _ _ _ hkk
  have c2 : W3.cell? ⟨w.heap.size, 2, none⟩ = some (.int .i64 epoch) := cell_of_row _ _ 2 _ _ _ hkk
  have c3 : W3.cell? ⟨w.heap.size, 3, none⟩ = some (.int .i64 seq) := cell_of_row _ _ 3 _ _ _ hkk
  have c4 : W3.cell? ⟨w.heap.size, 4, none⟩ = some (.int .i64 kind) := cell_of_row _ _ 4 _ _ _ hkk
  have c5 : W3.cell? ⟨w.heap.size, 5, none⟩ = some (.int .i64 time) := cell_of_row _ _ 5 _ _ _ hkk
  have c6 : W3.cell? ⟨w.heap.size, 6, none⟩ = some (.slice A' L.length c') := cell_of_row _ _ 6 _ _ _ hkk
  clear y0 y1 y2 y3 y4 y5 y6 f0 f1 f2 f3 f4 f5 f6 hkk
  go_wp2_with fail
  refine (HRV.out _ (Below.refl _ _)).mono ?_
  rintro e w4 ⟨rfl, hb4⟩
  have hB4 := HB3.out.trans (hb4.mono HB3.out.size)
  have hkk := (hb4.block w.heap.size hz3).trans HK3.out
  clear c0 c1 c2 c3 c4 c5 c6
  have c0 : w4.cell? ⟨w.heap.size, 0, none⟩ = some (.int .i64 base) := cell_of_row _ _ 0 _ _ _ hkk
  have c1 : w4.cell? ⟨w.heap.size, 1, none⟩ = some (.int .i64 pid) := cell_of_row _ _ 1 _ _ _ hkk
  have c2 : w4.cell? ⟨w.heap.size, 2, none⟩ = some (.int .i64 epoch) := cell_of_row _ _ 2 _ _ _ hkk
  have c3 : w4.cell? ⟨w.heap.size, 3, none⟩ = some (.int .i64 seq) := cell_of_row _ _ 3 _ _ _ hkk
  have c4 : w4.cell? ⟨w.heap.size, 4, none⟩ = some (.int .i64 kind) := cell_of_row _ _ 4 _ _ _ hkk
  have c5 : w4.cell? ⟨w.heap.size, 5, none⟩ = some (.int .i64 time) := cell_of_row _ _ 5 _ _ _ hkk
  have c6 : w4.cell? ⟨w.heap.size, 6, none⟩ = some (.slice A' L.length c') := cell_of_row _ _ 6 _ _ _ hkk
  clear hkk
  have HB4 := Lib.hid hb4
  clear hb4
  have g0 := cell_regrown c0
  have g1 := cell_regrown c1
  have g2 := cell_regrown c2
  have g3 := cell_regrown c3
  have g4 := cell_regrown c4
  have g5 := cell_regrown c5
  have g6 := cell_regrown c6
  have sV : (V == V) = true := by simp
  have sS : (sp == sp) = true := by simp
  have sN : (N == N) = true := by simp
  rcases Bool.eq_false_or_eq_true (V == 0) with hv | hv
  · have hv' : V = 0 := by simpa using hv
    obtain ⟨q1, q2, q3, q4⟩ := HF.out hv'
    have HNN : Hid (base + sp = N) := by show _ = _; rw [HX.out, if_pos hv']
    have ew1 : IntKind.i64.wrap (base + sp) = N := by rw [← HNN.out]; exact IntWalk.i64_in _ (by omega)
    have HSQ : Hid (∀ d os, Calls Try.prog 27 #[.agg #[.int .i64 base, .int .i64 pid, .int .i64 epoch, .int .i64 seq, .int .i64 kind, .int .i64 time, .slice A' L.length c']] (Sort.grow (redrawn w4 d) os) fun e w'' => e = .returned (.int .i64 sp) ∧ ∃ p : Regrown, w'' = Sort.grow (redrawn w4 p.d) p.os) := fun d os => Calls.regrown_of (HRS.out _)
    clear hv' HX HF
    go_upto_region 5 with fail
    go_cut [4] (fun s4 wx => s4 = .int .i64 N ∧ Below w4.heap.size w4 wx)
    case first =>
      refine wp_region_quiet_below (by kernel_rfl) (by kernel_rfl) ?_
      repeat (go_big_quiet_step (exact HSQ.out _ _))
      refine wpQuiet_nil ?_
      intro _ hw'
      obtain ⟨⟨dq, osq⟩, hw''⟩ := hw'
      subst hw''
      go_wp2_with fail
      go_meet
      exact ⟨rfl, below_regrown w4 dq osq⟩
    case rest =>
      obtain ⟨rfl, hb5⟩ := hcut
      clear g0 g1 g2 g3 g4 g5 g6 ew1 HSQ hv
      have hbW := hb5
      have hQW : Below W3.heap.size W3 wc := HB4.out.trans (hbW.mono HB4.out.size)
      have hBW := HB3.out.trans (hQW.mono HB3.out.size)
      have hkk := (hQW.block w.heap.size hz3).trans HK3.out
      clear c0 c1 c2 c3 c4 c5 c6
      have c0 : wc.cell? ⟨w.heap.size, 0, none⟩ = some (.int .i64 base) := cell_of_row _ _ 0 _ _ _ hkk
      have c1 : wc.cell? ⟨w.heap.size, 1, none⟩ = some (.int .i64 pid) := cell_of_row _ _ 1 _ _ _ hkk
      have c2 : wc.cell? ⟨w.heap.size, 2, none⟩ = some (.int .i64 epoch) := cell_of_row _ _ 2 _ _ _ hkk
      have c3 : wc.cell? ⟨w.heap.size, 3, none⟩ = some (.int .i64 seq) := cell_of_row _ _ 3 _ _ _ hkk
      have c4 : wc.cell? ⟨w.heap.size, 4, none⟩ = some (.int .i64 kind) := cell_of_row _ _ 4 _ _ _ hkk
      have c5 : wc.cell? ⟨w.heap.size, 5, none⟩ = some (.int .i64 time) := cell_of_row _ _ 5 _ _ _ hkk
      have c6 : wc.cell? ⟨w.heap.size, 6, none⟩ = some (.slice A' L.length c') := cell_of_row _ _ 6 _ _ _ hkk
      clear hkk
      have g0 := cell_regrown c0
      have g1 := cell_regrown c1
      have g2 := cell_regrown c2
      have g3 := cell_regrown c3
      have g4 := cell_regrown c4
      have g5 := cell_regrown c5
      have g6 := cell_regrown c6
      have A1 : Hid (∀ d os, Calls Try.prog 28 #[.agg #[.int .i64 base, .int .i64 pid, .int .i64 epoch, .int .i64 seq, .int .i64 kind, .int .i64 time, .slice A' L.length c']] (Sort.grow (redrawn wc d) os) fun e w'' => e = .returned (.int .i64 V) ∧ ∃ p : Regrown, w'' = Sort.grow (redrawn wc p.d) p.os) := fun d os => Calls.regrown_of (HPV.out _ (hQW.trans ((below_regrown wc d os).mono hQW.size)))
      have A2 : Hid (∀ d os, Calls Try.prog 29 #[.agg #[.int .i64 base, .int .i64 pid, .int .i64 epoch, .int .i64 seq, .int .i64 kind, .int .i64 time, .slice A' L.length c']] (Sort.grow (redrawn wc d) os) fun e w'' => e = .returned (.int .i64 sp) ∧ ∃ p : Regrown, w'' = Sort.grow (redrawn wc p.d) p.os) := fun d os => Calls.regrown_of (HPS.out _)
      have A3 : Hid (∀ d os, Calls Try.prog 27 #[.agg #[.int .i64 base, .int .i64 pid, .int .i64 epoch, .int .i64 seq, .int .i64 kind, .int .i64 time, .slice A' L.length c']] (Sort.grow (redrawn wc d) os) fun e w'' => e = .returned (.int .i64 sp) ∧ ∃ p : Regrown, w'' = Sort.grow (redrawn wc p.d) p.os) := fun d os => Calls.regrown_of (HRS.out _)
      have A4 : Hid (∀ d os, Calls Try.prog 30 #[.agg #[.int .i64 base, .int .i64 pid, .int .i64 epoch, .int .i64 seq, .int .i64 kind, .int .i64 time, .slice A' L.length c']] (Sort.grow (redrawn wc d) os) fun e w'' => e = .returned (.int .i64 N) ∧ ∃ p : Regrown, w'' = Sort.grow (redrawn wc p.d) p.os) := fun d os => Calls.regrown_of (HPN.out _ (hQW.trans ((below_regrown wc d os).mono hQW.size)))
      have A5 : Hid (∀ d os, Calls Try.prog 31 #[] (Sort.grow (redrawn wc d) os) fun e w'' => e = .returned (.bool true) ∧ ∃ p : Regrown, w'' = Sort.grow (redrawn wc p.d) p.os) := fun d os => Calls.regrown_of (awake3_any _)
      have HBW := Lib.hid hBW
      clear hbW hQW hBW HRV HPV HPN HPS HRS HB4
      go_wp2_with fail
      refine wp_region_quiet_below (by kernel_rfl) (by kernel_rfl) ?_
      repeat (go_big_quiet_step (first | (go_at_call 28; exact A1.out _ _) | (go_at_call 29; exact A2.out _ _) | (go_at_call 27; exact A3.out _ _) | (go_at_call 30; exact A4.out _ _) | (go_at_call 31; exact A5.out _ _)))
      refine wpQuiet_nil ?_
      intro _ hw'
      obtain ⟨⟨dq, osq⟩, hw''⟩ := hw'
      subst hw''
      go_wp2_with fail
      go_ret
      exact ⟨rfl, HBW.out.trans ((below_regrown wc dq osq).mono HBW.out.size)⟩
  · have hv' : V ≠ 0 := by simpa using hv
    obtain rfl : N = 0 := by rw [HX.out, if_neg hv']
    clear hv' HX HF g0 g1 g2 g3 g4 g5 g6 sN
    have hbW := (Below.refl w4.heap.size w4)
    have hQW : Below W3.heap.size W3 w4 := HB4.out.trans (hbW.mono HB4.out.size)
    have hBW := HB3.out.trans (hQW.mono HB3.out.size)
    have hkk := (hQW.block w.heap.size hz3).trans HK3.out
    clear c0 c1 c2 c3 c4 c5 c6
    have c0 : w4.cell? ⟨w.heap.size, 0, none⟩ = some (.int .i64 base) := cell_of_row _ _ 0 _ _ _ hkk
    have c1 : w4.cell? ⟨w.heap.size, 1, none⟩ = some (.int .i64 pid) := cell_of_row _ _ 1 _ _ _ hkk
    have c2 : w4.cell? ⟨w.heap.size, 2, none⟩ = some (.int .i64 epoch) := cell_of_row _ _ 2 _ _ _ hkk
    have c3 : w4.cell? ⟨w.heap.size, 3, none⟩ = some (.int .i64 seq) := cell_of_row _ _ 3 _ _ _ hkk
    have c4 : w4.cell? ⟨w.heap.size, 4, none⟩ = some (.int .i64 kind) := cell_of_row _ _ 4 _ _ _ hkk
    have c5 : w4.cell? ⟨w.heap.size, 5, none⟩ = some (.int .i64 time) := cell_of_row _ _ 5 _ _ _ hkk
    have c6 : w4.cell? ⟨w.heap.size, 6, none⟩ = some (.slice A' L.length c') := cell_of_row _ _ 6 _ _ _ hkk
    clear hkk
    have g0 := cell_regrown c0
    have g1 := cell_regrown c1
    have g2 := cell_regrown c2
    have g3 := cell_regrown c3
    have g4 := cell_regrown c4
    have g5 := cell_regrown c5
    have g6 := cell_regrown c6
    have A1 : Hid (∀ d os, Calls Try.prog 28 #[.agg #[.int .i64 base, .int .i64 pid, .int .i64 epoch, .int .i64 seq, .int .i64 kind, .int .i64 time, .slice A' L.length c']] (Sort.grow (redrawn w4 d) os) fun e w'' => e = .returned (.int .i64 V) ∧ ∃ p : Regrown, w'' = Sort.grow (redrawn w4 p.d) p.os) := fun d os => Calls.regrown_of (HPV.out _ (hQW.trans ((below_regrown w4 d os).mono hQW.size)))
    have A2 : Hid (∀ d os, Calls Try.prog 29 #[.agg #[.int .i64 base, .int .i64 pid, .int .i64 epoch, .int .i64 seq, .int .i64 kind, .int .i64 time, .slice A' L.length c']] (Sort.grow (redrawn w4 d) os) fun e w'' => e = .returned (.int .i64 sp) ∧ ∃ p : Regrown, w'' = Sort.grow (redrawn w4 p.d) p.os) := fun d os => Calls.regrown_of (HPS.out _)
    have A3 : Hid (∀ d os, Calls Try.prog 27 #[.agg #[.int .i64 base, .int .i64 pid, .int .i64 epoch, .int .i64 seq, .int .i64 kind, .int .i64 time, .slice A' L.length c']] (Sort.grow (redrawn w4 d) os) fun e w'' => e = .returned (.int .i64 sp) ∧ ∃ p : Regrown, w'' = Sort.grow (redrawn w4 p.d) p.os) := fun d os => Calls.regrown_of (HRS.out _)
    have A4 : Hid (∀ d os, Calls Try.prog 30 #[.agg #[.int .i64 base, .int .i64 pid, .int .i64 epoch, .int .i64 seq, .int .i64 kind, .int .i64 time, .slice A' L.length c']] (Sort.grow (redrawn w4 d) os) fun e w'' => e = .returned (.int .i64 0) ∧ ∃ p : Regrown, w'' = Sort.grow (redrawn w4 p.d) p.os) := fun d os => Calls.regrown_of (HPN.out _ (hQW.trans ((below_regrown w4 d os).mono hQW.size)))
    have A5 : Hid (∀ d os, Calls Try.prog 31 #[] (Sort.grow (redrawn w4 d) os) fun e w'' => e = .returned (.bool true) ∧ ∃ p : Regrown, w'' = Sort.grow (redrawn w4 p.d) p.os) := fun d os => Calls.regrown_of (awake3_any _)
    have HBW := Lib.hid hBW
    clear hbW hQW hBW HRV HPV HPN HPS HRS HB4
    go_wp2_with fail
    refine wp_region_quiet_below (by kernel_rfl) (by kernel_rfl) ?_
    repeat (go_big_quiet_step (first | (go_at_call 28; exact A1.out _ _) | (go_at_call 29; exact A2.out _ _) | (go_at_call 27; exact A3.out _ _) | (go_at_call 30; exact A4.out _ _) | (go_at_call 31; exact A5.out _ _)))
    refine wpQuiet_nil ?_
    intro _ hw'
    obtain ⟨⟨dq, osq⟩, hw''⟩ := hw'
    subst hw''
    go_wp2_with fail
    go_ret
    exact ⟨rfl, HBW.out.trans ((below_regrown w4 dq osq).mono HBW.out.size)⟩
end Go.Proofs.Ytfiagnkdembkaaa
