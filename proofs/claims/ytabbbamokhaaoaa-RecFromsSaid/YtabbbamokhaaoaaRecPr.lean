/-
  What towpathref03.From does.
-/
import Derived.Test.YtabbbamokhaaoaaRecPf
import Derived.Test.YtabbbamokhaaoaaRecPp
namespace Go.Proofs.Ytabbbamokhaaoaa
open Go.RowKit
set_option linter.unusedVariables false
set_option linter.unusedSimpArgs false

theorem fine_seq {b : Bat} (hF : Fine b) (h : b.pid = 0) : b.seq = 0 := by
  have h1 := hF.form
  unfold formB at h1
  by_cases hs : b.seq = 0
  · exact hs
  · rw [if_pos (by simp [h, hs])] at h1
    cases h1
theorem piece_part {b : Bat} (hF : Fine b) (i : Nat) : pieceB b i b.L.length = partB b i b.L.length := by
  unfold pieceB partB
  have hp := hF.p1
  by_cases h : b.pid = 0
  · rw [if_pos h, if_neg (by omega), fine_seq hF h]
  · rw [if_neg h, if_pos (by omega)]
theorem part_zero {b : Bat} : partB b 0 b.L.length = b := by
  unfold partB
  obtain ⟨base, pid, epoch, seq, kind, time, L⟩ := b
  by_cases h : pid = 0 <;> simp [h]
theorem fine_long {b : Bat} (hF : Fine b) (h : markB b = false) : 0 < b.L.length := by
  have h1 := hF.form
  unfold formB at h1
  split at h1
  · cases h1
  · rw [h] at h1
    simpa using h1

set_option maxRecDepth 100000 in
set_option maxHeartbeats 8000000 in
theorem rfrom_any (b : Bat) (A : Option Addr) (c B : Nat) (o : Int) (w : World) (hL : Rcs w B A b.L.length b.L) (hB : B ≤ w.heap.size) (hl : b.L.length ≤ 80) (ho1 : -9223372036854775808 ≤ o) (ho2 : o ≤ 9223372036854775807) :
    Calls Try.prog 50 #[.agg (b.cells A c), .int .i64 o] w fun e w' => ∃ A' c', e = .returned (.tuple #[.agg ((fromB b o).cells A' c'), .bool (fromOk b o)]) ∧ Rcs w' w'.heap.size A' (fromB b o).L.length (fromB b o).L ∧ Below w.heap.size w w' := by
  have HVA : Hid (∀ W, Below w.heap.size w W → Calls Try.prog 85 #[.agg (b.cells A c)] W fun e w' => e = .returned (.int .i64 (validE b)) ∧ Below W.heap.size W w') := fun W h => rvalid_any b A c B W (hL.below (h.mono hB)) (Nat.le_trans hB h.size) (by unfold maxLen; omega)
  have HSP : Hid (∀ W, Calls Try.prog 106 #[.agg (b.cells A c)] W fun e w' => e = .returned (.int .i64 (spanI b)) ∧ Below W.heap.size W w') := fun W => rspan_any b A c W
  have HMK : Hid (∀ W, Calls Try.prog 87 #[.agg (b.cells A c)] W fun e w' => e = .returned (.bool (markB b)) ∧ Below W.heap.size W w') := fun W => rmark_any b A c W
  have HPI : Hid (∀ (W : World) (i : Nat), Below w.heap.size w W → Fine b → i ≤ b.L.length → Calls Try.prog 99 #[.agg (b.cells A c), .int .i64 i, .int .i64 (b.L.length : Nat)] W fun e w' => ∃ A' c', e = .returned (.agg ((partB b i b.L.length).cells A' c')) ∧ w'.ownsRow W.heap.size 84 4 (.slice A' (b.L.length - i) c') (b.L.length - i) (rcells (partB b i b.L.length).L) ∧ (∀ p, A' = some p → W.heap.size ≤ p.block) ∧ Below W.heap.size W w') := fun W i h hF hi => by
    have := piece_any b A c B i b.L.length W (hL.below (h.mono hB)) (Nat.le_trans hB h.size) hF.len hi (Nat.le_refl _) hF.b1 hF.b2 hF.s1 hF.s2
    rw [piece_part hF] at this
    exact this
  have HFI : Hid (validE b = 0 → Fine b) := (fine_iff b).1
  have HFB : Hid (fromB b o = if fromOk b o = true then (if o ≤ b.base then b else partB b (o - b.base).toNat b.L.length) else zB) := rfl
  have HFO : Hid (fromOk b o = (decide (validE b = 0) && decide (o < nextI b))) := rfl
  have HNI : Hid (nextI b = if validE b = 0 then b.base + spanI b else 0) := rfl
  have HSI : Hid (spanI b = if markB b then 1 else (b.L.length : Int)) := rfl
  have HPZ : Hid (partB b 0 b.L.length = b) := part_zero
  have HFL : Hid (Fine b → markB b = false → 0 < b.L.length) := fun h h2 => fine_long h h2
  have HOK := Lib.hid hL.ok
  have HLL : Hid (∀ W, Below w.heap.size w W → Rcs W W.heap.size A b.L.length b.L) := fun W h => (hL.below (h.mono hB)).wider (Nat.le_trans hB h.size)
  have HPB : Hid (∀ i, (partB b i b.L.length).L.length = b.L.length - i ∧ ∀ r ∈ (partB b i b.L.length).L, i64_ r.time) := fun i => ⟨by show ((b.L.take b.L.length).drop i).length = _; rw [List.length_drop, List.length_take]; omega, fun r hr => hL.ok r (List.mem_of_mem_take (List.mem_of_mem_drop hr))⟩
  generalize fromB b o = FB at *
  generalize fromOk b o = FO at *
  generalize validE b = V at *
  generalize nextI b = NX at *
  generalize hsp : spanI b = SP at *
  generalize hmk : markB b = MK at *
  clear hsp hmk
  obtain ⟨base, pid, epoch, seq, kind, time, L⟩ := b
  simp only [Bat.cells] at *
  obtain ⟨W0, hW0⟩ : ∃ W0, (w.alloc (.cells #[.int .i64 base, .int .i64 pid, .int .i64 epoch, .int .i64 seq, .int .i64 kind, .int .i64 time, .slice A L.length c] 66)).alloc (.cells #[.int .i64 0, .int .i64 0, .int .i64 0, .int .i64 0, .int .i64 0, .int .i64 0, .slice none 0 0] 66) = W0 := ⟨_, rfl⟩
  have hz0 : W0.heap.size = w.heap.size + 1 + 1 := by rw [← hW0]; simp
  have hB0 : Below w.heap.size w W0 := by rw [← hW0]; exact ((Below.refl _ _).alloc (Nat.le_refl _) _).alloc (by simp) _
  have k1 : W0.heap[w.heap.size]? = some (.cells #[.int .i64 base, .int .i64 pid, .int .i64 epoch, .int .i64 seq, .int .i64 kind, .int .i64 time, .slice A L.length c] 66 (0, 0)) := by
    rw [← hW0, ← heap_alloc_new w (.cells #[.int .i64 base, .int .i64 pid, .int .i64 epoch, .int .i64 seq, .int .i64 kind, .int .i64 time, .slice A L.length c] 66)]
    exact ((Below.refl (w.heap.size + 1) _).alloc (by simp) _).block w.heap.size (by omega)
  have k2 : W0.heap[w.heap.size + 1]? = some (.cells #[.int .i64 0, .int .i64 0, .int .i64 0, .int .i64 0, .int .i64 0, .int .i64 0, .slice none 0 0] 66 (0, 0)) := by
    have h := heap_alloc_new (w.alloc (.cells #[.int .i64 base, .int .i64 pid, .int .i64 epoch, .int .i64 seq, .int .i64 kind, .int .i64 time, .slice A L.length c] 66)) (.cells #[.int .i64 0, .int .i64 0, .int .i64 0, .int .i64 0, .int .i64 0, .int .i64 0, .slice none 0 0] 66)
    rw [show (w.alloc (.cells #[.int .i64 base, .int .i64 pid, .int .i64 epoch, .int .i64 seq, .int .i64 kind, .int .i64 time, .slice A L.length c] 66)).heap.size = w.heap.size + 1 from by simp] at h
    rw [← hW0]; exact h
  have c6 : W0.cell? ⟨w.heap.size, 6, none⟩ = some (.slice A L.length c) := cell_of_row _ _ 6 _ _ _ k1
  have HB0 := Lib.hid hB0
  have K1 := Lib.hid k1
  have K2 := Lib.hid k2
  have HW0 := Lib.hid hW0
  clear hL hB0 k1 k2 hW0 c6
  go_enter Try.func50, Try.ntmps50
  go_upto_region 1 with fail
  rw [HW0.out]
  go_cut [19] (fun s19 wx => s19 = .bool (!FO) ∧ Hid (Below W0.heap.size W0 wx))
  case first =>
    have y0 : W0.cell? ⟨w.heap.size, 0, none⟩ = some (.int .i64 base) := cell_of_row _ _ 0 _ _ _ K1.out
    have d0 : W0.cell? ⟨w.heap.size + 1, 0, none⟩ = some (.int .i64 0) := cell_of_row _ _ 0 _ _ _ K2.out
    have g0 : W0.frozen? ⟨w.heap.size + 1, 0, none⟩ = false := frozen_of_row _ _ 0 _ _ K2.out
    have y1 : W0.cell? ⟨w.heap.size, 1, none⟩ = some (.int .i64 pid) := cell_of_row _ _ 1 _ _ _ K1.out
    have d1 : W0.cell? ⟨w.heap.size + 1, 1, none⟩ = some (.int .i64 0) := cell_of_row _ _ 1 _ _ _ K2.out
    have g1 : W0.frozen? ⟨w.heap.size + 1, 1, none⟩ = false := frozen_of_row _ _ 1 _ _ K2.out
    have y2 : W0.cell? ⟨w.heap.size, 2, none⟩ = some (.int .i64 epoch) := cell_of_row _ _ 2 _ _ _ K1.out
    have d2 : W0.cell? ⟨w.heap.size + 1, 2, none⟩ = some (.int .i64 0) := cell_of_row _ _ 2 _ _ _ K2.out
    have g2 : W0.frozen? ⟨w.heap.size + 1, 2, none⟩ = false := frozen_of_row _ _ 2 _ _ K2.out
    have y3 : W0.cell? ⟨w.heap.size, 3, none⟩ = some (.int .i64 seq) := cell_of_row _ _ 3 _ _ _ K1.out
    have d3 : W0.cell? ⟨w.heap.size + 1, 3, none⟩ = some (.int .i64 0) := cell_of_row _ _ 3 _ _ _ K2.out
    have g3 : W0.frozen? ⟨w.heap.size + 1, 3, none⟩ = false := frozen_of_row _ _ 3 _ _ K2.out
    have y4 : W0.cell? ⟨w.heap.size, 4, none⟩ = some (.int .i64 kind) := cell_of_row _ _ 4 _ _ _ K1.out
    have d4 : W0.cell? ⟨w.heap.size + 1, 4, none⟩ = some (.int .i64 0) := cell_of_row _ _ 4 _ _ _ K2.out
    have g4 : W0.frozen? ⟨w.heap.size + 1, 4, none⟩ = false := frozen_of_row _ _ 4 _ _ K2.out
    have y5 : W0.cell? ⟨w.heap.size, 5, none⟩ = some (.int .i64 time) := cell_of_row _ _ 5 _ _ _ K1.out
    have d5 : W0.cell? ⟨w.heap.size + 1, 5, none⟩ = some (.int .i64 0) := cell_of_row _ _ 5 _ _ _ K2.out
    have g5 : W0.frozen? ⟨w.heap.size + 1, 5, none⟩ = false := frozen_of_row _ _ 5 _ _ K2.out
    have y6 : W0.cell? ⟨w.heap.size, 6, none⟩ = some (.slice A L.length c) := cell_of_row _ _ 6 _ _ _ K1.out
    have d6 : W0.cell? ⟨w.heap.size + 1, 6, none⟩ = some (.slice none 0 0) := cell_of_row _ _ 6 _ _ _ K2.out
    have g6 : W0.frozen? ⟨w.heap.size + 1, 6, none⟩ = false := frozen_of_row _ _ 6 _ _ K2.out
    have e0 := cell_regrown y0
    have e1 := cell_regrown y1
    have e2 := cell_regrown y2
    have e3 := cell_regrown y3
    have e4 := cell_regrown y4
    have e5 := cell_regrown y5
    have e6 := cell_regrown y6
    have HVQ : Hid (∀ d os, Calls Try.prog 85 #[.agg #[.int .i64 base, .int .i64 pid, .int .i64 epoch, .int .i64 seq, .int .i64 kind, .int .i64 time, .slice A L.length c]] (Sort.grow (redrawn W0 d) os) fun e w'' => e = .returned (.int .i64 V) ∧ ∃ p : Regrown, w'' = Sort.grow (redrawn W0 p.d) p.os) := fun d os => Calls.regrown_of (HVA.out _ (HB0.out.trans ((below_regrown W0 d os).mono (by omega))))
    have HSQ : Hid (∀ d os, Calls Try.prog 106 #[.agg #[.int .i64 base, .int .i64 pid, .int .i64 epoch, .int .i64 seq, .int .i64 kind, .int .i64 time, .slice A L.length c]] (Sort.grow (redrawn W0 d) os) fun e w'' => e = .returned (.int .i64 SP) ∧ ∃ p : Regrown, w'' = Sort.grow (redrawn W0 p.d) p.os) := fun d os => Calls.regrown_of (HSP.out _)
    by_cases hV : V = 0
    · subst hV
      have hF := (by first | exact HFI.out rfl | exact HFI.out trivial : Fine ⟨base, pid, epoch, seq, kind, time, L⟩)
      have hb1 := hF.b1
      have hb2 := hF.b2
      have hlf := hF.len
      simp only at hb1 hb2 hlf
      have hnx : NX = base + SP := by rw [HNI.out]; first | rw [if_pos rfl] | rw [if_pos trivial]
      have hsp : 0 ≤ SP ∧ SP ≤ 64 := by rw [HSI.out]; split <;> omega
      have hfo : FO = decide (o < NX) := by rw [HFO.out]; simp
      have ew1 : IntKind.i64.wrap (base + SP) = base + SP := IntWalk.i64_in _ (by omega)
      have ew2 : IntKind.i64.wrap (base + SP - 1) = base + SP - 1 := IntWalk.i64_in _ (by omega)
      by_cases hlt : base + SP - 1 < o
      · have dd : decide (base + SP - 1 < o) = true := decide_eq_true hlt
        have HFF : Hid (FO = false) := by show _ = _; rw [hfo, decide_eq_false (by omega)]
        clear hF hfo hlt hnx
        go_wp2_with fail
        refine wp_region_quiet_below (by kernel_rfl) (by kernel_rfl) ?_
        repeat (go_big_quiet_step (first | exact HVQ.out _ _ | exact HSQ.out _ _))
        refine wpQuiet_nil ?_
        intro _ hw'
        obtain ⟨⟨dq, osq⟩, hw''⟩ := hw'
        subst hw''
        clear ew1 ew2
        go_wp2_with fail
        go_meet
        exact ⟨by rw [HFF.out]; rfl, below_regrown W0 dq osq⟩
      · have dd : decide (base + SP - 1 < o) = false := decide_eq_false hlt
        have HFF : Hid (FO = true) := by show _ = _; rw [hfo, decide_eq_true (by omega)]
        clear hF hfo hlt hnx
        go_wp2_with fail
        refine wp_region_quiet_below (by kernel_rfl) (by kernel_rfl) ?_
        repeat (go_big_quiet_step (first | exact HVQ.out _ _ | exact HSQ.out _ _))
        refine wpQuiet_nil ?_
        intro _ hw'
        obtain ⟨⟨dq, osq⟩, hw''⟩ := hw'
        subst hw''
        clear ew1 ew2
        go_wp2_with fail
        go_meet
        exact ⟨by rw [HFF.out]; rfl, below_regrown W0 dq osq⟩
    · have hne : (V != 0) = true := by simpa using hV
      have HFF : Hid (FO = false) := by show _ = _; rw [HFO.out, decide_eq_false hV]; rfl
      clear hV
      go_wp2_with fail
      refine wp_region_quiet_below (by kernel_rfl) (by kernel_rfl) ?_
      repeat (go_big_quiet_step (first | exact HVQ.out _ _ | exact HSQ.out _ _))
      refine wpQuiet_nil ?_
      intro _ hw'
      obtain ⟨⟨dq, osq⟩, hw''⟩ := hw'
      subst hw''
      go_wp2_with fail
      go_meet
      exact ⟨by rw [HFF.out]; rfl, below_regrown W0 dq osq⟩
  case rest =>
    obtain ⟨rfl, HBc⟩ := hcut
    have HQ1 := Lib.hid ((HBc.out.block w.heap.size (by omega)).trans K1.out)
    have HQ2 := Lib.hid ((HBc.out.block (w.heap.size + 1) (by omega)).trans K2.out)
    have hs2 := HBc.out.size
    have HB2 := Lib.hid (HB0.out.trans (HBc.out.mono (by omega)))
    clear HBc HVA HSP
    have y0 : wc.cell? ⟨w.heap.size, 0, none⟩ = some (.int .i64 base) := cell_of_row _ _ 0 _ _ _ HQ1.out
    have d0 : wc.cell? ⟨w.heap.size + 1, 0, none⟩ = some (.int .i64 0) := cell_of_row _ _ 0 _ _ _ HQ2.out
    have g0 : wc.frozen? ⟨w.heap.size + 1, 0, none⟩ = false := frozen_of_row _ _ 0 _ _ HQ2.out
    have y1 : wc.cell? ⟨w.heap.size, 1, none⟩ = some (.int .i64 pid) := cell_of_row _ _ 1 _ _ _ HQ1.out
    have d1 : wc.cell? ⟨w.heap.size + 1, 1, none⟩ = some (.int .i64 0) := cell_of_row _ _ 1 _ _ _ HQ2.out
    have g1 : wc.frozen? ⟨w.heap.size + 1, 1, none⟩ = false := frozen_of_row _ _ 1 _ _ HQ2.out
    have y2 : wc.cell? ⟨w.heap.size, 2, none⟩ = some (.int .i64 epoch) := cell_of_row _ _ 2 _ _ _ HQ1.out
    have d2 : wc.cell? ⟨w.heap.size + 1, 2, none⟩ = some (.int .i64 0) := cell_of_row _ _ 2 _ _ _ HQ2.out
    have g2 : wc.frozen? ⟨w.heap.size + 1, 2, none⟩ = false := frozen_of_row _ _ 2 _ _ HQ2.out
    have y3 : wc.cell? ⟨w.heap.size, 3, none⟩ = some (.int .i64 seq) := cell_of_row _ _ 3 _ _ _ HQ1.out
    have d3 : wc.cell? ⟨w.heap.size + 1, 3, none⟩ = some (.int .i64 0) := cell_of_row _ _ 3 _ _ _ HQ2.out
    have g3 : wc.frozen? ⟨w.heap.size + 1, 3, none⟩ = false := frozen_of_row _ _ 3 _ _ HQ2.out
    have y4 : wc.cell? ⟨w.heap.size, 4, none⟩ = some (.int .i64 kind) := cell_of_row _ _ 4 _ _ _ HQ1.out
    have d4 : wc.cell? ⟨w.heap.size + 1, 4, none⟩ = some (.int .i64 0) := cell_of_row _ _ 4 _ _ _ HQ2.out
    have g4 : wc.frozen? ⟨w.heap.size + 1, 4, none⟩ = false := frozen_of_row _ _ 4 _ _ HQ2.out
    have y5 : wc.cell? ⟨w.heap.size, 5, none⟩ = some (.int .i64 time) := cell_of_row _ _ 5 _ _ _ HQ1.out
    have d5 : wc.cell? ⟨w.heap.size + 1, 5, none⟩ = some (.int .i64 0) := cell_of_row _ _ 5 _ _ _ HQ2.out
    have g5 : wc.frozen? ⟨w.heap.size + 1, 5, none⟩ = false := frozen_of_row _ _ 5 _ _ HQ2.out
    have y6 : wc.cell? ⟨w.heap.size, 6, none⟩ = some (.slice A L.length c) := cell_of_row _ _ 6 _ _ _ HQ1.out
    have d6 : wc.cell? ⟨w.heap.size + 1, 6, none⟩ = some (.slice none 0 0) := cell_of_row _ _ 6 _ _ _ HQ2.out
    have g6 : wc.frozen? ⟨w.heap.size + 1, 6, none⟩ = false := frozen_of_row _ _ 6 _ _ HQ2.out
    cases hFO : FO with
    | false =>
      have hfb : FB = zB := by rw [HFB.out, hFO]; rfl
      have HF2 := Lib.hid hfb
      have HFO2 := Lib.hid hFO
      subst hFO
      clear hfb
      go_wp2_with fail
      refine bodyPost_ret (v := .tuple #[.agg #[.int .i64 0, .int .i64 0, .int .i64 0, .int .i64 0, .int .i64 0, .int .i64 0, .slice none 0 0], .bool false]) (by simp [results, Try.results50, go_sem, d0, d1, d2, d3, d4, d5, d6]) rfl ?_
      refine ⟨none, ⟨0, by rw [HF2.out]; rfl⟩, by rw [HF2.out]; exact Rcs.nil_, ?_⟩
      repeat refine Below.setCell ?_ (by simp) _
      exact HB2.out
    | true =>
      have hv0 : V = 0 := by
        have := HFO.out
        rw [hFO] at this
        by_cases h : V = 0
        · exact h
        · rw [decide_eq_false h] at this; cases this
      have hon : o < NX := by
        have := HFO.out
        rw [hFO] at this
        by_cases h : o < NX
        · exact h
        · rw [decide_eq_false h] at this; simp at this
      subst hv0
      have hF := (by first | exact HFI.out rfl | exact HFI.out trivial : Fine ⟨base, pid, epoch, seq, kind, time, L⟩)
      have hb1 := hF.b1
      have hb2 := hF.b2
      have hlf := hF.len
      simp only at hb1 hb2 hlf
      have hnx : NX = base + SP := by rw [HNI.out]; first | rw [if_pos rfl] | rw [if_pos trivial]
      have hfb : FB = if o ≤ base then ⟨base, pid, epoch, seq, kind, time, L⟩ else partB ⟨base, pid, epoch, seq, kind, time, L⟩ (o - base).toNat L.length := by rw [HFB.out, hFO, if_pos rfl]
      have HF := Lib.hid hF
      subst hFO
      go_wp2_with fail
      refine (HMK.out _).mono ?_
      rintro e w3 ⟨rfl, hb3⟩
      have hB3 := HB2.out.trans (hb3.mono HB2.out.size)
      have HQ3 := Lib.hid ((hb3.block w.heap.size (by omega)).trans HQ1.out)
      have HQ4 := Lib.hid ((hb3.block (w.heap.size + 1) (by omega)).trans HQ2.out)
      have hs3 := hb3.size
      have HB3 := Lib.hid hB3
      have HRR := Lib.hid (HLL.out w3 hB3)
      clear y0 d0 g0 y1 d1 g1 y2 d2 g2 y3 d3 g3 y4 d4 g4 y5 d5 g5 y6 d6 g6 hb3 hB3 HMK HFB HFO hF
      have y0 : w3.cell? ⟨w.heap.size, 0, none⟩ = some (.int .i64 base) := cell_of_row _ _ 0 _ _ _ HQ3.out
      have d0 : w3.cell? ⟨w.heap.size + 1, 0, none⟩ = some (.int .i64 0) := cell_of_row _ _ 0 _ _ _ HQ4.out
      have g0 : w3.frozen? ⟨w.heap.size + 1, 0, none⟩ = false := frozen_of_row _ _ 0 _ _ HQ4.out
      have y1 : w3.cell? ⟨w.heap.size, 1, none⟩ = some (.int .i64 pid) := cell_of_row _ _ 1 _ _ _ HQ3.out
      have d1 : w3.cell? ⟨w.heap.size + 1, 1, none⟩ = some (.int .i64 0) := cell_of_row _ _ 1 _ _ _ HQ4.out
      have g1 : w3.frozen? ⟨w.heap.size + 1, 1, none⟩ = false := frozen_of_row _ _ 1 _ _ HQ4.out
      have y2 : w3.cell? ⟨w.heap.size, 2, none⟩ = some (.int .i64 epoch) := cell_of_row _ _ 2 _ _ _ HQ3.out
      have d2 : w3.cell? ⟨w.heap.size + 1, 2, none⟩ = some (.int .i64 0) := cell_of_row _ _ 2 _ _ _ HQ4.out
      have g2 : w3.frozen? ⟨w.heap.size + 1, 2, none⟩ = false := frozen_of_row _ _ 2 _ _ HQ4.out
      have y3 : w3.cell? ⟨w.heap.size, 3, none⟩ = some (.int .i64 seq) := cell_of_row _ _ 3 _ _ _ HQ3.out
      have d3 : w3.cell? ⟨w.heap.size + 1, 3, none⟩ = some (.int .i64 0) := cell_of_row _ _ 3 _ _ _ HQ4.out
      have g3 : w3.frozen? ⟨w.heap.size + 1, 3, none⟩ = false := frozen_of_row _ _ 3 _ _ HQ4.out
      have y4 : w3.cell? ⟨w.heap.size, 4, none⟩ = some (.int .i64 kind) := cell_of_row _ _ 4 _ _ _ HQ3.out
      have d4 : w3.cell? ⟨w.heap.size + 1, 4, none⟩ = some (.int .i64 0) := cell_of_row _ _ 4 _ _ _ HQ4.out
      have g4 : w3.frozen? ⟨w.heap.size + 1, 4, none⟩ = false := frozen_of_row _ _ 4 _ _ HQ4.out
      have y5 : w3.cell? ⟨w.heap.size, 5, none⟩ = some (.int .i64 time) := cell_of_row _ _ 5 _ _ _ HQ3.out
      have d5 : w3.cell? ⟨w.heap.size + 1, 5, none⟩ = some (.int .i64 0) := cell_of_row _ _ 5 _ _ _ HQ4.out
      have g5 : w3.frozen? ⟨w.heap.size + 1, 5, none⟩ = false := frozen_of_row _ _ 5 _ _ HQ4.out
      have y6 : w3.cell? ⟨w.heap.size, 6, none⟩ = some (.slice A L.length c) := cell_of_row _ _ 6 _ _ _ HQ3.out
      have d6 : w3.cell? ⟨w.heap.size + 1, 6, none⟩ = some (.slice none 0 0) := cell_of_row _ _ 6 _ _ _ HQ4.out
      have g6 : w3.frozen? ⟨w.heap.size + 1, 6, none⟩ = false := frozen_of_row _ _ 6 _ _ HQ4.out
      cases MK with
      | true =>
        have hsp1 : SP = 1 := by rw [HSI.out]; rfl
        have hfb2 : FB = ⟨base, pid, epoch, seq, kind, time, L⟩ := by rw [hfb, if_pos (by omega)]
        have HF2 := Lib.hid hfb2
        clear hfb hfb2 hnx hon
        go_wp2_with fail
        refine bodyPost_ret (v := .tuple #[.agg #[.int .i64 base, .int .i64 pid, .int .i64 epoch, .int .i64 seq, .int .i64 kind, .int .i64 time, .slice A L.length c], .bool true]) (by simp [results, Try.results50, go_sem, d0, d1, d2, d3, d4, d5, d6]) rfl ?_
        refine ⟨A, c, by rw [HF2.out], ?_, ?_⟩
        · rw [HF2.out]
          refine HLL.out _ ?_
          repeat refine Below.setCell ?_ (by simp) _
          exact HB3.out
        · repeat refine Below.setCell ?_ (by simp) _
          exact HB3.out
      | false =>
        have hsp1 : SP = (L.length : Int) := by rw [HSI.out]; rfl
        have hlp := HFL.out HF.out rfl
        obtain ⟨N, hN⟩ : ∃ N, (o - base).toNat = N := ⟨_, rfl⟩
        have hfb2 : FB = partB ⟨base, pid, epoch, seq, kind, time, L⟩ N L.length := by
          rw [hfb]
          split
          · have : N = 0 := by omega
            rw [this, HPZ.out]
          · rw [hN]
        have hNl : N ≤ L.length := by omega
        have HPP := Lib.hid (HPI.out w3 N HB3.out HF.out hNl)
        obtain ⟨hp1, hp2⟩ := HPB.out N
        rw [← hfb2] at HPP hp1 hp2
        obtain ⟨m, hm⟩ : ∃ m, L.length - N = m := ⟨_, rfl⟩
        rw [hm] at HPP hp1
        have HFL2 := Lib.hid hp1
        have HFK := Lib.hid hp2
        have hlt1 : ∀ n : Nat, n < N → decide (base + (n : Int) < o) = true := fun n hn => decide_eq_true (by omega)
        have hlt2 : decide (base + (N : Int) < o) = false := decide_eq_false (by omega)
        have hN64 : N ≤ 64 := by omega
        have HLT1 := Lib.hid hlt1
        clear hfb hfb2 hnx hon hsp1 hN hm hp1 hp2 hlt1
        go_wp2_with fail
        go_loopw [6] (fun nv wx => ∃ n : Nat, n ≤ N ∧ nv = .int .i64 n ∧ wx = w3) (fun nv _ => N - (intOf nv).toNat)
        case atStart => exact ⟨0, by omega, rfl, rfl⟩
        case round =>
          obtain ⟨n, hn, rfl, rfl⟩ := hrel
          by_cases hlt : n < N
          · have d1 := HLT1.out n hlt
            have hn64 : n ≤ 64 := by omega
            clear hlt2
            go_wp2_with fail
            go_roundw
            case rel => exact ⟨n + 1, by omega, by go_num, by first | rfl | trivial⟩
            case measure => simp [intOf]; omega
          · obtain rfl : n = N := by omega
            clear hlt
            go_wp2_with fail
            refine HPP.out.mono ?_
            rintro e w4 ⟨A4, c4, rfl, ho4, hA4, hb4⟩
            have hB4 := HB3.out.trans (hb4.mono HB3.out.size)
            have HQ5 := Lib.hid ((hb4.block (w.heap.size + 1) (by omega)).trans HQ4.out)
            have HQ6 := Lib.hid ((hb4.block w.heap.size (by omega)).trans HQ3.out)
            have HB4 := Lib.hid hB4
            have HO4 := Lib.hid ho4
            have HB4z := Lib.hid hb4.size
            have hn4 : (Value.slice A4 m c4).ownBlock ≠ some (w.heap.size + 1) := fun e => by have := (World.ownsRow.lt ho4 _ e).1; omega
            have HN4 := Lib.hid hn4
            clear y0 d0 g0 y1 d1 g1 y2 d2 g2 y3 d3 g3 y4 d4 g4 y5 d5 g5 y6 d6 g6 hb4 hB4 ho4 hA4 hn4
            have y0 : w4.cell? ⟨w.heap.size, 0, none⟩ = some (.int .i64 base) := cell_of_row _ _ 0 _ _ _ HQ6.out
            have d0 : w4.cell? ⟨w.heap.size + 1, 0, none⟩ = some (.int .i64 0) := cell_of_row _ _ 0 _ _ _ HQ5.out
            have g0 : w4.frozen? ⟨w.heap.size + 1, 0, none⟩ = false := frozen_of_row _ _ 0 _ _ HQ5.out
            have y1 : w4.cell? ⟨w.heap.size, 1, none⟩ = some (.int .i64 pid) := cell_of_row _ _ 1 _ _ _ HQ6.out
            have d1 : w4.cell? ⟨w.heap.size + 1, 1, none⟩ = some (.int .i64 0) := cell_of_row _ _ 1 _ _ _ HQ5.out
            have g1 : w4.frozen? ⟨w.heap.size + 1, 1, none⟩ = false := frozen_of_row _ _ 1 _ _ HQ5.out
            have y2 : w4.cell? ⟨w.heap.size, 2, none⟩ = some (.int .i64 epoch) := cell_of_row _ _ 2 _ _ _ HQ6.out
            have d2 : w4.cell? ⟨w.heap.size + 1, 2, none⟩ = some (.int .i64 0) := cell_of_row _ _ 2 _ _ _ HQ5.out
            have g2 : w4.frozen? ⟨w.heap.size + 1, 2, none⟩ = false := frozen_of_row _ _ 2 _ _ HQ5.out
            have y3 : w4.cell? ⟨w.heap.size, 3, none⟩ = some (.int .i64 seq) := cell_of_row _ _ 3 _ _ _ HQ6.out
            have d3 : w4.cell? ⟨w.heap.size + 1, 3, none⟩ = some (.int .i64 0) := cell_of_row _ _ 3 _ _ _ HQ5.out
            have g3 : w4.frozen? ⟨w.heap.size + 1, 3, none⟩ = false := frozen_of_row _ _ 3 _ _ HQ5.out
            have y4 : w4.cell? ⟨w.heap.size, 4, none⟩ = some (.int .i64 kind) := cell_of_row _ _ 4 _ _ _ HQ6.out
            have d4 : w4.cell? ⟨w.heap.size + 1, 4, none⟩ = some (.int .i64 0) := cell_of_row _ _ 4 _ _ _ HQ5.out
            have g4 : w4.frozen? ⟨w.heap.size + 1, 4, none⟩ = false := frozen_of_row _ _ 4 _ _ HQ5.out
            have y5 : w4.cell? ⟨w.heap.size, 5, none⟩ = some (.int .i64 time) := cell_of_row _ _ 5 _ _ _ HQ6.out
            have d5 : w4.cell? ⟨w.heap.size + 1, 5, none⟩ = some (.int .i64 0) := cell_of_row _ _ 5 _ _ _ HQ5.out
            have g5 : w4.frozen? ⟨w.heap.size + 1, 5, none⟩ = false := frozen_of_row _ _ 5 _ _ HQ5.out
            have y6 : w4.cell? ⟨w.heap.size, 6, none⟩ = some (.slice A L.length c) := cell_of_row _ _ 6 _ _ _ HQ6.out
            have d6 : w4.cell? ⟨w.heap.size + 1, 6, none⟩ = some (.slice none 0 0) := cell_of_row _ _ 6 _ _ _ HQ5.out
            have g6 : w4.frozen? ⟨w.heap.size + 1, 6, none⟩ = false := frozen_of_row _ _ 6 _ _ HQ5.out
            obtain ⟨xb, xp, xe, xs, xk, xt, xL⟩ := FB
            simp only [Bat.cells] at HFL2 HFK HO4 ⊢
            rw [HFL2.out]
            go_wp2_with fail
            refine bodyPost_ret (v := .tuple #[.agg #[.int .i64 xb, .int .i64 xp, .int .i64 xe, .int .i64 xs, .int .i64 xk, .int .i64 xt, .slice A4 m c4], .bool true]) (by simp [results, Try.results50, go_sem, d0, d1, d2, d3, d4, d5, d6]) rfl ?_
            refine ⟨A4, ⟨c4, by rw [HFL2.out]⟩, ?_, ?_⟩
            · rw [HFL2.out]
              refine Rcs.of_row (base := wr.heap.size) (c := c4) ?_ HFL2.out HFK.out
              repeat refine row_set ?_ HN4.out
              exact HO4.out
            · repeat refine Below.setCell ?_ (by simp) _
              exact HB4.out
end Go.Proofs.Ytabbbamokhaaoaa
