/-
  The walk through RecSplits.
-/
import Derived.Test.YtkdpfajoeajenaaSpE
import Derived.Test.YtkdpfajoeajenaaGg
import Derived.Test.YtkdpfajoeajenaaRecK
import Derived.Deep.RegionHeld3
namespace Go.Proofs.Ytkdpfajoeajenaa
open Go.RowKit Go.Lib Go.Sort
set_option linter.unusedVariables false
set_option linter.unusedSimpArgs false

set_option maxRecDepth 100000 in
set_option maxHeartbeats 8000000 in
theorem recSplits_any (b : Bat) (A : Option Addr) (c : Nat) (nn : Int) (w : World) (hL : Rcs w w.heap.size A b.L.length b.L) (hl : b.L.length ≤ maxLen) (hok : b.ok) (hnn : -9223372036854775808 ≤ nn ∧ nn ≤ 9223372036854775807) :
    Calls Try.prog 3 #[.agg (b.cells A c), .int .i64 nn] w fun e w' => e = .returned (.bool true) ∧ Below w.heap.size w w' := by
  have HCU : Hid (∀ W, Below w.heap.size w W → Calls Try.prog 6 #[.agg (b.cells A c)] W fun e w' => ∃ A' c', e = .returned (.agg ((cutB b).cells A' c')) ∧ (cutB b).L.length ≤ c' ∧ c' ≤ maxLen ∧ Rcs w' w'.heap.size A' (cutB b).L.length (cutB b).L ∧ (∀ p, A' = some p → W.heap.size ≤ p.block) ∧ Below W.heap.size W w') := fun W h => cutB_any b A c w.heap.size W (hL.below h) h.size hl
  have HCL : Hid ((cutB b).L.length ≤ 80) := by show _ ≤ _; simp only [cutB, List.length_map, List.length_take]; omega
  have HOK := Lib.hid (cutB_ok b hok)
  generalize cutB b = b' at *
  obtain ⟨b0, p0, e0, s0, k0, t0, L0⟩ := b
  unfold Bat.cells at HCU ⊢
  simp only at HCU ⊢
  clear hL hok
  have hB0 := (Below.refl w.heap.size w).alloc (Nat.le_refl _) (.cells #[.int .i64 b0, .int .i64 p0, .int .i64 e0, .int .i64 s0, .int .i64 k0, .int .i64 t0, .slice A L0.length c] 24)
  have hk0 := heap_alloc_new w (.cells #[.int .i64 b0, .int .i64 p0, .int .i64 e0, .int .i64 s0, .int .i64 k0, .int .i64 t0, .slice A L0.length c] 24)
  have hzz : w.heap.size < (w.alloc (.cells #[.int .i64 b0, .int .i64 p0, .int .i64 e0, .int .i64 s0, .int .i64 k0, .int .i64 t0, .slice A L0.length c] 24)).heap.size := by simp
  obtain ⟨w1, hw1⟩ : ∃ w1, w.alloc (.cells #[.int .i64 b0, .int .i64 p0, .int .i64 e0, .int .i64 s0, .int .i64 k0, .int .i64 t0, .slice A L0.length c] 24) = w1 := ⟨_, rfl⟩
  rw [hw1] at hB0 hk0 hzz
  have HW1 := Lib.hid hw1
  have HB0 := Lib.hid hB0
  have HK0 := Lib.hid hk0
  clear hw1 hB0 hk0
  go_enter Try.func3, Try.ntmps3
  go_wp2_with fail
  rw [HW1.out]
  refine (HCU.out w1 HB0.out).mono ?_
  rintro e w2 ⟨A', c', rfl, hc1, hc2, hR2, hA2, hb2⟩
  have hB2 := HB0.out.trans (hb2.mono HB0.out.size)
  have hk2 := (hb2.block w.heap.size hzz).trans HK0.out
  have hlm : b'.L.length ≤ 80 := HCL.out
  obtain ⟨base, pid, epoch, seq, kind, time, L⟩ := b'
  simp only at hc1 hR2 hlm HOK ⊢
  have y0 : w2.cell? ⟨w.heap.size, 0, none⟩ = some (.int .i64 b0) := cell_of_row _ _ 0 _ _ _ hk2
  have f0 : w2.frozen? ⟨w.heap.size, 0, none⟩ = false := frozen_of_row _ _ 0 _ _ hk2
  have y1 : w2.cell? ⟨w.heap.size, 1, none⟩ = some (.int .i64 p0) := cell_of_row _ _ 1 _ _ _ hk2
  have f1 : w2.frozen? ⟨w.heap.size, 1, none⟩ = false := frozen_of_row _ _ 1 _ _ hk2
  have y2 : w2.cell? ⟨w.heap.size, 2, none⟩ = some (.int .i64 e0) := cell_of_row _ _ 2 _ _ _ hk2
  have f2 : w2.frozen? ⟨w.heap.size, 2, none⟩ = false := frozen_of_row _ _ 2 _ _ hk2
  have y3 : w2.cell? ⟨w.heap.size, 3, none⟩ = some (.int .i64 s0) := cell_of_row _ _ 3 _ _ _ hk2
  have f3 : w2.frozen? ⟨w.heap.size, 3, none⟩ = false := frozen_of_row _ _ 3 _ _ hk2
  have y4 : w2.cell? ⟨w.heap.size, 4, none⟩ = some (.int .i64 k0) := cell_of_row _ _ 4 _ _ _ hk2
  have f4 : w2.frozen? ⟨w.heap.size, 4, none⟩ = false := frozen_of_row _ _ 4 _ _ hk2
  have y5 : w2.cell? ⟨w.heap.size, 5, none⟩ = some (.int .i64 t0) := cell_of_row _ _ 5 _ _ _ hk2
  have f5 : w2.frozen? ⟨w.heap.size, 5, none⟩ = false := frozen_of_row _ _ 5 _ _ hk2
  have y6 : w2.cell? ⟨w.heap.size, 6, none⟩ = some (.slice A L0.length c) := cell_of_row _ _ 6 _ _ _ hk2
  have f6 : w2.frozen? ⟨w.heap.size, 6, none⟩ = false := frozen_of_row _ _ 6 _ _ hk2
  obtain ⟨W3, hW3⟩ : ∃ W3, (((((((w2.setCell ⟨w.heap.size, 0, none⟩ (.int .i64 base)).setCell ⟨w.heap.size, 1, none⟩ (.int .i64 pid)).setCell ⟨w.heap.size, 2, none⟩ (.int .i64 epoch)).setCell ⟨w.heap.size, 3, none⟩ (.int .i64 seq)).setCell ⟨w.heap.size, 4, none⟩ (.int .i64 kind)).setCell ⟨w.heap.size, 5, none⟩ (.int .i64 time)).setCell ⟨w.heap.size, 6, none⟩ (.slice A' L.length c')) = W3 := ⟨_, rfl⟩
  have hk3 := (set7c (T := 24) (.int .i64 base) (.int .i64 pid) (.int .i64 epoch) (.int .i64 seq) (.int .i64 kind) (.int .i64 time) (.slice A' L.length c') hk2).1
  have hT3 := (set7c (T := 24) (.int .i64 base) (.int .i64 pid) (.int .i64 epoch) (.int .i64 seq) (.int .i64 kind) (.int .i64 time) (.slice A' L.length c') hk2).2
  rw [hW3] at hk3 hT3
  have hR3 : Rcs W3 W3.heap.size A' L.length L := hR2.twoc hT3 (fun p hp => by have := hA2 p hp; omega)
  have hB3 : Below w.heap.size w W3 := hB2.trans (hT3.below (Nat.le_refl _) (Nat.le_refl _) hB2.size)
  have HW3 := Lib.hid hW3
  have hz3 : w.heap.size < W3.heap.size := (Array.getElem?_eq_some_iff.1 hk3).1
  clear hW3 hT3 hR2 hk2 hb2 hB2 hA2
  have HBT : Hid (∀ (W : World), Below W3.heap.size W3 W → Rcs W W.heap.size A' L.length L) := fun W h => (hR3.below h).wider h.size
  have hlx : L.length ≤ maxLen := by unfold maxLen; omega
  have HSPL : Hid (∀ W, Below W3.heap.size W3 W → Calls Try.prog 7 #[.agg #[.int .i64 base, .int .i64 pid, .int .i64 epoch, .int .i64 seq, .int .i64 kind, .int .i64 time, .slice A' L.length c'], .int .i64 nn] W fun e w' => SplitP (⟨base, pid, epoch, seq, kind, time, L⟩ : Bat) nn W e w') := fun W h => split_any (⟨base, pid, epoch, seq, kind, time, L⟩ : Bat) A' c' nn W (HBT.out W h) hlm hc1 hc2 hnn
  have HRSP : Hid (∀ W, Below W3.heap.size W3 W → Calls Try.prog 9 #[.agg #[.int .i64 base, .int .i64 pid, .int .i64 epoch, .int .i64 seq, .int .i64 kind, .int .i64 time, .slice A' L.length c'], .int .i64 nn] W fun e w' => RSplitP (⟨base, pid, epoch, seq, kind, time, L⟩ : Bat) nn W e w') := fun W h => rsplit_any (⟨base, pid, epoch, seq, kind, time, L⟩ : Bat) A' c' nn W (HBT.out W h) hlm hc1 hc2 hnn
  have HVAL : Hid (∀ W, Below W3.heap.size W3 W → Calls Try.prog 10 #[.agg #[.int .i64 base, .int .i64 pid, .int .i64 epoch, .int .i64 seq, .int .i64 kind, .int .i64 time, .slice A' L.length c']] W fun e w' => e = .returned (.int .i64 (validE (⟨base, pid, epoch, seq, kind, time, L⟩ : Bat))) ∧ Below W.heap.size W w') := fun W h => valid_any (⟨base, pid, epoch, seq, kind, time, L⟩ : Bat) A' c' W.heap.size W (HBT.out W h) (Nat.le_refl _) hlx
  have HSM : Hid (∀ W Ad cd, Below W3.heap.size W3 W → Rcs W W.heap.size Ad L.length L → Calls Try.prog 14 #[.agg #[.int .i64 base, .int .i64 pid, .int .i64 epoch, .int .i64 seq, .int .i64 kind, .int .i64 time, .slice Ad L.length cd], .agg #[.int .i64 base, .int .i64 pid, .int .i64 epoch, .int .i64 seq, .int .i64 kind, .int .i64 time, .slice A' L.length c']] W fun e w' => e = .returned (.bool true) ∧ Below W.heap.size W w') := fun W Ad cd h hr => rsame_yes (⟨base, pid, epoch, seq, kind, time, L⟩ : Bat) Ad A' cd c' W.heap.size W hr (HBT.out W h) (Nat.le_refl _) hlx
  have HS2 : Hid (∀ W Ad cd Ae ce, Rcs W W.heap.size Ad L.length L → Rcs W W.heap.size Ae L.length L → Calls Try.prog 14 #[.agg #[.int .i64 base, .int .i64 pid, .int .i64 epoch, .int .i64 seq, .int .i64 kind, .int .i64 time, .slice Ad L.length cd], .agg #[.int .i64 base, .int .i64 pid, .int .i64 epoch, .int .i64 seq, .int .i64 kind, .int .i64 time, .slice Ae L.length ce]] W fun e w' => e = .returned (.bool true) ∧ Below W.heap.size W w') := fun W Ad cd Ae ce hr hs => rsame_yes (⟨base, pid, epoch, seq, kind, time, L⟩ : Bat) Ad Ae cd ce W.heap.size W hr hs (Nat.le_refl _) hlx
  have HSD : Hid (validE (⟨base, pid, epoch, seq, kind, time, L⟩ : Bat) = 0 → 1 ≤ nn → SplitD (⟨base, pid, epoch, seq, kind, time, L⟩ : Bat) (splitB (⟨base, pid, epoch, seq, kind, time, L⟩ : Bat) nn)) := fun h1 h2 => split_data (⟨base, pid, epoch, seq, kind, time, L⟩ : Bat) nn h1 h2
  have HSN : Hid (¬ (validE (⟨base, pid, epoch, seq, kind, time, L⟩ : Bat) = 0 ∧ 1 ≤ nn) → splitB (⟨base, pid, epoch, seq, kind, time, L⟩ : Bat) nn = []) := fun h => split_none (⟨base, pid, epoch, seq, kind, time, L⟩ : Bat) nn h
  have HLEN9 : Hid (L.length ≤ 80) := hlm
  have HFB : Hid (validE (⟨base, pid, epoch, seq, kind, time, L⟩ : Bat) = 0 → 0 ≤ base ∧ base ≤ 1099511627776) := fun h => ⟨((fine_iff _).1 h).b1, ((fine_iff _).1 h).b2⟩
  unfold SplitP at HSPL
  unfold RSplitP at HRSP
  obtain ⟨PP, hPP⟩ : ∃ PP, splitB (⟨base, pid, epoch, seq, kind, time, L⟩ : Bat) nn = PP := ⟨_, rfl⟩
  have HAW : Hid (∀ W, Calls Try.prog 11 #[] W fun e w' => e = .returned (.bool true) ∧ Below W.heap.size W w') := fun W => awake3_any W
  rw [hPP] at HSPL HRSP HSD HSN
  clear hPP
  obtain ⟨V, hV⟩ : ∃ V, validE (⟨base, pid, epoch, seq, kind, time, L⟩ : Bat) = V := ⟨_, rfl⟩
  rw [hV] at HVAL HSD HSN HFB
  clear hV
  have HB3 := Lib.hid hB3
  have HK3 := Lib.hid hk3
  clear hR3 HCU hB3 hk3 HB0 HK0
  have HKX : Hid (∀ wx, Below W3.heap.size W3 wx → wx.heap[w.heap.size]? = some (.cells #[.int .i64 base, .int .i64 pid, .int .i64 epoch, .int .i64 seq, .int .i64 kind, .int .i64 time, .slice A' L.length c'] 24 (0, 0))) := fun wx h => (h.block w.heap.size hz3).trans HK3.out
  go_upto_region 2 with fail
  rw [HW3.out]
  clear y0 f0 y1 f1 y2 f2 y3 f3 y4 f4 y5 f5 y6 f6
  have z0 := cell_of_row _ _ 0 _ _ _ (HKX.out W3 (Below.refl _ _))
  have z1 := cell_of_row _ _ 1 _ _ _ (HKX.out W3 (Below.refl _ _))
  have z2 := cell_of_row _ _ 2 _ _ _ (HKX.out W3 (Below.refl _ _))
  have z3 := cell_of_row _ _ 3 _ _ _ (HKX.out W3 (Below.refl _ _))
  have z4 := cell_of_row _ _ 4 _ _ _ (HKX.out W3 (Below.refl _ _))
  have z5 := cell_of_row _ _ 5 _ _ _ (HKX.out W3 (Below.refl _ _))
  have z6 := cell_of_row _ _ 6 _ _ _ (HKX.out W3 (Below.refl _ _))
  go_upto_region 3 with (go_at_call 7; (with_reducible refine (HSPL.out W3 (Below.refl _ _)).mono ?_); rintro e w4 ⟨v, M, rfl, hM, hpt⟩)
  clear z0 z1 z2 z3 z4 z5 z6
  have HM := Lib.hid hM
  have HB4 := Lib.hid hpt.bel
  have h80 : ∀ j, j < M.length → (M.getD j default).b.L.length ≤ 80 := fun j hj => by
    by_cases hc : V = 0 ∧ 1 ≤ nn
    · have h1 := ((HSD.out hc.1 hc.2).base j (by rw [← hM, List.length_map]; exact hj)).2.2
      rw [← hM, bat_get] at h1
      omega
    · have h1 := HSN.out hc
      rw [← hM] at h1
      have h2 := congrArg List.length h1
      simp at h2
      subst h2
      simp at hj
  have H80 := Lib.hid h80
  obtain ⟨Ap, cp, rfl, hcp1, hcp2, hbas⟩ := hpt.bas h80
  have HPT := Lib.hid hpt
  have HBA : Hid (∀ W, Below w4.heap.size w4 W → Bas W W.heap.size Ap M.length M) := fun W h => (hbas.below h).wider h.size
  have HMl : Hid (M.length ≤ 64) := by
    show _ ≤ _
    by_cases hc : V = 0 ∧ 1 ≤ nn
    · have h1 := (HSD.out hc.1 hc.2).most
      rw [← hM, List.length_map] at h1
      exact h1
    · have h1 := HSN.out hc
      rw [← hM] at h1
      have h2 := congrArg List.length h1
      simp at h2
      subst h2
      simp
  clear hpt hM h80 hbas
  have z0 := cell_of_row _ _ 0 _ _ _ (HKX.out w4 HB4.out)
  have z1 := cell_of_row _ _ 1 _ _ _ (HKX.out w4 HB4.out)
  have z2 := cell_of_row _ _ 2 _ _ _ (HKX.out w4 HB4.out)
  have z3 := cell_of_row _ _ 3 _ _ _ (HKX.out w4 HB4.out)
  have z4 := cell_of_row _ _ 4 _ _ _ (HKX.out w4 HB4.out)
  have z5 := cell_of_row _ _ 5 _ _ _ (HKX.out w4 HB4.out)
  have z6 := cell_of_row _ _ 6 _ _ _ (HKX.out w4 HB4.out)
  go_upto_region 5 with (first
    | (go_at_call 9; (with_reducible refine (HRSP.out w4 HB4.out).mono ?_); rintro e w5 ⟨vr, Mr, rfl, hMr, hmr⟩; obtain ⟨Ar, cr, rfl, _, _, hbr⟩ := hmr.bas; have hlr : Mr.length = M.length := (by have e := congrArg List.length (hMr.trans HM.out.symm); rw [List.length_map, List.length_map] at e; exact e); rw [hlr] at hbr ⊢; have HBR := Lib.hid hbr; have HMR := Lib.hid (HM.out.trans hMr.symm); have HB5 := Lib.hid hmr.bel; clear hmr hbr hlr hMr)
    | (go_at_call 8; (with_reducible refine (sameAll_yes M Mr Ap Ar M.length cp cr w5 (HBA.out w5 HB5.out) HBR.out HMR.out (by have := HMl.out; omega)).mono ?_); rintro e w6 ⟨rfl, hb6⟩; have HB6 := Lib.hid (HB5.out.trans (hb6.mono HB5.out.size)); clear hb6))
  clear z0 z1 z2 z3 z4 z5 z6
  have HB36 := Lib.hid (HB4.out.trans (HB6.out.mono HB4.out.size))
  have z0 := cell_of_row _ _ 0 _ _ _ (HKX.out w6 HB36.out)
  have z1 := cell_of_row _ _ 1 _ _ _ (HKX.out w6 HB36.out)
  have z2 := cell_of_row _ _ 2 _ _ _ (HKX.out w6 HB36.out)
  have z3 := cell_of_row _ _ 3 _ _ _ (HKX.out w6 HB36.out)
  have z4 := cell_of_row _ _ 4 _ _ _ (HKX.out w6 HB36.out)
  have z5 := cell_of_row _ _ 5 _ _ _ (HKX.out w6 HB36.out)
  have z6 := cell_of_row _ _ 6 _ _ _ (HKX.out w6 HB36.out)
  by_cases hc : V = 0 ∧ 1 ≤ nn
  rotate_left
  · have hM0 : M.length = 0 := by have h1 := HM.out; rw [HSN.out hc] at h1; have h2 := congrArg List.length h1; simpa using h2
    have hm0 : ((M.length : Int) == 0) = true := by rw [hM0]; rfl
    have HM0 := Lib.hid hM0
    clear hM0
    by_cases hn1 : nn < 1
    · have hnd : decide (nn < 1) = true := decide_eq_true hn1
      clear hc
      go_wp2_with (go_at_call 11; (with_reducible refine (HAW.out _).mono ?_); rintro e w9 ⟨rfl, hb9⟩; have B9 := Lib.hid (HB36.out.trans (hb9.mono HB36.out.size)); clear hb9)
      go_ret
      exact ⟨rfl, HB3.out.trans (B9.out.mono HB3.out.size)⟩
    · have hnd : decide (nn < 1) = false := decide_eq_false hn1
      have hvd : (V != 0) = true := by simp; omega
      clear hc
      go_wp2_with (first
        | (go_at_call 10; (with_reducible refine (HVAL.out w6 HB36.out).mono ?_); rintro e w8 ⟨rfl, hb8⟩; have B8 := Lib.hid (HB36.out.trans (hb8.mono HB36.out.size)); clear hb8)
        | (go_at_call 11; (with_reducible refine (HAW.out _).mono ?_); rintro e w9 ⟨rfl, hb9⟩; have B9 := Lib.hid (B8.out.trans (hb9.mono B8.out.size)); clear hb9))
      go_ret
      exact ⟨rfl, HB3.out.trans (B9.out.mono HB3.out.size)⟩
  obtain ⟨hV0, hn1⟩ := hc
  have hsd := HSD.out hV0 hn1
  obtain ⟨hb1, hb2⟩ := HFB.out hV0
  subst hV0
  rw [← HM.out] at hsd
  have HSDD := Lib.hid hsd
  have HMP : Hid (0 < M.length) := by have := hsd.some; rw [List.length_map] at this; exact this
  have hm0 : ((M.length : Int) == 0) = false := by rw [beq_eq_false_iff_ne]; have := HMP.out; omega
  have HMG : Hid (Calls Try.prog 12 #[.slice Ap M.length cp] w6 fun e w' => ∃ A' c', e = .returned (.tuple #[.agg #[.int .i64 base, .int .i64 pid, .int .i64 epoch, .int .i64 seq, .int .i64 kind, .int .i64 time, .slice A' L.length c'], .int .i64 0]) ∧ Rcs w' w'.heap.size A' L.length L ∧ (∀ p, A' = some p → w6.heap.size ≤ p.block) ∧ Below w6.heap.size w6 w') := by
    have e := merge_fresh M Ap cp w6.heap.size M.length w6 (HBA.out w6 HB6.out) (Nat.le_refl _) (by have := HMl.out; omega) hcp1 hcp2
    unfold MergeF at e
    rw [hsd.merge.1, hsd.merge.2] at e
    exact e
  clear hsd HRSP
  go_upto_region 7 with fail
  clear z0 z1 z2 z3 z4 z5 z6
  go_upto_region 8 with (go_at_call 12; (with_reducible refine HMG.out.mono ?_); rintro e w7 ⟨A9, c9, rfl, hr7, hf7, hb7⟩)
  have hal := (Below.refl w7.heap.size w7).alloc (Nat.le_refl _) (.cells #[.int .i64 base, .int .i64 pid, .int .i64 epoch, .int .i64 seq, .int .i64 kind, .int .i64 time, .slice A9 L.length c9] 24)
  have hN := heap_alloc_new w7 (.cells #[.int .i64 base, .int .i64 pid, .int .i64 epoch, .int .i64 seq, .int .i64 kind, .int .i64 time, .slice A9 L.length c9] 24)
  generalize hw8 : w7.alloc (.cells #[.int .i64 base, .int .i64 pid, .int .i64 epoch, .int .i64 seq, .int .i64 kind, .int .i64 time, .slice A9 L.length c9] 24) = w8 at *
  obtain ⟨g9, hg9⟩ : ∃ g, w7.heap.size = g := ⟨_, rfl⟩
  have HG9L : Hid (w6.heap.size ≤ g9) := by show _ ≤ _; rw [← hg9]; exact hb7.size
  have hb8 := hb7.trans (hal.mono hb7.size)
  have HR8 := Lib.hid ((hr7.below hal).wider hal.size)
  have HF8 := Lib.hid hf7
  rw [hg9] at hN ⊢
  have HN8 := Lib.hid hN
  have HB68 := Lib.hid hb8
  have HB8 := Lib.hid (HB6.out.trans (hb8.mono HB6.out.size))
  have HB38 := Lib.hid (HB36.out.trans (hb8.mono HB36.out.size))
  clear hw8 hal hN hb8 hb7 hr7 hf7 hg9 HMG
  have HFC : Hid ((flatC ⟨base, pid, epoch, seq, kind, time, L⟩).length ≤ 80) := by
    show _ ≤ _
    unfold flatC
    split
    · exact Nat.zero_le _
    · rw [offsL_len]; exact HLEN9.out
  have HF1 : Hid (∀ W, Below w8.heap.size w8 W → Calls Try.prog 13 #[.slice Ap M.length cp] W fun e w' => ∃ v, e = .returned v ∧ w'.ownsRow W.heap.size 40 5 v (flatC ⟨base, pid, epoch, seq, kind, time, L⟩).length (ccells (flatC ⟨base, pid, epoch, seq, kind, time, L⟩)) ∧ Below W.heap.size W w') := fun W h => by
    have e := flat_all M Ap M.length cp W (HBA.out W (HB8.out.trans (h.mono HB8.out.size))) (by have := HMl.out; omega) (fun k hk => by have h1 := HSDD.out.base k (by rw [List.length_map]; exact hk); rw [bat_get] at h1; exact ⟨h1.1, h1.2.1⟩)
    rw [HSDD.out.flat] at e
    exact e
  have HF2 : Hid (∀ W g, W.heap[g]? = some (.cells #[.int .i64 base, .int .i64 pid, .int .i64 epoch, .int .i64 seq, .int .i64 kind, .int .i64 time, .slice A' L.length c'] 24 (0, 0)) → Below w8.heap.size w8 W → Calls Try.prog 13 #[.slice (some ⟨g, 0, none⟩) 1 1] W fun e w' => ∃ v, e = .returned v ∧ w'.ownsRow W.heap.size 40 5 v (flatC ⟨base, pid, epoch, seq, kind, time, L⟩).length (ccells (flatC ⟨base, pid, epoch, seq, kind, time, L⟩)) ∧ Below W.heap.size W w') := fun W g hg h => by
    have hbs : Bas W W.heap.size (some ⟨g, 0, none⟩) 1 [⟨⟨base, pid, epoch, seq, kind, time, L⟩, A', c'⟩] := by
      refine ⟨rfl, ⟨fun j u hj => ⟨_, rfl, (Array.getElem?_eq_some_iff.1 hg).1, ?_⟩⟩, fun k hk => ?_⟩
      · have e : ∀ i, (⟨g, 0, none⟩ : Addr).add i = ⟨g, i, none⟩ := fun i => by
          rcases Nat.eq_zero_or_pos i with h | h
          · subst h; rfl
          · rw [add_pos' _ _ h]; simp
        rw [e, cell_of_row W g j _ _ _ hg]
        simpa [bcells, BA.cells, Bat.cells] using hj
      · obtain rfl : k = 0 := by omega
        exact ⟨HBT.out W (HB38.out.trans (h.mono HB38.out.size)), HLEN9.out, hc1, hc2⟩
    have e := flat_all [⟨⟨base, pid, epoch, seq, kind, time, L⟩, A', c'⟩] (some ⟨g, 0, none⟩) 1 1 W hbs (by omega) (fun k hk => by
      cases k with
      | zero => exact ⟨hb1, by show base ≤ _; omega⟩
      | succ k => omega)
    have hfl : flatA ([(⟨⟨base, pid, epoch, seq, kind, time, L⟩, A', c'⟩ : BA)].map BA.b) = flatC ⟨base, pid, epoch, seq, kind, time, L⟩ := by simp [flatA]
    rw [hfl] at e
    exact e
  generalize flatC ⟨base, pid, epoch, seq, kind, time, L⟩ = FC at *
  have HCC : Hid (∀ w', Below w8.heap.size w8 w' → (w'.cell? ⟨w.heap.size, 0, none⟩ = some (.int .i64 base) ∧ w'.cell? ⟨w.heap.size, 1, none⟩ = some (.int .i64 pid) ∧ w'.cell? ⟨w.heap.size, 2, none⟩ = some (.int .i64 epoch) ∧ w'.cell? ⟨w.heap.size, 3, none⟩ = some (.int .i64 seq) ∧ w'.cell? ⟨w.heap.size, 4, none⟩ = some (.int .i64 kind) ∧ w'.cell? ⟨w.heap.size, 5, none⟩ = some (.int .i64 time) ∧ w'.cell? ⟨w.heap.size, 6, none⟩ = some (.slice A' L.length c'))) := fun w' h => by
    have p := HKX.out w' (HB38.out.trans (h.mono HB38.out.size))
    exact ⟨cell_of_row _ _ 0 _ _ _ p, cell_of_row _ _ 1 _ _ _ p, cell_of_row _ _ 2 _ _ _ p, cell_of_row _ _ 3 _ _ _ p, cell_of_row _ _ 4 _ _ _ p, cell_of_row _ _ 5 _ _ _ p, cell_of_row _ _ 6 _ _ _ p⟩
  have k9 := HCC.out w8 (Below.refl _ _)
  have hgz : w.heap.size < w8.heap.size := (Array.getElem?_eq_some_iff.1 (HKX.out w8 HB38.out)).1
  go_cut [8, 9] (fun s8 s9 wx => ∃ v1 v2, s8 = v1 ∧ s9 = v2 ∧ Hid (wx.ownsRow w8.heap.size 40 5 v1 FC.length (ccells FC)) ∧ Hid (wx.ownsRow w8.heap.size 40 5 v2 FC.length (ccells FC)) ∧ Hid (Below w8.heap.size w8 wx))
  case first =>
    obtain ⟨m0, m1, m2, m3, m4, m5, m6⟩ := k9
    go_region_with (first
      | (go_at_call 13; (with_reducible refine Calls.mono (HF1.out _ ?_) ?_); (first | exact Below.refl w8.heap.size w8 | exact (Below.refl w8.heap.size w8).drew | exact (Below.refl w8.heap.size w8).alloc (Nat.le_refl _) _ | exact ((Below.refl w8.heap.size w8).alloc (Nat.le_refl _) _).drew); rintro e w10 ⟨v10, rfl, ho10, hb10⟩; have hQ10 : Below w8.heap.size w8 w10 := (by first | exact hb10 | exact ((Below.refl w8.heap.size w8).drew).trans (hb10.mono (by simp)) | exact ((Below.refl w8.heap.size w8).alloc (Nat.le_refl _) _).trans (hb10.mono (by simp <;> omega)) | exact (((Below.refl w8.heap.size w8).alloc (Nat.le_refl _) _).drew).trans (hb10.mono (by simp <;> omega))); obtain ⟨n0, n1, n2, n3, n4, n5, n6⟩ := HCC.out w10 hQ10; have HO10 := Lib.hid (row_base5 ho10 (base' := w8.heap.size) (by simp <;> omega)); have HQ10 := Lib.hid hQ10; have HBB10 := Lib.hid hb10; clear ho10 hb10 hQ10)
      | (go_at_call 13; (with_reducible refine Calls.mono (HF2.out _ _ ?_ ?_) ?_); (first | (exact heap_alloc_new w10 _) | (exact (HBB10.out.block w8.heap.size (by simp <;> omega)).trans (heap_alloc_new w8 _))); (first | exact HQ10.out | exact HQ10.out.trans ((Below.refl w10.heap.size w10).drew.mono HQ10.out.size) | exact HQ10.out.trans (((Below.refl w10.heap.size w10).alloc (Nat.le_refl _) _).mono HQ10.out.size) | exact HQ10.out.trans ((((Below.refl w10.heap.size w10).alloc (Nat.le_refl _) _).drew).mono HQ10.out.size)); rintro e w11 ⟨v11, rfl, ho11, hb11⟩; have HQ11 : Hid (Below w10.heap.size w10 w11) := (by show Below _ _ _; first | exact hb11 | exact ((Below.refl w10.heap.size w10).drew).trans (hb11.mono (by simp)) | exact ((Below.refl w10.heap.size w10).alloc (Nat.le_refl _) _).trans (hb11.mono (by simp <;> omega)) | exact (((Below.refl w10.heap.size w10).alloc (Nat.le_refl _) _).drew).trans (hb11.mono (by simp <;> omega))); have HO11 := Lib.hid (row_base5 ho11 (base' := w8.heap.size) (by have := HQ10.out.size; simp <;> omega)); clear ho11 hb11))
    all_goals
      go_wp2_with fail
      go_meet
      exact ⟨v10, v11, rfl, rfl, rowb5 HO10.out HQ11.out, HO11.out, HQ10.out.trans (HQ11.out.mono HQ10.out.size)⟩
  case rest =>
  obtain ⟨v1, v2, rfl, rfl, HO1, HO2, HBc⟩ := hcut
  obtain ⟨B1, q1, rfl, _, _⟩ := row_any HO1.out
  obtain ⟨B2, q2, rfl, _, _⟩ := row_any HO2.out
  have HB3c := Lib.hid (HB38.out.trans (HBc.out.mono HB38.out.size))
  have hNc := (HBc.out.block g9 (Array.getElem?_eq_some_iff.1 HN8.out).1).trans HN8.out
  have HNc := Lib.hid hNc
  have HRc := Lib.hid ((HR8.out.below HBc.out).wider HBc.out.size)
  have HB6c := Lib.hid (HB68.out.trans (HBc.out.mono HB68.out.size))
  have HB4c := Lib.hid (HB8.out.trans (HBc.out.mono HB8.out.size))
  have hfn : ((FC.length : Int) != (FC.length : Int)) = false := by simp
  have s0 := cell_of_row _ _ 0 _ _ _ hNc
  have s1 := cell_of_row _ _ 1 _ _ _ hNc
  have s2 := cell_of_row _ _ 2 _ _ _ hNc
  have s3 := cell_of_row _ _ 3 _ _ _ hNc
  have s4 := cell_of_row _ _ 4 _ _ _ hNc
  have s5 := cell_of_row _ _ 5 _ _ _ hNc
  have s6 := cell_of_row _ _ 6 _ _ _ hNc
  have z0 := cell_of_row _ _ 0 _ _ _ (HKX.out wc HB3c.out)
  have z1 := cell_of_row _ _ 1 _ _ _ (HKX.out wc HB3c.out)
  have z2 := cell_of_row _ _ 2 _ _ _ (HKX.out wc HB3c.out)
  have z3 := cell_of_row _ _ 3 _ _ _ (HKX.out wc HB3c.out)
  have z4 := cell_of_row _ _ 4 _ _ _ (HKX.out wc HB3c.out)
  have z5 := cell_of_row _ _ 5 _ _ _ (HKX.out wc HB3c.out)
  have z6 := cell_of_row _ _ 6 _ _ _ (HKX.out wc HB3c.out)
  clear hNc k9 HCC HF1 HF2
  go_upto_region 11 with (go_at_call 14; (with_reducible refine (HSM.out wc A9 c9 HB3c.out HRc.out).mono ?_); rintro e w12 ⟨rfl, hb12⟩; have HB12 := Lib.hid hb12; clear hb12)
  clear s0 s1 s2 s3 s4 s5 s6 z0 z1 z2 z3 z4 z5 z6
  have HO1b := Lib.hid (rowb5 HO1.out HB12.out)
  have HO2b := Lib.hid (rowb5 HO2.out HB12.out)
  have HB3d := Lib.hid (HB3c.out.trans (HB12.out.mono HB3c.out.size))
  have HB6d := Lib.hid (HB6c.out.trans (HB12.out.mono HB6c.out.size))
  have HB4d := Lib.hid (HB4c.out.trans (HB12.out.mono HB4c.out.size))
  have HRd := Lib.hid ((HRc.out.below HB12.out).wider HB12.out.size)
  have HNd := Lib.hid ((HB12.out.block g9 (Array.getElem?_eq_some_iff.1 HNc.out).1).trans HNc.out)
  have hfl80 := HFC.out
  clear HO1 HO2 HBc HB3c HB6c HB4c HRc HNc HB12 HB38 HB68 HB8 HR8 HN8
  go_wp2_with fail
  go_loopw [66] (fun iv wr => ∃ k : Nat, k ≤ FC.length ∧ iv = .int .i64 k ∧ Hid (Below w12.heap.size w12 wr)) (fun iv _ => FC.length - (RowKit.intOf iv).toNat)
  case atStart => exact ⟨0, by omega, rfl, Below.refl _ _⟩
  case round =>
    obtain ⟨k, hk, rfl, HB⟩ := hrel
    have HB3r := Lib.hid (HB3d.out.trans (HB.out.mono HB3d.out.size))
    by_cases hlt : k < FC.length
    · obtain ⟨p, rfl, r0, r1, r2, r3, r4⟩ := lies5 (rowb5 HO1b.out HB.out) rfl hlt
      obtain ⟨p', rfl, t0', t1, t2, t3, t4⟩ := lies5 (rowb5 HO2b.out HB.out) rfl hlt
      generalize FC.getD k default = re at *
      obtain ⟨off, key, value, gone, tm⟩ := re
      simp only at r0 r1 r2 r3 r4 t0' t1 t2 t3 t4
      have hne := fun w => neAtQ off key value gone tm w
      have u0 := cell_regrown r0
      have u1 := cell_regrown r1
      have u2 := cell_regrown r2
      have u3 := cell_regrown r3
      have u4 := cell_regrown r4
      have y0 := cell_regrown t0'
      have y1 := cell_regrown t1
      have y2 := cell_regrown t2
      have y3 := cell_regrown t3
      have y4 := cell_regrown t4
      have x0 := cell_regrown (cell_of_row _ _ 0 _ _ _ (HKX.out wr HB3r.out))
      have x1 := cell_regrown (cell_of_row _ _ 1 _ _ _ (HKX.out wr HB3r.out))
      have x2 := cell_regrown (cell_of_row _ _ 2 _ _ _ (HKX.out wr HB3r.out))
      have x3 := cell_regrown (cell_of_row _ _ 3 _ _ _ (HKX.out wr HB3r.out))
      have x4 := cell_regrown (cell_of_row _ _ 4 _ _ _ (HKX.out wr HB3r.out))
      have x5 := cell_regrown (cell_of_row _ _ 5 _ _ _ (HKX.out wr HB3r.out))
      have x6 := cell_regrown (cell_of_row _ _ 6 _ _ _ (HKX.out wr HB3r.out))
      have HVQ : Hid (∀ d os, Calls Try.prog 10 #[.agg #[.int .i64 base, .int .i64 pid, .int .i64 epoch, .int .i64 seq, .int .i64 kind, .int .i64 time, .slice A' L.length c']] (Sort.grow (redrawn wr d) os) fun e w'' => e = .returned (.int .i64 0) ∧ ∃ p : Regrown, w'' = Sort.grow (redrawn wr p.d) p.os) := fun d os =>
        Calls.regrown_of (HVAL.out _ (HB3r.out.trans ((below_regrown wr d os).mono HB3r.out.size)))
      have hkz : (k : Int) < (FC.length : Int) := by omega
      clear r0 r1 r2 r3 r4 t0' t1 t2 t3 t4
      go_wp2_with fail
      refine wp_region_quiet_below (by kernel_rfl) (by kernel_rfl) ?_
      repeat (go_big_quiet_step (exact HVQ.out _ _))
      refine wpQuiet_nil ?_
      intro _ hw'
      obtain ⟨⟨dq, osq⟩, hw''⟩ := hw'
      subst hw''
      have HB9 := Lib.hid (HB.out.trans ((below_regrown wr dq osq).mono HB.out.size))
      go_wp2_with fail
      go_roundw
      case rel => exact ⟨k + 1, by omega, by go_num, HB9⟩
      case measure => simp [RowKit.intOf]; omega
    · have d8 : decide ((k : Int) < (FC.length : Int)) = false := by rw [decide_eq_false_iff_not]; omega
      have HB4r := Lib.hid (HB4d.out.trans (HB.out.mono HB4d.out.size))
      have HB6r := Lib.hid (HB6d.out.trans (HB.out.mono HB6d.out.size))
      have HRr := Lib.hid ((HRd.out.below HB.out).wider HB.out.size)
      have HNr := Lib.hid ((HB.out.block g9 (Array.getElem?_eq_some_iff.1 HNd.out).1).trans HNd.out)
      clear HB4d HB6d HRd HNd HB HB3d HO1b HO2b
      go_upto_region 17 with fail
      go_wp2_with fail
      generalize wr = wz at *
      have HPz : Hid (Pt W3 wz (.slice Ap M.length cp) M (spF M 0 0)) := (HPT.out.below HB4r.out).congr fun j hj => spF_zero M j
      have HLW : Hid (∀ j, j < M.length → ∀ q, (M.getD j default).A = some q → q.block < w6.heap.size) := fun j hj q hq => Nat.lt_of_lt_of_le (HPT.out.low.2 j hj q hq) HB6.out.size
      clear HB4r HPT
      go_loopw [86] (fun iv wr => ∃ i : Nat, i ≤ M.length ∧ iv = .int .i64 i ∧ Hid (Pt W3 wr (.slice Ap M.length cp) M (spF M i 0)) ∧ Hid (∀ k, w6.heap.size ≤ k → k < wz.heap.size → wr.heap[k]? = wz.heap[k]?)) (fun iv _ => M.length - (RowKit.intOf iv).toNat)
      case atStart => exact ⟨0, by omega, rfl, HPz.out, fun k _ _ => rfl⟩
      case round =>
        obtain ⟨i, hi, rfl, HP, HFR⟩ := hrel
        have hml64 : M.length ≤ 64 := HMl.out
        by_cases hlt2 : i < M.length
        · have hiz : (i : Int) < (M.length : Int) := by omega
          go_upto_region 20 with fail
          go_cut [112] (fun s112 wx => s112 = .bool false ∧ Hid (Pt W3 wx (.slice Ap M.length cp) M (spF M i 0)) ∧ Hid (∀ k, w6.heap.size ≤ k → k < wz.heap.size → wx.heap[k]? = wz.heap[k]?))
          case first =>
            obtain ⟨p, rfl, _, r0, r1, r2, r3, r4, r5, r6⟩ := lies_row HP.out.lies rfl hlt2
            obtain ⟨hx1, hx2, hx3⟩ := HP.out.rcs hlt2
            rw [spF_at] at hx1 hx2
            have hvk : validE (M.getD i default).b = 0 := by have := HSDD.out.valid i (by rw [List.length_map]; exact hlt2); rw [bat_get] at this; exact this
            have hb64 : (M.getD i default).b.L.length ≤ 64 := by have := (HSDD.out.base i (by rw [List.length_map]; exact hlt2)).2.2; rw [bat_get] at this; exact this
            have HNX : Hid (∀ j, j + 1 = i → ∀ R : List Rec, R.length = (M.getD j default).b.L.length → (∀ r ∈ R, recE r = 0) → nextI { (M.getD j default).b with L := R } = (M.getD i default).b.base) := fun j hj R h1 h2 => by
              have := HSDD.out.next j (by rw [List.length_map]; omega)
              rw [bat_get, bat_get, hj] at this
              exact this R h1 h2
            unfold recsOf at hx1 hx2
            generalize M.getD i default = x at *
            obtain ⟨⟨xb, xp, xe, xs, xk, xt, xL⟩, xA, xc⟩ := x
            simp only at r0 r1 r2 r3 r4 r5 r6 hx1 hvk HNX hb64
            have HVQ : Hid (∀ d os, Calls Try.prog 10 #[.agg #[.int .i64 xb, .int .i64 xp, .int .i64 xe, .int .i64 xs, .int .i64 xk, .int .i64 xt, .slice xA xL.length xc]] (Sort.grow (redrawn wr d) os) fun e w'' => e = .returned (.int .i64 0) ∧ ∃ p : Regrown, w'' = Sort.grow (redrawn wr p.d) p.os) := fun d os => by
              have e := valid_any ⟨xb, xp, xe, xs, xk, xt, xL⟩ xA xc wr.heap.size _ (hx1.below (below_regrown wr d os)) (below_regrown wr d os).size (by unfold maxLen; show xL.length ≤ _; omega)
              rw [hvk] at e
              exact Calls.regrown_of e
            have u0 := cell_regrown r0
            have u1 := cell_regrown r1
            have u2 := cell_regrown r2
            have u3 := cell_regrown r3
            have u4 := cell_regrown r4
            have u5 := cell_regrown r5
            have u6 := cell_regrown r6
            clear r0 r1 r2 r3 r4 r5 r6 hvk
            by_cases hpos : ¬ 0 < i
            · have e0q : decide ((0 : Int) < (i : Int)) = false := by rw [decide_eq_false_iff_not]; omega
              have e1q : decide (0 < i) = false := by rw [decide_eq_false_iff_not]; omega
              clear hx1 hpos
              go_wp2_with fail
              refine wp_region_quiet_below (by kernel_rfl) (by kernel_rfl) ?_
              repeat (go_big_quiet_step (exact HVQ.out _ _))
              refine wpQuiet_nil ?_
              intro _ hw'
              obtain ⟨⟨dq, osq⟩, hw''⟩ := hw'
              subst hw''
              go_wp2_with fail
              go_meet
              exact ⟨rfl, HP.out.below (below_regrown wr dq osq), fun k h1 h2 => ((below_regrown wr dq osq).block k ((Array.getElem?_eq_some_iff.1 ((HFR.out k h1 h2).trans (Array.getElem?_eq_some_iff.2 ⟨h2, rfl⟩))).1)).trans (HFR.out k h1 h2)⟩
            · obtain ⟨j, rfl⟩ : ∃ j, i = j + 1 := ⟨i - 1, by omega⟩
              rw [show (((j + 1 : Nat) : Int)) = (j : Int) + 1 from by omega] at *
              have hltj : j < M.length := by omega
              obtain ⟨p', hp', _, t0', t1, t2, t3, t4, t5, t6⟩ := lies_row HP.out.lies rfl hltj
              injection hp' with hp'
              subst hp'
              obtain ⟨hy1, hy2, hy3⟩ := HP.out.rcs hltj
              have hlR := HP.out.len j hltj
              have hre : ∀ r ∈ spF M (j + 1) 0 j, recE r = 0 := fun r hr => by
                rw [spF_past] at hr
                rw [List.eq_of_mem_replicate hr]
                decide +kernel
              have hnx := HNX.out j rfl (spF M (j + 1) 0 j) hlR hre
              have hy64 : (M.getD j default).b.L.length ≤ 64 := by have := (HSDD.out.base j (by rw [List.length_map]; exact hltj)).2.2; rw [bat_get] at this; exact this
              generalize spF M (j + 1) 0 j = RR at *
              generalize M.getD j default = y at *
              obtain ⟨⟨ab, ap, ae, as_, ak, at_, aL⟩, aA, ac⟩ := y
              simp only at t0' t1 t2 t3 t4 t5 t6 hy1 hlR hnx hy64
              rw [← hlR] at t6
              have HNQ : Hid (∀ d os, Calls Try.prog 15 #[.agg #[.int .i64 ab, .int .i64 ap, .int .i64 ae, .int .i64 as_, .int .i64 ak, .int .i64 at_, .slice aA RR.length ac]] (Sort.grow (redrawn wr d) os) fun e w'' => e = .returned (.int .i64 xb) ∧ ∃ p : Regrown, w'' = Sort.grow (redrawn wr p.d) p.os) := fun d os => by
                have e := next_any ⟨ab, ap, ae, as_, ak, at_, RR⟩ aA ac wr.heap.size _ (hy1.below (below_regrown wr d os)) (below_regrown wr d os).size (by unfold maxLen; show RR.length ≤ _; omega)
                rw [hnx] at e
                exact Calls.regrown_of e
              have y0 := cell_regrown t0'
              have y1 := cell_regrown t1
              have y2 := cell_regrown t2
              have y3 := cell_regrown t3
              have y4 := cell_regrown t4
              have y5 := cell_regrown t5
              have y6 := cell_regrown t6
              have e0q : decide ((0 : Int) < (j : Int) + 1) = true := by rw [decide_eq_true_iff]; omega
              have hd : (xb != xb) = false := by simp
              have hml64 : M.length ≤ 64 := HMl.out
              have hkz0 : (j : Int) < (M.length : Int) := by omega
              have hk1 : ((j : Int) + 1).toNat = j + 1 := by omega
              have hk0 : (0 : Int) ≤ (j : Int) + 1 := by omega
              clear t0' t1 t2 t3 t4 t5 t6 hx1 hy1 hnx hre hlR hpos
              go_wp2_with fail
              refine wp_region_quiet_below (by kernel_rfl) (by kernel_rfl) ?_
              repeat (go_big_quiet_step (first | exact HVQ.out _ _ | exact HNQ.out _ _))
              refine wpQuiet_nil ?_
              intro _ hw'
              obtain ⟨⟨dq, osq⟩, hw''⟩ := hw'
              subst hw''
              go_wp2_with fail
              go_meet
              exact ⟨rfl, HP.out.below (below_regrown wr dq osq), fun k h1 h2 => ((below_regrown wr dq osq).block k ((Array.getElem?_eq_some_iff.1 ((HFR.out k h1 h2).trans (Array.getElem?_eq_some_iff.2 ⟨h2, rfl⟩))).1)).trans (HFR.out k h1 h2)⟩
          case rest =>
            obtain ⟨rfl, HPc, HFc⟩ := hcut
            clear HP HFR
            obtain ⟨p, rfl, _, _, _, _, _, _, _, r6⟩ := lies_row HPc.out.lies rfl hlt2
            have hx64 : (M.getD i default).b.L.length ≤ 64 := by have := (HSDD.out.base i (by rw [List.length_map]; exact hlt2)).2.2; rw [bat_get] at this; exact this
            obtain ⟨ln, hln⟩ : ∃ ln, (M.getD i default).b.L.length = ln := ⟨_, rfl⟩
            rw [hln] at r6 hx64
            have HLN := Lib.hid hln
            clear hln
            go_wp2_with fail
            clear r6
            go_loopw [119] (fun iv ws => ∃ r : Nat, r ≤ ln ∧ iv = .int .i64 r ∧ Hid (Pt W3 ws (.slice (some p) M.length cp) M (spF M i r)) ∧ Hid (∀ k, w6.heap.size ≤ k → k < wz.heap.size → ws.heap[k]? = wz.heap[k]?)) (fun iv _ => ln - (RowKit.intOf iv).toNat)
            case atStart => exact ⟨0, by omega, rfl, HPc.out, HFc.out⟩
            case round =>
              obtain ⟨r, hr, rfl, HP, HFR⟩ := hrel
              by_cases hrt0 : r < ln
              · have hrz : (r : Int) < (ln : Int) := by omega
                have hrt : r < (M.getD i default).b.L.length := by rw [HLN.out]; exact hrt0
                obtain ⟨p', hp', _, _, _, _, _, _, _, r6⟩ := lies_row HP.out.lies rfl hlt2
                injection hp' with hp'
                subst hp'
                obtain ⟨g, hA, hgl, hc4⟩ := HP.out.cells4 hlt2 hrt
                have hgw : g < w6.heap.size := HLW.out i hlt2 _ hA
                obtain ⟨⟨q0, c0⟩, f0⟩ := hc4 0 (by omega)
                obtain ⟨⟨q1', c1⟩, f1⟩ := hc4 1 (by omega)
                obtain ⟨⟨q2', c2⟩, f2⟩ := hc4 2 (by omega)
                obtain ⟨⟨q3', c3⟩, f3⟩ := hc4 3 (by omega)
                rw [Nat.add_zero] at c0 f0
                have HPN : Hid (Pt W3 (set4w wr g (r * 4) (.string ⟨#[115, 112, 111, 105, 108, 116]⟩) (.string ⟨#[]⟩) (.bool false) (.int .i64 0)) (.slice (some p) M.length cp) M (spF M i (r + 1))) := (HP.out.put hlt2 hA hrt spR (by unfold i64_ spR; simp)).congr fun j hj => spF_step M i r hrt j
                have HFN : Hid (∀ k, w6.heap.size ≤ k → k < wz.heap.size → (set4w wr g (r * 4) (.string ⟨#[115, 112, 111, 105, 108, 116]⟩) (.string ⟨#[]⟩) (.bool false) (.int .i64 0)).heap[k]? = wz.heap[k]?) := fun k h1 h2 => (set4w_block (fun e => by rw [e] at h1; omega)).trans (HFR.out k h1 h2)
                rw [hA, HLN.out] at r6
                clear hrt
                have hgA : ∀ n, (⟨g, 0, none⟩ : Addr).add n = ⟨g, n, none⟩ := fun n => by
                  rcases Nat.eq_zero_or_pos n with h | h
                  · subst h; rfl
                  · rw [add_pos' _ _ h]; simp
                unfold set4w at HPN HFN
                clear hA hc4 hgl hgw HP HFR
                go_wp2_with fail
                go_roundw
                case rel => exact ⟨r + 1, by omega, by go_num, HPN, HFN⟩
                case measure => simp [RowKit.intOf]; omega
              · have hre : r = (recsOf M i).length := by show r = (M.getD i default).b.L.length; rw [HLN.out]; omega
                have HPN : Hid (Pt W3 wr (.slice (some p) M.length cp) M (spF M (i + 1) 0)) := HP.out.congr fun j hj => by rw [hre]; exact spF_end M i j
                have d8 : decide ((r : Int) < (ln : Int)) = false := by rw [decide_eq_false_iff_not]; omega
                clear hre HP
                go_wp2_with fail
                go_roundw
                case rel => exact ⟨i + 1, by omega, by go_num, HPN, HFR⟩
                case measure => simp [RowKit.intOf]; omega
        · have d8 : decide ((i : Int) < (M.length : Int)) = false := by rw [decide_eq_false_iff_not]; omega
          have HBr := Lib.hid HP.out.bel
          have hgz9 := (Array.getElem?_eq_some_iff.1 HNr.out).1
          have hzz2 : wz.heap.size ≤ wr.heap.size := by
            have h1 := HG9L.out
            have h2 := (Array.getElem?_eq_some_iff.1 ((HFR.out (wz.heap.size - 1) (by omega) (by omega)).trans (Array.getElem?_eq_some_iff.2 ⟨by omega, rfl⟩))).1
            omega
          have HNq := Lib.hid ((HFR.out g9 HG9L.out hgz9).trans HNr.out)
          have HRq : Hid (Rcs wr wr.heap.size A9 L.length L) := HRr.out.stay hzz2 fun p hp _ hb => HFR.out p.block (HF8.out p hp) hb
          clear HP HFR hgz9 hzz2 HNr HRr HLW HPz
          have z0 := cell_of_row _ _ 0 _ _ _ (HKX.out wr HBr.out)
          have z1 := cell_of_row _ _ 1 _ _ _ (HKX.out wr HBr.out)
          have z2 := cell_of_row _ _ 2 _ _ _ (HKX.out wr HBr.out)
          have z3 := cell_of_row _ _ 3 _ _ _ (HKX.out wr HBr.out)
          have z4 := cell_of_row _ _ 4 _ _ _ (HKX.out wr HBr.out)
          have z5 := cell_of_row _ _ 5 _ _ _ (HKX.out wr HBr.out)
          have z6 := cell_of_row _ _ 6 _ _ _ (HKX.out wr HBr.out)
          go_upto_region 29 with (first
            | (go_at_call 7; (with_reducible refine (HSPL.out wr HBr.out).mono ?_); rintro e w14 ⟨v2, M2, rfl, hM2, hp2⟩; obtain ⟨A2, c2, rfl, hmg⟩ := merge_again hp2 (show SplitD ⟨base, pid, epoch, seq, kind, time, L⟩ (M2.map BA.b) by rw [hM2.trans HM.out.symm]; exact HSDD.out); have HMG2 := Lib.hid hmg; have HB14 := Lib.hid hp2.bel; simp only [Bat.cells] at HMG2; clear hmg hp2 hM2)
            | (go_at_call 12; (with_reducible refine HMG2.out.mono ?_); rintro e w15 ⟨A10, c10, rfl, hr15, _, hb15⟩; have HR15 := Lib.hid hr15; have HB15 := Lib.hid (HB14.out.trans (hb15.mono HB14.out.size)); clear hr15 hb15))
          clear z0 z1 z2 z3 z4 z5 z6
          have hal := (Below.refl w15.heap.size w15).alloc (Nat.le_refl _) (.cells #[.int .i64 base, .int .i64 pid, .int .i64 epoch, .int .i64 seq, .int .i64 kind, .int .i64 time, .slice A10 L.length c10] 24)
          have hN := heap_alloc_new w15 (.cells #[.int .i64 base, .int .i64 pid, .int .i64 epoch, .int .i64 seq, .int .i64 kind, .int .i64 time, .slice A10 L.length c10] 24)
          generalize hw16 : w15.alloc (.cells #[.int .i64 base, .int .i64 pid, .int .i64 epoch, .int .i64 seq, .int .i64 kind, .int .i64 time, .slice A10 L.length c10] 24) = w16 at *
          have HB16 := Lib.hid (HB15.out.trans (hal.mono HB15.out.size))
          have HRa := Lib.hid ((HRq.out.below HB16.out).wider HB16.out.size)
          have HRb := Lib.hid ((HR15.out.below hal).wider hal.size)
          have hNa := (HB16.out.block g9 (Array.getElem?_eq_some_iff.1 HNq.out).1).trans HNq.out
          have n0 := cell_of_row _ _ 0 _ _ _ hN
          have n1 := cell_of_row _ _ 1 _ _ _ hN
          have n2 := cell_of_row _ _ 2 _ _ _ hN
          have n3 := cell_of_row _ _ 3 _ _ _ hN
          have n4 := cell_of_row _ _ 4 _ _ _ hN
          have n5 := cell_of_row _ _ 5 _ _ _ hN
          have n6 := cell_of_row _ _ 6 _ _ _ hN
          have m0 := cell_of_row _ _ 0 _ _ _ hNa
          have m1 := cell_of_row _ _ 1 _ _ _ hNa
          have m2 := cell_of_row _ _ 2 _ _ _ hNa
          have m3 := cell_of_row _ _ 3 _ _ _ hNa
          have m4 := cell_of_row _ _ 4 _ _ _ hNa
          have m5 := cell_of_row _ _ 5 _ _ _ hNa
          have m6 := cell_of_row _ _ 6 _ _ _ hNa
          clear hal hN hNa hw16
          go_wp2_with (first
            | (go_at_call 14; (with_reducible refine (HS2.out w16 _ _ _ _ HRa.out HRb.out).mono ?_); rintro e w17 ⟨rfl, hb17⟩; have HB17 := Lib.hid (HB16.out.trans (hb17.mono HB16.out.size)); clear hb17)
            | (go_at_call 11; (with_reducible refine (HAW.out _).mono ?_); rintro e w18 ⟨rfl, hb18⟩; have HB18 := Lib.hid (HB17.out.trans (hb18.mono HB17.out.size)); clear hb18))
          go_ret
          exact ⟨rfl, HB3.out.trans ((HBr.out.trans (HB18.out.mono HBr.out.size)).mono HB3.out.size)⟩
end Go.Proofs.Ytkdpfajoeajenaa
