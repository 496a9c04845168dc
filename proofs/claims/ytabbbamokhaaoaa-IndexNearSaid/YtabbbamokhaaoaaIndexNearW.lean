/-
  IndexNear.
-/
import Derived.Test.YtabbbamokhaaoaaIdxG
namespace Go.Proofs.Ytabbbamokhaaoaa
open Go.RowKit Go.Lib Go.Sort
set_option linter.unusedVariables false
set_option linter.unusedSimpArgs false

set_option maxRecDepth 100000 in
set_option maxHeartbeats 8000000 in
theorem near_walk (gap : Int) (S : List Int) (A1 : Option Addr) (c1 : Nat) (w : World) (hg1 : -9223372036854775808 ≤ gap) (hg2 : gap ≤ 9223372036854775807) (hS : Ins w w.heap.size A1 S.length S) (hs : S.length ≤ maxLen) :
    Calls Try.prog 4 #[.int .i64 gap, .slice A1 S.length c1] w fun e w' => e = .returned (.bool true) ∧ Below w.heap.size w w' := by
  have HLD : Hid (Calls Try.prog 20 #[.int .i64 gap, .slice A1 S.length c1, .slice none 0 0] w fun e w' => ∃ k va v, e = .returned (.tuple #[.pointer (some ⟨w.heap.size, 0, none⟩), va]) ∧ (k = S.length ∨ k = 80) ∧ k ≤ S.length ∧ k ≤ 80 ∧ Lay w (gapI gap) S [] w' k va v) :=
    laid_any gap S [] A1 none c1 0 w hg1 hg2 hS Ins.nil_ hs (by simp)
  obtain ⟨k1, k2⟩ := gapI_le gap
  have HLA := Lib.hid (laid_all (gapI gap) S [] k1)
  generalize gapI gap = gp at *
  clear hS
  go_enter Try.func4, Try.ntmps4
  go_wp2_with fail
  refine HLD.out.mono ?_
  rintro e w2 ⟨k, va, v, rfl, hk1, hk2, hk3, hl⟩
  have HL := Lib.hid (HLA.out k)
  have HX := Lib.hid hl.ix
  have HB := Lib.hid hl.below
  have HLL : Hid ((lay gp S [] k).L.length ≤ 1000000) := by have := lay_len gp S [] k; show _ ≤ _; omega
  obtain ⟨A, c, rfl, hkc, hcm, hE, _⟩ := Ecs.of_own hl.own (batches_len S [] k)
  have HE := Lib.hid hE
  have HBG : Hid (∀ j, j < k → (batches S [] k).getD j default = ⟨3 * (j : Int), plc S j, tim [] j⟩) := fun j hj => batches_get S [] k j hj
  generalize lay gp S [] k = x at *
  generalize batches S [] k = bl at *
  clear hl hE hk1 HLA HLD
  go_wp2_with fail
  go_loopw [24] (fun i wr => ∃ j : Nat, j ≤ k ∧ i = .int .i64 j ∧ Hid (Below w2.heap.size w2 wr)) (fun i _ => k - (intOf i).toNat)
  case atStart => exact ⟨0, by omega, rfl, Below.refl _ _⟩
  case round =>
    obtain ⟨j, hj, rfl, HR⟩ := hrel
    by_cases hlt : j < k
    · obtain ⟨p, rfl, hp, r0, r1, r2⟩ := (HE.out.below HR.out).row hlt
      rw [HBG.out j hlt] at r0 r1 r2
      simp only at r0 r1 r2
      have hz : (j : Int) < (k : Int) := by omega
      have hpb := plc_le S j
      have hpt : 0 ≤ tim [] j ∧ tim [] j ≤ 999 := tim_le [] j
      have HF : Hid (∀ r d, 0 ≤ d → d < 3 → Upto (atMost (3 * (j : Int) + d)) x.L r → 0 < r ∧ (x.L.getD (r - 1) default).off ≤ 3 * (j : Int) ∧ (x.L.getD (r - 1) default).pl ≤ plc S j ∧ plc S j - (x.L.getD (r - 1) default).pl < gp ∧ 0 ≤ (x.L.getD (r - 1) default).pl) := fun r d h0 h3 hU => by
        obtain ⟨a1, a2, a3, a4⟩ := HL.out.find hlt h0 h3 hU
        obtain ⟨i, _, e⟩ := HL.out.each (r - 1) (by have := hU.le; omega)
        refine ⟨a1, a2, a3, a4, ?_⟩
        rw [e]
        exact (plc_le S i).1
      generalize plc S j = pj at *
      generalize tim [] j = tj at *
      obtain ⟨bb, hbb⟩ : ∃ bb, wr.heap.size = bb := ⟨_, rfl⟩
      obtain ⟨w3, hw3⟩ : ∃ w3, wr.alloc (.cells #[.int .i64 (3 * (j : Int)), .int .i64 pj, .int .i64 tj] 38) = w3 := ⟨_, rfl⟩
      have hal : Below wr.heap.size wr w3 := by rw [← hw3]; exact (Below.refl _ _).alloc (Nat.le_refl _) _
      have HN3 : Hid (w3.heap[bb]? = some (.cells #[.int .i64 (3 * (j : Int)), .int .i64 pj, .int .i64 tj] 38 (0, 0))) := by rw [← hw3, ← hbb]; exact heap_alloc_new wr _
      have HZ3 : Hid (w3.heap.size = bb + 1) := by show _ = _; rw [← hw3, ← hbb]; simp
      have HR3 := Lib.hid (HR.out.trans (hal.mono HR.out.size))
      clear hal
      go_wp2_with fail
      go_loopw [9] (fun dv ws => ∃ d : Nat, d ≤ 3 ∧ dv = .int .i64 d ∧ Hid (Below w3.heap.size w3 ws)) (fun dv _ => 3 - (intOf dv).toNat)
      case atStart => exact ⟨0, by omega, rfl, Below.refl _ _⟩
      case round =>
        obtain ⟨d, hd, rfl, HS⟩ := hrel
        have hzs := HS.out.size
        have hNs := (HS.out.block bb (by have := HZ3.out; omega)).trans HN3.out
        have m0 := cell_of_row _ _ 0 _ _ _ hNs
        have m1 := cell_of_row _ _ 1 _ _ _ hNs
        have HNs := Lib.hid hNs
        have HRs := Lib.hid (HR3.out.trans (HS.out.mono HR3.out.size))
        clear hNs
        by_cases hd3 : d < 3
        · have dd : decide ((d : Int) < 3) = true := by rw [decide_eq_true_iff]; omega
          have HFI := Lib.hid (find_any _ _ _ x (3 * (j : Int) + (d : Int)) wr (HX.out.below HRs.out (Nat.le_refl _)) HLL.out HL.out.srt)
          go_wp2_with fail
          refine HFI.out.mono ?_
          rintro e w5 ⟨r, rfl, hU, hb5⟩
          obtain ⟨a1, a2, a3, a4, a5⟩ := HF.out r d (by omega) (by omega) hU
          have hle := hU.le
          rw [show lastE x.L r = x.L.getD (r - 1) default from by unfold lastE; rw [if_neg (by omega)], decide_eq_true a1]
          generalize x.L.getD (r - 1) default = en at *
          obtain ⟨eo, ep, eb⟩ := en
          simp only [Ent.cells] at a2 a3 a4 a5 ⊢
          have hal5 := (RowKit.Below.refl w5.heap.size w5).alloc (Nat.le_refl _) (.cells #[.int .i64 eo, .int .i64 ep, .int .i64 eb] 28)
          have hN5 := heap_alloc_new w5 (.cells #[.int .i64 eo, .int .i64 ep, .int .i64 eb] 28)
          have hb6 := hb5.trans (hal5.mono hb5.size)
          have hz5 : bb < wr.heap.size := by have := HZ3.out; omega
          have hN6 := (hb6.block bb hz5).trans HNs.out
          have HS6 := Lib.hid (HS.out.trans (hb6.mono hzs))
          have HX6 := Lib.hid ((HX.out.below HRs.out (Nat.le_refl _)).below hb6 (Nat.le_refl _))
          have hzz : w5.heap.size < (w5.alloc (.cells #[.int .i64 eo, .int .i64 ep, .int .i64 eb] 28)).heap.size := by simp
          generalize hw6 : w5.alloc (.cells #[.int .i64 eo, .int .i64 ep, .int .i64 eb] 28) = w6 at *
          have e0 := cell_of_row _ _ 0 _ _ _ hN5
          have e1 := cell_of_row _ _ 1 _ _ _ hN5
          have n0 := cell_of_row _ _ 0 _ _ _ hN6
          have n1 := cell_of_row _ _ 1 _ _ _ hN6
          have q0 := cell_regrown e0
          have q1 := cell_regrown e1
          have q2 := cell_regrown n0
          have q3 := cell_regrown n1
          have HGP : Hid (∀ dd os, Calls Try.prog 18 #[.pointer (some ⟨w.heap.size, 0, none⟩)] (grow (redrawn w6 dd) os) fun e w' => e = .returned (.int .i64 x.gap) ∧ ∃ p : Regrown, w' = grow (redrawn w6 p.d) p.os) := fun dd os => Calls.regrown_of ((gap_any _ _ _ x _ (HX6.out.below (below_regrown w6 dd os) (Nat.le_refl _))).mono fun e w' ⟨h1, h2⟩ => ⟨h1, h2 ▸ RowKit.Below.refl _ _⟩)
          rw [HL.out.gp] at HGP
          have t1 : decide (3 * (j : Int) < eo) = false := by rw [decide_eq_false_iff_not]; omega
          have t2 : decide (pj < ep) = false := by rw [decide_eq_false_iff_not]; omega
          have t3 : decide (gp ≤ pj - ep) = false := by rw [decide_eq_false_iff_not]; omega
          clear hU hb5 hal5 hN5 hb6 hN6 HFI e0 e1 n0 n1
          go_wp2_with fail
          go_cut [66] (fun s66 wx => s66 = .bool false ∧ RowKit.Below w6.heap.size w6 wx)
          case first =>
            refine wp_region_quiet_below (by kernel_rfl) (by kernel_rfl) ?_
            repeat (go_big_quiet_step (exact HGP.out _ _))
            refine wpQuiet_nil ?_
            intro _ hw'
            obtain ⟨⟨dq, osq⟩, hw''⟩ := hw'
            subst hw''
            go_wp2_with fail
            go_meet
            exact ⟨rfl, below_regrown w6 dq osq⟩
          case rest =>
            obtain ⟨rfl, hbc⟩ := hcut
            have HSc := Lib.hid (HS6.out.trans (hbc.mono HS6.out.size))
            clear hbc
            go_wp2_with fail
            go_roundw
            case rel => exact ⟨d + 1, by omega, by go_num, HSc.out⟩
            case measure => simp [intOf]; omega
        · have dd : decide ((d : Int) < 3) = false := by rw [decide_eq_false_iff_not]; omega
          clear hd3 m0 m1
          go_wp2_with fail
          go_roundw
          case rel => exact ⟨j + 1, by omega, by go_num, HRs.out⟩
          case measure => simp [intOf]; omega
    · have d8 : decide ((j : Int) < (k : Int)) = false := by rw [decide_eq_false_iff_not]; omega
      have d9 : decide (j < k) = false := by rw [decide_eq_false_iff_not]; omega
      have HFI := Lib.hid (find_any _ _ _ x (-1) wr (HX.out.below HR.out (Nat.le_refl _)) HLL.out HL.out.srt)
      have HA : Hid (∀ W, Calls Try.prog 16 #[] W fun e w' => e = .returned (.bool true) ∧ RowKit.Below W.heap.size W w') := fun W => awake5_any W
      clear hlt
      go_wp2_with fail
      refine HFI.out.mono ?_
      rintro e w5 ⟨r, rfl, hU, hb5⟩
      obtain rfl := HL.out.low hU
      rw [show lastE x.L 0 = ⟨0, 0, 0⟩ from rfl, show decide (0 < 0) = false from rfl]
      simp only [Ent.cells]
      have hal5 := (RowKit.Below.refl w5.heap.size w5).alloc (Nat.le_refl _) (.cells #[.int .i64 0, .int .i64 0, .int .i64 0] 28)
      have HB6 := Lib.hid (HB.out.trans ((HR.out.trans ((hb5.trans (hal5.mono hb5.size)).mono HR.out.size)).mono HB.out.size))
      clear hU hb5 HFI hal5
      go_wp2_with fail
      refine (HA.out _).mono ?_
      rintro e w7 ⟨rfl, hb7⟩
      go_wp2_with fail
      go_ret
      exact ⟨rfl, HB6.out.trans (hb7.mono HB6.out.size)⟩
theorem near_walk' (gap : Int) (S : List Int) (A1 : Option Addr) (n1 c1 : Nat) (w : World) (hg : -9223372036854775808 ≤ gap ∧ gap ≤ 9223372036854775807) (hS : Ins w w.heap.size A1 n1 S) (hn : n1 ≤ c1) (hc : c1 ≤ maxLen) :
    Calls Try.prog 4 #[.int .i64 gap, .slice A1 n1 c1] w fun e w' => e = .returned (.bool true) ∧ RowKit.Below w.heap.size w w' := by
  have e := hS.len
  subst e
  exact near_walk gap S A1 c1 w hg.1 hg.2 hS (Nat.le_trans hn hc)
end Go.Proofs.Ytabbbamokhaaoaa
