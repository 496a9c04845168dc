/-
  IndexCuts.
-/
import Derived.Test.YtabbbamokhaaoaaIdxJ
namespace Go.Proofs.Ytabbbamokhaaoaa
open Go.RowKit Go.Lib Go.Sort
set_option linter.unusedVariables false
set_option linter.unusedSimpArgs false

set_option maxRecDepth 100000 in
set_option maxHeartbeats 8000000 in
theorem cuts_walk (gap ct : Int) (S : List Int) (A1 : Option Addr) (c1 : Nat) (w : World) (hg1 : -9223372036854775808 ≤ gap) (hg2 : gap ≤ 9223372036854775807) (hS : Ins w w.heap.size A1 S.length S) (hs : S.length ≤ maxLen) :
    Calls Try.prog 6 #[.int .i64 gap, .slice A1 S.length c1, .int .i64 ct] w fun e w' => e = .returned (.bool true) ∧ Below w.heap.size w w' := by
  have HLD : Hid (Calls Try.prog 20 #[.int .i64 gap, .slice A1 S.length c1, .slice none 0 0] w fun e w' => ∃ k va v, e = .returned (.tuple #[.pointer (some ⟨w.heap.size, 0, none⟩), va]) ∧ (k = S.length ∨ k = 80) ∧ k ≤ S.length ∧ k ≤ 80 ∧ Lay w (gapI gap) S [] w' k va v) :=
    laid_any gap S [] A1 none c1 0 w hg1 hg2 hS Ins.nil_ hs (by simp)
  obtain ⟨k1, k2⟩ := gapI_le gap
  have HLA := Lib.hid (laid_all (gapI gap) S [] k1)
  have HA : Hid (∀ W, Calls Try.prog 16 #[] W fun e w' => e = .returned (.bool true) ∧ RowKit.Below W.heap.size W w') := fun W => awake5_any W
  generalize gapI gap = gp at *
  clear hS
  go_enter Try.func6, Try.ntmps6
  go_wp2_with fail
  refine HLD.out.mono ?_
  rintro e w2 ⟨k, va, v, rfl, hk1, hk2, hk3, hl⟩
  have HL := Lib.hid (HLA.out k)
  have HH : Hid (Hc w w2 v (lay gp S [] k) va k (batches S [] k)) := ⟨hl.ix, hl.own, hl.ne, hl.apart, hl.below⟩
  have HLL : Hid ((lay gp S [] k).L.length ≤ k) := lay_len gp S [] k
  have HBL := Lib.hid (batches_len S [] k)
  have HBG : Hid (∀ j, j < k → (batches S [] k).getD j default = ⟨3 * (j : Int), plc S j, tim [] j⟩) := fun j hj => batches_get S [] k j hj
  generalize lay gp S [] k = x at *
  generalize batches S [] k = bl at *
  have HAL := Lib.hid (all_any _ _ _ x w2 HH.out.ix (by have := HLL.out; omega))
  clear hl hk1 HLA HLD
  go_wp2_with fail
  refine HAL.out.mono ?_
  rintro e w3 ⟨vw, rfl, how, hb3⟩
  have HH3 := Lib.hid (HH.out.below_ hb3)
  have HOW := Lib.hid how
  have HZ3 := Lib.hid hb3.size
  have HZ2 := Lib.hid HH.out.ix.lt
  clear hb3 HAL HH
  have HLn := Lib.hid HLL.out
  generalize hnn : x.L.length = nn at *
  by_cases hno : ct < 0 ∨ 1099511627776 < ct
  · have HCN := Lib.hid (cut_no w.heap.size ct w3 hno)
    obtain ⟨Aw, cw, rfl, hkw, hmw, _, _⟩ := own_form how
    clear how
    go_wp2_with fail
    refine HCN.out.mono ?_
    rintro e w4 ⟨rfl, hb4⟩
    have HH4 := Lib.hid (HH3.out.below_ hb4)
    have HAL : Hid (Calls Try.prog 22 #[.pointer (some ⟨w.heap.size, 0, none⟩)] w4 fun e w' => ∃ v', e = .returned v' ∧ w'.ownsRow w4.heap.size 28 3 v' nn (ecells x.L) ∧ RowKit.Below w4.heap.size w4 w') := by
      have := all_any _ _ _ x w4 HH4.out.ix (by have := HLL.out; omega)
      rw [hnn] at this
      exact this
    clear hb4 HH3 HCN
    rcases Int.lt_or_le ct 0 with hlo | hlo
    · have d1 : decide (ct < 0) = true := decide_eq_true hlo
      clear hno
      go_wp2_with fail
      refine HAL.out.mono ?_
      rintro e w5 ⟨v5, rfl, ho5, hb5⟩
      obtain ⟨A5, c5, rfl, _, _, _, _⟩ := own_form ho5
      have HH5 := Lib.hid (HH4.out.below_ hb5)
      clear ho5 hb5 HH4 HAL
      go_wp2_with fail
      refine (HA.out _).mono ?_
      rintro e w7 ⟨rfl, hb7⟩
      go_wp2_with fail
      go_ret
      exact ⟨rfl, HH5.out.below.trans (hb7.mono HH5.out.below.size)⟩
    · have d1 : decide (ct < 0) = false := decide_eq_false (by omega)
      have d2 : decide (1099511627776 < ct) = true := decide_eq_true (by omega)
      clear hno
      go_wp2_with fail
      refine HAL.out.mono ?_
      rintro e w5 ⟨v5, rfl, ho5, hb5⟩
      obtain ⟨A5, c5, rfl, _, _, _, _⟩ := own_form ho5
      have HH5 := Lib.hid (HH4.out.below_ hb5)
      clear ho5 hb5 HH4 HAL
      go_wp2_with fail
      refine (HA.out _).mono ?_
      rintro e w7 ⟨rfl, hb7⟩
      go_wp2_with fail
      go_ret
      exact ⟨rfl, HH5.out.below.trans (hb7.mono HH5.out.below.size)⟩
  · have HCO := Lib.hid (cut_ok _ _ _ x ct w3 HH3.out.ix (by have := HLL.out; omega) HL.out.srt (by omega) (by omega))
    clear how hno
    go_wp2_with fail
    refine HCO.out.mono ?_
    rintro e w4 ⟨rfl, r, v4, hU, hx4, hb4, hv4⟩
    have HH4 := Lib.hid (HH3.out.but hx4 hb4.weak (.inl hv4))
    have hwb := World.ownsRow.lt HOW.out
    have HOW4 := Lib.hid (hb4.row HOW.out (fun e => by have := hwb _ e; have := HZ2.out; omega) (by cases hq : vw.ownBlock <;> simp))
    have hr := hU.le
    have HU := Lib.hid hU
    have HCR := Lib.hid (show (x.cutAt r).L = x.L.take r from rfl)
    have hlt : (x.L.take r).length = r := by rw [List.length_take]; omega
    have HAL : Hid (Calls Try.prog 22 #[.pointer (some ⟨w.heap.size, 0, none⟩)] w4 fun e w' => ∃ v', e = .returned v' ∧ w'.ownsRow w4.heap.size 28 3 v' r (ecells (x.L.take r)) ∧ RowKit.Below w4.heap.size w4 w') := by
      have := all_any _ _ _ (x.cutAt r) w4 HH4.out.ix (by rw [HCR.out, hlt]; have := HLL.out; omega)
      rw [HCR.out, hlt] at this
      exact this
    clear hx4 hb4 hv4 HH3 HOW hwb HCO hU
    go_wp2_with fail
    refine HAL.out.mono ?_
    rintro e w5 ⟨vn, rfl, hon, hb5⟩
    have HH5 := Lib.hid (HH4.out.below_ hb5)
    obtain ⟨Aw, cw, rfl, hkw, hmw, hEw, _⟩ := Ecs.of_own (row_below HOW4.out hb5 (Nat.le_refl _)) hnn
    obtain ⟨An, cn, rfl, hkn, hmn, hEn, _⟩ := Ecs.of_own hon hlt
    have HEw := Lib.hid hEw
    have HEn := Lib.hid hEn
    have HQ := Lib.hid neEnt_self
    have hnz : (nn : Int) ≤ 80 := by have := HLL.out; omega
    clear hon hb5 HH4 HOW4 HAL hEw hEn hlt
    go_wp2_with fail
    go_loopw [11, 53] (fun nv i wr => ∃ a : Nat, a ≤ nn ∧ nv = .int .i64 ((min a r : Nat) : Int) ∧ i = .int .i64 a ∧ Hid (Below w5.heap.size w5 wr)) (fun _ i _ => nn - (intOf i).toNat)
    case atStart => exact ⟨0, by omega, by simp, rfl, Below.refl _ _⟩
    case round =>
      obtain ⟨a, ha, rfl, rfl, HR⟩ := hrel
      by_cases hlt : a < nn
      · obtain ⟨p, rfl, hp, r0, r1, r2⟩ := (HEw.out.below HR.out).row hlt
        have hz : (a : Int) < (nn : Int) := by omega
        have hal := (RowKit.Below.refl wr.heap.size wr).alloc (Nat.le_refl _) (.cells #[.int .i64 (x.L.getD a default).off, .int .i64 (x.L.getD a default).pl, .int .i64 (x.L.getD a default).bf] 28)
        have hN := heap_alloc_new wr (.cells #[.int .i64 (x.L.getD a default).off, .int .i64 (x.L.getD a default).pl, .int .i64 (x.L.getD a default).bf] 28)
        have HRn := Lib.hid (HR.out.trans (hal.mono HR.out.size))
        by_cases har : a < r
        · obtain ⟨p2, rfl, hp2, q0, q1, q2⟩ := (HEn.out.below HRn.out).row har
          rw [getD_take _ _ _ har] at q0 q1 q2
          have hof := (below_t _ _).1 (HU.out.yes a har)
          generalize x.L.getD a default = fe at *
          obtain ⟨fo, fp, fb⟩ := fe
          simp only at r0 r1 r2 q0 q1 q2 hof hal hN
          have d1 : decide (fo < ct) = true := decide_eq_true hof
          have m1 : min a r = a := by omega
          have m2 : min (a + 1) r = a + 1 := by omega
          have d2 : decide ((r : Int) ≤ (a : Int)) = false := decide_eq_false (by omega)
          have d3 : decide (r ≤ a) = false := decide_eq_false (by omega)
          have hz2 : (a : Int) < (r : Int) := by omega
          have n0 := cell_of_row _ _ 0 _ _ _ hN
          have n1 := cell_of_row _ _ 1 _ _ _ hN
          have n2 := cell_of_row _ _ 2 _ _ _ hN
          have q := HQ.out
          rw [m1]
          clear hal hN hof
          go_wp2_with fail
          go_quiet (fail)
          go_wp2_with fail
          go_roundw
          case rel => exact ⟨a + 1, by omega, by rw [m2]; go_num, by go_num, below_draws HRn.out _⟩
          case measure => simp [intOf]; omega
        · have hof := (below_f _ _).1 (HU.out.no a (by omega) (by omega))
          generalize x.L.getD a default = fe at *
          obtain ⟨fo, fp, fb⟩ := fe
          simp only at r0 r1 r2 hof hal hN
          have d1 : decide (fo < ct) = false := decide_eq_false (by omega)
          have m1 : min a r = r := by omega
          have m2 : min (a + 1) r = r := by omega
          rw [m1]
          clear hal hN hof
          go_wp2_with fail
          go_roundw
          case rel => exact ⟨a + 1, by omega, by rw [m2], by go_num, HRn.out⟩
          case measure => simp [intOf]; omega
      · have d8 : decide ((a : Int) < (nn : Int)) = false := by rw [decide_eq_false_iff_not]; omega
        have d9 : decide (a < nn) = false := by rw [decide_eq_false_iff_not]; omega
        have m1 : min a r = r := by omega
        rw [m1]
        have HH6 := Lib.hid (HH5.out.below_ HR.out)
        clear hlt HH5 HR HEw HEn
        by_cases hend : 1000 < ct ∨ r = 0
        · rcases Int.lt_or_le 1000 ct with h1 | h1
          · have e1 : decide (1000 < ct) = true := decide_eq_true h1
            clear hend
            go_wp2_with fail
            refine (HA.out _).mono ?_
            rintro e w7 ⟨rfl, hb7⟩
            go_wp2_with fail
            go_ret
            exact ⟨rfl, HH6.out.below.trans (hb7.mono HH6.out.below.size)⟩
          · have e1 : decide (1000 < ct) = false := decide_eq_false (by omega)
            obtain rfl : r = 0 := by omega
            clear hend
            go_wp2_with fail
            refine (HA.out _).mono ?_
            rintro e w7 ⟨rfl, hb7⟩
            go_wp2_with fail
            go_ret
            exact ⟨rfl, HH6.out.below.trans (hb7.mono HH6.out.below.size)⟩
        · have e1 : decide (1000 < ct) = false := decide_eq_false (by omega)
          have e2 : ((r : Int) == 0) = false := by rw [beq_eq_false_iff_ne]; omega
          have hgp1 : (x.cutAt r).gap = gp := HL.out.gp
          have HCD := Lib.hid (Cutd.start HL.out hk3 (by have := HLL.out; omega) HU.out (by omega))
          generalize x.cutAt r = y0 at *
          obtain ⟨Ab, cb, rfl, hkb, hmb, _, _⟩ := own_form HH6.out.own
          clear hend HU HCR HL
          go_wp2_with fail

          go_loopw [89] (fun i ws => ∃ j : Nat, j ≤ k ∧ i = .int .i64 j ∧ ∃ y v', Hid (Hc w ws v' y (.slice Ab k cb) k bl) ∧ Hid (Cutd gp S k ct y j)) (fun i _ => k - (intOf i).toNat)
          case atStart => exact ⟨0, by omega, rfl, y0, v4, HH6, HCD⟩
          case round =>
            obtain ⟨j, hj, rfl, y, v', HJ, HC⟩ := hrel
            by_cases hlt : j < k
            · obtain ⟨Ab', cb', he, _, _, hE, _⟩ := Ecs.of_own HJ.out.own HBL.out
              injection he with he1 he2 he3
              subst he1 he3
              obtain ⟨p, rfl, hp, r0, r1, r2⟩ := hE.row hlt
              rw [HBG.out j hlt] at r0 r1 r2
              simp only at r0 r1 r2
              have hz : (j : Int) < (k : Int) := by omega
              have hpb := plc_le S j
              have htb := tim_le [] j
              generalize tim [] j = tj at *
              have hal := (RowKit.Below.refl wr.heap.size wr).alloc (Nat.le_refl _) (.cells #[.int .i64 (3 * (j : Int)), .int .i64 (plc S j), .int .i64 tj] 38)
              have hN := heap_alloc_new wr (.cells #[.int .i64 (3 * (j : Int)), .int .i64 (plc S j), .int .i64 tj] 38)
              have hzs : (wr.alloc (.cells #[.int .i64 (3 * (j : Int)), .int .i64 (plc S j), .int .i64 tj] 38)).heap.size = wr.heap.size + 1 := by simp
              have HJ3 := Lib.hid (HJ.out.below_ hal)
              by_cases hsk : 3 * (j : Int) < ct
              · have d1 : decide (3 * (j : Int) < ct) = true := decide_eq_true hsk
                have HC2 := Lib.hid HC.out.skip
                generalize plc S j = pj at *
                clear hal hN hE hsk hzs
                go_wp2_with fail
                go_roundw
                case rel => exact ⟨j + 1, by omega, by go_num, y, v', HJ3, HC2⟩
                case measure => simp [intOf]; omega
              · have d1 : decide (3 * (j : Int) < ct) = false := decide_eq_false hsk
                have hnx := HC.out.nxt j (Nat.le_refl _) (by omega)
                have HC2 := Lib.hid (HC.out.note (t := tj) (by omega) (by omega))
                have HNF : Hid (∀ r, Upto (atMost (3 * (j : Int))) (y.note (3 * (j : Int)) (plc S j) tj).L r → 0 < r ∧ ((y.note (3 * (j : Int)) (plc S j) tj).L.getD (r - 1) default).off ≤ 3 * (j : Int) ∧ plc S j - ((y.note (3 * (j : Int)) (plc S j) tj).L.getD (r - 1) default).pl < gp ∧ 0 ≤ ((y.note (3 * (j : Int)) (plc S j) tj).L.getD (r - 1) default).pl ∧ ((y.note (3 * (j : Int)) (plc S j) tj).L.getD (r - 1) default).pl ≤ 4194304) := fun r hU => by
                  have hg := HC.out.gp
                  obtain ⟨a1, a2, a3, a4⟩ := note_find HC2.out.srt HC.out.pos (by rw [hg]; omega) hU
                  rw [hg] at a3
                  obtain ⟨b1, b2⟩ := HC2.out.each (r - 1) (by omega)
                  exact ⟨a1, a2, a3, b1, b2⟩
                generalize hw3 : wr.alloc (.cells #[.int .i64 (3 * (j : Int)), .int .i64 (plc S j), .int .i64 tj] 38) = w3 at *
                have HNO := Lib.hid (note_ok _ _ _ y (3 * (j : Int)) (plc S j) tj w3 HJ3.out.ix HJ3.out.below.size (by have := HC.out.len; omega) (by omega) (by omega) (by omega) (by omega) (by omega) (by omega) hnx.1 hnx.2 HC.out.each)
                have HC2L : Hid ((y.note (3 * (j : Int)) (plc S j) tj).L.length ≤ 1000000) := by have := HC2.out.len; show _ ≤ _; omega
                have HYG : Hid ((y.note (3 * (j : Int)) (plc S j) tj).gap = gp) := HC2.out.gp
                generalize y.note (3 * (j : Int)) (plc S j) tj = y2 at *
                generalize plc S j = pj at *
                have n0 := cell_of_row _ _ 0 _ _ _ hN
                have n1 := cell_of_row _ _ 1 _ _ _ hN
                have n2 := cell_of_row _ _ 2 _ _ _ hN
                have HN3 := Lib.hid hN
                have hg3 : w.heap.size < wr.heap.size := by have := HJ.out.ix.lt; omega
                have HVB := Lib.hid (World.ownsRow.lt HJ.out.ix.own)
                clear hal hN hE hsk hnx
                go_wp2_with fail
                refine HNO.out.mono ?_
                rintro e w4 ⟨rfl, v5, hx5, hb5, hn5⟩
                have HJ5 := Lib.hid (HJ3.out.but hx5 hb5 hn5)
                have hN5 := (hb5.block wr.heap.size (by omega) (by omega) (fun e => by have := (HVB.out wr.heap.size e.symm).2; omega)).trans HN3.out
                have HN5 := Lib.hid hN5
                have n50 := cell_of_row _ _ 0 _ _ _ hN5
                have n51 := cell_of_row _ _ 1 _ _ _ hN5
                have hzb : wr.heap.size < w4.heap.size := by have := hb5.size; omega
                have HFI := Lib.hid (find_any _ _ _ y2 (3 * (j : Int)) w4 HJ5.out.ix HC2L.out HC2.out.srt)
                clear hx5 hb5 hn5 hN5 HNO HJ3 HN3
                go_wp2_with fail
                refine HFI.out.mono ?_
                rintro e w5 ⟨r', rfl, hU, hb6⟩
                obtain ⟨a1, a2, a3, a4, a5⟩ := HNF.out r' hU
                rw [show lastE y2.L r' = y2.L.getD (r' - 1) default from by unfold lastE; rw [if_neg (by omega)], decide_eq_true a1]
                generalize y2.L.getD (r' - 1) default = en at *
                obtain ⟨eo, ep, eb⟩ := en
                simp only [Ent.cells] at a2 a3 a4 a5 ⊢
                have hal5 := (RowKit.Below.refl w5.heap.size w5).alloc (Nat.le_refl _) (.cells #[.int .i64 eo, .int .i64 ep, .int .i64 eb] 28)
                have hN6 := heap_alloc_new w5 (.cells #[.int .i64 eo, .int .i64 ep, .int .i64 eb] 28)
                have hb7 := hb6.trans (hal5.mono hb6.size)
                have hM6 := (hb7.block wr.heap.size hzb).trans HN5.out
                have HJ6 := Lib.hid (HJ5.out.below_ hb7)
                have hzz : w5.heap.size < (w5.alloc (.cells #[.int .i64 eo, .int .i64 ep, .int .i64 eb] 28)).heap.size := by simp
                generalize hw6 : w5.alloc (.cells #[.int .i64 eo, .int .i64 ep, .int .i64 eb] 28) = w6 at *
                have q0 := cell_regrown (cell_of_row _ _ 0 _ _ _ hN6)
                have q1 := cell_regrown (cell_of_row _ _ 1 _ _ _ hN6)
                have q2 := cell_regrown (cell_of_row _ _ 0 _ _ _ hM6)
                have q3 := cell_regrown (cell_of_row _ _ 1 _ _ _ hM6)
                have HGP : Hid (∀ dd os, Calls Try.prog 18 #[.pointer (some ⟨w.heap.size, 0, none⟩)] (grow (redrawn w6 dd) os) fun e w' => e = .returned (.int .i64 y2.gap) ∧ ∃ p : Regrown, w' = grow (redrawn w6 p.d) p.os) := fun dd os => Calls.regrown_of ((gap_any _ _ _ y2 _ (HJ6.out.ix.below (below_regrown w6 dd os) (Nat.le_refl _))).mono fun e w' ⟨h1, h2⟩ => ⟨h1, h2 ▸ RowKit.Below.refl _ _⟩)
                rw [HYG.out] at HGP
                have t1 : decide (3 * (j : Int) < eo) = false := by rw [decide_eq_false_iff_not]; omega
                have t3 : decide (gp ≤ pj - ep) = false := by rw [decide_eq_false_iff_not]; omega
                clear hU hb6 hal5 hN6 hb7 hM6 HFI
                go_wp2_with fail
                go_cut [131] (fun s131 wx => s131 = .bool false ∧ RowKit.Below w6.heap.size w6 wx)
                case first =>
                  refine wp_region_quiet_below (by kernel_rfl) (by kernel_rfl) ?_
                  repeat (go_big_quiet_step (exact HGP.out _ _))
                  refine wpQuiet_nil ?_
                  intro _ hw'
                  obtain ⟨⟨dq, osq⟩, hw''⟩ := hw'
                  subst hw''
                  go_wp2_with fail
                  go_meet
                  exact ⟨rfl, below_regrown w6 dq osq⟩
                case rest =>
                  obtain ⟨rfl, hbc⟩ := hcut
                  have HJ7 := Lib.hid (HJ6.out.below_ hbc)
                  clear hbc
                  go_wp2_with fail
                  go_roundw
                  case rel => exact ⟨j + 1, by omega, by go_num, y2, v5, HJ7, HC2⟩
                  case measure => simp [intOf]; omega
            · have d8 : decide ((j : Int) < (k : Int)) = false := by rw [decide_eq_false_iff_not]; omega
              have d9 : decide (j < k) = false := by rw [decide_eq_false_iff_not]; omega
              clear hlt
              go_wp2_with fail
              refine (HA.out _).mono ?_
              rintro e w7 ⟨rfl, hb7⟩
              go_wp2_with fail
              go_ret
              exact ⟨rfl, HJ.out.below.trans (hb7.mono HJ.out.below.size)⟩
theorem cuts_walk' (gap ct : Int) (S : List Int) (A1 : Option Addr) (n1 c1 : Nat) (w : World) (hg : -9223372036854775808 ≤ gap ∧ gap ≤ 9223372036854775807) (hS : Ins w w.heap.size A1 n1 S) (hn : n1 ≤ c1) (hc : c1 ≤ maxLen) :
    Calls Try.prog 6 #[.int .i64 gap, .slice A1 n1 c1, .int .i64 ct] w fun e w' => e = .returned (.bool true) ∧ RowKit.Below w.heap.size w w' := by
  have e := hS.len
  subst e
  exact cuts_walk gap ct S A1 c1 w hg.1 hg.2 hS (Nat.le_trans hn hc)
end Go.Proofs.Ytabbbamokhaaoaa

