/-
  The walk through CompactAgain.
-/
import Derived.Test.YtapnhhoegoakiaaCpS
namespace Go.Proofs.Ytapnhhoegoakiaa
open Go.RowKit Go.Lib Go.Sort
set_option linter.unusedVariables false
set_option linter.unusedSimpArgs false

theorem tmod_bd (x : Int) (n : Nat) : -(n : Int) ≤ x.tmod ((n : Int) + 1) ∧ x.tmod ((n : Int) + 1) ≤ (n : Int) := by
  rw [Go.tmod_eq_if]
  have h1 := Int.emod_nonneg x (show ((n : Int) + 1) ≠ 0 by omega)
  have h2 := Int.emod_lt_of_pos x (show (0 : Int) < (n : Int) + 1 by omega)
  have h3 := Int.emod_nonneg (-x) (show ((n : Int) + 1) ≠ 0 by omega)
  have h4 := Int.emod_lt_of_pos (-x) (show (0 : Int) < (n : Int) + 1 by omega)
  split <;> omega
set_option maxRecDepth 100000 in
set_option maxHeartbeats 4000000 in
theorem compactAgain_any (A : Option Addr) (n c : Nat) (M : List OneC) (hz cut : Int) (w : World) (h : Ocs w w.heap.size A n M) (hn : n ≤ maxLen) :
    Calls Try.prog 5 #[.slice A n c, .int .i64 hz, .int .i64 cut] w fun e w' => e = .returned (.bool true) ∧ Below w.heap.size w w' := by
  have HLD := Lib.hid (laid_any9 A n c M w h hn)
  have HCL : Hid (∀ (W : World) A n c L, Acs W W.heap.size A n L → List.length L = n → n ≤ 60 → Calls Try.prog 16 #[.int .i64 hz, .slice A n c] W fun e w' => ∃ v, e = .returned v ∧ w'.ownsRow W.heap.size 48 5 v (cleanR hz L).length (ccells (cleanR hz L)) ∧ Below W.heap.size W w') := fun W A n c L h1 h2 h3 => clean_any hz A n c L W h1 (by omega)
  have HAW : Hid (∀ W, Calls Try.prog 19 #[] W fun e w' => e = .returned (.bool true) ∧ Below W.heap.size W w') := awake9_any
  clear h
  go_enter Try.func5, Try.ntmps5
  go_upto_region 2 with (go_at_call 14; (with_reducible refine HLD.out.mono ?_); rintro e w1 ⟨v, u, L, rfl, hL60, hla⟩)
  obtain ⟨A1, c1, rfl, hc1, hcm1, hP⟩ := Acs.of_row hla.p rfl hla.ok
  obtain ⟨A2, c2, rfl, _, _, _⟩ := Acs.of_row hla.q rfl hla.ok
  have P1 := Lib.hid hP
  have B1 := Lib.hid hla.bel
  have HOK := Lib.hid hla.ok
  have HN1 := Lib.hid (row_none hla.p)
  have HLE : Hid ((cleanR hz L).length ≤ L.length) := cleanR_len hz L
  have HOKC : Hid (∀ r ∈ cleanR hz L, r.ok) := fun r hr => HOK.out r (cleanR_sub hz L r hr)
  have HTWI : Hid (cleanR hz (cleanR hz L) = cleanR hz L) := clean_again hz L
  clear hla hP HLD
  go_upto_region 3 with (go_at_call 16; (with_reducible refine (HCL.out _ _ _ _ L P1.out rfl hL60).mono ?_); rintro e w2 ⟨v2, rfl, hv2, hb2⟩)
  obtain ⟨A3, c3, rfl, _, _, hO⟩ := Acs.of_row hv2 rfl HOKC.out
  have P2 := Lib.hid ((P1.out.below hb2).wider hb2.size)
  have O2 := Lib.hid hO
  have B2 := Lib.hid (B1.out.trans (hb2.mono B1.out.size))
  clear hv2 hb2 hO P1 B1
  go_upto_region 4 with (go_at_call 16; (with_reducible refine (HCL.out _ _ _ _ (cleanR hz L) O2.out rfl (by have := HLE.out; omega)).mono ?_); rintro e w3 ⟨v3, rfl, hv3, hb3⟩)
  rw [HTWI.out] at hv3
  obtain ⟨A4, c4, rfl, _, _, hT⟩ := Acs.of_row hv3 rfl HOKC.out
  have P3 := Lib.hid ((P2.out.below hb3).wider hb3.size)
  have O3 := Lib.hid ((O2.out.below hb3).wider hb3.size)
  have TW3 := Lib.hid hT
  have B3 := Lib.hid (B2.out.trans (hb3.mono B2.out.size))
  clear hv3 hb3 hT P2 O2 B2 HTWI
  have hnz : ¬ ((L.length : Int) + 1 = 0) := by omega
  have hnb : ((L.length : Int) + 1 == 0) = false := by simp; omega
  go_upto_if 31 with fail
  have htm := tmod_bd cut L.length
  obtain ⟨tm, htme⟩ : ∃ tm, cut.tmod ((L.length : Int) + 1) = tm := ⟨_, rfl⟩
  rw [htme] at htm ⊢
  clear htme
  go_cut [31, 2] (fun s31 s2 wx => ∃ z : Nat, s2 = .int .i64 z ∧ z ≤ L.length ∧ wx = w3)
  case first =>
    by_cases h1 : tm < 0
    · have hd : decide (tm < 0) = true := by simp [h1]
      go_wp2_with fail
      go_meet
      exact ⟨(-tm).toNat, by first | rfl | (rw [show (((-tm).toNat : Nat) : Int) = -tm by omega]) , by omega, rfl⟩
    · have hd : decide (tm < 0) = false := by simp; omega
      go_wp2_with fail
      go_meet
      exact ⟨tm.toNat, by first | rfl | (rw [show ((tm.toNat : Nat) : Int) = tm by omega]), by omega, rfl⟩
  case rest =>
    obtain ⟨z, rfl, hzl, hwc⟩ := hcut
    subst hwc
    have T3 := Lib.hid (P3.out.take z hzl)
    have D3 := Lib.hid (P3.out.drop z c1 hzl hc1)
    obtain ⟨w4, hw4⟩ : ∃ w4, wc.alloc (.cells #[] 48) = w4 := ⟨_, rfl⟩
    have B34 : Hid (Below wc.heap.size wc w4) := by show Below _ _ _; rw [← hw4]; exact (Below.refl _ _).alloc (Nat.le_refl _) _
    have Z4 : Hid (w4.heap.size = wc.heap.size + 1) := by show _ = _; rw [← hw4]; simp
    have R4 : Hid (w4.ownsRow wc.heap.size 48 5 (.slice (some ⟨wc.heap.size, 0, none⟩) 0 0) ([] : List AtC).length (ccells [])) := by show World.ownsRow _ _ _ _ _ _ _; rw [← hw4]; exact World.ownsRow_lit wc #[] 0 (Nat.le_refl _) (Nat.zero_le _) rfl
    have T4 := Lib.hid ((T3.out.below B34.out).wider B34.out.size)
    have HW4 := Lib.hid hw4
    have HOKT : Hid (∀ z, ∀ r ∈ cleanR hz (L.take z), r.ok) := fun z r hr => HOK.out r (List.mem_of_mem_take (cleanR_sub hz _ r hr))
    have HOKP : Hid (∀ r ∈ cleanR hz (L.take z) ++ L.drop z, r.ok) := fun r hr => by
      rcases List.mem_append.1 hr with hr | hr
      · exact HOKT.out z r hr
      · exact HOK.out r (List.mem_of_mem_drop hr)
    have HLT : Hid ((cleanR hz (L.take z)).length ≤ z) := by show _ ≤ _; have := cleanR_len hz (L.take z); simp at this; omega
    have HPARTS : Hid (cleanR hz (cleanR hz (L.take z) ++ L.drop z) = cleanR hz L) := clean_parts hz L z
    clear hw4 T3
    have hzc : z ≤ c1 := by omega
    cases A1 with
    | none =>
      obtain ⟨hn0, hc0⟩ := HN1.out rfl
      have hz0 : z = 0 := by omega
      subst hz0 hc0
      have PD : Hid (Acs wc wc.heap.size none 0 (L.drop 0)) := by have := D3.out; rw [if_pos rfl, show L.length - 0 = 0 by omega] at this; exact this
      clear D3
      skip
      go_upto_region 8 with (first
        | (go_at_call 16; rw [HW4.out]; (with_reducible refine (HCL.out _ _ _ _ (L.take 0) T4.out T4.out.len (by omega)).mono ?_); rintro e w5 ⟨v5, rfl, hv5, hb5⟩; have hrow5 := rowb5 R4.out hb5; obtain ⟨A5, c5, rfl, _, _, hA5⟩ := Acs.of_row hv5 rfl (HOKT.out _); obtain ⟨v6, w6, hr6, hown6, hg6⟩ := run_append_acs wc.heap.size 36 _ [] (cleanR hz (L.take 0)) A5 _ c5 w5 hrow5 hA5 (by have := HLT.out; simp only [List.length_nil]; omega) (by have := hb5.size; have := Z4.out; omega) (row_none hv5))
        | (at_builtin; refine Lib.wpList_append_run _ rfl _ _ _ _ rfl _ _ rfl rfl _ _ hr6 ?_))
      have R6 : Hid (w6.ownsRow wc.heap.size 48 5 v6 (cleanR hz (L.take 0)).length (ccells (cleanR hz (L.take 0)))) := hown6
      have B36 : Hid (Below wc.heap.size wc w6) := (B34.out.trans (hb5.mono (by have := Z4.out; omega))).trans ((Below.refl _ _).grown hg6 (by have := hb5.size; have := Z4.out; omega) (fun q hq => (World.ownsRow.lt hrow5 q hq).1))
      obtain ⟨A6, c6, rfl, _, _⟩ := row_any hown6
      clear hrow5 hv5 hb5 hA5 hr6 hown6 hg6
      obtain ⟨v7, w7, hr7, hown7, hg7⟩ := run_append_acs wc.heap.size 36 _ (cleanR hz (L.take 0)) (L.drop 0) none 0 0 w6 R6.out ((PD.out.below B36.out).wider B36.out.size) (by have := HLT.out; omega) B36.out.size (by intro e; first | exact ⟨rfl, rfl⟩ | cases e)
      go_upto_region 9 with (at_builtin; refine Lib.wpList_append_run _ rfl _ _ _ _ rfl _ _ rfl rfl _ _ hr7 ?_)
      have hB37 : Below wc.heap.size wc w7 := B36.out.trans ((Below.refl _ _).grown hg7 B36.out.size (fun q hq => (World.ownsRow.lt R6.out q hq).1))
      have B37 := Lib.hid hB37
      obtain ⟨n7, hn7⟩ : ∃ n7, (cleanR hz (L.take 0) ++ L.drop 0).length = n7 := ⟨_, rfl⟩
      have HN7 : Hid (n7 ≤ 60) := by show _ ≤ _; rw [← hn7]; have := HLT.out; simp only [List.length_append, List.length_drop]; omega
      rw [hn7] at hown7
      obtain ⟨A7, c7, rfl, _, _, hA7⟩ := Acs.of_row hown7 hn7 HOKP.out
      have HA7 := Lib.hid hA7
      clear hn7
      clear hr7 hown7 hg7 hA7 hB37 R6 B36
      go_upto_region 10 with (go_at_call 16; (with_reducible refine (HCL.out _ _ _ _ (cleanR hz (L.take 0) ++ L.drop 0) HA7.out HA7.out.len HN7.out).mono ?_); rintro e w8 ⟨v8, rfl, hv8, hb8⟩)
      rw [HPARTS.out] at hv8
      obtain ⟨A8, c8, rfl, _, _, hA8⟩ := Acs.of_row hv8 rfl HOKC.out
      have B38 := Lib.hid (B37.out.trans (hb8.mono B37.out.size))
      have L8 := Lib.hid hA8
      have O8 := Lib.hid ((O3.out.below B38.out).wider B38.out.size)
      have T8 := Lib.hid ((TW3.out.below B38.out).wider B38.out.size)
      have B8 := Lib.hid (B3.out.trans (B38.out.mono B3.out.size))
      generalize cleanR hz L = CL at *
      have hCL60 : CL.length ≤ 60 := by have := HLE.out; omega
      clear hv8 hb8 hA8 B37 HA7 HPARTS HOKC HOKP HLT PD B34 R4 T4 HOKT Z4 HCL B38 B3 O3 TW3
      go_wp2_with fail
      go_loopw [63] (fun i wr => ∃ k : Nat, k ≤ CL.length ∧ i = .int .i64 k ∧ Hid (Below w8.heap.size w8 wr)) (fun i _ => CL.length - (RowKit.intOf i).toNat)
      case atStart => exact ⟨0, by omega, rfl, Below.refl _ _⟩
      case round =>
        obtain ⟨k, hk, rfl, HB⟩ := hrel
        by_cases hlt : k < CL.length
        · obtain ⟨p1, rfl, hp1, r0, r1, r2, r3, r4⟩ := (O8.out.below HB.out).row hlt
          obtain ⟨p2, rfl, hp2, s0, s1, s2, s3, s4⟩ := (T8.out.below HB.out).row hlt
          obtain ⟨p3, rfl, hp3, t0, t1, t2, t3, t4⟩ := (L8.out.below HB.out).row hlt
          generalize CL.getD k default = re at *
          obtain ⟨off, key, value, gone, time⟩ := re
          simp only at r0 r1 r2 r3 r4 s0 s1 s2 s3 s4 t0 t1 t2 t3 t4
          have hne := fun w => neAt9 off key value gone time w
          have g0 := cell_regrown r0
          have g1 := cell_regrown r1
          have g2 := cell_regrown r2
          have g3 := cell_regrown r3
          have g4 := cell_regrown r4
          have f0 := cell_regrown s0
          have f1 := cell_regrown s1
          have f2 := cell_regrown s2
          have f3 := cell_regrown s3
          have f4 := cell_regrown s4
          have e0 := cell_regrown t0
          have e1 := cell_regrown t1
          have e2 := cell_regrown t2
          have e3 := cell_regrown t3
          have e4 := cell_regrown t4
          have hkz : (k : Int) < (CL.length : Int) := by omega
          clear r0 r1 r2 r3 r4 s0 s1 s2 s3 s4 t0 t1 t2 t3 t4
          go_wp2_with fail
          refine wp_region_quiet_below (by kernel_rfl) (by kernel_rfl) ?_
          repeat (go_big_quiet_step (fail))
          refine wpQuiet_nil ?_
          intro _ hw'
          obtain ⟨⟨dq, osq⟩, hw''⟩ := hw'
          subst hw''
          have HB2 := Lib.hid (HB.out.trans ((below_regrown wr dq osq).mono HB.out.size))
          go_wp2_with fail
          go_roundw
          case rel => exact ⟨k + 1, by omega, by go_num, HB2⟩
          case measure => simp [RowKit.intOf]; omega
        · have d8 : decide ((k : Int) < (CL.length : Int)) = false := by rw [decide_eq_false_iff_not]; omega
          go_wp2_with (go_at_call 19; (with_reducible refine (HAW.out _).mono ?_); rintro e w9 ⟨rfl, hb9⟩)
          go_ret
          exact ⟨rfl, (B8.out.trans (HB.out.mono B8.out.size)).trans (hb9.mono (Nat.le_trans B8.out.size HB.out.size))⟩
    | some p =>
      obtain ⟨A', hA', PD⟩ : ∃ A' : Addr, (if c1 = z then some p else some (p.add (z * 5))) = some A' ∧ Hid (Acs wc wc.heap.size (some A') (L.length - z) (L.drop z)) := by
        by_cases hck : c1 = z
        · exact ⟨p, by rw [if_pos hck], by have := D3.out; rw [if_pos hck] at this; exact this⟩
        · exact ⟨p.add (z * 5), by rw [if_neg hck], by have := D3.out; rw [if_neg hck] at this; exact this⟩
      clear D3
      skip
      go_upto_region 8 with (first
        | (go_at_call 16; rw [HW4.out]; (with_reducible refine (HCL.out _ _ _ _ (L.take z) T4.out T4.out.len (by omega)).mono ?_); rintro e w5 ⟨v5, rfl, hv5, hb5⟩; have hrow5 := rowb5 R4.out hb5; obtain ⟨A5, c5, rfl, _, _, hA5⟩ := Acs.of_row hv5 rfl (HOKT.out _); obtain ⟨v6, w6, hr6, hown6, hg6⟩ := run_append_acs wc.heap.size 36 _ [] (cleanR hz (L.take z)) A5 _ c5 w5 hrow5 hA5 (by have := HLT.out; simp only [List.length_nil]; omega) (by have := hb5.size; have := Z4.out; omega) (row_none hv5))
        | (at_builtin; refine Lib.wpList_append_run _ rfl _ _ _ _ rfl _ _ rfl rfl _ _ hr6 ?_))
      have R6 : Hid (w6.ownsRow wc.heap.size 48 5 v6 (cleanR hz (L.take z)).length (ccells (cleanR hz (L.take z)))) := hown6
      have B36 : Hid (Below wc.heap.size wc w6) := (B34.out.trans (hb5.mono (by have := Z4.out; omega))).trans ((Below.refl _ _).grown hg6 (by have := hb5.size; have := Z4.out; omega) (fun q hq => (World.ownsRow.lt hrow5 q hq).1))
      obtain ⟨A6, c6, rfl, _, _⟩ := row_any hown6
      clear hrow5 hv5 hb5 hA5 hr6 hown6 hg6
      obtain ⟨v7, w7, hr7, hown7, hg7⟩ := run_append_acs wc.heap.size 36 _ (cleanR hz (L.take z)) (L.drop z) (some A') (L.length - z) (c1 - z) w6 R6.out ((PD.out.below B36.out).wider B36.out.size) (by have := HLT.out; omega) B36.out.size (by intro e; first | exact ⟨rfl, rfl⟩ | cases e)
      go_upto_region 9 with (at_builtin; refine Lib.wpList_append_run _ rfl _ _ _ _ rfl _ _ rfl rfl _ _ hr7 ?_)
      have hB37 : Below wc.heap.size wc w7 := B36.out.trans ((Below.refl _ _).grown hg7 B36.out.size (fun q hq => (World.ownsRow.lt R6.out q hq).1))
      have B37 := Lib.hid hB37
      obtain ⟨n7, hn7⟩ : ∃ n7, (cleanR hz (L.take z) ++ L.drop z).length = n7 := ⟨_, rfl⟩
      have HN7 : Hid (n7 ≤ 60) := by show _ ≤ _; rw [← hn7]; have := HLT.out; simp only [List.length_append, List.length_drop]; omega
      rw [hn7] at hown7
      obtain ⟨A7, c7, rfl, _, _, hA7⟩ := Acs.of_row hown7 hn7 HOKP.out
      have HA7 := Lib.hid hA7
      clear hn7
      clear hr7 hown7 hg7 hA7 hB37 R6 B36
      go_upto_region 10 with (go_at_call 16; (with_reducible refine (HCL.out _ _ _ _ (cleanR hz (L.take z) ++ L.drop z) HA7.out HA7.out.len HN7.out).mono ?_); rintro e w8 ⟨v8, rfl, hv8, hb8⟩)
      rw [HPARTS.out] at hv8
      obtain ⟨A8, c8, rfl, _, _, hA8⟩ := Acs.of_row hv8 rfl HOKC.out
      have B38 := Lib.hid (B37.out.trans (hb8.mono B37.out.size))
      have L8 := Lib.hid hA8
      have O8 := Lib.hid ((O3.out.below B38.out).wider B38.out.size)
      have T8 := Lib.hid ((TW3.out.below B38.out).wider B38.out.size)
      have B8 := Lib.hid (B3.out.trans (B38.out.mono B3.out.size))
      generalize cleanR hz L = CL at *
      have hCL60 : CL.length ≤ 60 := by have := HLE.out; omega
      clear hv8 hb8 hA8 B37 HA7 HPARTS HOKC HOKP HLT PD B34 R4 T4 HOKT Z4 HCL B38 B3 O3 TW3
      go_wp2_with fail
      go_loopw [63] (fun i wr => ∃ k : Nat, k ≤ CL.length ∧ i = .int .i64 k ∧ Hid (Below w8.heap.size w8 wr)) (fun i _ => CL.length - (RowKit.intOf i).toNat)
      case atStart => exact ⟨0, by omega, rfl, Below.refl _ _⟩
      case round =>
        obtain ⟨k, hk, rfl, HB⟩ := hrel
        by_cases hlt : k < CL.length
        · obtain ⟨p1, rfl, hp1, r0, r1, r2, r3, r4⟩ := (O8.out.below HB.out).row hlt
          obtain ⟨p2, rfl, hp2, s0, s1, s2, s3, s4⟩ := (T8.out.below HB.out).row hlt
          obtain ⟨p3, rfl, hp3, t0, t1, t2, t3, t4⟩ := (L8.out.below HB.out).row hlt
          generalize CL.getD k default = re at *
          obtain ⟨off, key, value, gone, time⟩ := re
          simp only at r0 r1 r2 r3 r4 s0 s1 s2 s3 s4 t0 t1 t2 t3 t4
          have hne := fun w => neAt9 off key value gone time w
          have g0 := cell_regrown r0
          have g1 := cell_regrown r1
          have g2 := cell_regrown r2
          have g3 := cell_regrown r3
          have g4 := cell_regrown r4
          have f0 := cell_regrown s0
          have f1 := cell_regrown s1
          have f2 := cell_regrown s2
          have f3 := cell_regrown s3
          have f4 := cell_regrown s4
          have e0 := cell_regrown t0
          have e1 := cell_regrown t1
          have e2 := cell_regrown t2
          have e3 := cell_regrown t3
          have e4 := cell_regrown t4
          have hkz : (k : Int) < (CL.length : Int) := by omega
          clear r0 r1 r2 r3 r4 s0 s1 s2 s3 s4 t0 t1 t2 t3 t4
          go_wp2_with fail
          refine wp_region_quiet_below (by kernel_rfl) (by kernel_rfl) ?_
          repeat (go_big_quiet_step (fail))
          refine wpQuiet_nil ?_
          intro _ hw'
          obtain ⟨⟨dq, osq⟩, hw''⟩ := hw'
          subst hw''
          have HB2 := Lib.hid (HB.out.trans ((below_regrown wr dq osq).mono HB.out.size))
          go_wp2_with fail
          go_roundw
          case rel => exact ⟨k + 1, by omega, by go_num, HB2⟩
          case measure => simp [RowKit.intOf]; omega
        · have d8 : decide ((k : Int) < (CL.length : Int)) = false := by rw [decide_eq_false_iff_not]; omega
          go_wp2_with (go_at_call 19; (with_reducible refine (HAW.out _).mono ?_); rintro e w9 ⟨rfl, hb9⟩)
          go_ret
          exact ⟨rfl, (B8.out.trans (HB.out.mono B8.out.size)).trans (hb9.mono (Nat.le_trans B8.out.size HB.out.size))⟩
end Go.Proofs.Ytapnhhoegoakiaa
