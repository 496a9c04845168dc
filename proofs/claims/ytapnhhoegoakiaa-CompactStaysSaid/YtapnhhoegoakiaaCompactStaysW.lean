/-
  The walk through CompactStays.
-/
import Derived.Test.YtapnhhoegoakiaaCpV
namespace Go.Proofs.Ytapnhhoegoakiaa
open Go.RowKit Go.Lib Go.Sort
set_option linter.unusedVariables false
set_option linter.unusedSimpArgs false

set_option maxRecDepth 100000 in
set_option maxHeartbeats 4000000 in
theorem compactStays_any (A : Option Addr) (n c : Nat) (M : List OneC) (hz : Int) (w : World) (h : Ocs w w.heap.size A n M) (hn : n ≤ maxLen) :
    Calls Try.prog 6 #[.slice A n c, .int .i64 hz] w fun e w' => e = .returned (.bool true) ∧ Below w.heap.size w w' := by
  have HLD := Lib.hid (laid_any9 A n c M w h hn)
  have HCL : Hid (∀ (W : World) A n c L, Acs W W.heap.size A n L → List.length L = n → n ≤ 60 → Calls Try.prog 16 #[.int .i64 hz, .slice A n c] W fun e w' => ∃ v, e = .returned v ∧ w'.ownsRow W.heap.size 48 5 v (cleanR hz L).length (ccells (cleanR hz L)) ∧ Below W.heap.size W w') := fun W A n c L h1 h2 h3 => clean_any hz A n c L W h1 (by omega)
  have HNW : Hid (∀ W : World, Calls Try.prog 20 #[] W fun e w' => e = .returned (.pointer (some ⟨W.heap.size, 0, none⟩)) ∧ Hid (w' = W.alloc (.cells #[.int .i64 0, .slice none 0 0] 79))) := fun W => cnew_any W
  have HAP : Hid (∀ (W : World) g n c M A, Tbl W W.heap.size g 0 (.slice none 0 0) [] → Acs W W.heap.size A n M → (∀ p, A = some p → p.block ≠ g) → n ≤ 60 → Calls Try.prog 21 #[.pointer (some ⟨g, 0, none⟩), .slice A n c] W fun e w' => ∃ v', e = .returned (.int .i64 (appE 0 M)) ∧ Tbl w' W.heap.size g (appN 0 M) v' (appT 0 M []) ∧ Tw W.heap.size g W w') := fun W g n c M A h1 h2 h3 h4 => Apply_total W.heap.size g n c 0 _ [] M A W h1 (Nat.le_refl _) h2 h3 (by omega) (by simp)
  have HAW : Hid (∀ W, Calls Try.prog 19 #[] W fun e w' => e = .returned (.bool true) ∧ Below W.heap.size W w') := awake9_any
  have HLEN : Hid (∀ base g next v L W, Tbl W base g next v L → Calls Try.prog 22 #[.pointer (some ⟨g, 0, none⟩)] W fun e w' => e = .returned (.int .i64 (L.length : Int)) ∧ w' = W) := len9_any
  have HNX : Hid (∀ base g next v L W, Tbl W base g next v L → Calls Try.prog 23 #[.pointer (some ⟨g, 0, none⟩)] W fun e w' => e = .returned (.int .i64 next) ∧ w' = W) := next9_any
  have HALL : Hid (∀ base g next v L W, Tbl W base g next v L → L.length ≤ 100000 → Calls Try.prog 24 #[.pointer (some ⟨g, 0, none⟩)] W fun e w' => ∃ v, e = .returned v ∧ w'.ownsRow W.heap.size 48 5 v L.length (ccells L) ∧ Below W.heap.size W w') := all9_any
  have HSM : Hid (∀ base base' g g' next next' v v' L W, Tbl W base g next v L → Tbl W base' g' next' v' L → L.length ≤ 100000 → Calls Try.prog 25 #[.pointer (some ⟨g, 0, none⟩), .pointer (some ⟨g', 0, none⟩)] W fun e w' => e = .returned (.bool true) ∧ Below W.heap.size W w') := same9_yes
  clear h
  go_enter Try.func6, Try.ntmps6
  go_upto_region 2 with (go_at_call 14; (with_reducible refine HLD.out.mono ?_); rintro e w1 ⟨v, u, L, rfl, hL60, hla⟩)
  obtain ⟨A1, c1, rfl, hc1, hcm1, hP⟩ := Acs.of_row hla.p rfl hla.ok
  obtain ⟨A2, c2, rfl, _, _, _⟩ := Acs.of_row hla.q rfl hla.ok
  have P1 := Lib.hid hP
  have B1 := Lib.hid hla.bel
  have Z1 : Hid (w.heap.size ≤ w1.heap.size) := hla.bel.size
  have HOK := Lib.hid hla.ok
  have HLT1 : Hid (∀ p, A1 = some p → p.block < w1.heap.size) := fun p hp => (World.ownsRow.lt hla.p p.block (by rw [hp]; rfl)).2
  have HLE : Hid ((cleanR hz L).length ≤ L.length) := cleanR_len hz L
  have HOKC : Hid (∀ r ∈ cleanR hz L, r.ok) := fun r hr => HOK.out r (cleanR_sub hz L r hr)
  clear hla hP HLD
  go_upto_region 3 with (first
    | (go_at_call 20; (with_reducible refine (HNW.out w1).mono ?_); rintro e wa ⟨rfl, ha⟩)
    | (go_at_call 20; (with_reducible refine (HNW.out wa).mono ?_); rintro e w2 ⟨rfl, hb⟩))
  have za : Hid (wa.heap.size = w1.heap.size + 1) := by show _ = _; rw [ha.out]; simp
  have z2 : Hid (w2.heap.size = w1.heap.size + 2) := by show _ = _; rw [hb.out]; have := za.out; simp; omega
  have Ba : Below w1.heap.size w1 wa := by rw [ha.out]; exact (Below.refl _ _).alloc (Nat.le_refl _) _
  have Bb : Below wa.heap.size wa w2 := by rw [hb.out]; exact (Below.refl _ _).alloc (Nat.le_refl _) _
  have Ta : Tbl wa wa.heap.size w1.heap.size 0 (.slice none 0 0) [] := by rw [ha.out]; exact Tbl.made w1 _
  have T2 := Lib.hid ((Ta.below Bb).rebase w2.heap.size)
  have U2 : Hid (Tbl w2 w2.heap.size wa.heap.size 0 (.slice none 0 0) []) := by show Tbl _ _ _ _ _ _; rw [hb.out]; exact Tbl.made wa _
  have B12 : Below w1.heap.size w1 w2 := Ba.trans (Bb.mono (by have := za.out; omega))
  have P2 := Lib.hid ((P1.out.below B12).wider B12.size)
  have B2 := Lib.hid (B1.out.trans (B12.mono B1.out.size))
  clear ha hb Ba Bb Ta B12 P1 B1
  go_upto_region 4 with (go_at_call 21; (with_reducible refine (HAP.out _ _ _ _ L A1 T2.out P2.out ?_ hL60).mono ?_); (intro p hp; have := HLT1.out p hp; omega); rintro e w3 ⟨v3, rfl, ht3, htw3⟩)
  have T3 := Lib.hid ht3
  have P3 := Lib.hid ((P2.out.tw htw3 (fun p hp => by have := HLT1.out p hp; omega)).wider htw3.size)
  have U3 := Lib.hid (U2.out.tw htw3 (Nat.le_refl _) (by have := za.out; omega) (by simp [Value.ownBlock]))
  have B3 : Hid (Below w.heap.size w w3) := B2.out.trans (htw3.below B2.out.size Z1.out)
  have Z3 : Hid (w2.heap.size ≤ w3.heap.size) := htw3.size
  clear ht3 htw3 T2 P2 U2 B2
  go_upto_region 5 with (first
    | (go_at_call 16; (with_reducible refine (HCL.out _ _ _ _ L P3.out rfl hL60).mono ?_); rintro e w4 ⟨v4, rfl, hv4, hb4⟩; have HG4 : Hid (∀ p, v4.ownBlock = some p → w3.heap.size ≤ p) := (fun p hp => (World.ownsRow.lt hv4 p hp).1); obtain ⟨A4, c4, rfl, _, _, hA4⟩ := Acs.of_row hv4 rfl HOKC.out)
    | (go_at_call 21; (with_reducible refine (HAP.out _ _ _ _ (cleanR hz L) A4 ((U3.out.below hb4).rebase _) hA4 ?_ (by have := HLE.out; omega)).mono ?_); (intro p hp; subst hp; have := HG4.out p.block rfl; have := za.out; have := z2.out; have := Z3.out; omega); rintro e w5 ⟨v5, rfl, ht5, htw5⟩))
  have U5 := Lib.hid ht5
  have T5 := Lib.hid ((T3.out.below hb4).tw htw5 (Nat.le_refl _) (by have := za.out; omega) (fun e => by have := (World.ownsRow.lt T3.out.row _ e).1; have := za.out; have := z2.out; omega))
  have B5 : Hid (Below w.heap.size w w5) := (B3.out.trans (hb4.mono B3.out.size)).trans (htw5.below (Nat.le_trans B3.out.size hb4.size) (by have := Z1.out; have := za.out; omega))
  clear hv4 hb4 hA4 ht5 htw5 U3 T3 P3 B3
  have HLR : Hid ((appAll L []).length ≤ 60) := by show _ ≤ _; have := app_len L []; simp at this; omega
  cases hokA : okA 0 L with
  | false =>
    have e1 : appE 0 L = 8 := by unfold appE; rw [hokA]; rfl
    have e2 : appN 0 L = 0 := by
      unfold appN; unfold okA at hokA
      rw [Bool.or_eq_false_iff, decide_eq_false_iff_not] at hokA
      rw [if_neg hokA.1, if_neg (by rw [hokA.2]; simp)]
    have e3 : appT 0 L [] = [] := by unfold appT; rw [hokA]; rfl
    rw [e2, e3] at T5
    rw [e1]
    clear e1 e2 e3 hokA U5
    go_wp2_with (first
      | (go_at_call 22; (with_reducible refine (HLEN.out _ _ _ _ _ _ T5.out).mono ?_); rintro e w6 ⟨rfl, rfl⟩)
      | (go_at_call 23; (with_reducible refine (HNX.out _ _ _ _ _ _ T5.out).mono ?_); rintro e w7 ⟨rfl, rfl⟩)
      | (go_at_call 19; (with_reducible refine (HAW.out _).mono ?_); rintro e w8 ⟨rfl, hb8⟩))
    go_ret
    exact ⟨rfl, B5.out.trans (hb8.mono B5.out.size)⟩
  | true =>
    have hokC := okA_clean hz hokA
    have e1 : appE 0 L = 0 := by unfold appE; rw [hokA]; rfl
    have e2 : appE 0 (cleanR hz L) = 0 := by unfold appE; rw [hokC]; rfl
    have e3 : appT 0 L [] = appAll L [] := by unfold appT; rw [hokA]; rfl
    have e4 : appT 0 (cleanR hz L) [] = appAll L [] := by unfold appT; rw [hokC, if_pos rfl]; exact app_clean hz L
    rw [e3] at T5
    rw [e4] at U5
    rw [e1, e2]
    clear e1 e2 e3 e4 hokA hokC
    generalize appAll L [] = R at *
    have hR60 := HLR.out
    go_upto_region 8 with (first
      | (go_at_call 24; (with_reducible refine (HALL.out _ _ _ _ _ w5 T5.out (by omega)).mono ?_); rintro e w6 ⟨v6, rfl, hv6, hb6⟩; obtain ⟨A6, c6, rfl, _, _, hA6⟩ := Acs.of_row hv6 rfl T5.out.ok; have U6 := Lib.hid (U5.out.below hb6))
      | (go_at_call 24; (with_reducible refine (HALL.out _ _ _ _ _ w6 U6.out (by omega)).mono ?_); rintro e w7 ⟨v7, rfl, hv7, hb7⟩; obtain ⟨A7, c7, rfl, _, _, hA7⟩ := Acs.of_row hv7 rfl T5.out.ok))
    have T7 := Lib.hid ((T5.out.below hb6).below hb7)
    have U7 := Lib.hid (U6.out.below hb7)
    have X7 := Lib.hid ((hA6.below hb7).wider hb7.size)
    have Y7 := Lib.hid hA7
    have B7 := Lib.hid ((B5.out.trans (hb6.mono B5.out.size)).trans (hb7.mono (Nat.le_trans B5.out.size hb6.size)))
    clear hv6 hb6 hA6 hv7 hb7 hA7 T5 U5 U6 B5
    go_upto_region 10 with (go_at_call 25; (with_reducible refine (HSM.out _ _ _ _ _ _ _ _ R _ T7.out U7.out (by omega)).mono ?_); rintro e w8 ⟨rfl, hb8⟩)
    have X8 := Lib.hid ((X7.out.below hb8).wider hb8.size)
    have Y8 := Lib.hid ((Y7.out.below hb8).wider hb8.size)
    have B8 := Lib.hid (B7.out.trans (hb8.mono B7.out.size))
    clear hb8 X7 Y7 B7 T7 U7
    go_wp2_with fail
    go_loopw [67] (fun i wr => ∃ k : Nat, k ≤ R.length ∧ i = .int .i64 k ∧ Hid (Below w8.heap.size w8 wr)) (fun i _ => R.length - (RowKit.intOf i).toNat)
    case atStart => exact ⟨0, by omega, rfl, Below.refl _ _⟩
    case round =>
      obtain ⟨k, hk, rfl, HB⟩ := hrel
      by_cases hlt : k < R.length
      · obtain ⟨p1, rfl, hp1, r0, r1, r2, r3, r4⟩ := (X8.out.below HB.out).row hlt
        obtain ⟨p2, rfl, hp2, s0, s1, s2, s3, s4⟩ := (Y8.out.below HB.out).row hlt
        generalize R.getD k default = re at *
        obtain ⟨off, key, value, gone, time⟩ := re
        simp only at r0 r1 r2 r3 r4 s0 s1 s2 s3 s4
        have hne := fun w => neAt9 off key value gone time w
        have g0 := cell_regrown r0
        have g1 := cell_regrown r1
        have g2 := cell_regrown r2
        have g3 := cell_regrown r3
        have g4 := cell_regrown r4
        have f0 := cell_regrown s0
        have f1 := cell_regrown s1
        have f2 := cell_regrown s2
        have f3 := cell_regrown s3
        have f4 := cell_regrown s4
        have hkz : (k : Int) < (R.length : Int) := by omega
        clear r0 r1 r2 r3 r4 s0 s1 s2 s3 s4
        go_wp2_with fail
        refine wp_region_quiet_below (by kernel_rfl) (by kernel_rfl) ?_
        repeat (go_big_quiet_step (fail))
        refine wpQuiet_nil ?_
        intro _ hw'
        obtain ⟨⟨dq, osq⟩, hw''⟩ := hw'
        subst hw''
        have HB2 := Lib.hid (HB.out.trans ((below_regrown wr dq osq).mono HB.out.size))
        go_wp2_with fail
        go_roundw
        case rel => exact ⟨k + 1, by omega, by go_num, HB2⟩
        case measure => simp [RowKit.intOf]; omega
      · have d8 : decide ((k : Int) < (R.length : Int)) = false := by rw [decide_eq_false_iff_not]; omega
        go_wp2_with (go_at_call 19; (with_reducible refine (HAW.out _).mono ?_); rintro e w9 ⟨rfl, hb9⟩)
        go_ret
        exact ⟨rfl, (B8.out.trans (HB.out.mono B8.out.size)).trans (hb9.mono (Nat.le_trans B8.out.size HB.out.size))⟩
end Go.Proofs.Ytapnhhoegoakiaa
