/-
  What the document's table's Same does.
-/
import Derived.Test.YtmlekkbjmfknfaaCtI
namespace Go.Proofs.Ytmlekkbjmfknfaa
open Go.RowKit Go.Lib Go.Sort
set_option linter.unusedVariables false
set_option linter.unusedSimpArgs false

set_option maxRecDepth 100000 in
set_option maxHeartbeats 4000000 in
theorem rsame9_any (base base' g g' : Nat) (next next' : Int) (v v' : Value) (L M R R' : List AtC) (w : World) (hT : Rt w base g next v R) (hT' : Rt w base' g' next' v' R') (h : Alk L R) (hs : Srt L) (h' : Alk M R') (hs' : Srt M) (hR : R.length ≤ 100000) (hR' : R'.length ≤ 100000) :
    Calls Try.prog 14 #[.pointer (some ⟨g, 0, none⟩), .pointer (some ⟨g', 0, none⟩)] w fun e w' => e = .returned (.bool (sayL L M)) ∧ Below w.heap.size w w' := by
  have HA1 : Hid (Calls Try.prog 42 #[.pointer (some ⟨g, 0, none⟩)] w fun e w' => ∃ v', e = .returned v' ∧ w'.ownsRow w.heap.size 90 5 v' L.length (ccells L) ∧ Below w.heap.size w w') := rall_any base g next v L R w hT h hs hR
  have HA2 : Hid (∀ W, Below w.heap.size w W → Calls Try.prog 42 #[.pointer (some ⟨g', 0, none⟩)] W fun e w' => ∃ v', e = .returned v' ∧ w'.ownsRow W.heap.size 90 5 v' M.length (ccells M) ∧ Below W.heap.size W w') := fun W hW => rall_any base' g' next' v' M R' W (hT'.below hW) h' hs' hR'
  have HOL : Hid (∀ r ∈ L, r.ok) := fun r hr => hT.ok r ((h.mem r).1 hr)
  have HOM : Hid (∀ r ∈ M, r.ok) := fun r hr => hT'.ok r ((h'.mem r).1 hr)
  have hl1 := h.len hs
  have hl2 := h'.len hs'
  have hL : L.length ≤ 100000 := by omega
  have hM : M.length ≤ 100000 := by omega
  have HSL : Hid (sayL L M = (decide (L.length = M.length) && sayAll (L.drop 0) (M.drop 0))) := rfl
  have HST : Hid (∀ k, k < L.length → k < M.length → sayAll (L.drop k) (M.drop k) = (sayB (L.getD k default) (M.getD k default) && sayAll (L.drop (k + 1)) (M.drop (k + 1)))) := fun k h1 h2 => say_step L M k h1 h2
  have HEN : Hid (∀ k, L.length ≤ k → sayAll (L.drop k) (M.drop k) = true) := fun k h1 => say_end L M k h1
  generalize sayL L M = SB at *
  obtain ⟨D, hD⟩ : ∃ D : Nat → Bool, ∀ k, D k = sayAll (L.drop k) (M.drop k) := ⟨_, fun _ => rfl⟩
  simp only [← hD] at HSL HST HEN
  clear hD hT hT' h h' hs hs' hl1 hl2
  go_enter Try.func14, Try.ntmps14
  go_upto_region 2 with (first
    | (go_at_call 42; (with_reducible refine HA1.out.mono ?_); rintro e w1 ⟨v1, rfl, hv1, hb1⟩)
    | (go_at_call 42; (with_reducible refine (HA2.out w1 hb1).mono ?_); rintro e w2 ⟨v2, rfl, hv2, hb2⟩))
  obtain ⟨A1, c1, rfl, _, _, hA1⟩ := Acs.of_row hv1 rfl HOL.out
  obtain ⟨A2, c2, rfl, _, _, hA2⟩ := Acs.of_row hv2 rfl HOM.out
  have X1 := Lib.hid ((hA1.below hb2).wider hb2.size)
  have X2 := Lib.hid hA2
  have B2 := Lib.hid (hb1.trans (hb2.mono hb1.size))
  clear hv1 hv2 hb1 hb2 hA1 hA2 HA1 HA2
  by_cases hnn : L.length = M.length
  · have HS0 : Hid (SB = D 0) := by show _ = _; rw [HSL.out]; simp [hnn]
    clear HSL
    generalize L.length = n at *
    generalize M.length = m at *
    subst hnn
    go_wp2_with fail
    go_loopw [19] (fun i wr => ∃ k : Nat, k ≤ n ∧ i = .int .i64 k ∧ Hid (SB = D k) ∧ Hid (Below w2.heap.size w2 wr)) (fun i _ => n - (RowKit.intOf i).toNat)
    case atStart => exact ⟨0, by omega, rfl, HS0.out, Below.refl _ _⟩
    case round =>
      obtain ⟨k, hk, rfl, HSK, HB⟩ := hrel
      by_cases hlt : k < n
      · obtain ⟨p, rfl, hp, r0, r1, r2, r3, r4⟩ := (X1.out.below HB.out).row hlt
        obtain ⟨p', rfl, hp', s0, s1, s2, s3, s4⟩ := (X2.out.below HB.out).row hlt
        have HSD := Lib.hid (HST.out k hlt hlt)
        generalize L.getD k default = re at *
        generalize M.getD k default = rf at *
        have hkz : (k : Int) < (n : Int) := by omega
        have g1 := cell_regrown r1
        have g2 := cell_regrown r2
        have f1 := cell_regrown s1
        have f2 := cell_regrown s2
        have HSE : Hid (sayB re rf = (re.key.toList == rf.key.toList && re.value.toList == rf.value.toList)) := rfl
        generalize sayB re rf = sb at *
        clear r0 r1 r2 r3 r4 s0 s1 s2 s3 s4
        rcases Bool.eq_false_or_eq_true (re.key.toList == rf.key.toList) with e1 | e1 <;> rcases Bool.eq_false_or_eq_true (re.value.toList == rf.value.toList) with e2 | e2 <;> rw [e1, e2] at HSE <;> (obtain rfl : sb = _ := HSE.out) <;> clear HSE
        all_goals
          have d1 : (re.key.toList != rf.key.toList) = !(re.key.toList == rf.key.toList) := rfl
          have d2 : (re.value.toList != rf.value.toList) = !(re.value.toList == rf.value.toList) := rfl
          rw [e1] at d1
          rw [e2] at d2
          simp only [Bool.not_true, Bool.not_false] at d1 d2
          go_wp2_with fail
          refine wp_region_quiet_below (by kernel_rfl) (by kernel_rfl) ?_
          repeat (go_big_quiet_step (fail))
          refine wpQuiet_nil ?_
          intro _ hw'
          obtain ⟨⟨dq, osq⟩, hw''⟩ := hw'
          subst hw''
          have HB2 := Lib.hid (HB.out.trans ((below_regrown wr dq osq).mono HB.out.size))
          go_wp2_with fail
          first
            | (go_roundw
               case rel => exact ⟨k + 1, by omega, by go_num, by rw [HSK.out, HSD.out]; rfl, HB2⟩
               case measure => simp [RowKit.intOf]; omega)
            | (go_ret
               exact ⟨by rw [HSK.out, HSD.out]; rfl, B2.out.trans (HB2.out.mono B2.out.size)⟩)
      · have d8 : decide ((k : Int) < (n : Int)) = false := by rw [decide_eq_false_iff_not]; omega
        have HSN : Hid (SB = true) := by show _ = _; rw [HSK.out, HEN.out k (by omega)]
        go_wp2_with fail
        go_ret
        exact ⟨by rw [HSN.out]; rfl, B2.out.trans (HB.out.mono B2.out.size)⟩
  · have HSN : Hid (SB = false) := by show _ = _; rw [HSL.out]; simp [hnn]
    generalize L.length = n at *
    generalize M.length = m at *
    have d1 : ((n : Int) != (m : Int)) = true := by simp; omega
    have d2 : (n != m) = true := by simp; omega
    clear hnn
    go_wp2_with fail
    go_ret
    exact ⟨by rw [HSN.out]; rfl, B2.out⟩
end Go.Proofs.Ytmlekkbjmfknfaa
