/-
  WireOne.
-/
import Derived.Test.YthkkjefcdedlfaaWireAwake
import Derived.Deep.DeepCutAuto
import Derived.Lib.QuietBelow
namespace Go.Proofs.Ythkkjefcdedlfaa
open Go.RowKit
set_option linter.unusedVariables false
set_option linter.unusedSimpArgs false

theorem enc_pre (a b : Nat) (ha : a < 18446744073709551616) (hb : b < 18446744073709551616) (r : List UInt8) (h : Wn.enc b = Wn.enc a ++ r) : a = b := by
  have h1 := Wn.num_enc a ha r
  have h2 := Wn.num_enc b hb []
  rw [List.append_nil, h, h1] at h2
  injection h2 with h2
  injection h2
theorem enc_same (a b : Nat) (ha : a < 18446744073709551616) (hb : b < 18446744073709551616) : (Wn.enc a == Wn.enc b) = decide (a = b) := by
  rw [Bool.eq_iff_iff, beq_iff_eq, decide_eq_true_iff]
  exact ⟨fun h => enc_pre a b ha hb [] (by rw [List.append_nil]; exact h.symm), fun h => by rw [h]⟩
theorem enc_take (a b : Nat) (ha : a < 18446744073709551616) (hb : b < 18446744073709551616) (hne : a ≠ b) : ((Wn.enc b).take (Wn.enc a).length == Wn.enc a) = false := by
  rw [beq_eq_false_iff_ne]
  intro h
  refine hne (enc_pre a b ha hb ((Wn.enc b).drop (Wn.enc a).length) ?_)
  have := List.take_append_drop (Wn.enc a).length (Wn.enc b)
  rw [h] at this
  exact this.symm
theorem nat_beq (a b : Nat) : ((a : Int) == (b : Int)) = decide (a = b) := by
  by_cases h : a = b
  · subst h; simp
  · rw [decide_eq_false h, beq_eq_false_iff_ne]; omega
theorem zig_eq (i k : Int) : Wn.zig i = Wn.zig k ↔ i = k := ⟨fun h => by rw [← Wn.zag_zig i, ← Wn.zag_zig k, h], fun h => by rw [h]⟩
theorem int_beq (i k : Int) : (i == k) = decide (Wn.zig i = Wn.zig k) := by
  by_cases h : i = k
  · subst h; simp
  · rw [decide_eq_false (fun e => h ((zig_eq i k).1 e)), beq_eq_false_iff_ne]; exact h

set_option maxRecDepth 100000 in
set_option maxHeartbeats 1500000 in
theorem one_walk (m n : Nat) (i k : Int) (w : World) (hm : m < 18446744073709551616) (hn : n < 18446744073709551616) (hi : -9223372036854775808 ≤ i ∧ i ≤ 9223372036854775807) (hk : -9223372036854775808 ≤ k ∧ k ≤ 9223372036854775807) :
    Calls Try.prog 6 #[.int .u64 (m : Int), .int .u64 (n : Int), .int .i64 i, .int .i64 k] w fun e w' => e = .returned (.bool true) ∧ Below w.heap.size w w' := by
  obtain ⟨hi1, hi2⟩ := hi
  obtain ⟨hk1, hk2⟩ := hk
  have HU1 := Lib.hid (wUint_any m w hm)
  have HU2 := Lib.hid fun W => wUint_any n W hn
  have HI1 := Lib.hid fun W => wInt_any i W hi1 hi2
  have HI2 := Lib.hid fun W => wInt_any k W hk1 hk2
  have hab := enc_same m n hm hn
  have hcd := enc_same (Wn.zig i) (Wn.zig k) (Wn.zig_lt i hi1 hi2) (Wn.zig_lt k hk1 hk2)
  have HTA := Lib.hid (enc_take m n hm hn)
  have HTC := Lib.hid (enc_take (Wn.zig i) (Wn.zig k) (Wn.zig_lt i hi1 hi2) (Wn.zig_lt k hk1 hk2))
  have hmn := nat_beq m n
  have hik := int_beq i k
  obtain ⟨la1, la2⟩ := Wn.enc_len m
  obtain ⟨lc1, lc2⟩ := Wn.enc_len (Wn.zig i)
  obtain ⟨lb1, lb2⟩ := Wn.enc_len n
  obtain ⟨ld1, ld2⟩ := Wn.enc_len (Wn.zig k)
  have HPM : Hid (decide (m = n) = false → m ≠ n) := fun h => by simpa using h
  have HPK : Hid (decide (Wn.zig i = Wn.zig k) = false → Wn.zig i ≠ Wn.zig k) := fun h => by simpa using h
  generalize decide (m = n) = pm at *
  generalize decide (Wn.zig i = Wn.zig k) = pk at *
  generalize Wn.enc (Wn.zig i) = lc at *
  generalize Wn.enc (Wn.zig k) = ld at *
  generalize Wn.enc m = la at *
  generalize Wn.enc n = lb at *
  obtain ⟨na, hna⟩ : ∃ x, la.length = x := ⟨_, rfl⟩
  obtain ⟨nb, hnb⟩ : ∃ x, lb.length = x := ⟨_, rfl⟩
  obtain ⟨nc, hnc⟩ : ∃ x, lc.length = x := ⟨_, rfl⟩
  obtain ⟨nd, hnd⟩ : ∃ x, ld.length = x := ⟨_, rfl⟩
  rw [hna] at la1 la2 HTA
  rw [hnb] at lb1 lb2
  rw [hnc] at lc1 lc2 HTC
  rw [hnd] at ld1 ld2
  have HNA := Lib.hid hna
  have HNB := Lib.hid hnb
  have HNC := Lib.hid hnc
  have HND := Lib.hid hnd
  clear hna hnb hnc hnd
  go_enter Try.func6, Try.ntmps6
  go_wp2_with fail
  refine HU1.out.mono ?_
  rintro e w1 ⟨v1, rfl, ho1, hb1⟩
  clear HU1
  go_wp2_with fail
  refine (HU2.out _).mono ?_
  rintro e w2 ⟨v2, rfl, ho2, hb2⟩
  replace ho1 := ho1.below hb2 (Nat.le_refl _)
  have hB2 := hb1.trans (hb2.mono hb1.size)
  clear HU2 hb1 hb2
  go_wp2_with fail
  refine (HI1.out _).mono ?_
  rintro e w3 ⟨v3, rfl, ho3, hb3⟩
  replace ho1 := ho1.below hb3 (Nat.le_refl _)
  replace ho2 := ho2.below hb3 (Nat.le_refl _)
  have hB3 := hB2.trans (hb3.mono hB2.size)
  clear HI1 hb3 hB2
  go_wp2_with fail
  refine (HI2.out _).mono ?_
  rintro e w4 ⟨v4, rfl, ho4, hb4⟩
  replace ho1 := ho1.below hb4 (Nat.le_refl _)
  replace ho2 := ho2.below hb4 (Nat.le_refl _)
  replace ho3 := ho3.below hb4 (Nat.le_refl _)
  have HB4 := Lib.hid (hB3.trans (hb4.mono hB3.size))
  clear HI2 hb4 hB3
  obtain ⟨A1, c1, rfl, hc1, hm1, hbs1, _, _⟩ := ho1.form
  obtain ⟨A2, c2, rfl, hc2, hm2, hbs2, _, _⟩ := ho2.form
  obtain ⟨A3, c3, rfl, hc3, hm3, hbs3, _, _⟩ := ho3.form
  obtain ⟨A4, c4, rfl, hc4, hm4, hbs4, _, _⟩ := ho4.form
  rw [HNA.out] at hc1 hbs1 ⊢
  have s1 := hbs1.str (P := Try.prog) (src := 23) (dst := 9) (e := 5) Try.underlying23 Try.underlying5 Try.underlying9 c1
  have HBS1 := Lib.hid hbs1
  clear hbs1
  rw [HNB.out] at hc2 hbs2 ⊢
  have s2 := hbs2.str (P := Try.prog) (src := 23) (dst := 9) (e := 5) Try.underlying23 Try.underlying5 Try.underlying9 c2
  have HBS2 := Lib.hid hbs2
  clear hbs2
  rw [HNC.out] at hc3 hbs3 ⊢
  have s3 := hbs3.str (P := Try.prog) (src := 23) (dst := 9) (e := 5) Try.underlying23 Try.underlying5 Try.underlying9 c3
  have HBS3 := Lib.hid hbs3
  clear hbs3
  rw [HND.out] at hc4 hbs4 ⊢
  have s4 := hbs4.str (P := Try.prog) (src := 23) (dst := 9) (e := 5) Try.underlying23 Try.underlying5 Try.underlying9 c4
  have HBS4 := Lib.hid hbs4
  clear hbs4
  unfold maxLen at hm1 hm2 hm3 hm4
  have d1 : decide ((na : Int) < 1) = false := by rw [decide_eq_false_iff_not]; omega
  have d2 : decide ((10 : Int) < (na : Int)) = false := by rw [decide_eq_false_iff_not]; omega
  have d3 : decide ((nc : Int) < 1) = false := by rw [decide_eq_false_iff_not]; omega
  have d4 : decide ((10 : Int) < (nc : Int)) = false := by rw [decide_eq_false_iff_not]; omega
  clear ho1 ho2 ho3 ho4
  go_wp2_with fail
  clear s1 s2 s3 s4
  go_cut [78] (fun s78 wx => s78 = .bool false ∧ ∃ q, wx = w4.drewN q)
  case first =>
    cases pm with
    | true =>
      have e1 : ((m : Int) != (n : Int)) = false := by rw [bne, hmn]; rfl
      go_quiet (fail)
      go_wp2_with fail
      go_meet
      exact ⟨rfl, nq, rfl⟩
    | false =>
      have e1 : ((m : Int) != (n : Int)) = true := by rw [bne, hmn]; rfl
      rcases Nat.lt_or_ge nb na with hlt | hge
      · have e2 : decide ((na : Int) ≤ (nb : Int)) = false := by rw [decide_eq_false_iff_not]; omega
        have e8 : decide (na ≤ nb) = false := by rw [decide_eq_false_iff_not]; omega
        go_quiet (fail)
        go_wp2_with fail
        go_meet
        exact ⟨rfl, nq, rfl⟩
      · have e2 : decide ((na : Int) ≤ (nb : Int)) = true := by rw [decide_eq_true_iff]; omega
        have e3 : na ≤ nb := hge
        have e4 : na ≤ c2 := by omega
        have e5 : (na : Int) ≤ (c2 : Int) := by omega
        have e6 : (na : Int) ≤ (nb : Int) := by omega
        have t1 := fun q => (HBS1.out.drewN q).str (P := Try.prog) (src := 23) (dst := 9) (e := 5) Try.underlying23 Try.underlying5 Try.underlying9 c1
        have t2 := fun q => ((HBS2.out.take na hge).drewN q).str (P := Try.prog) (src := 23) (dst := 9) (e := 5) Try.underlying23 Try.underlying5 Try.underlying9 c2
        have e7 := HTA.out (HPM.out rfl)
        clear HTA HTC HPM HPK
        go_quiet (fail)
        go_wp2_with fail
        go_meet
        exact ⟨rfl, nq, rfl⟩
  case rest =>
    obtain ⟨rfl, q, rfl⟩ := hcut
    have HB5 := Lib.hid (below_draws HB4.out q)
    replace HBS3 : Hid (Bs (w4.drewN q) (w4.drewN q).heap.size A3 nc lc) := HBS3.out.drewN q
    replace HBS4 : Hid (Bs (w4.drewN q) (w4.drewN q).heap.size A4 nd ld) := HBS4.out.drewN q
    clear HBS1 HBS2 HB4 HTA HPM hab hmn
    generalize w4.drewN q = w5 at *
    go_wp2_with fail
    have HCA : Hid (∀ d os, Calls Try.prog 18 #[] (Sort.grow (redrawn w5 d) os) fun e w'' => e = .returned (.bool true) ∧ ∃ p : Regrown, w'' = Sort.grow (redrawn w5 p.d) p.os) := fun d os => Calls.regrown_of (awake1_any _)
    cases pk with
    | true =>
      refine wp_region_quiet_below (by kernel_rfl) (by kernel_rfl) ?_
      repeat (go_big_quiet_step (exact HCA.out _ _))
      refine wpQuiet_nil ?_
      intro _ hw'
      obtain ⟨⟨dq, osq⟩, hw''⟩ := hw'
      subst hw''
      go_wp2_with fail
      go_ret
      exact ⟨rfl, HB5.out.trans ((below_regrown w5 dq osq).mono HB5.out.size)⟩
    | false =>
      rcases Nat.lt_or_ge nd nc with hlt | hge
      · have e2 : decide ((nd : Int) < (nc : Int)) = true := by rw [decide_eq_true_iff]; omega
        have e8 : decide (nd < nc) = true := by rw [decide_eq_true_iff]; omega
        refine wp_region_quiet_below (by kernel_rfl) (by kernel_rfl) ?_
        repeat (go_big_quiet_step (exact HCA.out _ _))
        refine wpQuiet_nil ?_
        intro _ hw'
        obtain ⟨⟨dq, osq⟩, hw''⟩ := hw'
        subst hw''
        go_wp2_with fail
        go_ret
        exact ⟨rfl, HB5.out.trans ((below_regrown w5 dq osq).mono HB5.out.size)⟩
      · have e2 : decide ((nd : Int) < (nc : Int)) = false := by rw [decide_eq_false_iff_not]; omega
        have e8 : decide (nd < nc) = false := by rw [decide_eq_false_iff_not]; omega
        have e3 : nc ≤ nd := hge
        have e4 : nc ≤ c4 := by omega
        have e5 : (nc : Int) ≤ (c4 : Int) := by omega
        have e6 : (nc : Int) ≤ (nd : Int) := by omega
        have t1 := fun d os => (HBS3.out.below (below_regrown w5 d os)).str (P := Try.prog) (src := 23) (dst := 9) (e := 5) Try.underlying23 Try.underlying5 Try.underlying9 c3
        have t2 := fun d os => ((HBS4.out.take nc hge).below (below_regrown w5 d os)).str (P := Try.prog) (src := 23) (dst := 9) (e := 5) Try.underlying23 Try.underlying5 Try.underlying9 c4
        have e7 := HTC.out (HPK.out rfl)
        clear HTC HPK
        refine wp_region_quiet_below (by kernel_rfl) (by kernel_rfl) ?_
        repeat (go_big_quiet_step (exact HCA.out _ _))
        refine wpQuiet_nil ?_
        intro _ hw'
        obtain ⟨⟨dq, osq⟩, hw''⟩ := hw'
        subst hw''
        clear t1 t2
        go_wp2_with fail
        go_ret
        exact ⟨rfl, HB5.out.trans ((below_regrown w5 dq osq).mono HB5.out.size)⟩
end Go.Proofs.Ythkkjefcdedlfaa
