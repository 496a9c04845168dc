/-
  WireCuts.
-/
import Derived.Test.YthkkjefcdedlfaaWireCutM
import Derived.Test.YthkkjefcdedlfaaWireOff
import Derived.Test.YthkkjefcdedlfaaWireAwake
import Derived.Test.YthkkjefcdedlfaaCuts
import Derived.Deep.DeepCutAuto
namespace Go.Proofs.Ythkkjefcdedlfaa
open Go.RowKit
set_option linter.unusedVariables false
set_option linter.unusedSimpArgs false

theorem told_between (L : List Int) (i k : Nat) (h : i ≤ k) (hk : k ≤ L.length) : (told_ L i).length ≤ (told_ L k).length := by
  induction k with
  | zero => obtain rfl : i = 0 := by omega
            exact Nat.le_refl _
  | succ k ih =>
    rcases Nat.lt_or_ge i (k + 1) with h1 | h1
    · have := ih (by omega) (by omega)
      have := told_pos L k (by omega)
      omega
    · obtain rfl : i = k + 1 := by omega
      exact Nat.le_refl _

set_option maxRecDepth 100000 in
set_option maxHeartbeats 3000000 in
theorem cutsI_walk (A : Option Addr) (n c : Nat) (L0 : List Int) (a1 : Int) (w : World) (hL0 : Is w w.heap.size A n L0) (hnc : n ≤ c) (hcm : c ≤ maxLen) (h1 : -9223372036854775808 ≤ a1 ∧ a1 ≤ 9223372036854775807) :
    Calls Try.prog 7 #[.slice A n c, .int .i64 a1] w fun e w' => e = .returned (.bool true) ∧ Below w.heap.size w w' := by
  obtain ⟨i0, hi0, hz0, hz1, hz2⟩ := info_parts byte_info
  obtain ⟨j0, hj0, hy0, hy1, hy2⟩ := info_parts int_info
  have H1 := Lib.hid h1
  clear h1
  unfold maxLen at hcm
  have hL := hL0.take (min n 40) (Nat.min_le_left _ _)
  have hN40 : min n 40 ≤ 40 := Nat.min_le_right _ _
  have hNc : min n 40 ≤ c := by omega
  have HMN : Hid ((n ≤ 40 → min n 40 = n) ∧ (40 < n → min n 40 = 40)) := ⟨fun h => by omega, fun h => by omega⟩
  clear hL0
  generalize L0.take (min n 40) = L at *
  generalize min n 40 = N at *
  have HN := Lib.hid hL.len
  go_enter Try.func7, Try.ntmps7
  go_upto_if 16 with fail
  go_cut [0] (fun s0 wx => s0 = .slice A N c ∧ w = wx)
  case first =>
    rcases Nat.lt_or_ge 40 n with h40 | h40
    · have e := HMN.out.2 h40
      have e40 : 40 ≤ c := by omega
      go_wp2_with fail
      go_meet
      exact ⟨by rw [e], rfl⟩
    · have e := HMN.out.1 h40
      go_wp2_with fail
      go_meet
      exact ⟨by rw [e], rfl⟩
  case rest =>
    obtain ⟨rfl, rfl⟩ := hcut
    clear HMN
    go_wp2_with fail
    go_loopw [5, 6, 21] (fun vb ve i wr => ∃ k : Nat, k ≤ N ∧ i = .int .i64 k ∧ Own wr w.heap.size vb (told_ L k) ∧ wr.ownsRow w.heap.size 3 1 ve k (endsI L k) ∧ Below w.heap.size w wr) (fun _ _ i _ => N - (intOf i).toNat)
    case atStart => exact ⟨0, by omega, rfl, by rw [told_zero]; exact Own.nil_ _ _, World.ownsRow_nil _ _ _ _, Below.refl _ _⟩
    case round =>
      obtain ⟨k, hk, rfl, hob, hoe, hb⟩ := hrel
      by_cases hlt : k < N
      · obtain ⟨ad, rfl, hadb, hc, hx1, hx2⟩ := (hL.below hb).row k hlt
        have HS := Lib.hid (told_succ L k (by rw [HN.out]; exact hlt))
        have HV := Lib.hid (endsI_succ L k)
        have hsl : (told_ L k).length ≤ 400 := by
          have := told_len L k (by rw [HN.out]; omega)
          omega
        rw [HS.out] at HV
        generalize L.getD k 0 = x at *
        generalize told_ L k = acc at *
        have hz := hb.size
        have HOB := Lib.hid hob
        have HOE := Lib.hid hoe
        have hel := (Wn.enc_len (Wn.zig x)).2
        clear hob hoe
        go_wp2_with fail
        refine (wInt_any x wr hx1 hx2).mono ?_
        rintro e w2 ⟨v2, rfl, hown2, hb2⟩
        have hob2 := HOB.out.below hb2 (Nat.le_refl _)
        have hoe2 := row_below HOE.out hb2 (Nat.le_refl _)
        obtain ⟨A2, c2, rfl, hc2, hm2, hbs2, _, _⟩ := hown2.form
        have hbw2 := hb.trans (hb2.mono hz)
        have hz2w := hbw2.size
        have HX : Hid (encI x = Wn.enc (Wn.zig x)) := rfl
        rw [HX.out] at HS HV
        generalize Wn.enc (Wn.zig x) = ex at *
        clear hown2 HOB HOE hb2 HX
        have HOE2 := Lib.hid hoe2
        have hne := two_rows hoe2 hob2 (by decide)
        clear hoe2
        obtain ⟨exn, hexn⟩ : ∃ m, ex.length = m := ⟨_, rfl⟩
        rw [hexn] at hbs2 hc2 hel
        rw [hexn]
        have HEX := Lib.hid hexn
        clear hexn
        go_wp2_with (at_builtin; refine wpList_append_src _ rfl (.tmp 25) (.tmp 27) 23 rfl w.heap.size 5 i0 _ 1 Try.underlying23 hi0 hz0 hz1 hz2 rfl _ acc.length (bvs acc) rfl hob2 w2.heap.size A2 exn c2 (bvs ex) rfl ?h1 hbs2.lies (bvs_one _) ?h2 ?h3 ?h4 ?_)
        case h1 => rw [bvs_length]; exact HEX.out
        case h2 => unfold maxLen; omega
        case h3 => omega
        case h4 => omega
        intro v3 w3 hown3 hg3 _
        have hob3 : Own w3 w.heap.size v3 (acc ++ ex) := by
          unfold Own
          rw [bvs_append, List.length_append, HEX.out]
          exact hown3
        have hoe3 := HOE2.out.kept hg3 hne
        have hbw3 := hbw2.trans (grown_below hob2 hg3 hbw2.size)
        have hz3 := hbw3.size
        clear hown3 hg3 hob2 HOE2 hne hbs2 hbw2
        have hne3 := two_rows hob3 hoe3 (by decide)
        obtain ⟨A3, c3, rfl, hc3, hm3, _, _, _⟩ := hob3.form
        have hle3 : (acc ++ ex).length ≤ 3000 := by rw [List.length_append, HEX.out]; omega
        generalize acc ++ ex = acc3 at *
        have HOB3 := Lib.hid hob3
        have HOE3 := Lib.hid hoe3
        have HNE3 := Lib.hid hne3
        clear hob3 hoe3 hne3
        go_wp2_with (at_builtin; refine wpList_append_src _ rfl (.tmp 29) (.tmp 32) 50 rfl w.heap.size 3 j0 _ 8 Try.underlying50 hj0 hy0 hy1 hy2 rfl _ k (endsI L k) rfl (HOE3.out.alloc _) (w3.heap.size + 1) (some ⟨w3.heap.size, 0, none⟩) 1 1 _ rfl rfl (Lies.of_new _ _ _) ?g1 ?g2 ?g3 ?g4 ?_)
        case g1 => rfl
        case g2 => unfold maxLen; omega
        case g3 => omega
        case g4 => simp; omega
        intro v4 w4 hown4 hg4 _
        have hob4 : Own w4 w.heap.size (.slice A3 acc3.length c3) acc3 := World.ownsRow.kept (HOB3.out.alloc _) hg4 HNE3.out
        have hoe4 : w4.ownsRow w.heap.size 3 1 v4 (k + 1) (endsI L (k + 1)) := by
          rw [HV.out]
          exact hown4
        have hbw4 : Below w.heap.size w w4 := (hbw3.alloc hz3 _).trans ((Below.refl _ _).grown hg4 (by simp; omega) (fun k hk => (World.ownsRow.lt HOE3.out k hk).1))
        clear hown4 hg4 HOB3 HOE3 HNE3 hbw3
        go_wp2
        go_roundw
        case rel => exact ⟨k + 1, by omega, by go_num, by rw [HS.out]; exact hob4, hoe4, hbw4⟩
        case measure => simp [intOf]; omega
      · have hkN : k = N := by omega
        subst hkN
        generalize wr = w0 at *
        obtain ⟨A2, c2, rfl, hc2, hm2, hbs2, _, _⟩ := hob.form
        have zz := hb.size
        have hM : (told_ L k).length ≤ 400 := by
          have := told_len L k (by rw [HN.out]; omega)
          omega
        have HALL : Hid (told_ L L.length = told_ L k) := by rw [HN.out]; rfl
        have HCY := Lib.hid (cut_yes L)
        have HCN := Lib.hid (cut_no L)
        have HBT := Lib.hid (told_between L)
        obtain ⟨M, hMM⟩ : ∃ M, (told_ L k).length = M := ⟨_, rfl⟩
        rw [hMM] at hc2 hbs2 hM
        rw [hMM]
        have HM := Lib.hid hMM
        obtain ⟨A5, c5, rfl, hc5, hm5, hl5⟩ := row_form hoe
        clear hMM hob hoe
        unfold maxLen at hm2 hm5
        by_cases hM0 : M = 0
        · subst hM0
          go_wp2_with fail
          refine (awake1_any _).mono ?_
          rintro e w5 ⟨rfl, hb5⟩
          go_wp2_with fail
          go_ret
          exact ⟨rfl, hb.trans (hb5.mono zz)⟩
        · have hMe : ((M : Int) == 0) = false := by rw [beq_eq_false_iff_ne]; omega
          have hq := tmod_bd a1 (M : Int) (by omega)
          obtain ⟨hq1, hq2⟩ := hq
          have hneg : (0 ≤ a1.tmod (M : Int)) ∨ (a1.tmod (M : Int) < 0) := by omega
          obtain ⟨q, hqq⟩ : ∃ q : Nat, (q : Int) = (if 0 ≤ a1.tmod (M : Int) then a1.tmod (M : Int) else - a1.tmod (M : Int)) := ⟨(if 0 ≤ a1.tmod (M : Int) then a1.tmod (M : Int) else - a1.tmod (M : Int)).toNat, by split <;> omega⟩
          have hqM : q < M := by split at hqq <;> omega
          have HQ := Lib.hid hqq
          clear hqq
          rcases hneg with hneg | hneg
          all_goals
            go_wp2_with fail
            have hk2 := HQ.out
            first | (rw [if_pos hneg] at hk2; rw [← hk2]) | (rw [if_neg (by omega)] at hk2; rw [← hk2])
            clear hk2 hneg hq1 hq2 HQ
            have htk := hbs2.take q (by omega)
            refine (newReader_any A2 q c2 w0.heap.size _ w0 htk (by omega) (Nat.le_refl _)).mono ?_
            rintro e w3 ⟨g, A7, c7, rfl, hg, hr3, hb3⟩
            have HL5 := Lib.hid hl5
            have HLI := Lib.hid (hL.below hb)
            have HB := Lib.hid hb
            clear hbs2 htk hl5 hb hL
            rw [← HALL.out] at hr3
            go_wp2_with fail
            go_loopw [10, 55] (fun s i wx => ∃ k1 j : Nat, k1 ≤ k ∧ i = .int .i64 k1 ∧ j ≤ k1 ∧ s = .int .i64 ((told_ L j).length : Nat) ∧ (told_ L j).length ≤ q ∧ ((j = k1 ∧ Rd wx g A7 c7 ((told_ L L.length).take q) (told_ L j).length 0) ∨ (j < k1 ∧ q < (told_ L (j + 1)).length ∧ Rd wx g A7 c7 ((told_ L L.length).take q) (told_ L j).length 6)) ∧ Below w0.heap.size w0 wx) (fun _ i _ => k - (intOf i).toNat)
            case atStart => exact ⟨0, 0, by omega, rfl, by omega, by rw [told_zero]; rfl, by rw [told_zero]; simp, .inl ⟨rfl, by rw [told_zero]; exact hr3⟩, hb3⟩
            case round =>
              obtain ⟨k1, j, hk1, rfl, hj1, rfl, hle, hst, hbx⟩ := hrel
              have zx := hbx.size
              by_cases hlt1 : k1 < k
              · obtain ⟨p5, rfl, hp5, _⟩ := HL5.out.get k1 _ (endsI_get L k k1 hlt1)
                have HE5 : Hid (∀ W, Below w0.heap.size w0 W → W.cell? (p5.add k1) = some (.int .i64 ((told_ L (k1 + 1)).length : Int))) := fun W hW => by
                  obtain ⟨p6, e6, _, h6⟩ := (HL5.out.keep (w' := W) (fun p hp => hW.cell hp)).get k1 _ (endsI_get L k k1 hlt1)
                  injection e6 with e6
                  rw [e6]
                  exact h6
                obtain ⟨ad, rfl, hadb, hcx, hx1, hx2⟩ := ((HLI.out.wider zz).below hbx).row k1 hlt1
                rcases hst with ⟨hjk, hrd⟩ | ⟨hjk, hgt, hrd⟩
                · subst hjk
                  have hglt := hrd.lt
                  by_cases hyes : (told_ L (j + 1)).length ≤ q
                  · have HI := Lib.hid (rInt_any g c7 _ A7 _ wr hrd)
                    rw [HCY.out j q (by rw [HN.out]; exact hlt1) ⟨hx1, hx2⟩ hyes] at HI
                    obtain ⟨Z, hZ⟩ : ∃ Z, (told_ L L.length).take q = Z := ⟨_, rfl⟩
                    rw [hZ] at HI hrd
                    have HZ := Lib.hid hZ
                    obtain ⟨S1, hS1⟩ : ∃ S1, (told_ L (j + 1)).length = S1 := ⟨_, rfl⟩
                    rw [hS1] at HI HE5 hyes
                    have HS1 := Lib.hid hS1
                    clear hZ hS1 hrd
                    generalize (told_ L j).length = S0 at *
                    generalize L.getD j 0 = x at *
                    go_wp2_with fail
                    refine HI.out.mono ?_
                    rintro e w4 ⟨rfl, hr4, hg4⟩
                    have hbx4 := hbx.trans (below_of_grown hg4 hg zx)
                    have hc5 := HE5.out w4 hbx4
                    have HR4 := Lib.hid hr4
                    clear hr4 hg4 HI
                    go_wp2_with fail
                    refine (err_any g c7 S1 0 A7 Z w4 HR4.out).mono ?_
                    rintro e w5 ⟨rfl, rfl⟩
                    go_wp2_with fail
                    refine (at_any g c7 S1 0 A7 Z _ HR4.out).mono ?_
                    rintro e w6 ⟨rfl, rfl⟩
                    go_wp2_with fail
                    go_roundw
                    case rel => exact ⟨j + 1, j + 1, by omega, by go_num, by omega, by rw [HS1.out], by rw [HS1.out]; exact hyes, .inl ⟨rfl, by rw [HS1.out, HZ.out]; exact HR4.out⟩, hbx4⟩
                    case measure => simp [intOf]; omega
                  · have HI := Lib.hid (rInt_any g c7 _ A7 _ wr hrd)
                    rw [HCN.out j q (by rw [HN.out]; exact hlt1) hle (by omega)] at HI
                    obtain ⟨Z, hZ⟩ : ∃ Z, (told_ L L.length).take q = Z := ⟨_, rfl⟩
                    rw [hZ] at HI hrd
                    have HZ := Lib.hid hZ
                    obtain ⟨S1, hS1⟩ : ∃ S1, (told_ L (j + 1)).length = S1 := ⟨_, rfl⟩
                    rw [hS1] at HE5 hyes
                    have HS1 := Lib.hid hS1
                    obtain ⟨S0, hS0⟩ : ∃ S0, (told_ L j).length = S0 := ⟨_, rfl⟩
                    rw [hS0] at HI hle ⊢
                    have HS0 := Lib.hid hS0
                    clear hZ hS1 hrd hS0
                    generalize L.getD j 0 = x at *
                    go_wp2_with fail
                    refine HI.out.mono ?_
                    rintro e w4 ⟨rfl, hr4, hg4⟩
                    have hbx4 := hbx.trans (below_of_grown hg4 hg zx)
                    have hc5 := HE5.out w4 hbx4
                    have HR4 := Lib.hid hr4
                    clear hr4 hg4 HI
                    have hno : decide ((S1 : Int) ≤ (q : Int)) = false := by rw [decide_eq_false_iff_not]; omega
                    go_wp2_with fail
                    refine (err_any g c7 S0 6 A7 Z w4 HR4.out).mono ?_
                    rintro e w5 ⟨rfl, rfl⟩
                    go_wp2_with fail
                    refine (at_any g c7 S0 6 A7 Z _ HR4.out).mono ?_
                    rintro e w6 ⟨rfl, rfl⟩
                    go_wp2_with fail
                    go_roundw
                    case rel => exact ⟨j + 1, j, by omega, by go_num, by omega, by rw [HS0.out], by rw [HS0.out]; exact hle, .inr ⟨by omega, by rw [HS1.out]; omega, by rw [HS0.out, HZ.out]; exact HR4.out⟩, hbx4⟩
                    case measure => simp [intOf]; omega
                · have hglt := hrd.lt
                  have hyes : q < (told_ L (k1 + 1)).length := by
                    have := HBT.out (j + 1) (k1 + 1) (by omega) (by rw [HN.out]; omega)
                    omega
                  have HI := Lib.hid (eInt g c7 _ 6 A7 _ wr hrd (by omega))
                  have HGT := Lib.hid hgt
                  obtain ⟨Z, hZ⟩ : ∃ Z, (told_ L L.length).take q = Z := ⟨_, rfl⟩
                  rw [hZ] at hrd
                  have HZ := Lib.hid hZ
                  obtain ⟨S1, hS1⟩ : ∃ S1, (told_ L (k1 + 1)).length = S1 := ⟨_, rfl⟩
                  rw [hS1] at HE5 hyes
                  obtain ⟨S0, hS0⟩ : ∃ S0, (told_ L j).length = S0 := ⟨_, rfl⟩
                  rw [hS0] at hle hrd ⊢
                  have HS0 := Lib.hid hS0
                  have HRD := Lib.hid hrd
                  clear hZ hS1 hrd hS0 hgt
                  generalize L.getD k1 0 = x at *
                  go_wp2_with fail
                  refine HI.out.mono ?_
                  rintro e w4 ⟨rfl, hb4⟩
                  have hbx4 := hbx.trans (hb4.mono zx)
                  have hc5 := HE5.out w4 hbx4
                  have HR4 := Lib.hid (HRD.out.below hb4 hglt)
                  clear hb4 HI
                  have hno : decide ((S1 : Int) ≤ (q : Int)) = false := by rw [decide_eq_false_iff_not]; omega
                  go_wp2_with fail
                  refine (err_any g c7 S0 6 A7 Z w4 HR4.out).mono ?_
                  rintro e w5 ⟨rfl, rfl⟩
                  go_wp2_with fail
                  refine (at_any g c7 S0 6 A7 Z _ HR4.out).mono ?_
                  rintro e w6 ⟨rfl, rfl⟩
                  go_wp2_with fail
                  go_roundw
                  case rel => exact ⟨k1 + 1, j, by omega, by go_num, by omega, by rw [HS0.out], by rw [HS0.out]; exact hle, .inr ⟨by omega, HGT.out, by rw [HS0.out, HZ.out]; exact HR4.out⟩, hbx4⟩
                  case measure => simp [intOf]; omega
              · have hk1k : k1 = k := by omega
                subst hk1k
                rcases hst with ⟨hjk, _⟩ | ⟨hjk, hgt, hrd⟩
                · exfalso
                  subst hjk
                  have := HM.out
                  omega
                · have HRD := Lib.hid hrd
                  have hglt := hrd.lt
                  clear hrd hgt
                  generalize (told_ L j).length = S0 at *
                  generalize (told_ L L.length).take q = Z at *
                  by_cases hds : ((S0 : Int) == (q : Int)) = true
                  · go_wp2_with fail
                    refine (err_any g c7 S0 6 A7 Z wr HRD.out).mono ?_
                    rintro e w4 ⟨rfl, rfl⟩
                    go_wp2_with fail
                    refine (eRest g c7 S0 6 A7 Z _ HRD.out (by omega)).mono ?_
                    rintro e w5 ⟨rfl, hb5⟩
                    have HR5 := Lib.hid (HRD.out.below hb5 hglt)
                    have hg5 := HR5.out.lt
                    go_wp2_with fail
                    refine (eByte g c7 S0 6 A7 Z _ HR5.out (by omega)).mono ?_
                    rintro e w6 ⟨rfl, hb6⟩
                    have HR6 := Lib.hid (HR5.out.below hb6 hg5)
                    have hg6 := HR6.out.lt
                    go_wp2_with fail
                    refine (eText g c7 S0 6 A7 Z 99 _ HR6.out (by omega)).mono ?_
                    rintro e w7 ⟨rfl, hb7⟩
                    have HR7 := Lib.hid (HR6.out.below hb7 hg6)
                    go_wp2_with fail
                    refine (at_any g c7 S0 6 A7 Z _ HR7.out).mono ?_
                    rintro e w8 ⟨rfl, rfl⟩
                    have HBB := Lib.hid ((HB.out.trans (hbx.mono zz)).trans (((hb5.trans (hb6.mono hb5.size)).trans (hb7.mono (hb5.trans (hb6.mono hb5.size)).size)).mono (by omega)))
                    clear hb5 hb6 hb7
                    go_wp2_with fail
                    refine (awake1_any _).mono ?_
                    rintro e w9 ⟨rfl, hb9⟩
                    go_wp2_with fail
                    go_ret
                    exact ⟨rfl, HBB.out.trans (hb9.mono HBB.out.size)⟩
                  · have hds2 : ((S0 : Int) == (q : Int)) = false := by simpa using hds
                    clear hds
                    go_wp2_with fail
                    refine (eRest g c7 S0 6 A7 Z _ HRD.out (by omega)).mono ?_
                    rintro e w5 ⟨rfl, hb5⟩
                    have HR5 := Lib.hid (HRD.out.below hb5 hglt)
                    have hg5 := HR5.out.lt
                    go_wp2_with fail
                    refine (eByte g c7 S0 6 A7 Z _ HR5.out (by omega)).mono ?_
                    rintro e w6 ⟨rfl, hb6⟩
                    have HR6 := Lib.hid (HR5.out.below hb6 hg5)
                    have hg6 := HR6.out.lt
                    go_wp2_with fail
                    refine (eText g c7 S0 6 A7 Z 99 _ HR6.out (by omega)).mono ?_
                    rintro e w7 ⟨rfl, hb7⟩
                    have HR7 := Lib.hid (HR6.out.below hb7 hg6)
                    go_wp2_with fail
                    refine (at_any g c7 S0 6 A7 Z _ HR7.out).mono ?_
                    rintro e w8 ⟨rfl, rfl⟩
                    have HBB := Lib.hid ((HB.out.trans (hbx.mono zz)).trans (((hb5.trans (hb6.mono hb5.size)).trans (hb7.mono (hb5.trans (hb6.mono hb5.size)).size)).mono (by omega)))
                    clear hb5 hb6 hb7
                    go_wp2_with fail
                    refine (awake1_any _).mono ?_
                    rintro e w9 ⟨rfl, hb9⟩
                    go_wp2_with fail
                    go_ret
                    exact ⟨rfl, HBB.out.trans (hb9.mono HBB.out.size)⟩
end Go.Proofs.Ythkkjefcdedlfaa
