/-
  FrameScans.
-/
import Derived.Test.YthkkjefcdedlfaaRefScan
import Derived.Test.YthkkjefcdedlfaaCuts
import Derived.Test.YthkkjefcdedlfaaOwnSet
namespace Go.Proofs.Ythkkjefcdedlfaa
open Go.RowKit
set_option linter.unusedVariables false
set_option linter.unusedSimpArgs false

set_option maxRecDepth 100000 in
set_option maxHeartbeats 4000000 in
theorem scans_walk (A : Option Addr) (n c : Nat) (L0 : List (List UInt8)) (a1 : Int) (by_ : UInt8) (A3 : Option Addr) (n3 c3 : Nat) (l3 : List UInt8) (w : World) (hL : Rs w w.heap.size A n L0) (hn : n ≤ maxLen) (h1 : -9223372036854775808 ≤ a1 ∧ a1 ≤ 9223372036854775807)
    (hl3 : Bs w w.heap.size A3 n3 l3) (hn3 : n3 ≤ c3) (hc3 : c3 ≤ maxLen) :
    Calls Try.prog 11 #[.slice A n c, .int .i64 a1, .int .u8 (by_.toNat : Int), .slice A3 n3 c3] w fun e w' => e = .returned (.bool true) ∧ Below w.heap.size w w' := by
  obtain ⟨i0, hi0, hz0, hz1, hz2⟩ := info_parts byte_info
  have H1 := Lib.hid h1
  clear h1
  have HF := Lib.hid (few_any A n c L0 w hL hn)
  have HE := Lib.hid (few_each L0)
  have hln : (few L0).length ≤ 8 := by simp [few]; omega
  clear hL
  generalize few L0 = L at *
  go_enter Try.func11, Try.ntmps11
  go_wp2_with fail
  refine HF.out.mono ?_
  rintro e w1 ⟨v1, rfl, hown1, hb1⟩
  obtain ⟨A1, c1, rfl, hc1, hm1, hR1⟩ := hown1.rs
  have z1 := hb1.size
  clear hown1 HF
  obtain ⟨N, hN⟩ : ∃ N, L.length = N := ⟨_, rfl⟩
  have HN := Lib.hid hN
  rw [hN] at hR1 hc1 hln
  rw [hN]
  clear hN
  go_wp2_with fail
  go_loopw [9, 25] (fun vb i wr => ∃ k : Nat, k ≤ N ∧ i = .int .i64 k ∧ Own wr w1.heap.size vb (sealed L k) ∧ Below w1.heap.size w1 wr) (fun _ i _ => N - (intOf i).toNat)
  case atStart => exact ⟨0, by omega, rfl, by rw [sealed_zero]; exact Own.nil_ _ _, Below.refl _ _⟩
  case round =>
    obtain ⟨k, hk, rfl, hob, hb⟩ := hrel
    by_cases hlt : k < N
    · obtain ⟨ad, A', c', rfl, hadb, hc, hl, hm, hr⟩ := (hR1.below hb).row k hlt
      have HS := Lib.hid (sealed_succ L k (by rw [HN.out]; exact hlt))
      have hx : (L.getD k []).length ≤ 200 := by
        rw [List.getD_eq_getElem?_getD, List.getElem?_eq_getElem (by rw [HN.out]; exact hlt)]
        exact HE.out _ (List.getElem_mem _)
      have hsl : (sealed L k).length ≤ 2000 := by
        have := sealed_len L HE.out k (by rw [HN.out]; omega)
        omega
      generalize L.getD k [] = x at *
      generalize sealed L k = acc at *
      have hz := hb.size
      unfold maxLen at hm
      have HOB := Lib.hid hob
      clear hob
      go_wp2_with fail
      refine (refSeal_any A' x.length c' x wr (hr.wider hz) (by omega)).mono ?_
      rintro e w2 ⟨v2, rfl, hown2, hb2⟩
      have hob2 := HOB.out.below hb2 (Nat.le_refl _)
      obtain ⟨A2, c2, rfl, hc2, hm2, hbs2, _, _⟩ := hown2.form
      have hbw2 := hb.trans (hb2.mono hz)
      have hsl2 : (Crc.seal_ x).length = x.length + 8 := Crc.seal_length x
      rw [hsl2] at hbs2 hc2
      rw [hsl2]
      have HSL := Lib.hid hsl2
      clear hown2 HOB hb2 hsl2
      have hzz := hbw2.size
      go_wp2_with (at_builtin; refine wpList_append_src _ rfl (.tmp 29) (.tmp 31) 23 rfl w1.heap.size 5 i0 _ 1 Try.underlying23 hi0 hz0 hz1 hz2 rfl _ acc.length (bvs acc) rfl hob2 w2.heap.size A2 (x.length + 8) c2 (bvs (Crc.seal_ x)) rfl ?h1 hbs2.lies (bvs_one _) ?h2 ?h3 ?h4 ?_)
      case h1 => rw [bvs_length]; exact HSL.out
      case h2 => unfold maxLen; omega
      case h3 => omega
      case h4 => omega
      intro v3 w3 hown3 hg3 _
      have hob3 : Own w3 w1.heap.size v3 (acc ++ Crc.seal_ x) := by
        unfold Own
        rw [bvs_append, List.length_append, HSL.out]
        exact hown3
      have hbw3 := hbw2.trans (grown_below hob2 hg3 hbw2.size)
      clear hown3 hg3 hob2 hbs2 hbw2
      go_wp2
      go_roundw
      case rel => exact ⟨k + 1, by omega, by go_num, by rw [HS.out]; exact hob3, hbw3⟩
      case measure => simp [intOf]; omega
    · have hM : (sealed L k).length ≤ 2000 := by
        have := sealed_len L HE.out k (by rw [HN.out]; omega)
        omega
      have hB0 := hb1.trans (hb.mono z1)
      have zz := hb.size
      generalize sealed L k = acc at *
      have hsh := hl3.take (min n3 100) (Nat.min_le_left _ _)
      have HSH := Lib.hid (short_any A3 n3 c3 100 wr hn3 hc3 (by omega))
      have hmm : min n3 100 ≤ 100 := Nat.min_le_right _ _
      have HLM := Lib.hid hsh.len
      have hsh2 := hsh.below hB0
      generalize l3.take (min n3 100) = rs at *
      generalize min n3 100 = m3 at *
      clear hl3 hR1 HE
      have HOB := Lib.hid hob
      clear hob
      go_wp2_with fail
      refine HSH.out.mono ?_
      rintro e w2 ⟨rfl, rfl⟩
      go_wp2_with (at_builtin; refine wpList_append_src _ rfl (.tmp 34) (.tmp 36) 23 rfl w1.heap.size 5 i0 _ 1 Try.underlying23 hi0 hz0 hz1 hz2 rfl _ acc.length (bvs acc) rfl HOB.out w.heap.size A3 m3 c3 (bvs rs) rfl ?g1 hsh2.lies (bvs_one _) ?g2 ?g3 ?g4 ?_)
      case g1 => rw [bvs_length]; exact HLM.out
      case g2 => unfold maxLen; omega
      case g3 => omega
      case g4 => exact zz
      intro v3 w3 hown3 hg3 _
      have hob3 : Own w3 w1.heap.size v3 (acc ++ rs) := by
        unfold Own
        rw [bvs_append, List.length_append, HLM.out]
        exact hown3
      have hbw3 := hb.trans (grown_below HOB.out hg3 zz)
      have hB3 := hb1.trans (hbw3.mono z1)
      have hle : (acc ++ rs).length ≤ 2100 := by rw [List.length_append, HLM.out]; omega
      clear hown3 hg3 HOB hb HSH hsh hsh2 hB0
      generalize acc ++ rs = B0 at *
      obtain ⟨A4, c4, rfl, hc4, hm4, hbs4, _, _⟩ := hob3.form
      unfold maxLen at hm4
      obtain ⟨M, hMM⟩ : ∃ M, B0.length = M := ⟨_, rfl⟩
      rw [hMM] at hc4 hbs4 hle hob3
      rw [hMM]
      have HM := Lib.hid hMM
      clear hMM
      rcases Nat.eq_zero_or_pos M with hM0 | hMp
      · have hMn : ¬ 0 < M := by omega
        have hM1 : M ≤ 0 := by omega
        clear hM0
        generalize B0 = BX at *
        have HMX := HM
        have hobX := hob3
        have hBX := hB3
        generalize w3 = wx at *
        clear hob3 hB3 hbs4
        obtain ⟨_, _, hvx, _, _, hbsX, _, _⟩ := hobX.form
        injection hvx with hvx1 hvx2 hvx3
        subst hvx1
        rw [HMX.out] at hbsX
        clear hvx2 hvx3 hobX
        have zx := hBX.size
        go_wp2_with fail
        refine (scan_any _ M c4 BX wx hbsX hc4 hm4 (by omega)).mono ?_
        rintro e w5 ⟨v5, rfl, hown5, hb5⟩
        obtain ⟨A5, c5, rfl, hc5, hm5, hR5⟩ := hown5.rs
        have z5 := hb5.size
        have hbs6 := (hbsX.below hb5).wider z5
        have hB5 := hBX.trans (hb5.mono zx)
        clear hbsX hown5 hb5 hBX
        go_wp2_with fail
        refine (refScan_any _ M c4 BX w5 hbs6 hc4 hm4 (by omega)).mono ?_
        rintro e w6 ⟨v6, rfl, hown6, hb6⟩
        obtain ⟨A6, c6, rfl, hc6, hm6, hR6⟩ := hown6.rs
        have z6 := hb6.size
        have hbs7 := (hbs6.below hb6).wider z6
        have hR5' := (hR5.below hb6).wider z6
        have hB6 := hB5.trans (hb6.mono (by omega))
        clear hbs6 hR5 hown6 hb6 hB5
        have hql : (scan BX).length ≤ 1099511627776 := by
          have := scan_len8 _ BX (Nat.le_refl _)
          have := HMX.out
          omega
        generalize scan BX = SC at *
        generalize hqq : SC.length = q5 at *
        have HQ5 := Lib.hid hqq
        clear hqq
        generalize scanLen BX = sl at *
        have ee : ((sl : Int) == (sl : Int)) = true := by simp
        unfold maxLen at hm5 hm6
        by_cases h0 : Crc.size BX = 0
        · have HFN := Lib.hid (first_no _ M c4 BX w6.heap.size w6 hbs7 (Nat.le_refl _) hc4 hm4 h0)
          have snil := fun W : World => run_convert_bytes_nil (P := Try.prog) W 23 5 Try.underlying23 Try.underlying5 0 0 9 Try.underlying9
          go_wp2_with fail
          refine HFN.out.mono ?_
          rintro e w7 ⟨rfl, hb7⟩
          have z7 := hb7.size
          have hbs8 := (hbs7.below hb7).wider z7
          go_wp2_with fail
          refine (refFirst_any _ M c4 BX w7 hbs8 hc4 hm4).mono ?_
          rintro e w8 ⟨v8, rfl, _, hv8, hb8⟩
          have e8 := hv8 h0
          subst e8
          have hz0 : ((Crc.size BX : Nat) : Int) = 0 := by omega
          rw [hz0]
          have z8 := hb8.size
          have HSM := Lib.hid (same_yes A5 A6 q5 c5 c6 w6.heap.size SC w8 ((hR5'.below hb7).below (hb8.mono z7)) ((hR6.below hb7).below (hb8.mono z7)) (by unfold maxLen; omega))
          clear hz0 h0 hv8
          go_wp2_with fail
          refine HSM.out.mono ?_
          rintro e w9 ⟨rfl, hb9⟩
          go_wp2_with fail
          refine (awake2_any _).mono ?_
          rintro e w10 ⟨rfl, hb10⟩
          go_wp2_with fail
          go_ret
          have z9 := hb9.size
          exact ⟨rfl, (((hB6.trans (hb7.mono (by omega))).trans (hb8.mono (by omega))).trans (hb9.mono (by omega))).trans (hb10.mono (by omega))⟩
        · have HFN := Lib.hid (first_yes _ M c4 BX w6.heap.size w6 hbs7 (Nat.le_refl _) hc4 hm4 h0)
          have hszb := Crc.size_bound BX
          go_wp2_with fail
          refine HFN.out.mono ?_
          rintro e w7 ⟨v7, rfl, hown7, hb7⟩
          have z7 := hb7.size
          have hbs8 := (hbs7.below hb7).wider z7
          obtain ⟨A7, c7, rfl, hc7, hm7, hbs70, _, _⟩ := hown7.form
          go_wp2_with fail
          refine (refFirst_any _ M c4 BX w7 hbs8 hc4 hm4).mono ?_
          rintro e w8 ⟨v8, rfl, hown8, _, hb8⟩
          replace hown8 := hown8 h0
          obtain ⟨A8, c8, rfl, hc8, hm8, hbs80, _, _⟩ := hown8.form
          have z8 := hb8.size
          have hbs71 := hbs70.below hb8
          have HSM := Lib.hid (same_yes A5 A6 q5 c5 c6 w6.heap.size SC w8 ((hR5'.below hb7).below (hb8.mono z7)) ((hR6.below hb7).below (hb8.mono z7)) (by unfold maxLen; omega))
          have hzp : (0 : Int) < ((Crc.size BX : Nat) : Int) := by omega
          clear hown7 hown8 hbs70 HFN
          generalize Crc.size BX = z at *
          generalize Crc.body BX = bd at *
          have ez : ((z : Int) == (z : Int)) = true := by simp
          go_wp2_with fail
          refine HSM.out.mono ?_
          rintro e w9 ⟨rfl, hb9⟩
          have s1 := ((hbs71.wider z8).below hb9).str (P := Try.prog) (src := 23) (dst := 9) (e := 5) Try.underlying23 Try.underlying5 Try.underlying9 c7
          have s2 := (hbs80.below hb9).str (P := Try.prog) (src := 23) (dst := 9) (e := 5) Try.underlying23 Try.underlying5 Try.underlying9 c8
          clear hbs71 hbs80 hbs8 hbs7
          go_wp2_with fail
          refine (awake2_any _).mono ?_
          rintro e w10 ⟨rfl, hb10⟩
          go_wp2_with fail
          go_ret
          have z9 := hb9.size
          exact ⟨rfl, (((hB6.trans (hb7.mono (by omega))).trans (hb8.mono (by omega))).trans (hb9.mono (by omega))).trans (hb10.mono (by omega))⟩
      · obtain ⟨g, rfl, hg⟩ := hob3.head (by have := HM.out; omega)
        have hq := tmod_bd a1 (M : Int) (by omega)
        obtain ⟨hq1, hq2⟩ := hq
        have hneg : (0 ≤ a1.tmod (M : Int)) ∨ (a1.tmod (M : Int) < 0) := by omega
        obtain ⟨q, hqq⟩ : ∃ q : Nat, (q : Int) = (if 0 ≤ a1.tmod (M : Int) then a1.tmod (M : Int) else - a1.tmod (M : Int)) := ⟨(if 0 ≤ a1.tmod (M : Int) then a1.tmod (M : Int) else - a1.tmod (M : Int)).toNat, by split <;> omega⟩
        have hqM : q < M := by split at hqq <;> omega
        have HQ := Lib.hid hqq
        clear hqq
        have hcell := hob3.cell_ HM.out q hqM
        have hfree := hob3.free_ HM.out q
        have hby := by_.toNat_lt
        have hxl := (B0.getD q 0).toNat_lt
        have hxx : bits .xor .u8 ((B0.getD q 0).toNat : Int) (by_.toNat : Int) = (((B0.getD q 0).toNat ^^^ by_.toNat : Nat) : Int) := u8_xor_nat _ _ hxl hby
        have hyl : (B0.getD q 0).toNat ^^^ by_.toNat < 256 := Nat.xor_lt_two_pow (n := 8) hxl hby
        have HSET := Lib.hid (hob3.set_ HM.out q (UInt8.ofNat ((B0.getD q 0).toNat ^^^ by_.toNat)))
        rw [UInt8.toNat_ofNat', Nat.mod_eq_of_lt hyl] at HSET
        have HMX : Hid ((B0.set q (UInt8.ofNat ((B0.getD q 0).toNat ^^^ by_.toNat))).length = M) := by rw [List.length_set]; exact HM.out
        generalize B0.set q (UInt8.ofNat ((B0.getD q 0).toNat ^^^ by_.toNat)) = BX at *
        generalize (B0.getD q 0).toNat ^^^ by_.toNat = y at *
        generalize (B0.getD q 0).toNat = x at *
        clear hob3 hbs4
        rcases hneg with hneg | hneg
        all_goals
          have hk := HQ.out
          first | (rw [if_pos hneg] at hk) | (rw [if_neg (by omega)] at hk)
          have hk1 : (a1.tmod (M : Int)).toNat = q ∨ (- a1.tmod (M : Int)).toNat = q := by omega
          have hk2 : (0 ≤ a1.tmod (M : Int) ∧ (a1.tmod (M : Int)).toNat = q) ∨ (0 ≤ - a1.tmod (M : Int) ∧ - a1.tmod (M : Int) < (M : Int) ∧ (- a1.tmod (M : Int)).toNat = q) := by omega
          clear hk1
          first | (have hk3 : (a1.tmod (M : Int)).toNat = q := by omega) | (have hk3 : (- a1.tmod (M : Int)).toNat = q := by omega)
          clear hk hk2 HQ
          go_wp2_with fail
          have hobX := HSET.out
          have hBX := hB3.setCell (p := ⟨g, q, none⟩) (show w.heap.size ≤ g by omega) (.int .u8 (y : Int))
          generalize w3.setCell ⟨g, q, none⟩ (.int .u8 (y : Int)) = wx at *
          clear HSET hcell hfree hxx hB3 hk3
          obtain ⟨_, _, hvx, _, _, hbsX, _, _⟩ := hobX.form
          injection hvx with hvx1 hvx2 hvx3
          subst hvx1
          rw [HMX.out] at hbsX
          clear hvx2 hvx3 hobX
          have zx := hBX.size
          go_wp2_with fail
          refine (scan_any _ M c4 BX wx hbsX hc4 hm4 (by omega)).mono ?_
          rintro e w5 ⟨v5, rfl, hown5, hb5⟩
          obtain ⟨A5, c5, rfl, hc5, hm5, hR5⟩ := hown5.rs
          have z5 := hb5.size
          have hbs6 := (hbsX.below hb5).wider z5
          have hB5 := hBX.trans (hb5.mono zx)
          clear hbsX hown5 hb5 hBX
          go_wp2_with fail
          refine (refScan_any _ M c4 BX w5 hbs6 hc4 hm4 (by omega)).mono ?_
          rintro e w6 ⟨v6, rfl, hown6, hb6⟩
          obtain ⟨A6, c6, rfl, hc6, hm6, hR6⟩ := hown6.rs
          have z6 := hb6.size
          have hbs7 := (hbs6.below hb6).wider z6
          have hR5' := (hR5.below hb6).wider z6
          have hB6 := hB5.trans (hb6.mono (by omega))
          clear hbs6 hR5 hown6 hb6 hB5
          have hql : (scan BX).length ≤ 1099511627776 := by
            have := scan_len8 _ BX (Nat.le_refl _)
            have := HMX.out
            omega
          generalize scan BX = SC at *
          generalize hqq : SC.length = q5 at *
          have HQ5 := Lib.hid hqq
          clear hqq
          generalize scanLen BX = sl at *
          have ee : ((sl : Int) == (sl : Int)) = true := by simp
          unfold maxLen at hm5 hm6
          by_cases h0 : Crc.size BX = 0
          · have HFN := Lib.hid (first_no _ M c4 BX w6.heap.size w6 hbs7 (Nat.le_refl _) hc4 hm4 h0)
            have snil := fun W : World => run_convert_bytes_nil (P := Try.prog) W 23 5 Try.underlying23 Try.underlying5 0 0 9 Try.underlying9
            go_wp2_with fail
            refine HFN.out.mono ?_
            rintro e w7 ⟨rfl, hb7⟩
            have z7 := hb7.size
            have hbs8 := (hbs7.below hb7).wider z7
            go_wp2_with fail
            refine (refFirst_any _ M c4 BX w7 hbs8 hc4 hm4).mono ?_
            rintro e w8 ⟨v8, rfl, _, hv8, hb8⟩
            have e8 := hv8 h0
            subst e8
            have hz0 : ((Crc.size BX : Nat) : Int) = 0 := by omega
            rw [hz0]
            have z8 := hb8.size
            have HSM := Lib.hid (same_yes A5 A6 q5 c5 c6 w6.heap.size SC w8 ((hR5'.below hb7).below (hb8.mono z7)) ((hR6.below hb7).below (hb8.mono z7)) (by unfold maxLen; omega))
            clear hz0 h0 hv8
            go_wp2_with fail
            refine HSM.out.mono ?_
            rintro e w9 ⟨rfl, hb9⟩
            go_wp2_with fail
            refine (awake2_any _).mono ?_
            rintro e w10 ⟨rfl, hb10⟩
            go_wp2_with fail
            go_ret
            have z9 := hb9.size
            exact ⟨rfl, (((hB6.trans (hb7.mono (by omega))).trans (hb8.mono (by omega))).trans (hb9.mono (by omega))).trans (hb10.mono (by omega))⟩
          · have HFN := Lib.hid (first_yes _ M c4 BX w6.heap.size w6 hbs7 (Nat.le_refl _) hc4 hm4 h0)
            have hszb := Crc.size_bound BX
            go_wp2_with fail
            refine HFN.out.mono ?_
            rintro e w7 ⟨v7, rfl, hown7, hb7⟩
            have z7 := hb7.size
            have hbs8 := (hbs7.below hb7).wider z7
            obtain ⟨A7, c7, rfl, hc7, hm7, hbs70, _, _⟩ := hown7.form
            go_wp2_with fail
            refine (refFirst_any _ M c4 BX w7 hbs8 hc4 hm4).mono ?_
            rintro e w8 ⟨v8, rfl, hown8, _, hb8⟩
            replace hown8 := hown8 h0
            obtain ⟨A8, c8, rfl, hc8, hm8, hbs80, _, _⟩ := hown8.form
            have z8 := hb8.size
            have hbs71 := hbs70.below hb8
            have HSM := Lib.hid (same_yes A5 A6 q5 c5 c6 w6.heap.size SC w8 ((hR5'.below hb7).below (hb8.mono z7)) ((hR6.below hb7).below (hb8.mono z7)) (by unfold maxLen; omega))
            have hzp : (0 : Int) < ((Crc.size BX : Nat) : Int) := by omega
            clear hown7 hown8 hbs70 HFN
            generalize Crc.size BX = z at *
            generalize Crc.body BX = bd at *
            have ez : ((z : Int) == (z : Int)) = true := by simp
            go_wp2_with fail
            refine HSM.out.mono ?_
            rintro e w9 ⟨rfl, hb9⟩
            have s1 := ((hbs71.wider z8).below hb9).str (P := Try.prog) (src := 23) (dst := 9) (e := 5) Try.underlying23 Try.underlying5 Try.underlying9 c7
            have s2 := (hbs80.below hb9).str (P := Try.prog) (src := 23) (dst := 9) (e := 5) Try.underlying23 Try.underlying5 Try.underlying9 c8
            clear hbs71 hbs80 hbs8 hbs7
            go_wp2_with fail
            refine (awake2_any _).mono ?_
            rintro e w10 ⟨rfl, hb10⟩
            go_wp2_with fail
            go_ret
            have z9 := hb9.size
            exact ⟨rfl, (((hB6.trans (hb7.mono (by omega))).trans (hb8.mono (by omega))).trans (hb9.mono (by omega))).trans (hb10.mono (by omega))⟩
end Go.Proofs.Ythkkjefcdedlfaa
