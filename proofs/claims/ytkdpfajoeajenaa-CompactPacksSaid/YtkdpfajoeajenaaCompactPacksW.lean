/-
  The walk through CompactPacks.
-/
import Derived.Test.YtkdpfajoeajenaaPkC
import Derived.Test.YtkdpfajoeajenaaPkF
import Derived.Test.YtkdpfajoeajenaaPkO
import Derived.Test.YtkdpfajoeajenaaRecNx
import Derived.Test.YtkdpfajoeajenaaCpR
namespace Go.Proofs.Ytkdpfajoeajenaa
open Go.RowKit Go.Lib Go.Sort
set_option linter.unusedVariables false
set_option linter.unusedSimpArgs false

theorem packs_mark : ∀ (f : Nat) (L : List AtC), ∀ b ∈ packs f L, markB b = false := by
  intro f
  induction f with
  | zero => intro L b hb; cases hb
  | succ f ih =>
    intro L b hb
    unfold packs at hb
    split at hb
    · cases hb
    · rcases List.mem_cons.1 hb with rfl | hb
      · rfl
      · exact ih _ b hb
theorem packs_small : ∀ (f : Nat) (L : List AtC), ∀ b ∈ packs f L, b.L.length ≤ 64 := by
  intro f
  induction f with
  | zero => intro L b hb; cases hb
  | succ f ih =>
    intro L b hb
    unfold packs at hb
    split at hb
    · cases hb
    · rename_i h
      rcases List.mem_cons.1 hb with rfl | hb
      · have := runN_le L (by omega)
        rw [map_r_len _ _ this.1]; exact this.2
      · exact ih _ b hb
/-- what stands of records that were packed -/
structure Good (P : List Bat) : Prop where
  valid : ∀ k, k < P.length → validE (P.getD k zB) = 0
  rise : ∀ k, k + 1 < P.length → nextI (P.getD k zB) ≤ (P.getD (k + 1) zB).base
  base : ∀ k, k < P.length → 0 ≤ (P.getD k zB).base ∧ (P.getD k zB).base ≤ 2199023255552
theorem good_of (L : List AtC) (ho : ∀ r ∈ L, r.ok) (he : packE L = 0) : Good (packM L) ∧ flatA (packM L) = L ∧ (packM L).length ≤ L.length := by
  have hm : packM L = packs L.length L := by unfold packM; rw [if_pos he]
  have hi : incB L = true := by
    unfold packE at he
    by_cases h : incB L = true
    · exact h
    · rw [if_neg h] at he; cases he
  have hb : badE (packs L.length L) = 0 := by unfold packE at he; rw [if_pos hi] at he; exact he
  have hv := bad_all _ hb
  rw [hm]
  have hv2 : ∀ k, k < (packs L.length L).length → validE ((packs L.length L).getD k zB) = 0 := fun k hk => by
    rw [List.getD_eq_getElem?_getD, List.getElem?_eq_getElem hk]; exact hv _ (List.getElem_mem _)
  refine ⟨⟨hv2, fun k hk => ?_, fun k hk => ?_⟩, flat_packs _ _ (Nat.le_refl _) ho hi, packs_len _ _ (Nat.le_refl _)⟩
  · have h1 := packs_rise _ _ (Nat.le_refl _) ho hi k hk
    have h2 : markB ((packs L.length L).getD k zB) = false := by
      rw [List.getD_eq_getElem?_getD, List.getElem?_eq_getElem (by omega)]; exact packs_mark _ _ _ (List.getElem_mem _)
    unfold nextI spanI
    rw [if_pos (hv2 k (by omega)), h2]
    exact h1
  · have hF := (fine_iff _).1 (hv2 k hk)
    exact ⟨hF.b1, by have := hF.b2; omega⟩
theorem packM_len (L : List AtC) : (packM L).length ≤ L.length := by
  unfold packM
  split
  · exact packs_len _ _ (Nat.le_refl _)
  · exact Nat.zero_le _
set_option maxRecDepth 100000 in
set_option maxHeartbeats 4000000 in
theorem compactPacks_any (A : Option Addr) (n c : Nat) (M0 : List OneC) (y : Int) (w : World) (h : Ocs w w.heap.size A n M0) (hn : n ≤ maxLen) (hy : -9223372036854775808 ≤ y ∧ y ≤ 9223372036854775807) :
    Calls Try.prog 4 #[.slice A n c, .int .i64 y] w fun e w' => e = .returned (.bool true) ∧ Below w.heap.size w w' := by
  have HLD : Hid (∀ y, -9223372036854775808 ≤ y ∧ y ≤ 9223372036854775807 → Calls Try.prog 16 #[.slice A n c, .int .i64 y, .int .i64 150] w fun e w' => laidQ 150 w e w') := fun y hy => laid_at y hy 150 (by omega) A n c M0 w h hn
  have HAW : Hid (∀ W, Calls Try.prog 19 #[] W fun e w' => e = .returned (.bool true) ∧ Below W.heap.size W w') := awake9_any
  clear h
  go_enter Try.func4, Try.ntmps4
  go_upto_region 1 with fail
  go_cut [18] (fun s18 wx => ∃ b : Bool, s18 = .bool b ∧ wx = w)
  case first =>
    by_cases h1 : 1152921504606846976 < y
    · have e1 : decide (1152921504606846976 < y) = true := decide_eq_true h1
      go_wp2_with fail
      go_meet
      exact ⟨true, rfl, rfl⟩
    · have e1 : decide (1152921504606846976 < y) = false := decide_eq_false h1
      go_wp2_with fail
      go_meet
      exact ⟨_, rfl, rfl⟩
  case rest =>
    obtain ⟨b, rfl, hwc⟩ := hcut
    subst hwc
    go_upto_if 18 with fail
    go_cut [1] (fun s1 wx => ∃ y : Int, s1 = .int .i64 y ∧ (-9223372036854775808 ≤ y ∧ y ≤ 9223372036854775807) ∧ wx = wc)
    case first =>
      cases b with
      | true =>
        go_wp2_with fail
        go_meet
        exact ⟨0, rfl, by omega, rfl⟩
      | false =>
        go_wp2_with fail
        go_meet
        exact ⟨y, rfl, hy, rfl⟩
    case rest =>
      obtain ⟨y', rfl, hy', hwe⟩ := hcut
      have hwe' := hwe.symm
      subst hwe'
      have HLD2 := Lib.hid (HLD.out y' hy')
      clear HLD
      go_upto_region 4 with (go_at_call 16; (with_reducible refine HLD2.out.mono ?_); rintro e w1 ⟨v, u, L, rfl, hL150, hla⟩)
      obtain ⟨A1, c1, rfl, hc1, hcm1, hP⟩ := Acs.of_row hla.p rfl hla.ok
      obtain ⟨A2, c2, rfl, hc2, hcm2, hQ⟩ := Acs.of_row hla.q rfl hla.ok
      have Q1 := Lib.hid hQ
      have B1 := Lib.hid hla.bel
      have HOK := Lib.hid hla.ok
      have HPA : Hid (Calls Try.prog 17 #[.slice A1 L.length c1] w1 fun e w' => PackP L w1 e w') := pack_any A1 L.length c1 L w1 hP hL150 hc1 hcm1
      have HRA : Hid (∀ W, Acs W W.heap.size A2 L.length L → Calls Try.prog 18 #[.slice A2 L.length c2] W fun e w' => PackP L W e w') := fun W hW => rpack_any A2 L.length c2 L W hW hL150 hc2 hcm2
      have HAL : Hid (∀ (W : World) A c, Acs W W.heap.size A L.length L → Acs W W.heap.size A2 L.length L → Calls Try.prog 20 #[.slice A L.length c, .slice A2 L.length c2] W fun e w' => e = .returned (.bool true) ∧ Below W.heap.size W w') := fun W A c h1 h2 => alike_any A A2 L.length c c2 L W h1 h2 (by omega)
      have HML := Lib.hid (packM_len L)
      have HGO : Hid (packE L = 0 → Good (packM L) ∧ flatA (packM L) = L ∧ (packM L).length ≤ L.length) := fun e => good_of L hla.ok e
      unfold PackP at HPA HRA
      generalize packE L = PE at *
      generalize packM L = PM at *
      clear hla hP hQ HLD2
      go_upto_region 5 with (go_at_call 17; (with_reducible refine HPA.out.mono ?_); rintro e w2 ⟨vp, Mp, rfl, hMp, hmp⟩)
      have Q2 := Lib.hid ((Q1.out.below hmp.bel).wider hmp.bel.size)
      have M2 := Lib.hid hmp
      have B2 := Lib.hid (B1.out.trans (hmp.bel.mono B1.out.size))
      clear hmp HPA Q1
      go_upto_region 6 with (go_at_call 18; (with_reducible refine (HRA.out _ Q2.out).mono ?_); rintro e w3 ⟨vr, Mr, rfl, hMr, hmr⟩)
      have Q3 := Lib.hid ((Q2.out.below hmr.bel).wider hmr.bel.size)
      have M3 := Lib.hid (M2.out.below hmr.bel)
      have B3 := Lib.hid (B2.out.trans (hmr.bel.mono B2.out.size))
      have hml : Mr.length = Mp.length := by have e := congrArg List.length (hMp.trans hMr.symm); rw [List.length_map, List.length_map] at e; exact e.symm
      obtain ⟨Ar, cr, rfl, _, _, hbr⟩ := hmr.bas
      obtain ⟨Ap, cp, rfl, _, _, hbp⟩ := M3.out.bas
      rw [hml] at hbr ⊢
      have hpl : Mp.length ≤ 150 := by have h1 := HML.out; have h2 := congrArg List.length hMp; rw [List.length_map] at h2; omega
      have HSA : Hid (Calls Try.prog 8 #[.slice Ap Mp.length cp, .slice Ar Mp.length cr] w3 fun e w' => e = .returned (.bool true) ∧ Below w3.heap.size w3 w') := sameAll_yes Mp Mr Ap Ar Mp.length cp cr w3 hbp (by rw [← hml] at hbr ⊢; exact hbr) (hMp.trans hMr.symm) (by omega)
      have hpe : (PE != PE) = false := by simp
      clear hmr M2 Q2 hbr hbp HRA
      go_upto_region 8 with (go_at_call 8; (with_reducible refine HSA.out.mono ?_); rintro e w4 ⟨rfl, hb4⟩)
      have Q4 := Lib.hid ((Q3.out.below hb4).wider hb4.size)
      have M4 := Lib.hid (M3.out.below hb4)
      have B4 := Lib.hid (B3.out.trans (hb4.mono B3.out.size))
      clear hb4 Q3 M3 B3 HSA
      by_cases hp0 : PE = 0
      · have hpd : (PE != 0) = false := by rw [hp0]; rfl
        obtain ⟨hgo, hfl, _⟩ := HGO.out hp0
        subst hp0
        rw [← hMp] at hgo hfl
        have HV : Hid (∀ k, k < Mp.length → validE (Mp.getD k default).b = 0) := fun k hk => by have := hgo.valid k (by rw [List.length_map]; exact hk); rw [bat_get] at this; exact this
        have HR : Hid (∀ k, k + 1 < Mp.length → nextI (Mp.getD k default).b ≤ (Mp.getD (k + 1) default).b.base) := fun k hk => by have := hgo.rise k (by rw [List.length_map]; exact hk); rw [bat_get, bat_get] at this; exact this
        have HBS : Hid (∀ k, k < Mp.length → 0 ≤ (Mp.getD k default).b.base ∧ (Mp.getD k default).b.base ≤ 2199023255552) := fun k hk => by have := hgo.base k (by rw [List.length_map]; exact hk); rw [bat_get] at this; exact this
        have HFL := Lib.hid hfl
        have HSH : Hid (∀ W, Ml w1 W (.slice Ap Mp.length cp) Mp → Bas W W.heap.size Ap Mp.length Mp) := fun W hW => by
          obtain ⟨A9, c9, hv, _, _, hb⟩ := hW.bas
          injection hv with e1 _ e2
          subst e1 e2
          exact hb
        clear hgo hfl
        go_wp2_with fail
        go_loopw [49] (fun iv wr => ∃ k : Nat, k ≤ Mp.length ∧ iv = .int .i64 k ∧ Hid (Below w4.heap.size w4 wr)) (fun iv _ => Mp.length - (RowKit.intOf iv).toNat)
        case atStart => exact ⟨0, by omega, rfl, Below.refl _ _⟩
        case round =>
          obtain ⟨k, hk, rfl, HB⟩ := hrel
          by_cases hlt : k < Mp.length
          · have HBA := Lib.hid (HSH.out wr (M4.out.below HB.out))
            obtain ⟨p, rfl, hp, r0, r1, r2, r3, r4, r5, r6⟩ := HBA.out.row hlt
            obtain ⟨hx1, hx2, hx3, hx4⟩ := HBA.out.each k hlt
            have hvk := HV.out k hlt
            have HRK : Hid (∀ j, j + 1 = k → nextI (Mp.getD j default).b ≤ (Mp.getD k default).b.base) := fun j hj => by subst hj; exact HR.out j hlt
            have hkz : (k : Int) < (Mp.length : Int) := by omega
            generalize Mp.getD k default = x at *
            obtain ⟨⟨bb, bp, be, bs, bk, bt, bL⟩, bA, bc⟩ := x
            simp only at r0 r1 r2 r3 r4 r5 r6 hx1 hx2 hx3 hvk HRK
            have hal := (Below.refl wr.heap.size wr).alloc (Nat.le_refl _) (.cells #[.int .i64 bb, .int .i64 bp, .int .i64 be, .int .i64 bs, .int .i64 bk, .int .i64 bt, .slice bA bL.length bc] 24)
            have hN := heap_alloc_new wr (.cells #[.int .i64 bb, .int .i64 bp, .int .i64 be, .int .i64 bs, .int .i64 bk, .int .i64 bt, .slice bA bL.length bc] 24)
            obtain ⟨w5, hw5⟩ : ∃ w5, wr.alloc (.cells #[.int .i64 bb, .int .i64 bp, .int .i64 be, .int .i64 bs, .int .i64 bk, .int .i64 bt, .slice bA bL.length bc] 24) = w5 := ⟨_, rfl⟩
            rw [hw5] at hal hN
            have HW5 := Lib.hid hw5
            have HB5 := Lib.hid (HB.out.trans (hal.mono HB.out.size))
            have HBA5 := Lib.hid ((HBA.out.below hal).wider hal.size)
            have HX1 := Lib.hid ((hx1.below hal).wider hal.size)
            have HVQ : Hid (∀ d os, Calls Try.prog 10 #[.agg #[.int .i64 bb, .int .i64 bp, .int .i64 be, .int .i64 bs, .int .i64 bk, .int .i64 bt, .slice bA bL.length bc]] (Sort.grow (redrawn w5 d) os) fun e w'' => e = .returned (.int .i64 0) ∧ ∃ p : Regrown, w'' = Sort.grow (redrawn w5 p.d) p.os) := fun d os => by
              have e := valid_any ⟨bb, bp, be, bs, bk, bt, bL⟩ bA bc w5.heap.size _ (HX1.out.below (below_regrown w5 d os)) (below_regrown w5 d os).size (by unfold maxLen; show bL.length ≤ _; omega)
              rw [hvk] at e
              exact Calls.regrown_of e
            clear hw5 hal hx1 hvk
            go_upto_region 13 with fail
            rw [HW5.out]
            have x0 := cell_regrown (cell_of_row _ _ 0 _ _ _ hN)
            have x1 := cell_regrown (cell_of_row _ _ 1 _ _ _ hN)
            have x2 := cell_regrown (cell_of_row _ _ 2 _ _ _ hN)
            have x3 := cell_regrown (cell_of_row _ _ 3 _ _ _ hN)
            have x4 := cell_regrown (cell_of_row _ _ 4 _ _ _ hN)
            have x5 := cell_regrown (cell_of_row _ _ 5 _ _ _ hN)
            have x6 := cell_regrown (cell_of_row _ _ 6 _ _ _ hN)
            clear r0 r1 r2 r3 r4 r5 r6 hN HBA
            rcases Nat.eq_zero_or_pos k with rfl | hpos
            · have e0 : decide ((0 : Int) < ((0 : Nat) : Int)) = false := by simp
              go_wp2_with fail
              refine wp_region_quiet_below (by kernel_rfl) (by kernel_rfl) ?_
              repeat (go_big_quiet_step (exact HVQ.out _ _))
              refine wpQuiet_nil ?_
              intro _ hw'
              obtain ⟨⟨dq, osq⟩, hw''⟩ := hw'
              subst hw''
              have HB9 := Lib.hid (HB5.out.trans ((below_regrown w5 dq osq).mono HB5.out.size))
              go_wp2_with fail
              go_roundw
              case rel => exact ⟨1, by omega, by first | rfl | go_num, HB9⟩
              case measure => simp [RowKit.intOf]; omega
            · obtain ⟨k, rfl⟩ : ∃ k', k = k' + 1 := ⟨k - 1, by omega⟩
              rw [show (((k + 1 : Nat) : Int)) = (k : Int) + 1 from by omega] at *
              have hlt0 : k < Mp.length := by omega
              obtain ⟨p', hp', _, s0, s1, s2, s3, s4, s5, s6⟩ := HBA5.out.row hlt0
              injection hp' with hp'
              subst hp'
              obtain ⟨hy1, hy2, hy3, hy4⟩ := HBA5.out.each k hlt0
              have hnx := HRK.out k rfl
              generalize Mp.getD k default = x at *
              obtain ⟨⟨ab, ap, ae, as_, ak, at_, aL⟩, aA, ac⟩ := x
              simp only at s0 s1 s2 s3 s4 s5 s6 hy1 hy2 hy3 hnx
              have HNQ : Hid (∀ d os, Calls Try.prog 15 #[.agg #[.int .i64 ab, .int .i64 ap, .int .i64 ae, .int .i64 as_, .int .i64 ak, .int .i64 at_, .slice aA aL.length ac]] (Sort.grow (redrawn w5 d) os) fun e w'' => e = .returned (.int .i64 (nextI ⟨ab, ap, ae, as_, ak, at_, aL⟩)) ∧ ∃ p : Regrown, w'' = Sort.grow (redrawn w5 p.d) p.os) := fun d os =>
                Calls.regrown_of (next_any ⟨ab, ap, ae, as_, ak, at_, aL⟩ aA ac w5.heap.size _ (hy1.below (below_regrown w5 d os)) (below_regrown w5 d os).size (by unfold maxLen; show aL.length ≤ _; omega))
              generalize nextI ⟨ab, ap, ae, as_, ak, at_, aL⟩ = NX at *
              have g0 := cell_regrown s0
              have g1 := cell_regrown s1
              have g2 := cell_regrown s2
              have g3 := cell_regrown s3
              have g4 := cell_regrown s4
              have g5 := cell_regrown s5
              have g6 := cell_regrown s6
              have e0 : decide ((0 : Int) < (k : Int) + 1) = true := by rw [decide_eq_true_iff]; omega
              have hd : decide (bb < NX) = false := by rw [decide_eq_false_iff_not]; omega
              have hkz0 : (k : Int) < (Mp.length : Int) := by omega
              have hk1 : ((k : Int) + 1).toNat = k + 1 := by omega
              have hk0 : (0 : Int) ≤ (k : Int) + 1 := by omega
              clear s0 s1 s2 s3 s4 s5 s6 hy1 hnx
              go_wp2_with fail
              refine wp_region_quiet_below (by kernel_rfl) (by kernel_rfl) ?_
              repeat (go_big_quiet_step (first | exact HVQ.out _ _ | exact HNQ.out _ _))
              refine wpQuiet_nil ?_
              intro _ hw'
              obtain ⟨⟨dq, osq⟩, hw''⟩ := hw'
              subst hw''
              have HB9 := Lib.hid (HB5.out.trans ((below_regrown w5 dq osq).mono HB5.out.size))
              go_wp2_with fail
              go_roundw
              case rel => exact ⟨k + 1 + 1, by omega, by go_num, HB9⟩
              case measure => simp [RowKit.intOf]; omega
          · have d8 : decide ((k : Int) < (Mp.length : Int)) = false := by rw [decide_eq_false_iff_not]; omega
            have M5 := Lib.hid (M4.out.below HB.out)
            have Q5 := Lib.hid ((Q4.out.below HB.out).wider HB.out.size)
            have B5 := Lib.hid (B4.out.trans (HB.out.mono B4.out.size))
            have HFA : Hid (Calls Try.prog 13 #[.slice Ap Mp.length cp] wr fun e w' => ∃ v, e = .returned v ∧ w'.ownsRow wr.heap.size 40 5 v L.length (ccells L) ∧ Below wr.heap.size wr w') := by
              have e := flat_all Mp Ap Mp.length cp wr (HSH.out wr M5.out) (by omega) HBS.out
              rw [HFL.out] at e
              exact e
            go_upto_region 16 with fail
            go_wp2_with (first
              | (go_at_call 13; (with_reducible refine HFA.out.mono ?_); rintro e w6 ⟨v6, rfl, ho6, hb6⟩; obtain ⟨A6, c6, rfl, _, _, hR6⟩ := Acs.of_row ho6 rfl HOK.out; have R6 := Lib.hid hR6; have Q6 := Lib.hid ((Q5.out.below hb6).wider hb6.size); have B6 := Lib.hid (B5.out.trans (hb6.mono B5.out.size)); clear hb6 ho6 hR6)
              | (go_at_call 20; (with_reducible refine (HAL.out _ _ _ R6.out Q6.out).mono ?_); rintro e w7 ⟨rfl, hb7⟩; have B7 := Lib.hid (B6.out.trans (hb7.mono B6.out.size)); clear hb7)
              | (go_at_call 19; (with_reducible refine (HAW.out _).mono ?_); rintro e w8 ⟨rfl, hb8⟩; have B8 := Lib.hid (B7.out.trans (hb8.mono B7.out.size)); clear hb8))
            go_ret
            exact ⟨rfl, B8.out⟩
      · have hpd : (PE != 0) = true := by simpa using hp0
        go_wp2_with (go_at_call 19; (with_reducible refine (HAW.out _).mono ?_); rintro e w7 ⟨rfl, hb7⟩; have B7 := Lib.hid (B4.out.trans (hb7.mono B4.out.size)); clear hb7)
        go_ret
        exact ⟨rfl, B7.out⟩
end Go.Proofs.Ytkdpfajoeajenaa
