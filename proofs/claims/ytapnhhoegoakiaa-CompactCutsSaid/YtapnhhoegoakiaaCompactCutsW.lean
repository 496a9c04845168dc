/-
  The walk through CompactCuts.
-/
import Derived.Test.YtapnhhoegoakiaaCpV
import Derived.Test.YtapnhhoegoakiaaCompactAgainW
import Derived.Test.YtapnhhoegoakiaaIdxN
namespace Go.Proofs.Ytapnhhoegoakiaa
open Go.RowKit Go.Lib Go.Sort
set_option linter.unusedVariables false
set_option linter.unusedSimpArgs false

def nxK (L : List AtC) (k : Nat) : Int := if k = 0 then 0 else (L.getD (k - 1) default).off + 1
theorem app_more (L : List AtC) (k z : Nat) : appAll ((L.drop k).take z) (appAll (L.take k) []) = appAll (L.take (k + z)) [] := by
  unfold appAll
  rw [List.take_add, List.foldl_append]
theorem getD_dt (L : List AtC) (k z i : Nat) (hi : i < z) : ((L.drop k).take z).getD i default = L.getD (k + i) default := by
  simp [List.getD_eq_getElem?_getD, List.getElem?_take, hi, List.getElem?_drop]
theorem ok_more {L : List AtC} (h : okA 0 L = true) (k z : Nat) (hk : k + z ≤ L.length) : okA (nxK L k) ((L.drop k).take z) = true ∧ appN (nxK L k) ((L.drop k).take z) = nxK L (k + z) := by
  have hl : ((L.drop k).take z).length = z := by simp; omega
  rcases Nat.eq_zero_or_pos z with h0 | h0
  · subst h0
    exact ⟨by unfold okA; simp, by unfold appN; rw [if_pos hl]; rfl⟩
  · have hL0 : L ≠ [] := fun e => by rw [e] at hk; simp at hk; omega
    have hLn : ¬ L.length = 0 := fun e => hL0 (List.length_eq_zero_iff.1 e)
    have hok : okM 0 L = true := by unfold okA at h; simpa [hLn] using h
    have hN0 : (L.drop k).take z ≠ [] := fun e => by rw [e] at hl; simp at hl; omega
    rw [okM_iff _ _ hL0] at hok
    have hsub : List.Sublist ((L.drop k).take z) L := (List.take_sublist _ _).trans (List.drop_sublist _ _)
    have hok' : okM (nxK L k) ((L.drop k).take z) = true := by
      rw [okM_iff _ _ hN0]
      refine ⟨hok.1.sublist hsub, fun x hx => ⟨?_, (hok.2 x (hsub.subset hx)).2⟩⟩
      obtain ⟨i, hi, rfl⟩ := getD_mem hx
      rw [hl] at hi
      rw [getD_dt L k z i hi]
      unfold nxK
      split
      · have := (hok.2 (L.getD (k + i) default) (by rw [List.getD_eq_getElem?_getD, List.getElem?_eq_getElem (by omega)]; exact List.getElem_mem _)).1; omega
      · have h2 : (L.getD (k - 1) default).off < (L.getD (k + i) default).off := by
          rw [List.getD_eq_getElem?_getD, List.getD_eq_getElem?_getD, List.getElem?_eq_getElem (show k + i < L.length by omega), List.getElem?_eq_getElem (show k - 1 < L.length by omega)]
          exact List.pairwise_iff_getElem.1 hok.1 (k - 1) (k + i) (by omega) (by omega) (by omega)
        omega
    refine ⟨by unfold okA; rw [hok']; simp, ?_⟩
    unfold appN
    rw [hl, if_neg (by omega), if_pos hok']
    unfold nxK
    rw [if_neg (by omega), getD_dt L k z (z - 1) (by omega), show k + (z - 1) = k + z - 1 by omega]
theorem ok_all {L : List AtC} (h : okA 0 L = true) : appN 0 L = nxK L L.length ∧ appT 0 L [] = appAll L [] ∧ appE 0 L = 0 := by
  have := (ok_more h 0 L.length (by omega)).2
  simp only [List.drop_zero, List.take_length, Nat.zero_add] at this
  exact ⟨this, by unfold appT; rw [h]; rfl, by unfold appE; rw [h]; rfl⟩
set_option maxRecDepth 100000 in
set_option maxHeartbeats 4000000 in
theorem compactCuts_any (A : Option Addr) (n c : Nat) (M : List OneC) (CA : Option Addr) (cn cC : Nat) (CX : List Int) (w : World) (h : Ocs w w.heap.size A n M) (hn : n ≤ maxLen) (hcx : Ins w w.heap.size CA cn CX) (hcn : cn ≤ maxLen) :
    Calls Try.prog 7 #[.slice A n c, .slice CA cn cC] w fun e w' => e = .returned (.bool true) ∧ Below w.heap.size w w' := by
  unfold maxLen at hcn
  have HLD := Lib.hid (laid_any9 A n c M w h hn)
  have HCX := Lib.hid hcx
  have HNW : Hid (∀ W : World, Calls Try.prog 20 #[] W fun e w' => e = .returned (.pointer (some ⟨W.heap.size, 0, none⟩)) ∧ Hid (w' = W.alloc (.cells #[.int .i64 0, .slice none 0 0] 79))) := fun W => cnew_any W
  have HAP : Hid (∀ (W : World) g n c M A, Tbl W W.heap.size g 0 (.slice none 0 0) [] → Acs W W.heap.size A n M → (∀ p, A = some p → p.block ≠ g) → n ≤ 60 → Calls Try.prog 21 #[.pointer (some ⟨g, 0, none⟩), .slice A n c] W fun e w' => ∃ v', e = .returned (.int .i64 (appE 0 M)) ∧ Tbl w' W.heap.size g (appN 0 M) v' (appT 0 M []) ∧ Tw W.heap.size g W w') := fun W g n c M A h1 h2 h3 h4 => Apply_total W.heap.size g n c 0 _ [] M A W h1 (Nat.le_refl _) h2 h3 (by omega) (by simp)
  have HAW : Hid (∀ W, Calls Try.prog 19 #[] W fun e w' => e = .returned (.bool true) ∧ Below W.heap.size W w') := awake9_any
  have HLEN : Hid (∀ base g next v L W, Tbl W base g next v L → Calls Try.prog 22 #[.pointer (some ⟨g, 0, none⟩)] W fun e w' => e = .returned (.int .i64 (L.length : Int)) ∧ w' = W) := len9_any
  have HNX : Hid (∀ base g next v L W, Tbl W base g next v L → Calls Try.prog 23 #[.pointer (some ⟨g, 0, none⟩)] W fun e w' => e = .returned (.int .i64 next) ∧ w' = W) := next9_any
  have HSM : Hid (∀ base base' g g' next next' v v' L W, Tbl W base g next v L → Tbl W base' g' next' v' L → L.length ≤ 100000 → Calls Try.prog 25 #[.pointer (some ⟨g, 0, none⟩), .pointer (some ⟨g', 0, none⟩)] W fun e w' => e = .returned (.bool true) ∧ Below W.heap.size W w') := same9_yes
  clear h hcx
  go_enter Try.func7, Try.ntmps7
  go_upto_region 2 with (go_at_call 14; (with_reducible refine HLD.out.mono ?_); rintro e w1 ⟨v, u, L, rfl, hL60, hla⟩)
  obtain ⟨A1, c1, rfl, hc1, hcm1, hP⟩ := Acs.of_row hla.p rfl hla.ok
  obtain ⟨A2, c2, rfl, _, _, _⟩ := Acs.of_row hla.q rfl hla.ok
  have P1 := Lib.hid hP
  have B1 := Lib.hid hla.bel
  have Z1 : Hid (w.heap.size ≤ w1.heap.size) := hla.bel.size
  have HN1 := Lib.hid (row_none hla.p)
  have HLT1 : Hid (∀ p, A1 = some p → p.block < w1.heap.size) := fun p hp => (World.ownsRow.lt hla.p p.block (by rw [hp]; rfl)).2
  clear hla hP HLD
  go_upto_region 3 with (first
    | (go_at_call 20; (with_reducible refine (HNW.out w1).mono ?_); rintro e wa ⟨rfl, ha⟩)
    | (go_at_call 20; (with_reducible refine (HNW.out wa).mono ?_); rintro e w2 ⟨rfl, hb⟩))
  have za : Hid (wa.heap.size = w1.heap.size + 1) := by show _ = _; rw [ha.out]; simp
  have z2 : Hid (w2.heap.size = w1.heap.size + 2) := by show _ = _; rw [hb.out]; have := za.out; simp; omega
  have Ba : Below w1.heap.size w1 wa := by rw [ha.out]; exact (Below.refl _ _).alloc (Nat.le_refl _) _
  have Bb : Below wa.heap.size wa w2 := by rw [hb.out]; exact (Below.refl _ _).alloc (Nat.le_refl _) _
  have Ta : Tbl wa wa.heap.size w1.heap.size 0 (.slice none 0 0) [] := by rw [ha.out]; exact Tbl.made w1 _
  have T2 := Lib.hid ((Ta.below Bb).rebase w2.heap.size)
  have U2 : Hid (Tbl w2 w2.heap.size wa.heap.size 0 (.slice none 0 0) []) := by show Tbl _ _ _ _ _ _; rw [hb.out]; exact Tbl.made wa _
  have B12 : Below w1.heap.size w1 w2 := Ba.trans (Bb.mono (by have := za.out; omega))
  have P2 := Lib.hid ((P1.out.below B12).wider B12.size)
  have B2 := Lib.hid (B1.out.trans (B12.mono B1.out.size))
  clear ha hb Ba Bb Ta B12 P1 B1
  go_upto_region 4 with (go_at_call 21; (with_reducible refine (HAP.out _ _ _ _ L A1 T2.out P2.out ?_ hL60).mono ?_); (intro p hp; have := HLT1.out p hp; omega); rintro e w3 ⟨v3, rfl, ht3, htw3⟩)
  have T3 := Lib.hid ht3
  have P3 := Lib.hid ((P2.out.tw htw3 (fun p hp => by have := HLT1.out p hp; omega)).wider htw3.size)
  have U3 := Lib.hid ((U2.out.tw htw3 (Nat.le_refl _) (by have := za.out; omega) (by simp [Value.ownBlock])).rebase w3.heap.size)
  have B3 : Hid (Below w.heap.size w w3) := B2.out.trans (htw3.below B2.out.size Z1.out)
  have T3V : Hid (v3.ownBlock ≠ some wa.heap.size) := fun e => by have := (World.ownsRow.lt ht3.row _ e).1; have := za.out; have := z2.out; omega
  clear ht3 htw3 T2 P2 U2 B2 HAP HNW
  cases hokA : okA 0 L with
  | false =>
    have e1 : appE 0 L = 8 := by unfold appE; rw [hokA]; rfl
    rw [e1]
    clear e1 hokA
    go_wp2_with (go_at_call 19; (with_reducible refine (HAW.out _).mono ?_); rintro e w8 ⟨rfl, hb8⟩)
    go_ret
    exact ⟨rfl, B3.out.trans (hb8.mono B3.out.size)⟩
  | true =>
    obtain ⟨e1, e2, e3⟩ := ok_all hokA
    rw [e1, e2] at T3
    rw [e3]
    have HLR : Hid ((appAll L []).length ≤ 60) := by show _ ≤ _; have := app_len L []; simp at this; omega
    have HUS : Hid (∀ (W : World) k z v A c, Tw w3.heap.size wa.heap.size w3 W → Tbl W w3.heap.size wa.heap.size (nxK L k) v (appAll (L.take k) []) → k + z ≤ L.length → Acs W w3.heap.size A z ((L.drop k).take z) → (∀ p, A = some p → p.block < w1.heap.size) → Calls Try.prog 21 #[.pointer (some ⟨wa.heap.size, 0, none⟩), .slice A z c] W fun e w' => ∃ v', e = .returned (.int .i64 0) ∧ Tbl w' w3.heap.size wa.heap.size (nxK L (k + z)) v' (appAll (L.take (k + z)) []) ∧ Tw w3.heap.size wa.heap.size W w') := fun W k z v A c h1 h2 h3 h4 h5 => by
      obtain ⟨q1, q2⟩ := ok_more hokA k z h3
      have hle : (appAll (L.take k) []).length ≤ 60 := by have := app_len (L.take k) []; simp at this; omega
      refine (Apply_total w3.heap.size wa.heap.size z c (nxK L k) v (appAll (L.take k) []) ((L.drop k).take z) A W h2 h1.size h4 (fun p hp => by have := h5 p hp; have := za.out; omega) (by omega) (by omega)).mono ?_
      rintro e w' ⟨v', rfl, r1, r2⟩
      refine ⟨v', by unfold appE; rw [q1]; rfl, ?_, r2⟩
      rw [q2] at r1
      unfold appT at r1
      rw [q1, if_pos rfl, app_more] at r1
      exact r1
    have HAPS : Hid (∀ (W : World) k v A c z, Hid (Tw w3.heap.size wa.heap.size w3 W) → Hid (Tbl W w3.heap.size wa.heap.size (nxK L k) v (appAll (L.take k) [])) → k ≤ L.length → Acs W w3.heap.size A z ((L.drop k).take z) → Hid (∀ p, A = some p → p.block < w1.heap.size) → k + z ≤ L.length → Calls Try.prog 21 #[.pointer (some ⟨wa.heap.size, 0, none⟩), .slice A z c] W fun e w' => ∃ v', e = .returned (.int .i64 0) ∧ Tbl w' w3.heap.size wa.heap.size (nxK L (k + z)) v' (appAll (L.take (k + z)) []) ∧ Tw w3.heap.size wa.heap.size W w') := fun W k v A c z h1 h2 _ h4 h5 h6 => HUS.out W k z v A c h1 h2 h6 h4 h5
    have HAPF : Hid (∀ (W : World) k v A c, Hid (Tw w3.heap.size wa.heap.size w3 W) → Hid (Tbl W w3.heap.size wa.heap.size (nxK L k) v (appAll (L.take k) [])) → k ≤ L.length → Hid (Acs W w3.heap.size A (L.length - k) (L.drop k)) → Hid (∀ p, A = some p → p.block < w1.heap.size) → Calls Try.prog 21 #[.pointer (some ⟨wa.heap.size, 0, none⟩), .slice A (L.length - k) c] W fun e w' => ∃ v', e = .returned (.int .i64 0) ∧ Tbl w' w3.heap.size wa.heap.size (nxK L L.length) v' (appAll L []) ∧ Tw w3.heap.size wa.heap.size W w') := fun W k v A c h1 h2 h3 h4 h5 => by
      have h4' : Acs W w3.heap.size A (L.length - k) ((L.drop k).take (L.length - k)) := by rw [List.take_of_length_le (by simp)]; exact h4
      have := HUS.out W k (L.length - k) v A c h1 h2 (by omega) h4' h5
      rw [show k + (L.length - k) = L.length by omega, List.take_length] at this
      exact this
    have hU0 : Tbl w3 w3.heap.size wa.heap.size (nxK L 0) (.slice none 0 0) (appAll (L.take 0) []) := U3.out
    have U0 := Lib.hid hU0
    clear e1 e2 e3 hokA U3 hU0 HUS
    obtain ⟨R, hR⟩ : ∃ R, appAll L [] = R := ⟨_, rfl⟩
    rw [hR] at T3 HLR HAPF
    have hR60 := HLR.out
    clear hR
    go_upto_region 8 with fail
    go_loopw [10, 29] (fun rs i wr => ∃ j : Nat, j ≤ cn ∧ i = .int .i64 j ∧ ∃ k : Nat, k ≤ L.length ∧ ∃ (AA : Option Addr) (cc : Nat), rs = .slice AA (L.length - k) cc ∧ L.length - k ≤ cc ∧ Hid (Acs wr w3.heap.size AA (L.length - k) (L.drop k)) ∧ Hid (∀ p, AA = some p → p.block < w1.heap.size) ∧ Hid (AA = none → L.length - k = 0 ∧ cc = 0) ∧ ∃ v', Hid (Tbl wr w3.heap.size wa.heap.size (nxK L k) v' (appAll (L.take k) [])) ∧ Hid (Tw w3.heap.size wa.heap.size w3 wr)) (fun _ i _ => cn - (RowKit.intOf i).toNat)
    case atStart => exact ⟨0, by omega, rfl, 0, by omega, A1, c1, rfl, hc1, P3, HLT1, HN1, _, U0, Tw.refl _ _ _⟩
    case round =>
      obtain ⟨j, hj, rfl, k, HKL, AA, cc, rfl, hcc, HRC, HPB, HNN, v', HUU, HTWI⟩ := hrel
      by_cases hlt : j < cn
      · obtain ⟨cp, rfl, hcp, ci, hi1, hi2⟩ := (HCX.out.below (B3.out.trans (HTWI.out.below B3.out.size (by have := Z1.out; have := za.out; omega)))).row j hlt
        generalize CX.getD j 0 = cx at *
        have hjz : (j : Int) < (cn : Int) := by omega
        by_cases hj30 : j < 30
        · have d30 : decide ((30 : Int) ≤ (j : Int)) = false := by rw [decide_eq_false_iff_not]; omega
          have hmz : ¬ (((L.length - k : Nat) : Int) + 1 = 0) := by omega
          have hmb : (((L.length - k : Nat) : Int) + 1 == 0) = false := by simp; omega
          skip
          go_upto_if 42 with fail
          clear ci
          have htm := tmod_bd cx (L.length - k)
          rw [show (((L.length - k : Nat) : Int) + 1) = ((L.length - k : Nat) : Int) + 1 from rfl] at htm
          obtain ⟨tm, htme⟩ : ∃ tm, cx.tmod (((L.length - k : Nat) : Int) + 1) = tm := ⟨_, rfl⟩
          rw [htme] at htm ⊢
          clear htme
          go_cut [42, 12] (fun s42 s12 wx => ∃ z : Nat, s12 = .int .i64 z ∧ z ≤ L.length - k ∧ wx = wr)
          case first =>
            by_cases h1 : tm < 0
            · have hd : decide (tm < 0) = true := by simp [h1]
              go_wp2_with fail
              go_meet
              exact ⟨(-tm).toNat, by first | rfl | (rw [show (((-tm).toNat : Nat) : Int) = -tm by omega]), by omega, rfl⟩
            · have hd : decide (tm < 0) = false := by simp; omega
              go_wp2_with fail
              go_meet
              exact ⟨tm.toNat, by first | rfl | (rw [show ((tm.toNat : Nat) : Int) = tm by omega]), by omega, rfl⟩
          case rest =>
            obtain ⟨z, rfl, hzl, hwc⟩ := hcut
            subst hwc
            have hzc : z ≤ cc := by omega
            generalize hMM : L.length - k = mm at *
            have HMM := Lib.hid hMM
            clear hMM
            cases AA with
            | none =>
              obtain ⟨h0, hc0⟩ := HNN.out rfl
              have hz0 : z = 0 := by omega
              subst hz0 hc0 h0
              have HRC2 : Hid (Acs wc w3.heap.size none 0 ((L.drop k).take 0)) := HRC.out.take 0 (Nat.le_refl _)
              have RD : Hid (Acs wc w3.heap.size none (L.length - (k + 0)) (L.drop (k + 0))) := by have := HRC.out; rw [← HMM.out] at this; exact this
              have HPB2 : Hid (∀ p : Addr, none = some p → p.block < w1.heap.size) := fun p hp => by cases hp
              go_upto_region 16 with (go_at_call 21; (with_reducible refine (HAPS.out _ _ _ _ _ 0 HTWI HUU HKL (HRC2.out) HPB (by have := HMM.out; omega)).mono ?_); rintro e w6 ⟨v6, rfl, ht6, htw6⟩)
              have HU6 := Lib.hid ht6
              have HT6 := Lib.hid (HTWI.out.trans htw6)
              have HR6 := Lib.hid (RD.out.tw htw6 (fun p hp => by have := HPB2.out p hp; have := za.out; omega))
              clear ht6 htw6
              go_wp2_with fail
              go_roundw
              case rel => exact ⟨j + 1, by omega, by go_num, k + 0, by have := HMM.out; omega, none, 0, by rw [show L.length - (k + 0) = 0 by have := HMM.out; omega], by have := HMM.out; omega, HR6, HPB2, fun _ => ⟨by have := HMM.out; omega, rfl⟩, v6, HU6, HT6⟩
              case measure => simp [RowKit.intOf]; omega
            | some p =>
              have HRC2 := Lib.hid (HRC.out.take z hzl)
              obtain ⟨A', hA', RD⟩ : ∃ A' : Addr, (if cc = z then some p else some (p.add (z * 5))) = some A' ∧ Hid (Acs wc w3.heap.size (some A') (L.length - (k + z)) (L.drop (k + z)) ∧ A'.block = p.block) := by
                have hd := HRC.out.drop z cc hzl (by omega)
                rw [List.drop_drop, show mm - z = L.length - (k + z) by have := HMM.out; omega] at hd
                by_cases hck : cc = z
                · rw [if_pos hck] at hd; exact ⟨p, by rw [if_pos hck], hd, rfl⟩
                · rw [if_neg hck] at hd; exact ⟨p.add (z * 5), by rw [if_neg hck], hd, add_block _ _⟩
              have HPB2 : Hid (∀ q : Addr, some A' = some q → q.block < w1.heap.size) := fun q hq => by injection hq with hq; subst hq; rw [RD.out.2]; exact HPB.out p rfl
              have RD := Lib.hid RD.out.1
              go_upto_region 16 with (go_at_call 21; (with_reducible refine (HAPS.out _ _ _ _ _ z HTWI HUU HKL (HRC2.out) HPB (by have := HMM.out; omega)).mono ?_); rintro e w6 ⟨v6, rfl, ht6, htw6⟩)
              have HU6 := Lib.hid ht6
              have HT6 := Lib.hid (HTWI.out.trans htw6)
              have HR6 := Lib.hid (RD.out.tw htw6 (fun p hp => by have := HPB2.out p hp; have := za.out; omega))
              clear ht6 htw6
              go_wp2_with fail
              go_roundw
              case rel => exact ⟨j + 1, by omega, by go_num, k + z, by have := HMM.out; omega, some A', cc - z, by rw [show L.length - (k + z) = mm - z by have := HMM.out; omega], by have := HMM.out; omega, HR6, HPB2, fun e => (by cases e), v6, HU6, HT6⟩
              case measure => simp [RowKit.intOf]; omega
        · have d30 : decide ((30 : Int) ≤ (j : Int)) = true := by rw [decide_eq_true_iff]; omega
          skip
          go_wp2_with (first
            | (go_at_call 21; (with_reducible refine (HAPF.out _ _ _ _ _ HTWI HUU HKL HRC HPB).mono ?_); rintro e w6 ⟨v6, rfl, ht6, htw6⟩; have T6 := Lib.hid (T3.out.tw (HTWI.out.trans htw6) (Nat.le_refl _) (by have := za.out; omega) T3V.out); have U6 := Lib.hid ht6; have HB6 : Hid (Below w.heap.size w w6) := B3.out.trans ((HTWI.out.trans htw6).below B3.out.size (by have := Z1.out; have := za.out; omega)); clear ht6 htw6)
            | (go_at_call 25; (with_reducible refine (HSM.out _ _ _ _ _ _ _ _ R _ T6.out U6.out (by omega)).mono ?_); rintro e w7 ⟨rfl, hb7⟩; have T7 := Lib.hid (T6.out.below hb7); have U7 := Lib.hid (U6.out.below hb7); have HB7 := Lib.hid (HB6.out.trans (hb7.mono HB6.out.size)); clear hb7)
            | (go_at_call 23; (with_reducible refine (HNX.out _ w1.heap.size _ _ _ _ T7.out).mono ?_); rintro e w8 ⟨rfl, rfl⟩)
            | (go_at_call 23; (with_reducible refine (HNX.out _ wa.heap.size _ _ _ _ U7.out).mono ?_); rintro e w9 ⟨rfl, rfl⟩)
            | (go_at_call 22; (with_reducible refine (HLEN.out _ w1.heap.size _ _ _ _ T7.out).mono ?_); rintro e w10 ⟨rfl, rfl⟩)
            | (go_at_call 22; (with_reducible refine (HLEN.out _ wa.heap.size _ _ _ _ U7.out).mono ?_); rintro e w11 ⟨rfl, rfl⟩)
            | (go_at_call 19; (with_reducible refine (HAW.out _).mono ?_); rintro e w12 ⟨rfl, hb12⟩))
          go_ret
          exact ⟨rfl, HB7.out.trans (hb12.mono HB7.out.size)⟩
      · have d8 : decide ((j : Int) < (cn : Int)) = false := by rw [decide_eq_false_iff_not]; omega
        skip
        go_wp2_with (first
          | (go_at_call 21; (with_reducible refine (HAPF.out _ _ _ _ _ HTWI HUU HKL HRC HPB).mono ?_); rintro e w6 ⟨v6, rfl, ht6, htw6⟩; have T6 := Lib.hid (T3.out.tw (HTWI.out.trans htw6) (Nat.le_refl _) (by have := za.out; omega) T3V.out); have U6 := Lib.hid ht6; have HB6 : Hid (Below w.heap.size w w6) := B3.out.trans ((HTWI.out.trans htw6).below B3.out.size (by have := Z1.out; have := za.out; omega)); clear ht6 htw6)
          | (go_at_call 25; (with_reducible refine (HSM.out _ _ _ _ _ _ _ _ R _ T6.out U6.out (by omega)).mono ?_); rintro e w7 ⟨rfl, hb7⟩; have T7 := Lib.hid (T6.out.below hb7); have U7 := Lib.hid (U6.out.below hb7); have HB7 := Lib.hid (HB6.out.trans (hb7.mono HB6.out.size)); clear hb7)
          | (go_at_call 23; (with_reducible refine (HNX.out _ w1.heap.size _ _ _ _ T7.out).mono ?_); rintro e w8 ⟨rfl, rfl⟩)
          | (go_at_call 23; (with_reducible refine (HNX.out _ wa.heap.size _ _ _ _ U7.out).mono ?_); rintro e w9 ⟨rfl, rfl⟩)
          | (go_at_call 22; (with_reducible refine (HLEN.out _ w1.heap.size _ _ _ _ T7.out).mono ?_); rintro e w10 ⟨rfl, rfl⟩)
          | (go_at_call 22; (with_reducible refine (HLEN.out _ wa.heap.size _ _ _ _ U7.out).mono ?_); rintro e w11 ⟨rfl, rfl⟩)
          | (go_at_call 19; (with_reducible refine (HAW.out _).mono ?_); rintro e w12 ⟨rfl, hb12⟩))
        go_ret
        exact ⟨rfl, HB7.out.trans (hb12.mono HB7.out.size)⟩
end Go.Proofs.Ytapnhhoegoakiaa
