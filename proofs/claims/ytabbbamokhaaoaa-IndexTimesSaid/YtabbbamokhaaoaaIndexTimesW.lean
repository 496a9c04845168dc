/-
  IndexTimes.
-/
import Derived.Test.YtabbbamokhaaoaaIdxH
namespace Go.Proofs.Ytabbbamokhaaoaa
open Go.RowKit Go.Lib Go.Sort
set_option linter.unusedVariables false
set_option linter.unusedSimpArgs false

def early (T : List Int) (t fo : Int) : Nat → Bool
  | 0 => true
  | i + 1 => early T t fo i && (decide (fo ≤ 3 * (i : Int)) || decide (tim T i < t))
theorem early_no (T : List Int) (t fo : Int) (k j : Nat) (hj : j < k) (h1 : 3 * (j : Int) < fo) (h2 : t ≤ tim T j) : early T t fo k = false := by
  induction k with
  | zero => omega
  | succ k ih =>
    unfold early
    by_cases e : j = k
    · subst e
      rw [decide_eq_false (by omega), decide_eq_false (by omega)]; simp
    · rw [ih (by omega)]; rfl

set_option maxRecDepth 100000 in
set_option maxHeartbeats 8000000 in
theorem times_walk (gap t : Int) (S T : List Int) (A1 A2 : Option Addr) (c1 c2 : Nat) (w : World) (hg1 : -9223372036854775808 ≤ gap) (hg2 : gap ≤ 9223372036854775807) (hS : Ins w w.heap.size A1 S.length S) (hs : S.length ≤ maxLen) (hT : Ins w w.heap.size A2 T.length T) (ht : T.length ≤ maxLen) :
    Calls Try.prog 5 #[.int .i64 gap, .slice A1 S.length c1, .slice A2 T.length c2, .int .i64 t] w fun e w' => e = .returned (.bool true) ∧ Below w.heap.size w w' := by
  have HLD := Lib.hid (laid_any gap S T A1 A2 c1 c2 w hg1 hg2 hS hT hs ht)
  obtain ⟨k1, k2⟩ := gapI_le gap
  have HLA := Lib.hid (laid_all (gapI gap) S T k1)
  have HA : Hid (∀ W, Calls Try.prog 16 #[] W fun e w' => e = .returned (.bool true) ∧ RowKit.Below W.heap.size W w') := fun W => awake5_any W
  generalize gapI gap = gp at *
  clear hS hT
  go_enter Try.func5, Try.ntmps5
  go_wp2_with fail
  refine HLD.out.mono ?_
  rintro e w2 ⟨k, va, v, rfl, hk1, hk2, hk3, hl⟩
  have HL := Lib.hid (HLA.out k)
  have HB := Lib.hid hl.below
  have HLL : Hid ((lay gp S T k).L.length ≤ 1000000) := by have := lay_len gp S T k; show _ ≤ _; omega
  have HX := Lib.hid hl.ix
  obtain ⟨A, c, rfl, hkc, hcm, hE, _⟩ := Ecs.of_own hl.own (batches_len S T k)
  have HE := Lib.hid hE
  have HBG : Hid (∀ j, j < k → (batches S T k).getD j default = ⟨3 * (j : Int), plc S j, tim T j⟩) := fun j hj => batches_get S T k j hj
  generalize lay gp S T k = x at *
  generalize batches S T k = bl at *
  have HAF := Lib.hid (after_any _ _ _ x t w2 HX.out HLL.out HL.out.srt)
  clear hl hE hk1 HLA HLD
  go_wp2_with fail
  refine HAF.out.mono ?_
  rintro e w5 ⟨r, rfl, hU, hb5⟩
  by_cases hno : k = 0 ∨ t < 0
  · obtain rfl := HL.out.none_ hU hno
    rw [show lastE x.L 0 = ⟨0, 0, 0⟩ from rfl, show decide (0 < 0) = false from rfl]
    simp only [Ent.cells]
    have hal5 := (RowKit.Below.refl w5.heap.size w5).alloc (Nat.le_refl _) (.cells #[.int .i64 0, .int .i64 0, .int .i64 0] 28)
    have HB6 := Lib.hid (HB.out.trans ((hb5.trans (hal5.mono hb5.size)).mono HB.out.size))
    clear hU hb5 HAF hal5
    by_cases hk0 : k = 0
    · subst hk0
      clear hno
      go_wp2_with fail
      refine (HA.out _).mono ?_
      rintro e w7 ⟨rfl, hb7⟩
      go_wp2_with fail
      go_ret
      exact ⟨rfl, HB6.out.trans (hb7.mono HB6.out.size)⟩
    · have ek : ((k : Int) == 0) = false := by rw [beq_eq_false_iff_ne]; omega
      have et : decide (t < 0) = true := decide_eq_true (by omega)
      clear hno hk0
      go_wp2_with fail
      refine (HA.out _).mono ?_
      rintro e w7 ⟨rfl, hb7⟩
      go_wp2_with fail
      go_ret
      exact ⟨rfl, HB6.out.trans (hb7.mono HB6.out.size)⟩
  · have ht0 : 0 ≤ t := by omega
    have hr0 : 0 < r := HL.out.some_ hU (by omega) ht0
    have ek : ((k : Int) == 0) = false := by rw [beq_eq_false_iff_ne]; omega
    have et : decide (t < 0) = false := decide_eq_false (by omega)
    have HBF : Hid (∀ j : Nat, 3 * (j : Int) < (x.L.getD (r - 1) default).off → tim T j < t) := fun j hj => HL.out.before hU hr0 hj
    have HBH : Hid (∀ a, a < x.L.length → (x.L.getD (r - 1) default).off < (x.L.getD a default).off → early T t (x.L.getD a default).off k = false) := fun a ha hf => by
      obtain ⟨j, hj, h1, h2⟩ := HL.out.behind hU hr0 ht0 ha hf
      exact early_no T t _ k j hj h1 h2
    rw [show lastE x.L r = x.L.getD (r - 1) default from by unfold lastE; rw [if_neg (by omega)], decide_eq_true hr0]
    generalize x.L.getD (r - 1) default = en at *
    obtain ⟨eo, ep, eb⟩ := en
    simp only [Ent.cells] at HBF HBH ⊢
    have hal5 := (RowKit.Below.refl w5.heap.size w5).alloc (Nat.le_refl _) (.cells #[.int .i64 eo, .int .i64 ep, .int .i64 eb] 28)
    have hN5 := heap_alloc_new w5 (.cells #[.int .i64 eo, .int .i64 ep, .int .i64 eb] 28)
    have hz6 : (w5.alloc (.cells #[.int .i64 eo, .int .i64 ep, .int .i64 eb] 28)).heap.size = w5.heap.size + 1 := by simp
    have hb6 := hb5.trans (hal5.mono hb5.size)
    generalize hw6 : w5.alloc (.cells #[.int .i64 eo, .int .i64 ep, .int .i64 eb] 28) = w6 at *
    generalize hg5 : w5.heap.size = g5 at *
    have HN6 := Lib.hid hN5
    have HB6 := Lib.hid hb6
    have HX6 := Lib.hid (HX.out.below hb6 (Nat.le_refl _))
    have HE6 := Lib.hid (HE.out.below hb6)
    have HZ6 := Lib.hid hz6
    clear hU hb5 HAF hal5 hno hN5 hb6 hz6 HX HE
    go_wp2_with fail
    go_loopw [51] (fun i wr => ∃ j : Nat, j ≤ k ∧ i = .int .i64 j ∧ Hid (Below w6.heap.size w6 wr)) (fun i _ => k - (intOf i).toNat)
    case atStart => exact ⟨0, by omega, rfl, Below.refl _ _⟩
    case round =>
      obtain ⟨j, hj, rfl, HR⟩ := hrel
      by_cases hlt : j < k
      · obtain ⟨p, rfl, hp, r0, r1, r2⟩ := (HE6.out.below (HR.out.mono HB6.out.size)).row hlt
        rw [HBG.out j hlt] at r0 r1 r2
        simp only at r0 r1 r2
        have hz : (j : Int) < (k : Int) := by omega
        have hbf := HBF.out j
        have hcN := cell_of_row _ _ 0 _ _ _ ((HR.out.block g5 (by have := HZ6.out; omega)).trans HN6.out)
        have hg5r : g5 < wr.heap.size := by have := HR.out.size; have := HZ6.out; omega
        generalize plc S j = pj at *
        generalize tim T j = tj at *
        have hal := (RowKit.Below.refl wr.heap.size wr).alloc (Nat.le_refl _) (.cells #[.int .i64 (3 * (j : Int)), .int .i64 pj, .int .i64 tj] 38)
        have hcM := (hal.cell (p := ⟨g5, 0, none⟩) hg5r).trans hcN
        have HRn := Lib.hid (HR.out.trans (hal.mono HR.out.size))
        clear hal
        by_cases hlo : 3 * (j : Int) < eo
        · have d1 : decide (3 * (j : Int) < eo) = true := decide_eq_true hlo
          have d2 : decide (t ≤ tj) = false := decide_eq_false (by have := hbf hlo; omega)
          clear hbf hlo
          go_wp2_with fail
          go_roundw
          case rel => exact ⟨j + 1, by omega, by go_num, HRn.out⟩
          case measure => simp [intOf]; omega
        · have d1 : decide (3 * (j : Int) < eo) = false := decide_eq_false hlo
          clear hbf hlo
          go_wp2_with fail
          go_roundw
          case rel => exact ⟨j + 1, by omega, by go_num, HRn.out⟩
          case measure => simp [intOf]; omega
      · have d8 : decide ((j : Int) < (k : Int)) = false := by rw [decide_eq_false_iff_not]; omega
        have d9 : decide (j < k) = false := by rw [decide_eq_false_iff_not]; omega
        have HAL := Lib.hid (all_any _ _ _ x wr (HX6.out.below HR.out (Nat.le_refl _)) HLL.out)
        clear hlt
        go_wp2_with fail
        refine HAL.out.mono ?_
        rintro e w7 ⟨v7, rfl, ho7, hb7⟩
        have HB7 := Lib.hid (HR.out.trans (hb7.mono HR.out.size))
        obtain ⟨A7, c7, rfl, hkc7, hcm7, hE7, _⟩ := Ecs.of_own ho7 rfl
        have HE7 := Lib.hid hE7
        have hLLz : (x.L.length : Int) ≤ 1000000 := by have := HLL.out; omega
        generalize hnn : x.L.length = nn at *
        clear ho7 hb7 hE7 HAL HR d8 d9
        go_wp2_with fail
        go_loopw [70] (fun i wr => ∃ a : Nat, a ≤ nn ∧ i = .int .i64 a ∧ Hid (Below w7.heap.size w7 wr)) (fun i _ => nn - (intOf i).toNat)
        case atStart => exact ⟨0, by omega, rfl, Below.refl _ _⟩
        case round =>
          obtain ⟨a, ha, rfl, HR⟩ := hrel
          by_cases hlt : a < nn
          · obtain ⟨p, rfl, hp, r0, r1, r2⟩ := (HE7.out.below HR.out).row hlt
            have hz : (a : Int) < (nn : Int) := by omega
            have hbh := HBH.out a hlt
            generalize x.L.getD a default = fe at *
            obtain ⟨fo, fp, fb⟩ := fe
            simp only at r0 r1 r2 hbh
            obtain ⟨bb, hbb⟩ : ∃ bb, wr.heap.size = bb := ⟨_, rfl⟩
            obtain ⟨w3, hw3⟩ : ∃ w3, wr.alloc (.cells #[.int .i64 fo, .int .i64 fp, .int .i64 fb] 28) = w3 := ⟨_, rfl⟩
            have hal : Below wr.heap.size wr w3 := by rw [← hw3]; exact (Below.refl _ _).alloc (Nat.le_refl _) _
            have HN3 : Hid (w3.heap[bb]? = some (.cells #[.int .i64 fo, .int .i64 fp, .int .i64 fb] 28 (0, 0))) := by rw [← hw3, ← hbb]; exact heap_alloc_new wr _
            have HZ3 : Hid (w3.heap.size = bb + 1) := by show _ = _; rw [← hw3, ← hbb]; simp
            have HR3 := Lib.hid (HR.out.trans (hal.mono HR.out.size))
            have HR63 := Lib.hid (HB7.out.trans (HR3.out.mono HB7.out.size))
            clear hal
            go_wp2_with fail
            go_loopw [17, 76] (fun ev iv ws => ∃ i : Nat, i ≤ k ∧ ev = .bool (early T t fo i) ∧ iv = .int .i64 i ∧ Hid (Below w3.heap.size w3 ws)) (fun _ iv _ => k - (intOf iv).toNat)
            case atStart => exact ⟨0, by omega, rfl, rfl, Below.refl _ _⟩
            case round =>
              obtain ⟨i, hi, rfl, rfl, HS⟩ := hrel
              have hzs := HS.out.size
              have hNs := (HS.out.block bb (by have := HZ3.out; omega)).trans HN3.out
              have HRs := Lib.hid (HR3.out.trans (HS.out.mono HR3.out.size))
              have HR6s := Lib.hid (HR63.out.trans (HS.out.mono HR63.out.size))
              have m0 := cell_of_row _ _ 0 _ _ _ hNs
              have hbbr : bb < wr.heap.size := by have := HZ3.out; omega
              by_cases hik : i < k
              · obtain ⟨p2, rfl, hp2, q0, q1, q2⟩ := (HE6.out.below (HR6s.out.mono HB6.out.size)).row hik
                rw [HBG.out i hik] at q0 q1 q2
                simp only at q0 q1 q2
                have hiz : (i : Int) < (k : Int) := by omega
                have HEA : Hid (early T t fo (i + 1) = (early T t fo i && (decide (fo ≤ 3 * (i : Int)) || decide (tim T i < t)))) := rfl
                generalize plc S i = pj at *
                generalize tim T i = tj at *
                have hal := (RowKit.Below.refl wr.heap.size wr).alloc (Nat.le_refl _) (.cells #[.int .i64 (3 * (i : Int)), .int .i64 pj, .int .i64 tj] 38)
                have m0' := (hal.cell (p := ⟨bb, 0, none⟩) hbbr).trans m0
                have HSn := Lib.hid (HS.out.trans (hal.mono hzs))
                clear hal hNs m0
                generalize early T t fo i = ev at *
                cases ev with
                | false =>
                  go_wp2_with fail
                  go_roundw
                  case rel => exact ⟨i + 1, by omega, by rw [HEA.out]; rfl, by go_num, HSn.out⟩
                  case measure => simp [intOf]; omega
                | true =>
                  by_cases h1 : fo ≤ 3 * (i : Int)
                  · have d1 : decide (fo ≤ 3 * (i : Int)) = true := decide_eq_true h1
                    go_wp2_with fail
                    go_roundw
                    case rel => exact ⟨i + 1, by omega, by rw [HEA.out, d1]; rfl, by go_num, HSn.out⟩
                    case measure => simp [intOf]; omega
                  · have d1 : decide (fo ≤ 3 * (i : Int)) = false := decide_eq_false h1
                    clear h1
                    go_wp2_with fail
                    all_goals go_roundw
                    case rel => exact ⟨i + 1, by omega, by rw [HEA.out, d1]; first | rfl | simp, by go_num, HSn.out⟩
                    case measure => simp [intOf]; omega
              · have d8 : decide ((i : Int) < (k : Int)) = false := by rw [decide_eq_false_iff_not]; omega
                have d9 : decide (i < k) = false := by rw [decide_eq_false_iff_not]; omega
                obtain rfl : i = k := by omega
                have hcN := cell_of_row _ _ 0 _ _ _ ((HR6s.out.block g5 (by have := HZ6.out; omega)).trans HN6.out)
                have hg5r : g5 < wr.heap.size := by have := HR6s.out.size; have := HZ6.out; omega
                generalize early T t fo i = ev at *
                clear hik hNs
                by_cases hef : eo < fo
                · obtain rfl := hbh hef
                  have d1 : decide (eo < fo) = true := decide_eq_true hef
                  clear hbh hef
                  go_wp2_with fail
                  go_roundw
                  case rel => exact ⟨a + 1, by omega, by go_num, HRs.out⟩
                  case measure => simp [intOf]; omega
                · have d1 : decide (eo < fo) = false := decide_eq_false hef
                  clear hbh hef
                  go_wp2_with fail
                  go_roundw
                  case rel => exact ⟨a + 1, by omega, by go_num, HRs.out⟩
                  case measure => simp [intOf]; omega
          · have d8 : decide ((a : Int) < (nn : Int)) = false := by rw [decide_eq_false_iff_not]; omega
            have d9 : decide (a < nn) = false := by rw [decide_eq_false_iff_not]; omega
            have HBz := Lib.hid (HB.out.trans ((HB6.out.trans ((HB7.out.trans (HR.out.mono HB7.out.size)).mono HB6.out.size)).mono HB.out.size))
            clear hlt
            go_wp2_with fail
            refine (HA.out _).mono ?_
            rintro e w9 ⟨rfl, hb9⟩
            go_wp2_with fail
            go_ret
            exact ⟨rfl, HBz.out.trans (hb9.mono HBz.out.size)⟩
theorem times_walk' (gap t : Int) (S T : List Int) (A1 A2 : Option Addr) (n1 c1 n2 c2 : Nat) (w : World) (hg : -9223372036854775808 ≤ gap ∧ gap ≤ 9223372036854775807) (hS : Ins w w.heap.size A1 n1 S) (hn : n1 ≤ c1) (hc : c1 ≤ maxLen) (hT : Ins w w.heap.size A2 n2 T) (hn2 : n2 ≤ c2) (hc2 : c2 ≤ maxLen) :
    Calls Try.prog 5 #[.int .i64 gap, .slice A1 n1 c1, .slice A2 n2 c2, .int .i64 t] w fun e w' => e = .returned (.bool true) ∧ RowKit.Below w.heap.size w w' := by
  have e := hS.len
  subst e
  have e := hT.len
  subst e
  exact times_walk gap t S T A1 A2 c1 c2 w hg.1 hg.2 hS (Nat.le_trans hn hc) hT (Nat.le_trans hn2 hc2)
end Go.Proofs.Ytabbbamokhaaoaa
