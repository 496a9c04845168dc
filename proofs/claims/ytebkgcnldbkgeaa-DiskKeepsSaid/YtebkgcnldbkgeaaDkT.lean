/-
  What the document's Name answers.
-/
import Derived.Test.YtebkgcnldbkgeaaDkSh
namespace Go.Proofs.Ytebkgcnldbkgeaa
open Go.RowKit Go.Lib Go.Sort Go.Maps
set_option linter.unusedVariables false
set_option linter.unusedSimpArgs false

set_option maxRecDepth 100000 in
set_option maxHeartbeats 8000000 in
theorem rname_any (s : ByteArray) (w : World) (hs : s.size ≤ 1099511627776) : Calls Try.prog 61 #[.string s] w fun e w' => e = .returned (.bool (nameB s)) ∧ w' = w := by
  have HLa : Hid (s.data.toList.length = s.size) := by show _ = _; simp
  go_enter Try.func61, Try.ntmps61
  go_wp2_with fail
  go_loopw [3] (fun i wr => ∃ k : Nat, k ≤ s.size ∧ i = .int .i64 k ∧ wr = w ∧ Hid ((s.data.toList.take k).all (fun c => inNB c.toNat) = true)) (fun i _ => s.size - (RowKit.intOf i).toNat)
  case atStart => exact ⟨0, by omega, rfl, rfl, rfl⟩
  case round =>
    obtain ⟨k, hk, rfl, hwr, HA⟩ := hrel
    have hwr' := hwr.symm
    subst hwr'
    clear hwr
    by_cases hlt : k < s.size
    · have HG := Lib.hid (getD_byteD s k hlt)
      have hb := (s[k]).toNat_lt
      have HST : Hid ((s.data.toList.take (k + 1)).all (fun c => inNB c.toNat) = ((s.data.toList.take k).all (fun c => inNB c.toNat) && inNB (s[k]).toNat)) := by
        show _ = _
        rw [List.take_succ_eq_append_getElem (by rw [HLa.out]; exact hlt), List.all_append, HG.out, List.getD_eq_getElem?_getD, List.getElem?_eq_getElem (by rw [HLa.out]; exact hlt)]
        simp
      rcases (show (97 ≤ (s[k]).toNat ∧ (s[k]).toNat ≤ 122) ∨ (122 < (s[k]).toNat) ∨ (57 < (s[k]).toNat ∧ (s[k]).toNat < 97) ∨ (48 ≤ (s[k]).toNat ∧ (s[k]).toNat ≤ 57) ∨ (s[k]).toNat = 46 ∨ (s[k]).toNat = 45 ∨ ((s[k]).toNat < 48 ∧ (s[k]).toNat ≠ 46 ∧ (s[k]).toNat ≠ 45) by omega) with ⟨h1, h2⟩ | h1 | ⟨h1, h2⟩ | ⟨h1, h2⟩ | h1 | h1 | ⟨h1, h2, h3⟩
      · have HI : Hid (inNB (s[k]).toNat = true) := by show _ = _; unfold inNB; simp; omega
        have d1 : decide ((97 : Int) ≤ ((s[k]).toNat : Int)) = true := by rw [decide_eq_true_iff]; omega
        have d1' : decide (97 ≤ (s[k]).toNat) = true := by rw [decide_eq_true_iff]; omega
        have d2 : decide (((s[k]).toNat : Int) ≤ (122 : Int)) = true := by rw [decide_eq_true_iff]; omega
        have d2' : decide ((s[k]).toNat ≤ 122) = true := by rw [decide_eq_true_iff]; omega
        go_wp2_with fail
        go_roundw
        case rel => exact ⟨k + 1, by omega, by go_num, (by first | rfl | trivial), by show _ = _; rw [HST.out, HA.out, HI.out]; rfl⟩
        case measure => simp [RowKit.intOf]; omega
      · have HI : Hid (inNB (s[k]).toNat = false) := by show _ = _; unfold inNB; simp; omega
        have d1 : decide ((97 : Int) ≤ ((s[k]).toNat : Int)) = true := by rw [decide_eq_true_iff]; omega
        have d1' : decide (97 ≤ (s[k]).toNat) = true := by rw [decide_eq_true_iff]; omega
        have d2 : decide (((s[k]).toNat : Int) ≤ (122 : Int)) = false := by rw [decide_eq_false_iff_not]; omega
        have d2' : decide ((s[k]).toNat ≤ 122) = false := by rw [decide_eq_false_iff_not]; omega
        have d3 : decide ((48 : Int) ≤ ((s[k]).toNat : Int)) = true := by rw [decide_eq_true_iff]; omega
        have d3' : decide (48 ≤ (s[k]).toNat) = true := by rw [decide_eq_true_iff]; omega
        have d4 : decide (((s[k]).toNat : Int) ≤ (57 : Int)) = false := by rw [decide_eq_false_iff_not]; omega
        have d4' : decide ((s[k]).toNat ≤ 57) = false := by rw [decide_eq_false_iff_not]; omega
        have d5 : (((s[k]).toNat : Int) == 46) = false := by rw [beq_eq_false_iff_ne]; omega
        have d6 : (((s[k]).toNat : Int) == 45) = false := by rw [beq_eq_false_iff_ne]; omega
        have HF : Hid (nameB s = false) := by
          show _ = _
          unfold nameB
          rw [show (s.data.toList.all fun c => inNB c.toNat) = false by rw [← List.take_append_drop (k + 1) s.data.toList, List.all_append, HST.out, HA.out, HI.out]; rfl, Bool.and_false]
        go_wp2_with fail
        go_ret
        exact ⟨by rw [HF.out]; rfl, rfl⟩
      · have HI : Hid (inNB (s[k]).toNat = false) := by show _ = _; unfold inNB; simp; omega
        have d1 : decide ((97 : Int) ≤ ((s[k]).toNat : Int)) = false := by rw [decide_eq_false_iff_not]; omega
        have d1' : decide (97 ≤ (s[k]).toNat) = false := by rw [decide_eq_false_iff_not]; omega
        have d3 : decide ((48 : Int) ≤ ((s[k]).toNat : Int)) = true := by rw [decide_eq_true_iff]; omega
        have d3' : decide (48 ≤ (s[k]).toNat) = true := by rw [decide_eq_true_iff]; omega
        have d4 : decide (((s[k]).toNat : Int) ≤ (57 : Int)) = false := by rw [decide_eq_false_iff_not]; omega
        have d4' : decide ((s[k]).toNat ≤ 57) = false := by rw [decide_eq_false_iff_not]; omega
        have d5 : (((s[k]).toNat : Int) == 46) = false := by rw [beq_eq_false_iff_ne]; omega
        have d6 : (((s[k]).toNat : Int) == 45) = false := by rw [beq_eq_false_iff_ne]; omega
        have HF : Hid (nameB s = false) := by
          show _ = _
          unfold nameB
          rw [show (s.data.toList.all fun c => inNB c.toNat) = false by rw [← List.take_append_drop (k + 1) s.data.toList, List.all_append, HST.out, HA.out, HI.out]; rfl, Bool.and_false]
        go_wp2_with fail
        go_ret
        exact ⟨by rw [HF.out]; rfl, rfl⟩
      · have HI : Hid (inNB (s[k]).toNat = true) := by show _ = _; unfold inNB; simp; omega
        have d1 : decide ((97 : Int) ≤ ((s[k]).toNat : Int)) = false := by rw [decide_eq_false_iff_not]; omega
        have d1' : decide (97 ≤ (s[k]).toNat) = false := by rw [decide_eq_false_iff_not]; omega
        have d3 : decide ((48 : Int) ≤ ((s[k]).toNat : Int)) = true := by rw [decide_eq_true_iff]; omega
        have d3' : decide (48 ≤ (s[k]).toNat) = true := by rw [decide_eq_true_iff]; omega
        have d4 : decide (((s[k]).toNat : Int) ≤ (57 : Int)) = true := by rw [decide_eq_true_iff]; omega
        have d4' : decide ((s[k]).toNat ≤ 57) = true := by rw [decide_eq_true_iff]; omega
        go_wp2_with fail
        go_roundw
        case rel => exact ⟨k + 1, by omega, by go_num, (by first | rfl | trivial), by show _ = _; rw [HST.out, HA.out, HI.out]; rfl⟩
        case measure => simp [RowKit.intOf]; omega
      · have HI : Hid (inNB (s[k]).toNat = true) := by show _ = _; unfold inNB; simp; omega
        have d1 : decide ((97 : Int) ≤ ((s[k]).toNat : Int)) = false := by rw [decide_eq_false_iff_not]; omega
        have d1' : decide (97 ≤ (s[k]).toNat) = false := by rw [decide_eq_false_iff_not]; omega
        have d3 : decide ((48 : Int) ≤ ((s[k]).toNat : Int)) = false := by rw [decide_eq_false_iff_not]; omega
        have d3' : decide (48 ≤ (s[k]).toNat) = false := by rw [decide_eq_false_iff_not]; omega
        have d5 : (((s[k]).toNat : Int) == 46) = true := by rw [beq_iff_eq]; omega
        go_wp2_with fail
        go_roundw
        case rel => exact ⟨k + 1, by omega, by go_num, (by first | rfl | trivial), by show _ = _; rw [HST.out, HA.out, HI.out]; rfl⟩
        case measure => simp [RowKit.intOf]; omega
      · have HI : Hid (inNB (s[k]).toNat = true) := by show _ = _; unfold inNB; simp; omega
        have d1 : decide ((97 : Int) ≤ ((s[k]).toNat : Int)) = false := by rw [decide_eq_false_iff_not]; omega
        have d1' : decide (97 ≤ (s[k]).toNat) = false := by rw [decide_eq_false_iff_not]; omega
        have d3 : decide ((48 : Int) ≤ ((s[k]).toNat : Int)) = false := by rw [decide_eq_false_iff_not]; omega
        have d3' : decide (48 ≤ (s[k]).toNat) = false := by rw [decide_eq_false_iff_not]; omega
        have d5 : (((s[k]).toNat : Int) == 46) = false := by rw [beq_eq_false_iff_ne]; omega
        have d6 : (((s[k]).toNat : Int) == 45) = true := by rw [beq_iff_eq]; omega
        go_wp2_with fail
        go_roundw
        case rel => exact ⟨k + 1, by omega, by go_num, (by first | rfl | trivial), by show _ = _; rw [HST.out, HA.out, HI.out]; rfl⟩
        case measure => simp [RowKit.intOf]; omega
      · have HI : Hid (inNB (s[k]).toNat = false) := by show _ = _; unfold inNB; simp; omega
        have d1 : decide ((97 : Int) ≤ ((s[k]).toNat : Int)) = false := by rw [decide_eq_false_iff_not]; omega
        have d1' : decide (97 ≤ (s[k]).toNat) = false := by rw [decide_eq_false_iff_not]; omega
        have d3 : decide ((48 : Int) ≤ ((s[k]).toNat : Int)) = false := by rw [decide_eq_false_iff_not]; omega
        have d3' : decide (48 ≤ (s[k]).toNat) = false := by rw [decide_eq_false_iff_not]; omega
        have d5 : (((s[k]).toNat : Int) == 46) = false := by rw [beq_eq_false_iff_ne]; omega
        have d6 : (((s[k]).toNat : Int) == 45) = false := by rw [beq_eq_false_iff_ne]; omega
        have HF : Hid (nameB s = false) := by
          show _ = _
          unfold nameB
          rw [show (s.data.toList.all fun c => inNB c.toNat) = false by rw [← List.take_append_drop (k + 1) s.data.toList, List.all_append, HST.out, HA.out, HI.out]; rfl, Bool.and_false]
        go_wp2_with fail
        go_ret
        exact ⟨by rw [HF.out]; rfl, rfl⟩
    · have d8 : decide ((k : Int) < (s.size : Int)) = false := by rw [decide_eq_false_iff_not]; omega
      have HT : Hid ((s.data.toList.all fun c => inNB c.toNat) = true) := by
        have := HA.out
        rw [List.take_of_length_le (by rw [HLa.out]; omega)] at this
        exact this
      by_cases h0 : 1 ≤ s.size
      · have d1 : decide ((1 : Int) ≤ (s.size : Int)) = true := by rw [decide_eq_true_iff]; omega
        have d1' : decide (1 ≤ s.size) = true := decide_eq_true h0
        by_cases h24 : s.size ≤ 24
        · have HV : Hid (nameB s = true) := by show _ = _; unfold nameB; rw [HT.out, d1', decide_eq_true h24]; rfl
          have d2 : decide ((s.size : Int) ≤ (24 : Int)) = true := by rw [decide_eq_true_iff]; omega
          have d2' : decide (s.size ≤ 24) = true := decide_eq_true h24
          go_wp2_with fail
          go_ret
          exact ⟨by rw [HV.out]; rfl, rfl⟩
        · have HV : Hid (nameB s = false) := by show _ = _; unfold nameB; rw [decide_eq_false h24]; simp
          have d2 : decide ((s.size : Int) ≤ (24 : Int)) = false := by rw [decide_eq_false_iff_not]; omega
          have d2' : decide (s.size ≤ 24) = false := decide_eq_false h24
          go_wp2_with fail
          go_ret
          exact ⟨by rw [HV.out]; rfl, rfl⟩
      · have HV : Hid (nameB s = false) := by show _ = _; unfold nameB; rw [decide_eq_false h0]; simp
        have d1 : decide ((1 : Int) ≤ (s.size : Int)) = false := by rw [decide_eq_false_iff_not]; omega
        have d1' : decide (1 ≤ s.size) = false := decide_eq_false h0
        go_wp2_with fail
        go_ret
        exact ⟨by rw [HV.out]; rfl, rfl⟩
end Go.Proofs.Ytebkgcnldbkgeaa
