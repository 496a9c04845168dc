/-
  What increase and a table's New, Len, Next and Apply do.
-/
import Derived.Test.YtmlekkbjmfknfaaCpH
namespace Go.Proofs.Ytmlekkbjmfknfaa
open Go.RowKit Go.Lib Go.Sort
set_option linter.unusedVariables false
set_option linter.unusedSimpArgs false

def incB : List AtC → Bool
  | a :: b :: l => decide (a.off < b.off) && incB (b :: l)
  | _ => true
theorem inc_step (L : List AtC) (i : Nat) (hi : i + 1 < L.length) : incB (L.drop i) = (decide ((L.getD i default).off < (L.getD (i + 1) default).off) && incB (L.drop (i + 1))) := by
  rw [drop_eq L i (by omega), drop_eq L (i + 1) hi]; rfl
theorem inc_end (L : List AtC) (i : Nat) (hi : L.length ≤ i + 1) : incB (L.drop i) = true := by
  rcases Nat.lt_or_ge i L.length with h | h
  · rw [drop_eq L i h, List.drop_eq_nil_of_le hi]; rfl
  · rw [List.drop_eq_nil_of_le h]; rfl
set_option maxRecDepth 100000 in
set_option maxHeartbeats 4000000 in
theorem increase_any (A : Option Addr) (n c : Nat) (L : List AtC) (w : World) (h : Acs w w.heap.size A n L) (hn : n ≤ 1000000) :
    Calls Try.prog 78 #[.slice A n c] w fun e w' => e = .returned (.bool (incB L)) ∧ Below w.heap.size w w' := by
  have HL := Lib.hid h
  have HST : Hid (∀ i, i + 1 < n → incB (L.drop i) = (decide ((L.getD i default).off < (L.getD (i + 1) default).off) && incB (L.drop (i + 1)))) := fun i hi => inc_step L i (by rw [h.len]; exact hi)
  have HEN : Hid (∀ i, n ≤ i + 1 → incB (L.drop i) = true) := fun i hi => inc_end L i (by rw [h.len]; exact hi)
  have H0 : Hid (incB (L.drop 0) = incB L) := rfl
  generalize incB L = IB at *
  have HCR : Hid (∃ D : Nat → Bool, ∀ k, D k = incB (L.drop k)) := ⟨_, fun _ => rfl⟩
  obtain ⟨D, hD⟩ := HCR.out
  simp only [← hD] at HST HEN H0
  clear hD HCR h
  go_enter Try.func78, Try.ntmps78
  go_wp2_with fail
  go_loopw [3] (fun i wr => ∃ k : Nat, k ≤ n ∧ i = .int .i64 ((k : Int) + 1) ∧ Hid (D k = IB) ∧ Hid (Below w.heap.size w wr)) (fun i _ => n + 1 - (RowKit.intOf i).toNat)
  case atStart => exact ⟨0, by omega, rfl, H0, Below.refl _ _⟩
  case round =>
    obtain ⟨k, hk, rfl, HD, HB⟩ := hrel
    by_cases hlt : k + 1 < n
    · obtain ⟨p, rfl, hp, r0, _⟩ := (HL.out.below HB.out).row (show k < n by omega)
      obtain ⟨p', hp', _, r1, _⟩ := (HL.out.below HB.out).row hlt
      injection hp' with hp'
      subst hp'
      have HS := Lib.hid (HST.out k hlt)
      generalize (L.getD k default).off = o0 at *
      generalize (L.getD (k + 1) default).off = o1 at *
      have g0 := cell_regrown r0
      have g1 := cell_regrown r1
      have hkz : (k : Int) + 1 < (n : Int) := by omega
      have hkz0 : (k : Int) < (n : Int) := by omega
      have hk1 : ((k : Int) + 1).toNat = k + 1 := by omega
      have hk0 : (0 : Int) ≤ (k : Int) + 1 := by omega
      have hkn : k < n := by omega
      clear r0 r1
      go_wp2_with fail
      refine wp_region_quiet_below (by kernel_rfl) (by kernel_rfl) ?_
      repeat (go_big_quiet_step (fail))
      refine wpQuiet_nil ?_
      intro _ hw'
      obtain ⟨⟨dq, osq⟩, hw''⟩ := hw'
      subst hw''
      have HB2 := Lib.hid (HB.out.trans ((below_regrown wr dq osq).mono HB.out.size))
      by_cases ho : o0 < o1
      · have HX : Hid (D (k + 1) = IB) := by have e := HS.out; rw [HD.out, decide_eq_true ho, Bool.true_and] at e; exact e.symm
        have hd : decide (o1 ≤ o0) = false := by simp; omega
        go_wp2_with fail
        go_roundw
        case rel => exact ⟨k + 1, by omega, by go_num, HX, HB2⟩
        case measure => simp [RowKit.intOf]; omega
      · have HX : Hid (IB = false) := by have e := HS.out; rw [HD.out, decide_eq_false ho, Bool.false_and] at e; exact e
        have hd : decide (o1 ≤ o0) = true := by simp; omega
        go_wp2_with fail
        go_ret
        exact ⟨by rw [HX.out]; rfl, HB2.out⟩
    · have d8 : decide ((k : Int) + 1 < (n : Int)) = false := by rw [decide_eq_false_iff_not]; omega
      have HX : Hid (IB = true) := by have e := HEN.out k (by omega); rw [HD.out] at e; exact e
      go_wp2_with fail
      go_ret
      exact ⟨by rw [HX.out]; rfl, HB.out⟩
end Go.Proofs.Ytmlekkbjmfknfaa
