/-
  What towpathref01.number does.
-/
import Derived.Test.YtniopekkfnkipaaWrA
import Derived.Lib.Hide
namespace Go.Proofs.Ytniopekkfnkipaa
open Go.RowKit Go.Lib
set_option linter.unusedVariables false
set_option linter.unusedSimpArgs false

/-- the number that bytes begin with, and its length; 0, 0: none -/
def numP (l : List UInt8) : Nat × Nat := (Wn.num l).getD (0, 0)
theorem numP_no {l : List UInt8} (h : ¬ (Wn.lead 10 l < l.length ∧ Wn.lead 10 l < 10 ∧ ¬ ((0 < Wn.lead 10 l ∧ (l.getD (Wn.lead 10 l) 0).toNat = 0) ∨ (Wn.lead 10 l = 9 ∧ 1 < (l.getD (Wn.lead 10 l) 0).toNat)))) : numP l = (0, 0) := by
  unfold numP
  rw [Wn.num_lead, if_neg h]; rfl
theorem numP_yes {l : List UInt8} (h : Wn.lead 10 l < l.length ∧ Wn.lead 10 l < 10 ∧ ¬ ((0 < Wn.lead 10 l ∧ (l.getD (Wn.lead 10 l) 0).toNat = 0) ∨ (Wn.lead 10 l = 9 ∧ 1 < (l.getD (Wn.lead 10 l) 0).toNat))) : numP l = (Wn.valD l (Wn.lead 10 l) 0, Wn.lead 10 l + 1) ∧ Wn.valD l (Wn.lead 10 l) 0 < 18446744073709551616 := by
  have e : Wn.num l = some (Wn.valD l (Wn.lead 10 l) 0, Wn.lead 10 l + 1) := by
    rw [Wn.num_lead, if_pos h]
    unfold Wn.valD
    rw [if_neg (by omega)]
    rfl
  exact ⟨by unfold numP; rw [e]; rfl, Wn.num_lt e⟩
set_option maxRecDepth 100000 in
set_option maxHeartbeats 2000000 in
theorem number_any (A : Option Addr) (n c B : Nat) (l : List UInt8) (w : World) (h : Bs w B A n l) (hn : n ≤ 1099511627776) :
    Calls Try.prog 64 #[.slice A n c] w fun e w' => e = .returned (.tuple #[.int .u64 ((numP l).1 : Int), .int .i64 ((numP l).2 : Int)]) ∧ w' = w := by
  have HBS := Lib.hid h
  have hlen := h.len
  have HST : Hid (∀ j, j < n → j < 10 → Wn.lead (10 - j) (l.drop j) = if (l.getD j 0).toNat < 128 then 0 else Wn.lead (10 - (j + 1)) (l.drop (j + 1)) + 1) := fun j h1 h2 => Wn.lead_step 10 l j (by omega) h2
  have HZ : Hid (∀ j, 10 ≤ j ∨ n ≤ j → Wn.lead (10 - j) (l.drop j) = 0) := fun j hj => by
    have := Wn.lead_le (10 - j) (l.drop j)
    rw [List.length_drop] at this
    omega
  have HNO : Hid (¬ (Wn.lead 10 l < n ∧ Wn.lead 10 l < 10 ∧ ¬ ((0 < Wn.lead 10 l ∧ (l.getD (Wn.lead 10 l) 0).toNat = 0) ∨ (Wn.lead 10 l = 9 ∧ 1 < (l.getD (Wn.lead 10 l) 0).toNat))) → numP l = (0, 0)) := fun q => numP_no (by rw [hlen]; exact q)
  have HYE : Hid ((Wn.lead 10 l < n ∧ Wn.lead 10 l < 10 ∧ ¬ ((0 < Wn.lead 10 l ∧ (l.getD (Wn.lead 10 l) 0).toNat = 0) ∨ (Wn.lead 10 l = 9 ∧ 1 < (l.getD (Wn.lead 10 l) 0).toNat))) → numP l = (Wn.valD l (Wn.lead 10 l) 0, Wn.lead 10 l + 1) ∧ Wn.valD l (Wn.lead 10 l) 0 < 18446744073709551616) := fun q => numP_yes (by rw [hlen]; exact q)
  have HVS : Hid (∀ k j, k < n → j ≤ k → Wn.valD l k j = (l.getD j 0).toNat % 128 + 128 * Wn.valD l k (j + 1)) := fun k j h1 h2 => Wn.valD_step l k j (by omega) h2
  have HVL : Hid (∀ k j, k < n → j ≤ k + 1 → Wn.valD l k j ≤ Wn.valD l k 0) := fun k j h1 h2 => by have := Wn.valD_le l k 0 (by omega) j (by omega); rw [Nat.zero_add] at this; exact this
  have HVE : Hid (∀ k, Wn.valD l k (k + 1) = 0) := fun k => by show _ = _; unfold Wn.valD; rw [if_pos rfl]
  have HL0 : Hid (Wn.lead 10 l = 0 + Wn.lead (10 - 0) (l.drop 0)) := by show _ = _; simp
  generalize Wn.lead 10 l = N at *
  generalize numP l = np at *
  clear h hlen
  go_enter Try.func64, Try.ntmps64
  go_wp2_with fail
  go_loop [4] (fun nv => ∃ k : Nat, k ≤ 10 ∧ k ≤ n ∧ nv = .int .i64 k ∧ Hid (N = k + Wn.lead (10 - k) (l.drop k))) (fun nv => 10 - (RowKit.intOf nv).toNat)
  case atStart => exact ⟨0, by omega, by omega, rfl, HL0.out⟩
  case round =>
    obtain ⟨k, hk, hkn, rfl, HN⟩ := hrel
    clear HL0
    by_cases hin : k < n
    · by_cases h10 : k < 10
      · obtain ⟨p, rfl, hp, r0⟩ := HBS.out.at_ hin
        have hb := (l.getD k 0).toNat_lt
        have HS := Lib.hid (HST.out k hin h10)
        have hkz : (k : Int) < (n : Int) := by omega
        by_cases hsm : (l.getD k 0).toNat < 128
        · have hN : k = N := by have e := HN.out; rw [HS.out, if_pos hsm] at e; omega
          subst hN
          generalize hbb : (l.getD k 0).toNat = b at *
          have d1 : decide ((128 : Int) ≤ (b : Int)) = false := by rw [decide_eq_false_iff_not]; omega
          have g1 : decide ((n : Int) ≤ (k : Int)) = false := by rw [decide_eq_false_iff_not]; omega
          have g2 : decide (n ≤ k) = false := by rw [decide_eq_false_iff_not]; omega
          have g3 : decide ((10 : Int) ≤ (k : Int)) = false := by rw [decide_eq_false_iff_not]; omega
          have hk1 : (k : Int) < 10 := by omega
          clear HS HN HST HZ hbb
          by_cases hbad : (0 < k ∧ b = 0) ∨ (k = 9 ∧ 1 < b)
          · have HR := Lib.hid (HNO.out (fun q => q.2.2 hbad))
            clear HNO HYE HVS HVL HVE
            rcases hbad with ⟨a1, rfl⟩ | ⟨a1, a2⟩
            · have e1 : decide ((0 : Int) < (k : Int)) = true := by rw [decide_eq_true_iff]; omega
              have e1' : decide (0 < k) = true := by rw [decide_eq_true_iff]; omega
              go_wp2_with fail
              go_ret2
              exact ⟨by rw [HR.out]; rfl, rfl⟩
            · have e2 : ((b : Int) == 0) = false := by rw [beq_eq_false_iff_ne]; omega
              have e3 : decide ((1 : Int) < (b : Int)) = true := by rw [decide_eq_true_iff]; omega
              have e4 : ((k : Int) == 9) = true := by rw [beq_iff_eq]; omega
              have e5 : decide ((0 : Int) < (k : Int)) = true := by rw [decide_eq_true_iff]; omega
              have e6 : decide (0 < k) = true := by rw [decide_eq_true_iff]; omega
              have e7 : decide (1 < b) = true := by rw [decide_eq_true_iff]; omega
              clear a1
              go_wp2_with fail
              go_ret2
              exact ⟨by rw [HR.out]; rfl, rfl⟩
          · have HR := Lib.hid (HYE.out ⟨hin, h10, hbad⟩)
            have HVLk : Hid (∀ j, j ≤ k + 1 → Wn.valD l k j < 18446744073709551616) := fun j hj => Nat.lt_of_le_of_lt (HVL.out k j hin hj) HR.out.2
            have HVSk : Hid (∀ j, j ≤ k → Wn.valD l k j = (l.getD j 0).toNat % 128 + 128 * Wn.valD l k (j + 1)) := fun j hj => HVS.out k j hin hj
            have HV0 := Lib.hid (HVE.out k)
            have HR1 := Lib.hid HR.out.1
            generalize Wn.valD l k = V at *
            clear HNO HYE HVS HVL HVE HR
            have hfin : ∃ z1 z2 z3 z4 : Bool, decide ((0 : Int) < (k : Int)) = z1 ∧ ((b : Int) == 0) = z2 ∧ ((k : Int) == 9) = z3 ∧ decide ((1 : Int) < (b : Int)) = z4 ∧ ((z1 && z2) || (z3 && z4)) = false := by
              refine ⟨_, _, _, _, rfl, rfl, rfl, rfl, ?_⟩
              rcases Nat.eq_zero_or_pos k with h0 | h0
              · rw [decide_eq_false (by omega : ¬ (0 : Int) < (k : Int)), show ((k : Int) == 9) = false by rw [beq_eq_false_iff_ne]; omega]; rfl
              · rw [show ((b : Int) == 0) = false by rw [beq_eq_false_iff_ne]; omega]
                by_cases h9 : k = 9
                · rw [decide_eq_false (by omega : ¬ (1 : Int) < (b : Int))]; simp
                · rw [show ((k : Int) == 9) = false by rw [beq_eq_false_iff_ne]; omega]; simp
            obtain ⟨z1, z2, z3, z4, e1, e2, e3, e4, hz⟩ := hfin
            have e1' : decide (0 < k) = z1 := by rw [← e1]; exact decide_eq_decide.2 (by omega)
            have e4' : decide (1 < b) = z4 := by rw [← e4]; exact decide_eq_decide.2 (by omega)
            clear hbad
            cases z1 <;> cases z2 <;> cases z3 <;> cases z4 <;> simp at hz
            all_goals
              go_wp2_with fail
              clear e1 e2 e3 e4 e1' e4' r0 d1 g1 g2 g3
              go_loop [5, 6] (fun vv iv => (∃ j : Nat, j ≤ k ∧ iv = .int .i64 j ∧ vv = .int .u64 (V (j + 1) : Int)) ∨ (iv = .int .i64 (-1) ∧ vv = .int .u64 (V 0 : Int))) (fun _ iv => (RowKit.intOf iv + 1).toNat)
              case atStart => exact .inl ⟨k, Nat.le_refl _, rfl, by rw [HV0.out]; rfl⟩
              case round =>
                rcases hrel with ⟨j, hj, rfl, rfl⟩ | ⟨rfl, rfl⟩
                · obtain ⟨p', hp', _, r0⟩ := HBS.out.at_ (show j < n by omega)
                  injection hp' with hp'
                  subst hp'
                  have hbj := (l.getD j 0).toNat_lt
                  have HS := Lib.hid (HVSk.out j hj)
                  have hv := HVLk.out j (by omega)
                  rw [HS.out] at hv
                  generalize (l.getD j 0).toNat = bj at *
                  have hjz : (j : Int) < (n : Int) := by omega
                  generalize hvv : V (j + 1) = vj at *
                  clear hvv
                  have q1 : IntKind.u64.wrap ((vj : Int) * 128) = (vj : Int) * 128 := by rw [IntKind.wrap_u64]; omega
                  have q2 : IntKind.u64.wrap ((vj : Int) * 128 + (bj : Int) % 128) = (vj : Int) * 128 + (bj : Int) % 128 := by rw [IntKind.wrap_u64]; omega
                  go_wp2_with fail
                  go_round
                  case rel =>
                    rcases Nat.eq_zero_or_pos j with h0 | h0
                    · subst h0
                      exact .inr ⟨by first | rfl | go_num, by rw [HS.out]; first | go_num | (congr 1; omega)⟩
                    · exact .inl ⟨j - 1, by omega, by rw [show ((j - 1 : Nat) : Int) = (j : Int) - 1 by omega], by rw [show j - 1 + 1 = j by omega, HS.out]; first | go_num | (congr 1; omega)⟩
                  case measure => first | (simp [RowKit.intOf]; done) | (simp [RowKit.intOf]; omega)
                · go_wp2_with fail
                  go_ret2
                  exact ⟨by rw [HR1.out]; rfl, rfl⟩
        · have HN2 : Hid (N = (k + 1) + Wn.lead (10 - (k + 1)) (l.drop (k + 1))) := by have e := HN.out; rw [HS.out, if_neg hsm] at e; show _ = _; omega
          generalize (l.getD k 0).toNat = b at *
          have d1 : decide ((128 : Int) ≤ (b : Int)) = true := by rw [decide_eq_true_iff]; omega
          have hk1 : (k : Int) < 10 := by omega
          clear HS HN
          go_wp2_with fail
          go_round
          case rel => exact ⟨k + 1, by omega, by omega, by go_num, HN2⟩
          case measure => simp [RowKit.intOf]; omega
      · have hN : N = k := by have e := HN.out; rw [HZ.out k (.inl (by omega))] at e; exact e
        have HR := Lib.hid (HNO.out (fun q => by omega))
        have hkz : (k : Int) < (n : Int) := by omega
        obtain rfl : k = 10 := by omega
        clear HN HNO HYE HVS HVL HVE HST HZ hN
        have g1 : decide ((n : Int) ≤ 10) = false := by rw [decide_eq_false_iff_not]; omega
        go_wp2_with fail
        go_ret2
        exact ⟨by rw [HR.out]; rfl, rfl⟩
    · have hN : N = k := by have e := HN.out; rw [HZ.out k (.inr (by omega))] at e; exact e
      have HR := Lib.hid (HNO.out (fun q => by omega))
      obtain rfl : n = k := by omega
      have g0 : decide ((n : Int) < (n : Int)) = false := by rw [decide_eq_false_iff_not]; omega
      have g1 : decide ((n : Int) ≤ (n : Int)) = true := by rw [decide_eq_true_iff]; omega
      clear HN HNO HYE HVS HVL HVE HST HZ hN
      go_wp2_with fail
      go_ret2
      exact ⟨by rw [HR.out]; rfl, rfl⟩
end Go.Proofs.Ytniopekkfnkipaa
