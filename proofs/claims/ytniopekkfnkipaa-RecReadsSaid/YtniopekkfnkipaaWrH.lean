/-
  What the document's Reader's many, Text, Rest and End do.
-/
import Derived.Test.YtniopekkfnkipaaWrG
-- SOFT
namespace Go.Proofs.Ytniopekkfnkipaa
open Go.RowKit Go.Lib Go.Sort
set_option linter.unusedVariables false
set_option linter.unusedSimpArgs false

/-- the error behind a count -/
def mE (l : List UInt8) (p err : Nat) (count : Int) : Nat := if (uR l p err).2.2 = 0 ∧ count.toNat < (uR l p err).1 then 7 else (uR l p err).2.2
def textE (l : List UInt8) (p err : Nat) (most : Int) : Nat := if mE l p err most = 0 ∧ l.length - (uR l p err).2.1 < (uR l p err).1 then 6 else mE l p err most
def textR (l : List UInt8) (p err : Nat) (most : Int) : List UInt8 × Nat × Nat :=
  if textE l p err most ≠ 0 then ([], p, textE l p err most) else ((l.drop (uR l p err).2.1).take (uR l p err).1, (uR l p err).2.1 + (uR l p err).1, 0)
set_option maxRecDepth 100000 in
set_option maxHeartbeats 8000000 in
theorem qT_any (g c p err : Nat) (A : Option Addr) (l : List UInt8) (most : Int) (w : World) (h : Rq w g A c l p err) (hm1 : -9223372036854775808 ≤ most) (hm2 : most ≤ 9223372036854775807) :
    Calls Try.prog 48 #[.pointer (some ⟨g, 0, none⟩), .int .i64 most] w fun e w' => e = .returned (.string ⟨(textR l p err most).1.toArray⟩) ∧ Rq w' g A c l (textR l p err most).2.1 (textR l p err most).2.2 ∧ w.grownBy w' (some g) := by
  have HU := Lib.hid (qU_any g c p err A l w h)
  have hlt := uR_lt l p err
  have hin := uR_in err h.pos
  have hs := h.small
  have HPP := Lib.hid h.pos
  have c1 := h.c1
  obtain ⟨X, hX⟩ : ∃ X : Ending → World → Prop, (fun e w' => e = .returned (.string ⟨(textR l p err most).1.toArray⟩) ∧ Rq w' g A c l (textR l p err most).2.1 (textR l p err most).2.2 ∧ w.grownBy w' (some g)) = X := ⟨_, rfl⟩
  have HX : Hid (∀ v q er w', textR l p err most = (v, q, er) → Rq w' g A c l q er → w.grownBy w' (some g) → X (.returned (.string ⟨v.toArray⟩)) w') := fun v q er w' e h1 h2 => by rw [← hX, e]; exact ⟨rfl, h1, h2⟩
  rw [hX]
  clear hX
  unfold textR textE at HX
  have HMD : Hid (mE l p err most = if (uR l p err).2.2 = 0 ∧ most.toNat < (uR l p err).1 then 7 else (uR l p err).2.2) := rfl
  generalize mE l p err most = ee at *
  generalize uR l p err = t at *
  obtain ⟨n, p1, e1⟩ := t
  simp only at HU hlt hin HX HMD
  clear h
  obtain ⟨tb, htb⟩ : ∃ tb, decide (e1 = 0 ∧ most.toNat < n) = tb := ⟨_, rfl⟩
  have HTB : Hid (tb = decide (e1 = 0 ∧ most.toNat < n)) := htb.symm
  have HEE : Hid (ee = if tb = true then 7 else e1) := by show _ = _; rw [HMD.out, ← htb]; simp only [decide_eq_true_iff]
  have HE1 : Hid (tb = true → e1 = 0) := fun q => by rw [← htb] at q; exact (of_decide_eq_true q).1
  clear htb HMD
  go_enter Try.func48, Try.ntmps48
  go_upto_region 3 with (go_at_call 45; (with_reducible refine HU.out.mono ?_); rintro e w1 ⟨rfl, hr, hg⟩)
  have HR := Lib.hid hr
  have HG := Lib.hid hg
  have c2 := hr.c2
  clear hr hg HU c1
  go_cut [35] (fun s35 wx => s35 = .bool tb ∧ wx = w1)
  case first =>
    by_cases he : e1 = 0
    · subst he
      have z1 : (((0 : Nat) : Int) == 0) = true := rfl
      by_cases hm : most < 0
      · have d1 : decide (most < 0) = true := decide_eq_true hm
        have d4 : decide (0 ≤ most) = false := by rw [decide_eq_false_iff_not]; omega
        by_cases hn : 0 < n
        · have d2 : decide ((0 : Int) < (n : Int)) = true := by rw [decide_eq_true_iff]; omega
          have d3 : decide (0 < n) = true := by rw [decide_eq_true_iff]; omega
          have HF2 : Hid (tb = true) := by show _ = _; rw [HTB.out]; exact decide_eq_true ⟨rfl, by omega⟩
          clear hm hn HTB
          go_wp2_with fail
          go_meet
          exact ⟨by rw [HF2.out], rfl⟩
        · have d2 : decide ((0 : Int) < (n : Int)) = false := by rw [decide_eq_false_iff_not]; omega
          have d3 : decide (0 < n) = false := by rw [decide_eq_false_iff_not]; omega
          have HF2 : Hid (tb = false) := by show _ = _; rw [HTB.out]; exact decide_eq_false (fun q => by omega)
          clear hm hn HTB
          go_wp2_with fail
          go_meet
          exact ⟨by rw [HF2.out], rfl⟩
      · obtain ⟨m, rfl⟩ : ∃ m : Nat, most = (m : Int) := ⟨most.toNat, by omega⟩
        have d1 : decide ((m : Int) < 0) = false := decide_eq_false hm
        have d4 : decide ((0 : Int) ≤ (m : Int)) = true := by rw [decide_eq_true_iff]; omega
        have q1 : IntKind.u64.wrap (m : Int) = (m : Int) := by rw [IntKind.wrap_u64]; omega
        by_cases hn : m < n
        · have d2 : decide ((m : Int) < (n : Int)) = true := by rw [decide_eq_true_iff]; omega
          have d3 : decide (m < n) = true := by rw [decide_eq_true_iff]; omega
          have HF2 : Hid (tb = true) := by show _ = _; rw [HTB.out]; exact decide_eq_true ⟨rfl, by omega⟩
          clear hm hn HTB
          go_wp2_with fail
          go_meet
          exact ⟨by rw [HF2.out], rfl⟩
        · have d2 : decide ((m : Int) < (n : Int)) = false := by rw [decide_eq_false_iff_not]; omega
          have d3 : decide (m < n) = false := by rw [decide_eq_false_iff_not]; omega
          have HF2 : Hid (tb = false) := by show _ = _; rw [HTB.out]; exact decide_eq_false (fun q => by omega)
          clear hm hn HTB
          go_wp2_with fail
          go_meet
          exact ⟨by rw [HF2.out], rfl⟩
    · have z1 : ((e1 : Int) == 0) = false := by rw [beq_eq_false_iff_ne]; omega
      have HF2 : Hid (tb = false) := by show _ = _; rw [HTB.out]; exact decide_eq_false (fun q => he q.1)
      clear he HTB
      go_wp2_with fail
      go_meet
      exact ⟨by rw [HF2.out], rfl⟩
  case rest =>
  obtain ⟨rfl, hwc⟩ := hcut
  have hwc' := hwc.symm
  subst hwc'
  clear HTB c2
  go_upto_if 35 with fail
  go_cut [35] (fun s35 wx => Hid (Rq wx g A c l p1 ee) ∧ Hid (w.grownBy wx (some g)))
  case first =>
    cases tb with
    | true =>
      have he := HE1.out rfl
      subst he
      have hee : 7 = ee := by rw [HEE.out]; rfl
      subst hee
      have HFL : Hid (Calls Try.prog 63 #[.pointer (some ⟨g, 0, none⟩), .int .i64 7] w1 fun e w' => e = .returned (.tuple #[]) ∧ Rq w' g A c l p1 7 ∧ w1.grownBy w' (some g)) := fail_any g c p1 0 7 A l _ HR.out
      go_wp2_with (go_at_call 63; (with_reducible refine HFL.out.mono ?_); rintro e w2 ⟨rfl, hr2, hg2⟩)
      go_meet
      exact ⟨hr2, grown_trans HG.out hg2⟩
    | false =>
      have hee : e1 = ee := by rw [HEE.out]; rfl
      subst hee
      go_wp2_with fail
      go_meet
      exact ⟨HR.out, HG.out⟩
  case rest =>
  obtain ⟨HR2, HG2⟩ := hcut
  clear HR HG HEE HE1
  have k0 := HR2.out.c0
  have k1 := HR2.out.c1
  have k2 := HR2.out.c2
  have hlt2 := HR2.out.lt
  have ew : IntKind.i64.wrap ((l.length : Int) - (p1 : Int)) = (l.length : Int) - (p1 : Int) := by rw [IntKind.wrap_i64]; omega
  have ew2 : IntKind.u64.wrap ((l.length : Int) - (p1 : Int)) = (l.length : Int) - (p1 : Int) := by rw [IntKind.wrap_u64]; omega
  have HN2 : Hid (n ≤ l.length - p1 → IntKind.i64.wrap (n : Int) = (n : Int)) := fun q => by rw [IntKind.wrap_i64]; omega
  by_cases he : ee = 0
  · subst he
    have z1 : (((0 : Nat) : Int) == 0) = true := rfl
    by_cases hb : l.length - p1 < n
    · have d1 : decide ((l.length : Int) - (p1 : Int) < (n : Int)) = true := by rw [decide_eq_true_iff]; omega
      have HE : Hid ((if (if (0 : Nat) = 0 ∧ l.length - p1 < n then 6 else 0) ≠ 0 then (([] : List UInt8), p, (if (0 : Nat) = 0 ∧ l.length - p1 < n then 6 else 0)) else ((l.drop p1).take n, p1 + n, 0)) = ([], p, 6)) := by have hx : (if (0 : Nat) = 0 ∧ l.length - p1 < n then 6 else 0) = 6 := if_pos ⟨rfl, hb⟩; show _ = _; rw [hx]; rfl
      have HXE := Lib.hid (HX.out [] p 6)
      clear hb HN2
      go_wp2_with fail
      go_quiet (fail)
      have HFL : Hid (∀ W, Rq W g A c l p1 0 → Calls Try.prog 63 #[.pointer (some ⟨g, 0, none⟩), .int .i64 6] W fun e w' => e = .returned (.tuple #[]) ∧ Rq w' g A c l p1 6 ∧ W.grownBy w' (some g)) := fun W hW => fail_any g c p1 0 6 A l W hW
      clear k0 k1 k2
      go_wp2_with (go_at_call 63; (with_reducible refine (HFL.out _ (HR2.out.drewN _)).mono ?_); rintro e w2 ⟨rfl, hr2, hg2⟩; have c1' := hr2.c1; have c2' := hr2.c2; have f1' := hr2.free 1)
      exact HXE.out _ HE.out (hr2.set1 p HPP.out) (grown_trans (grown_trans (grown_trans HG2.out (grown_draws _ _ _)) hg2) (grown_set _ _ _ _))
    · have d1 : decide ((l.length : Int) - (p1 : Int) < (n : Int)) = false := by rw [decide_eq_false_iff_not]; omega
      have HE : Hid ((if (if (0 : Nat) = 0 ∧ l.length - p1 < n then 6 else 0) ≠ 0 then (([] : List UInt8), p, (if (0 : Nat) = 0 ∧ l.length - p1 < n then 6 else 0)) else ((l.drop p1).take n, p1 + n, 0)) = ((l.drop p1).take n, p1 + n, 0)) := by have hx : (if (0 : Nat) = 0 ∧ l.length - p1 < n then 6 else 0) = 0 := if_neg (fun q => hb q.2); show _ = _; rw [hx]; rfl
      have hnw := HN2.out (by omega)
      have HBY : Hid (∀ W, Rq W g A c l p1 0 → Calls Try.prog 44 #[.pointer (some ⟨g, 0, none⟩), .int .i64 (n : Int)] W fun e w' => ∃ v, e = .returned v ∧ Own w' W.heap.size v ((l.drop p1).take n) ∧ Rq w' g A c l (p1 + n) 0 ∧ W.grownBy w' (some g)) := fun W hW => by
        have := qB_any g c p1 0 A l (n : Int) W hW (by omega) (by omega)
        unfold BPost bytesR at this
        rw [if_neg (by omega), if_neg (by omega), if_neg (by simp), Int.toNat_natCast] at this
        exact this
      have HXE := Lib.hid (HX.out ((l.drop p1).take n) (p1 + n) 0)
      have HLN : Hid (((l.drop p1).take n).length = n) := by show _ = _; rw [List.length_take, List.length_drop]; omega
      generalize (l.drop p1).take n = bs at *
      clear hb HN2
      go_wp2_with fail
      go_quiet (fail)
      go_wp2_with (go_at_call 44; (with_reducible refine (HBY.out _ (HR2.out.drewN _)).mono ?_); rintro e w2 ⟨v2, rfl, ho2, hr2, hg2⟩; have hf := ho2.form; rw [HLN.out] at hf; obtain ⟨A3, c3, rfl, _, _, hbs3, _, _⟩ := hf; have hcv := hbs3.str Try.underlying25 Try.underlying5 Try.underlying9 c3)
      exact HXE.out _ HE.out hr2 (grown_trans (grown_trans HG2.out (grown_draws _ _ _)) hg2)
  · have z1 : ((ee : Int) == 0) = false := by rw [beq_eq_false_iff_ne]; omega
    have z2 : ((ee : Int) != 0) = true := by rw [bne_iff_ne]; omega
    have HE : Hid ((if (if ee = 0 ∧ l.length - p1 < n then 6 else ee) ≠ 0 then (([] : List UInt8), p, (if ee = 0 ∧ l.length - p1 < n then 6 else ee)) else ((l.drop p1).take n, p1 + n, 0)) = ([], p, ee)) := by have hx : (if ee = 0 ∧ l.length - p1 < n then 6 else ee) = ee := if_neg (fun q => he q.1); show _ = _; rw [hx, if_pos he]
    have HXE := Lib.hid (HX.out [] p ee)
    have f1 := HR2.out.free 1
    clear he HN2
    go_wp2_with fail
    go_quiet (fail)
    go_wp2_with fail
    exact HXE.out _ HE.out ((HR2.out.drewN _).set1 p HPP.out) (grown_trans (grown_trans HG2.out (grown_draws _ _ _)) (grown_set _ _ _ _))

end Go.Proofs.Ytniopekkfnkipaa
