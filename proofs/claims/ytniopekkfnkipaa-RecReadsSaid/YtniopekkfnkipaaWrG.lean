/-
  What the document's Reader's Byte, Flag and End do.
-/
import Derived.Test.YtniopekkfnkipaaWrF
-- SOFT
namespace Go.Proofs.Ytniopekkfnkipaa
open Go.RowKit Go.Lib Go.Sort
set_option linter.unusedVariables false
set_option linter.unusedSimpArgs false

def byteR (l : List UInt8) (p err : Nat) : Nat × Nat × Nat := ((match (bytesR l p err 1).1 with | [] => 0 | b :: _ => b.toNat), (bytesR l p err 1).2)
set_option maxRecDepth 100000 in
set_option maxHeartbeats 2000000 in
theorem qY_any (g c p err : Nat) (A : Option Addr) (l : List UInt8) (w : World) (h : Rq w g A c l p err) :
    Calls Try.prog 21 #[.pointer (some ⟨g, 0, none⟩)] w fun e w' => e = .returned (.int .i64 ((byteR l p err).1 : Int)) ∧ Rq w' g A c l (byteR l p err).2.1 (byteR l p err).2.2 ∧ w.grownBy w' (some g) := by
  have HB := Lib.hid (qB_any g c p err A l 1 w h (by omega) (by omega))
  unfold BPost at HB
  unfold byteR
  generalize bytesR l p err 1 = t at *
  obtain ⟨bs, p1, e1⟩ := t
  simp only at HB ⊢
  clear h
  go_enter Try.func21, Try.ntmps21
  go_upto_region 2 with (go_at_call 44; (with_reducible refine HB.out.mono ?_); rintro e w1 ⟨v, rfl, ho, hr, hg⟩)
  obtain ⟨A2, c2, rfl, hc2, _, hbs, _, _⟩ := ho.form
  have HR := Lib.hid hr
  have HG := Lib.hid hg
  clear ho hr hg
  cases bs with
  | nil =>
    clear hbs
    rw [List.length_nil]
    go_wp2_with fail
    go_ret
    exact ⟨rfl, HR.out, HG.out⟩
  | cons b r =>
    obtain ⟨q, rfl, _, r0⟩ := hbs.at_ (k := 0) (by simp)
    rw [show (b :: r).getD 0 0 = b from rfl, show q.add 0 = q by unfold Addr.add; rw [if_pos rfl]] at r0
    have hb := b.toNat_lt
    have d1 : (((b :: r).length : Int) == 0) = false := by rw [beq_eq_false_iff_ne, List.length_cons]; omega
    have d2 : (0 : Int) < ((b :: r).length : Int) := by rw [List.length_cons]; omega
    have d3 : 0 < (b :: r).length := by simp
    generalize (b :: r).length = m at *
    generalize hbn : b.toNat = bn at r0 hb
    have HBN := Lib.hid hbn
    clear hbn
    go_wp2_with fail
    go_ret
    exact ⟨by show _ = Ending.returned (.int .i64 (b.toNat : Int)); rw [HBN.out]; rfl, HR.out, HG.out⟩
def flagE (l : List UInt8) (p err : Nat) : Nat := if err = 0 ∧ (l.length ≤ p ∨ 1 < (l.getD p 0).toNat) then 6 else err
def flagR (l : List UInt8) (p err : Nat) : Bool × Nat × Nat := (((byteR l p (flagE l p err)).1 : Int) == 1, (byteR l p (flagE l p err)).2)
def endE (l : List UInt8) (p err : Nat) : Nat := if err = 0 ∧ p < l.length then 6 else err
def PE (tb : Bool) (err : Nat) : Prop := tb = true → err = 0
set_option maxRecDepth 100000 in
set_option maxHeartbeats 4000000 in
theorem qF_any (g c p err : Nat) (A : Option Addr) (l : List UInt8) (w : World) (h : Rq w g A c l p err) :
    Calls Try.prog 47 #[.pointer (some ⟨g, 0, none⟩)] w fun e w' => e = .returned (.bool (flagR l p err).1) ∧ Rq w' g A c l (flagR l p err).2.1 (flagR l p err).2.2 ∧ w.grownBy w' (some g) := by
  have c0 := h.c0
  have c1 := h.c1
  have c2 := h.c2
  have hp := h.pos
  have H0 := Lib.hid h
  have hlt := h.lt
  have HY : Hid (∀ W, Rq W g A c l p (flagE l p err) → Calls Try.prog 21 #[.pointer (some ⟨g, 0, none⟩)] W fun e w' => e = .returned (.int .i64 ((byteR l p (flagE l p err)).1 : Int)) ∧ Rq w' g A c l (byteR l p (flagE l p err)).2.1 (byteR l p (flagE l p err)).2.2 ∧ W.grownBy w' (some g)) := fun W hW => qY_any g c p _ A l W hW
  have HFB : Hid (∀ W, Rq W g A c l p 0 → Calls Try.prog 63 #[.pointer (some ⟨g, 0, none⟩), .int .i64 6] W fun e w' => e = .returned (.tuple #[]) ∧ Rq w' g A c l p 6 ∧ W.grownBy w' (some g)) := fun W hW => fail_any g c p 0 6 A l W hW
  have HFE : Hid (flagE l p err = if err = 0 ∧ (l.length ≤ p ∨ 1 < (l.getD p 0).toNat) then 6 else err) := rfl
  unfold flagR
  generalize flagE l p err = fe at *
  generalize byteR l p fe = t at *
  obtain ⟨bv, p1, e1⟩ := t
  simp only at HY ⊢
  go_enter Try.func47, Try.ntmps47
  go_upto_region 1 with fail
  go_cut [32] (fun s32 wx => ∃ tb : Bool, s32 = .bool tb ∧ Hid (fe = if tb = true then 6 else err) ∧ PE tb err ∧ Hid (Below w.heap.size w wx))
  case first =>
    have g0 := cell_regrown c0
    have g1 := cell_regrown c1
    have g2 := cell_regrown c2
    by_cases he : err = 0
    · subst he
      have z1 : (((0 : Nat) : Int) == 0) = true := rfl
      by_cases hin : p < l.length
      · obtain ⟨q, rfl, _, r0⟩ := h.bs.at_ hin
        have g3 := cell_regrown r0
        have hb := (l.getD p 0).toNat_lt
        have HF2 : Hid (fe = if decide (1 < (l.getD p 0).toNat) = true then 6 else 0) := by
          show _ = _
          rw [HFE.out]
          by_cases h1 : 1 < (l.getD p 0).toNat
          · rw [if_pos ⟨rfl, .inr h1⟩, if_pos (decide_eq_true h1)]
          · rw [if_neg (by rintro ⟨_, q | q⟩; omega; exact h1 q), if_neg (by rw [decide_eq_false h1]; simp)]
        generalize (l.getD p 0).toNat = b at *
        have d1 : decide ((l.length : Int) ≤ (p : Int)) = false := by rw [decide_eq_false_iff_not]; omega
        have d2 : decide (l.length ≤ p) = false := by rw [decide_eq_false_iff_not]; omega
        have d3 : decide ((1 : Int) < (b : Int)) = decide (1 < b) := decide_eq_decide.2 (by omega)
        have hpz : (p : Int) < (l.length : Int) := by omega
        generalize decide (1 < b) = tb at *
        clear c0 c1 c2 r0 h HY HFB HFE
        go_wp2_with fail
        refine wp_region_quiet_below (by kernel_rfl) (by kernel_rfl) ?_
        repeat (go_big_quiet_step (fail))
        refine wpQuiet_nil ?_
        intro _ hw'
        obtain ⟨⟨dq, osq⟩, hw''⟩ := hw'
        subst hw''
        have HBX := Lib.hid (below_regrown w dq osq)
        go_wp2_with fail
        go_meet
        exact ⟨tb, rfl, HF2.out, fun _ => rfl, HBX.out⟩
      · have d1 : decide ((l.length : Int) ≤ (p : Int)) = true := by rw [decide_eq_true_iff]; omega
        have d2 : decide (l.length ≤ p) = true := by rw [decide_eq_true_iff]; omega
        have HF2 : Hid (fe = if true = true then 6 else 0) := by show _ = _; rw [HFE.out, if_pos ⟨rfl, .inl (by omega)⟩]; rfl
        clear c0 c1 c2 h HY HFB HFE
        go_wp2_with fail
        refine wp_region_quiet_below (by kernel_rfl) (by kernel_rfl) ?_
        repeat (go_big_quiet_step (fail))
        refine wpQuiet_nil ?_
        intro _ hw'
        obtain ⟨⟨dq, osq⟩, hw''⟩ := hw'
        subst hw''
        have HBX := Lib.hid (below_regrown w dq osq)
        go_wp2_with fail
        go_meet
        exact ⟨true, rfl, HF2.out, fun _ => rfl, HBX.out⟩
    · have z1 : ((err : Int) == 0) = false := by rw [beq_eq_false_iff_ne]; omega
      have HF2 : Hid (fe = if false = true then 6 else err) := by show _ = _; rw [HFE.out, if_neg (fun q => he q.1)]; rfl
      clear c0 c1 c2 h HY HFB HFE he
      go_wp2_with fail
      refine wp_region_quiet_below (by kernel_rfl) (by kernel_rfl) ?_
      repeat (go_big_quiet_step (fail))
      refine wpQuiet_nil ?_
      intro _ hw'
      obtain ⟨⟨dq, osq⟩, hw''⟩ := hw'
      subst hw''
      have HBX := Lib.hid (below_regrown w dq osq)
      go_wp2_with fail
      go_meet
      exact ⟨false, rfl, HF2.out, (fun q => (by cases q)), HBX.out⟩
  case rest =>
  obtain ⟨tb, rfl, HF, HE0, HB⟩ := hcut
  have HRC := Lib.hid (H0.out.below HB.out hlt)
  clear c0 c1 c2 h HFE
  cases tb with
  | true =>
    have he := HE0 rfl
    subst he
    have hfe : 6 = fe := by rw [HF.out]; rfl
    subst hfe
    go_wp2_with (first
      | (go_at_call 63; (with_reducible refine (HFB.out _ HRC.out).mono ?_); rintro e w2 ⟨rfl, hr2, hg2⟩)
      | (go_at_call 21; (with_reducible refine (HY.out _ hr2).mono ?_); rintro e w3 ⟨rfl, hr3, hg3⟩))
    go_ret
    exact ⟨rfl, hr3, grown_trans (grown_trans (grown_of_below HB.out _) hg2) hg3⟩
  | false =>
    have hfe : err = fe := by rw [HF.out]; rfl
    subst hfe
    go_wp2_with (go_at_call 21; (with_reducible refine (HY.out _ HRC.out).mono ?_); rintro e w3 ⟨rfl, hr3, hg3⟩)
    go_ret
    exact ⟨rfl, hr3, grown_trans (grown_of_below HB.out _) hg3⟩
end Go.Proofs.Ytniopekkfnkipaa
