/-
  What the document's Reader's Uint, Int, Within and End do, with and without an error.
-/
import Derived.Test.YtgbdgpacnpeahaaWrD
import Derived.Deep.DeepCutAuto
namespace Go.Proofs.Ytgbdgpacnpeahaa
open Go.RowKit Go.Lib Go.Sort
set_option linter.unusedVariables false
set_option linter.unusedSimpArgs false

/-- the number, where the reader then stands, its error -/
def uR (l : List UInt8) (p err : Nat) : Nat × Nat × Nat := if err = 0 then ((numP (l.drop p)).1, p + (numP (l.drop p)).2, if (numP (l.drop p)).2 = 0 then 6 else 0) else (0, p, err)
theorem numP_zero {l : List UInt8} (h : (numP l).2 = 0) : (numP l).1 = 0 := by
  unfold numP at *
  cases hn : Wn.num l with
  | none => rfl
  | some x => rw [hn] at h; have := (Wn.num_le hn).2.1; have h2 : x.2 = 0 := h; omega
theorem numP_lt (l : List UInt8) : (numP l).1 < 18446744073709551616 := by
  unfold numP
  cases hn : Wn.num l with
  | none => show 0 < _; omega
  | some x => exact Wn.num_lt hn
theorem uR_lt (l : List UInt8) (p err : Nat) : (uR l p err).1 < 18446744073709551616 := by
  unfold uR
  split
  · exact numP_lt _
  · show 0 < _; omega
theorem uR_zero {l : List UInt8} {p err : Nat} (h : (uR l p err).2.2 ≠ 0) : (uR l p err).1 = 0 := by
  unfold uR at *
  by_cases he : err = 0
  · rw [if_pos he] at h ⊢
    by_cases hz : (numP (l.drop p)).2 = 0
    · exact numP_zero hz
    · rw [if_neg hz] at h; exact absurd rfl h
  · rw [if_neg he]
theorem uR_in {l : List UInt8} {p : Nat} (err : Nat) (hp : p ≤ l.length) : p ≤ (uR l p err).2.1 ∧ (uR l p err).2.1 ≤ l.length := by
  unfold uR
  split
  · exact ⟨Nat.le_add_right _ _, numP_in l p hp⟩
  · exact ⟨Nat.le_refl _, hp⟩
set_option maxHeartbeats 1000000 in
theorem fU_any (g c p err : Nat) (A : Option Addr) (l : List UInt8) (w : World) (h : Rq w g A c l p err) (he : err ≠ 0) :
    Calls Try.prog 58 #[.pointer (some ⟨g, 0, none⟩)] w fun e w' => e = .returned (.int .u64 0) ∧ w' = w := by
  have c2 := h.c2
  have e0 : ((err : Int) != 0) = true := by rw [bne_iff_ne]; omega
  clear h he
  go_enter Try.func58, Try.ntmps58
  go_wp2_with fail
  go_ret
  exact ⟨rfl, rfl⟩
theorem qU_any (g c p err : Nat) (A : Option Addr) (l : List UInt8) (w : World) (h : Rq w g A c l p err) :
    Calls Try.prog 58 #[.pointer (some ⟨g, 0, none⟩)] w fun e w' => e = .returned (.int .u64 ((uR l p err).1 : Int)) ∧ Rq w' g A c l (uR l p err).2.1 (uR l p err).2.2 ∧ w.grownBy w' (some g) := by
  unfold uR
  by_cases he : err = 0
  · subst he
    rw [if_pos rfl]
    refine (qUint_any g c p A l w h).mono fun e w' hq => ?_
    rw [dUint_num] at hq
    by_cases hz : (numP (l.drop p)).2 = 0
    · rw [if_pos hz] at hq ⊢
      obtain ⟨rfl, h1, h2⟩ := hq
      rw [numP_zero hz, hz]
      exact ⟨rfl, h1, h2⟩
    · rw [if_neg hz] at hq ⊢
      exact hq
  · rw [if_neg he]
    refine (fU_any g c p err A l w h he).mono fun e w' ⟨h1, h2⟩ => ?_
    subst h2
    exact ⟨h1, h, World.grownBy.refl _ _⟩

def iR (l : List UInt8) (p err : Nat) : Int × Nat × Nat := (Wn.zag (uR l p err).1, (uR l p err).2)
set_option maxHeartbeats 1000000 in
theorem qI_any (g c p err : Nat) (A : Option Addr) (l : List UInt8) (w : World) (h : Rq w g A c l p err) :
    Calls Try.prog 59 #[.pointer (some ⟨g, 0, none⟩)] w fun e w' => e = .returned (.int .i64 (iR l p err).1) ∧ Rq w' g A c l (iR l p err).2.1 (iR l p err).2.2 ∧ w.grownBy w' (some g) := by
  have HU := Lib.hid (qU_any g c p err A l w h)
  have hlt := uR_lt l p err
  unfold iR
  generalize uR l p err = t at *
  obtain ⟨n, p1, e1⟩ := t
  simp only at HU hlt ⊢
  clear h
  by_cases hm : n % 2 = 1
  · have em : ((n : Int) % 2 == 1) = true := by rw [beq_iff_eq]; omega
    have HZ : Hid (Wn.zag n = -((n : Int) / 2) - 1) := by show _ = _; unfold Wn.zag; first | (rw [if_neg (by omega)]; omega) | (rw [if_pos (by omega)]; omega)
    clear hm
    go_enter Try.func59, Try.ntmps59
    go_wp2_with (go_at_call 58; (with_reducible refine HU.out.mono ?_); rintro e w1 ⟨rfl, hr, hg⟩)
    go_ret
    exact ⟨by rw [HZ.out]; first | rfl | go_num, hr, hg⟩
  · have em : ((n : Int) % 2 == 1) = false := by rw [beq_eq_false_iff_ne]; omega
    have HZ : Hid (Wn.zag n = (n : Int) / 2) := by show _ = _; unfold Wn.zag; first | (rw [if_neg (by omega)]; omega) | (rw [if_pos (by omega)]; omega)
    clear hm
    go_enter Try.func59, Try.ntmps59
    go_wp2_with (go_at_call 58; (with_reducible refine HU.out.mono ?_); rintro e w1 ⟨rfl, hr, hg⟩)
    go_ret
    exact ⟨by rw [HZ.out]; first | rfl | go_num, hr, hg⟩

def wR (l : List UInt8) (p err : Nat) (lo hi : Int) : Int × Nat × Nat :=
  if (iR l p err).2.2 ≠ 0 then (0, p, (iR l p err).2.2) else if (iR l p err).1 < lo ∨ hi < (iR l p err).1 then (0, p, 8) else iR l p err
set_option maxHeartbeats 2000000 in
theorem qW_any (g c p err : Nat) (A : Option Addr) (l : List UInt8) (lo hi : Int) (w : World) (h : Rq w g A c l p err) :
    Calls Try.prog 65 #[.pointer (some ⟨g, 0, none⟩), .int .i64 lo, .int .i64 hi] w fun e w' => e = .returned (.int .i64 (wR l p err lo hi).1) ∧ Rq w' g A c l (wR l p err lo hi).2.1 (wR l p err lo hi).2.2 ∧ w.grownBy w' (some g) := by
  have HU := Lib.hid (qI_any g c p err A l w h)
  have c1 := h.c1
  have hp := h.pos
  have HP := Lib.hid hp
  obtain ⟨X, hX⟩ : ∃ X : Ending → World → Prop, (fun e w' => e = .returned (.int .i64 (wR l p err lo hi).1) ∧ Rq w' g A c l (wR l p err lo hi).2.1 (wR l p err lo hi).2.2 ∧ w.grownBy w' (some g)) = X := ⟨_, rfl⟩
  have HX : Hid (∀ v q er w', wR l p err lo hi = (v, q, er) → Rq w' g A c l q er → w.grownBy w' (some g) → X (.returned (.int .i64 v)) w') := fun v q er w' e h1 h2 => by rw [← hX, e]; exact ⟨rfl, h1, h2⟩
  rw [hX]
  clear hX
  unfold wR at HX
  generalize iR l p err = t at *
  obtain ⟨v, p1, e1⟩ := t
  simp only at HU HX
  clear h
  go_enter Try.func65, Try.ntmps65
  go_upto_region 3 with (go_at_call 59; (with_reducible refine HU.out.mono ?_); rintro e w1 ⟨rfl, hr, hg⟩)
  have HR := Lib.hid hr
  have HG := Lib.hid hg
  have c2 := hr.c2
  clear hr hg c1 HU
  by_cases he : e1 = 0
  · subst he
    have z1 : (((0 : Nat) : Int) == 0) = true := rfl
    have HFL : Hid (Calls Try.prog 134 #[.pointer (some ⟨g, 0, none⟩), .int .i64 8] w1 fun e w' => e = .returned (.tuple #[]) ∧ Rq w' g A c l p1 8 ∧ w1.grownBy w' (some g)) := fail_any g c p1 0 8 A l _ HR.out
    by_cases hb : v < lo ∨ hi < v
    · have hd : (decide (v < lo) || decide (hi < v)) = true := by simpa using hb
      have HE : Hid ((if (0 : Nat) ≠ 0 then ((0 : Int), p, 0) else if v < lo ∨ hi < v then (0, p, 8) else (v, p1, 0)) = (0, p, 8)) := by show _ = _; rw [if_neg (by simp), if_pos hb]
      rcases hb with hb | hb
      all_goals
        go_wp2_with (go_at_call 134; (with_reducible refine HFL.out.mono ?_); rintro e w2 ⟨rfl, hr2, hg2⟩; have c2' := hr2.c2; have c1' := hr2.c1; have f1' := hr2.free 1)
        all_goals exact HX.out _ _ _ _ HE.out (hr2.set1 p HP.out) (grown_trans (grown_trans HG.out hg2) (grown_set _ _ _ _))
    · have h1 : ¬ v < lo := fun q => hb (.inl q)
      have h2 : ¬ hi < v := fun q => hb (.inr q)
      have HE : Hid ((if (0 : Nat) ≠ 0 then ((0 : Int), p, 0) else if v < lo ∨ hi < v then (0, p, 8) else (v, p1, 0)) = (v, p1, 0)) := by show _ = _; rw [if_neg (by simp), if_neg hb]
      have d1 : decide (v < lo) = false := decide_eq_false h1
      have d2 : decide (hi < v) = false := decide_eq_false h2
      clear hb
      go_wp2_with fail
      exact HX.out _ _ _ _ HE.out HR.out HG.out
  · have z1 : ((e1 : Int) == 0) = false := by rw [beq_eq_false_iff_ne]; omega
    have z2 : ((e1 : Int) != 0) = true := by rw [bne_iff_ne]; omega
    have f1 := HR.out.free 1
    have c1 := HR.out.c1
    have HE : Hid ((if e1 ≠ 0 then ((0 : Int), p, e1) else if v < lo ∨ hi < v then (0, p, 8) else (v, p1, e1)) = (0, p, e1)) := by show _ = _; rw [if_pos he]
    clear he
    go_wp2_with fail
    exact HX.out _ _ _ _ HE.out (HR.out.set1 p HP.out) (grown_trans HG.out (grown_set _ _ _ _))
end Go.Proofs.Ytgbdgpacnpeahaa
