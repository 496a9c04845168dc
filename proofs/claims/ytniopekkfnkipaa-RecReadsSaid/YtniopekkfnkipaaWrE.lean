/-
  What the document's Reader's Uint, Int, Within and End do, with and without an error.
-/
import Derived.Test.YtniopekkfnkipaaWrD
import Derived.Deep.DeepCutAuto
-- SOFT
namespace Go.Proofs.Ytniopekkfnkipaa
open Go.RowKit Go.Lib Go.Sort
set_option linter.unusedVariables false
set_option linter.unusedSimpArgs false

/-- the number, where the reader then stands, its error -/
def uR (l : List UInt8) (p err : Nat) : Nat × Nat × Nat := if err = 0 then ((numP (l.drop p)).1, p + (numP (l.drop p)).2, if (numP (l.drop p)).2 = 0 then 6 else 0) else (0, p, err)
theorem numP_zero {l : List UInt8} (h : (numP l).2 = 0) : (numP l).1 = 0 := by
  unfold numP at *
  cases hn : Wn.num l with
  | none => rfl
  | some x => rw [hn] at h; have := (Wn.num_le hn).2.1; have h2 : x.2 = 0 := h; omega
theorem numP_lt (l : List UInt8) : (numP l).1 < 18446744073709551616 := by
  unfold numP
  cases hn : Wn.num l with
  | none => show 0 < _; omega
  | some x => exact Wn.num_lt hn
theorem uR_lt (l : List UInt8) (p err : Nat) : (uR l p err).1 < 18446744073709551616 := by
  unfold uR
  split
  · exact numP_lt _
  · show 0 < _; omega
theorem uR_zero {l : List UInt8} {p err : Nat} (h : (uR l p err).2.2 ≠ 0) : (uR l p err).1 = 0 := by
  unfold uR at *
  by_cases he : err = 0
  · rw [if_pos he] at h ⊢
    by_cases hz : (numP (l.drop p)).2 = 0
    · exact numP_zero hz
    · rw [if_neg hz] at h; exact absurd rfl h
  · rw [if_neg he]
theorem uR_in {l : List UInt8} {p : Nat} (err : Nat) (hp : p ≤ l.length) : p ≤ (uR l p err).2.1 ∧ (uR l p err).2.1 ≤ l.length := by
  unfold uR
  split
  · exact ⟨Nat.le_add_right _ _, numP_in l p hp⟩
  · exact ⟨Nat.le_refl _, hp⟩
set_option maxHeartbeats 1000000 in
theorem fU_any (g c p err : Nat) (A : Option Addr) (l : List UInt8) (w : World) (h : Rq w g A c l p err) (he : err ≠ 0) :
    Calls Try.prog 45 #[.pointer (some ⟨g, 0, none⟩)] w fun e w' => e = .returned (.int .u64 0) ∧ w' = w := by
  have c2 := h.c2
  have e0 : ((err : Int) != 0) = true := by rw [bne_iff_ne]; omega
  clear h he
  go_enter Try.func45, Try.ntmps45
  go_wp2_with fail
  go_ret
  exact ⟨rfl, rfl⟩
theorem qU_any (g c p err : Nat) (A : Option Addr) (l : List UInt8) (w : World) (h : Rq w g A c l p err) :
    Calls Try.prog 45 #[.pointer (some ⟨g, 0, none⟩)] w fun e w' => e = .returned (.int .u64 ((uR l p err).1 : Int)) ∧ Rq w' g A c l (uR l p err).2.1 (uR l p err).2.2 ∧ w.grownBy w' (some g) := by
  unfold uR
  by_cases he : err = 0
  · subst he
    rw [if_pos rfl]
    refine (qUint_any g c p A l w h).mono fun e w' hq => ?_
    rw [dUint_num] at hq
    by_cases hz : (numP (l.drop p)).2 = 0
    · rw [if_pos hz] at hq ⊢
      obtain ⟨rfl, h1, h2⟩ := hq
      rw [numP_zero hz, hz]
      exact ⟨rfl, h1, h2⟩
    · rw [if_neg hz] at hq ⊢
      exact hq
  · rw [if_neg he]
    refine (fU_any g c p err A l w h he).mono fun e w' ⟨h1, h2⟩ => ?_
    subst h2
    exact ⟨h1, h, World.grownBy.refl _ _⟩

def iR (l : List UInt8) (p err : Nat) : Int × Nat × Nat := (Wn.zag (uR l p err).1, (uR l p err).2)
set_option maxHeartbeats 1000000 in
theorem qI_any (g c p err : Nat) (A : Option Addr) (l : List UInt8) (w : World) (h : Rq w g A c l p err) :
    Calls Try.prog 46 #[.pointer (some ⟨g, 0, none⟩)] w fun e w' => e = .returned (.int .i64 (iR l p err).1) ∧ Rq w' g A c l (iR l p err).2.1 (iR l p err).2.2 ∧ w.grownBy w' (some g) := by
  have HU := Lib.hid (qU_any g c p err A l w h)
  have hlt := uR_lt l p err
  unfold iR
  generalize uR l p err = t at *
  obtain ⟨n, p1, e1⟩ := t
  simp only at HU hlt ⊢
  clear h
  by_cases hm : n % 2 = 1
  · have em : ((n : Int) % 2 == 1) = true := by rw [beq_iff_eq]; omega
    have HZ : Hid (Wn.zag n = -((n : Int) / 2) - 1) := by show _ = _; unfold Wn.zag; first | (rw [if_neg (by omega)]; omega) | (rw [if_pos (by omega)]; omega)
    clear hm
    go_enter Try.func46, Try.ntmps46
    go_wp2_with (go_at_call 45; (with_reducible refine HU.out.mono ?_); rintro e w1 ⟨rfl, hr, hg⟩)
    go_ret
    exact ⟨by rw [HZ.out]; first | rfl | go_num, hr, hg⟩
  · have em : ((n : Int) % 2 == 1) = false := by rw [beq_eq_false_iff_ne]; omega
    have HZ : Hid (Wn.zag n = (n : Int) / 2) := by show _ = _; unfold Wn.zag; first | (rw [if_neg (by omega)]; omega) | (rw [if_pos (by omega)]; omega)
    clear hm
    go_enter Try.func46, Try.ntmps46
    go_wp2_with (go_at_call 45; (with_reducible refine HU.out.mono ?_); rintro e w1 ⟨rfl, hr, hg⟩)
    go_ret
    exact ⟨by rw [HZ.out]; first | rfl | go_num, hr, hg⟩

def wR (l : List UInt8) (p err : Nat) (lo hi : Int) : Int × Nat × Nat :=
  if (iR l p err).2.2 ≠ 0 then (0, p, (iR l p err).2.2) else if (iR l p err).1 < lo ∨ hi < (iR l p err).1 then (0, p, 8) else iR l p err
end Go.Proofs.Ytniopekkfnkipaa
