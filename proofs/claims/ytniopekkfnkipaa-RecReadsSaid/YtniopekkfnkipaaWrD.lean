/-
  What the document's Reader's fail, Uint, Int and End do.
-/
import Derived.Test.YtniopekkfnkipaaWrC
import Derived.Test.YtniopekkfnkipaaWrB
import Derived.Test.YtniopekkfnkipaaWireOff
import Derived.Lib.QuietBelow
import Derived.BigQuiet
-- SOFT
namespace Go.Proofs.Ytniopekkfnkipaa
open Go.RowKit Go.Lib Go.Sort
set_option linter.unusedVariables false
set_option linter.unusedSimpArgs false

set_option maxHeartbeats 1000000 in
theorem fail_any (g c p err er : Nat) (A : Option Addr) (l : List UInt8) (w : World) (h : Rq w g A c l p err) :
    Calls Try.prog 63 #[.pointer (some ⟨g, 0, none⟩), .int .i64 (er : Int)] w fun e w' => e = .returned (.tuple #[]) ∧ Rq w' g A c l p (if err = 0 then er else err) ∧ w.grownBy w' (some g) := by
  have c2 := h.c2
  have f2 := h.free 2
  have HR := Lib.hid (h.set2 er)
  have H0 := Lib.hid h
  have HG := Lib.hid (grown_set w g 2 (.int .i64 (er : Int)))
  have HG0 : Hid (w.grownBy w (some g)) := World.grownBy.refl _ _
  clear h
  by_cases he : err = 0
  · subst he
    have e1 : (((0 : Nat) : Int) == 0) = true := rfl
    go_enter Try.func63, Try.ntmps63
    go_wp2
    go_end0
    exact ⟨rfl, HR.out, HG.out⟩
  · have e1 : ((err : Int) == 0) = false := by rw [beq_eq_false_iff_ne]; omega
    rw [if_neg he]
    clear he
    go_enter Try.func63, Try.ntmps63
    go_wp2
    go_end0
    exact ⟨rfl, H0.out, HG0.out⟩
theorem dUint_num (l : List UInt8) (p : Nat) : dUint l p = if (numP (l.drop p)).2 = 0 then .bad 6 else .ok (.int .u64 ((numP (l.drop p)).1 : Int)) (p + (numP (l.drop p)).2) := by
  unfold dUint numP
  cases hn : Wn.num (l.drop p) with
  | none => rfl
  | some x =>
    have := (Wn.num_le hn).2.1
    show _ = if x.2 = 0 then _ else _
    rw [if_neg (by omega)]; rfl
theorem numP_in (l : List UInt8) (p : Nat) (hp : p ≤ l.length) : p + (numP (l.drop p)).2 ≤ l.length := by
  unfold numP
  cases hn : Wn.num (l.drop p) with
  | none => simpa using hp
  | some x =>
    have := (Wn.num_le hn).1
    rw [List.length_drop] at this
    show p + x.2 ≤ _
    omega
set_option maxRecDepth 100000 in
set_option maxHeartbeats 2000000 in
theorem qUint_any (g c p : Nat) (A : Option Addr) (l : List UInt8) (w : World) (h : Rq w g A c l p 0) :
    Calls Try.prog 45 #[.pointer (some ⟨g, 0, none⟩)] w (QPost w g c A l p (.int .u64 0) (dUint l p)) := by
  have c0 := h.c0
  have c1 := h.c1
  have c2 := h.c2
  have hp := h.pos
  have hs := h.small
  have hcap := h.cap
  have H0 := Lib.hid h
  have hbs := h.bs.drop p c h.cap
  have HNU : Hid (∀ d os, Calls Try.prog 64 #[.slice (if c = p then A else A.map (·.add p)) (l.length - p) (c - p)] (grow (redrawn w d) os) fun r w' => r = .returned (.tuple #[.int .u64 ((numP (l.drop p)).1 : Int), .int .i64 ((numP (l.drop p)).2 : Int)]) ∧ ∃ p : Regrown, w' = grow (redrawn w p.d) p.os) := fun d os => Calls.regrown_of ((number_any _ _ _ g (l.drop p) _ (hbs.below ((below_regrown w d os).mono (Nat.le_of_lt h.lt))) (by omega)).mono fun e w' ⟨a, b⟩ => ⟨a, by rw [b]; exact Below.refl _ _⟩)
  have HDU := Lib.hid (dUint_num l p)
  have HIN := Lib.hid (numP_in l p hp)
  generalize dUint l p = du at *
  generalize numP (l.drop p) = np at *
  obtain ⟨nv, nn⟩ := np
  simp only at HNU HDU HIN
  clear h hbs
  obtain ⟨A', hA'⟩ : ∃ A', (if c = p then A else A.map (·.add p)) = A' := ⟨_, rfl⟩
  rw [hA'] at HNU
  generalize hn : l.length = n at *
  have HN := Lib.hid hn
  clear hn
  obtain ⟨X, hX⟩ : ∃ X : Ending → World → Prop, QPost w g c A l p (.int .u64 0) du = X := ⟨_, rfl⟩
  have HXB : Hid (du = .bad 6 → ∀ w', Rq w' g A c l p 6 → w.grownBy w' (some g) → X (.returned (.int .u64 0)) w') := fun e w' h1 h2 => by rw [← hX, e]; exact ⟨rfl, h1, h2⟩
  have HXO : Hid (∀ v q, du = .ok v q → ∀ w', Rq w' g A c l q 0 → w.grownBy w' (some g) → X (.returned v) w') := fun v q e w' h1 h2 => by rw [← hX, e]; exact ⟨rfl, h1, h2⟩
  rw [hX]
  clear hX
  have e0 : (((0 : Nat) : Int) != 0) = false := rfl
  have hpc : p ≤ c := by omega
  go_enter Try.func45, Try.ntmps45
  go_wp2_with fail
  have g0 := cell_regrown c0
  have g1 := cell_regrown c1
  clear c0 c1 c2
  refine wp_region_quiet_below (by kernel_rfl) (by kernel_rfl) ?_
  repeat (go_big_quiet_step (exact HNU.out _ _))
  refine wpQuiet_nil ?_
  intro _ hw'
  obtain ⟨⟨dq, osq⟩, hw''⟩ := hw'
  subst hw''
  have HB := Lib.hid (below_regrown w dq osq)
  have HR := Lib.hid (H0.out.below HB.out H0.out.lt)
  have c1 := HR.out.c1
  have f1 := HR.out.free 1
  clear g0 g1 hA'
  by_cases hz : nn = 0
  · have ez : ((nn : Int) == 0) = true := by rw [beq_iff_eq]; omega
    have HE : Hid (du = .bad 6) := by show _ = _; rw [HDU.out, if_pos hz]
    clear hz
    have HFL : Hid (Calls Try.prog 63 #[.pointer (some ⟨g, 0, none⟩), .int .i64 6] (grow (redrawn w dq) osq) fun e w' => e = .returned (.tuple #[]) ∧ Rq w' g A c l p 6 ∧ (grow (redrawn w dq) osq).grownBy w' (some g)) := fail_any g c p 0 6 A l _ HR.out
    go_wp2_with (go_at_call 63; (with_reducible refine HFL.out.mono ?_); rintro e w2 ⟨rfl, hr2, hg2⟩)
    exact HXB.out HE.out _ hr2 (grown_trans (grown_of_below HB.out _) hg2)
  · have ez : ((nn : Int) == 0) = false := by rw [beq_eq_false_iff_ne]; omega
    have HE : Hid (du = .ok (.int .u64 (nv : Int)) (p + nn)) := by show _ = _; rw [HDU.out, if_neg hz]
    have HF := Lib.hid (HR.out.set1 (p + nn) (by rw [HN.out]; exact HIN.out))
    have HG := Lib.hid (grown_trans (grown_of_below HB.out (some g)) (grown_set _ g 1 (.int .i64 ((p + nn : Nat) : Int))))
    have hpn : p + nn ≤ n := HIN.out
    have e8 : ((p + nn : Nat) : Int) = (p : Int) + (nn : Int) := by omega
    have ew : IntKind.i64.wrap ((p : Int) + (nn : Int)) = (p : Int) + (nn : Int) := by rw [IntKind.wrap_i64]; omega
    rw [e8] at HF HG
    clear hz e8
    go_wp2_with fail
    exact HXO.out _ _ HE.out _ HF.out HG.out
end Go.Proofs.Ytniopekkfnkipaa
