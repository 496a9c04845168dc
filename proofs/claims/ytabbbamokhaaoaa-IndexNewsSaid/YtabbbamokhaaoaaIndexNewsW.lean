/-
  IndexNews.
-/
import Derived.Test.YtabbbamokhaaoaaIdxF
namespace Go.Proofs.Ytabbbamokhaaoaa
open Go.RowKit
set_option linter.unusedVariables false
set_option linter.unusedSimpArgs false

set_option maxRecDepth 100000 in
set_option maxHeartbeats 4000000 in
theorem news5_walk (gap o : Int) (w : World) :
    Calls Try.prog 3 #[.int .i64 gap, .int .i64 o] w fun e w' => e = .returned (.bool true) ∧ Below w.heap.size w w' := by
  by_cases h : gap < 1 ∨ 4194304 < gap
  · have HN := Lib.hid (new_no gap w h)
    have HA := Lib.hid (awake5_any w)
    by_cases h1 : gap < 1
    · have e1 : decide (gap < 1) = true := by simpa using h1
      clear h h1
      go_enter Try.func3, Try.ntmps3
      go_wp2_with fail
      refine HN.out.mono ?_
      rintro e w1 ⟨rfl, rfl⟩
      go_wp2_with fail
      refine HA.out.mono ?_
      rintro e w2 ⟨rfl, hb⟩
      go_wp2_with fail
      go_ret
      exact ⟨rfl, hb⟩
    · have e1 : decide (gap < 1) = false := by simpa using h1
      have e2 : decide (4194304 < gap) = true := by simp; omega
      clear h h1
      go_enter Try.func3, Try.ntmps3
      go_wp2_with fail
      refine HN.out.mono ?_
      rintro e w1 ⟨rfl, rfl⟩
      go_wp2_with fail
      refine HA.out.mono ?_
      rintro e w2 ⟨rfl, hb⟩
      go_wp2_with fail
      go_ret
      exact ⟨rfl, hb⟩
  · have h1 : 1 ≤ gap := by omega
    have h2 : gap ≤ 4194304 := by omega
    have HN := Lib.hid (new_any gap w h1 h2)
    have e1 : decide (gap < 1) = false := by simp; omega
    have e2 : decide (4194304 < gap) = false := by simp; omega
    clear h h1 h2
    go_enter Try.func3, Try.ntmps3
    go_wp2_with fail
    refine HN.out.mono ?_
    rintro e w1 ⟨rfl, hx1, hb1⟩
    have HF := Lib.hid (find_any _ _ _ _ o w1 hx1 (by simp) (Srt.new gap))
    have HX1 := Lib.hid hx1
    have HB1 := Lib.hid hb1
    clear hx1 hb1 HN
    go_wp2_with fail
    refine HF.out.mono ?_
    rintro e w2 ⟨r, rfl, hU, hb2⟩
    have h0 : r = 0 := by have := hU.le; simpa using this
    subst h0
    rw [show lastE ([] : List Ent) 0 = ⟨0, 0, 0⟩ from rfl, show decide (0 < 0) = false from rfl]
    simp only [Ent.cells]
    have hal := (Below.refl w2.heap.size w2).alloc (Nat.le_refl _) (.cells #[.int .i64 0, .int .i64 0, .int .i64 0] 28)
    have HX2 := Lib.hid ((HX1.out.below hb2 (Nat.le_refl _)).below hal (Nat.le_refl _))
    have HB2 := Lib.hid ((HB1.out.trans (hb2.mono HB1.out.size)).trans (hal.mono (by have := HB1.out.size; have := hb2.size; omega)))
    have HG := Lib.hid (gap_any _ _ _ _ _ HX2.out)
    have HL := Lib.hid (len_any _ _ _ _ _ HX2.out)
    have HA : Hid (∀ W, Calls Try.prog 16 #[] W fun e w' => e = .returned (.bool true) ∧ Below W.heap.size W w') := fun W => awake5_any W
    clear hU hb2 HF HX1 HB1 hal
    go_wp2_with fail
    refine HG.out.mono ?_
    rintro e w3 ⟨rfl, rfl⟩
    go_wp2_with fail
    refine HL.out.mono ?_
    rintro e w3 ⟨rfl, rfl⟩
    go_wp2_with fail
    refine (HA.out _).mono ?_
    rintro e w4 ⟨rfl, hb4⟩
    go_wp2_with fail
    go_ret
    exact ⟨rfl, HB2.out.trans (hb4.mono HB2.out.size)⟩
end Go.Proofs.Ytabbbamokhaaoaa
