/-
  What rec.follows does.
-/
import Derived.Test.YtapnhhoegoakiaaRecOw
import Derived.Test.YtapnhhoegoakiaaRecPo
namespace Go.Proofs.Ytapnhhoegoakiaa
open Go.RowKit
set_option linter.unusedVariables false
set_option linter.unusedSimpArgs false

def ownP (a b : Bat) : Prop := a.kind = b.kind ∧ a.pid = b.pid ∧ a.epoch = b.epoch ∧ a.time = b.time
instance (a b : Bat) : Decidable (ownP a b) := by unfold ownP; infer_instance
/-- b stands to a as a part stands to the part ahead of it -/
def folB (a b : Bat) : Bool := !markB a && decide (ownP a b) && decide (b.base = nextI a) && (decide (a.pid = 0) || decide (b.seq = a.seq + (a.L.length : Int)))
set_option maxRecDepth 100000 in
set_option maxHeartbeats 8000000 in
theorem follows_any (a b : Bat) (A1 A2 : Option Addr) (c1 c2 B : Nat) (w : World) (hL : Rcs w B A1 a.L.length a.L) (hB : B ≤ w.heap.size) (hF : Fine a) :
    Calls Try.prog 31 #[.agg (a.cells A1 c1), .agg (b.cells A2 c2)] w fun e w' => e = .returned (.bool (folB a b)) ∧ Below w.heap.size w w' := by
  have HMK : Hid (∀ W, Calls Try.prog 52 #[.agg (a.cells A1 c1)] W fun e w' => e = .returned (.bool (markB a)) ∧ Below W.heap.size W w') := fun W => marker_any a A1 c1 W
  have HOW : Hid (∀ W, Calls Try.prog 53 #[.agg (a.cells A1 c1), .agg (b.cells A2 c2)] W fun e w' => e = .returned (.bool (decide (ownP a b))) ∧ Below W.heap.size W w') := fun W => ownerB_any _ a b A1 A2 c1 c2 W (by unfold ownP; exact decide_eq_true_iff)
  have HNX : Hid (∀ W, Below w.heap.size w W → Calls Try.prog 54 #[.agg (a.cells A1 c1)] W fun e w' => e = .returned (.int .i64 (nextI a)) ∧ Below W.heap.size W w') := fun W h => next_any a A1 c1 B W (hL.below (h.mono hB)) (Nat.le_trans hB h.size) (by have := hF.len; unfold maxLen; omega)
  have HFB : Hid (folB a b = (!markB a && decide (ownP a b) && decide (b.base = nextI a) && (decide (a.pid = 0) || decide (b.seq = a.seq + (a.L.length : Int))))) := rfl
  have hs1 := hF.s1
  have hs2 := hF.s2
  have hln := hF.len
  generalize folB a b = FO at *
  generalize markB a = MK at *
  generalize decide (ownP a b) = OW at *
  generalize nextI a = NX at *
  obtain ⟨b1, p1, e1, s1, k1, t1, L1⟩ := a
  obtain ⟨b2, p2, e2, s2, k2, t2, L2⟩ := b
  simp only [Bat.cells] at *
  have hB0 : Below w.heap.size w ((w.alloc (.cells #[.int .i64 b1, .int .i64 p1, .int .i64 e1, .int .i64 s1, .int .i64 k1, .int .i64 t1, .slice A1 L1.length c1] 26)).alloc (.cells #[.int .i64 b2, .int .i64 p2, .int .i64 e2, .int .i64 s2, .int .i64 k2, .int .i64 t2, .slice A2 L2.length c2] 26)) := ((Below.refl _ _).alloc (Nat.le_refl _) _).alloc (by simp) _
  have k1' : ((w.alloc (.cells #[.int .i64 b1, .int .i64 p1, .int .i64 e1, .int .i64 s1, .int .i64 k1, .int .i64 t1, .slice A1 L1.length c1] 26)).alloc (.cells #[.int .i64 b2, .int .i64 p2, .int .i64 e2, .int .i64 s2, .int .i64 k2, .int .i64 t2, .slice A2 L2.length c2] 26)).heap[w.heap.size]? = some (.cells #[.int .i64 b1, .int .i64 p1, .int .i64 e1, .int .i64 s1, .int .i64 k1, .int .i64 t1, .slice A1 L1.length c1] 26 (0, 0)) := by
    rw [← heap_alloc_new w (.cells #[.int .i64 b1, .int .i64 p1, .int .i64 e1, .int .i64 s1, .int .i64 k1, .int .i64 t1, .slice A1 L1.length c1] 26)]
    exact ((Below.refl (w.heap.size + 1) _).alloc (by simp) _).block w.heap.size (by omega)
  have k2' : ((w.alloc (.cells #[.int .i64 b1, .int .i64 p1, .int .i64 e1, .int .i64 s1, .int .i64 k1, .int .i64 t1, .slice A1 L1.length c1] 26)).alloc (.cells #[.int .i64 b2, .int .i64 p2, .int .i64 e2, .int .i64 s2, .int .i64 k2, .int .i64 t2, .slice A2 L2.length c2] 26)).heap[w.heap.size + 1]? = some (.cells #[.int .i64 b2, .int .i64 p2, .int .i64 e2, .int .i64 s2, .int .i64 k2, .int .i64 t2, .slice A2 L2.length c2] 26 (0, 0)) := by
    have h := heap_alloc_new (w.alloc (.cells #[.int .i64 b1, .int .i64 p1, .int .i64 e1, .int .i64 s1, .int .i64 k1, .int .i64 t1, .slice A1 L1.length c1] 26)) (.cells #[.int .i64 b2, .int .i64 p2, .int .i64 e2, .int .i64 s2, .int .i64 k2, .int .i64 t2, .slice A2 L2.length c2] 26)
    rw [show (w.alloc (.cells #[.int .i64 b1, .int .i64 p1, .int .i64 e1, .int .i64 s1, .int .i64 k1, .int .i64 t1, .slice A1 L1.length c1] 26)).heap.size = w.heap.size + 1 from by simp] at h
    exact h
  generalize hW0 : (w.alloc (.cells #[.int .i64 b1, .int .i64 p1, .int .i64 e1, .int .i64 s1, .int .i64 k1, .int .i64 t1, .slice A1 L1.length c1] 26)).alloc (.cells #[.int .i64 b2, .int .i64 p2, .int .i64 e2, .int .i64 s2, .int .i64 k2, .int .i64 t2, .slice A2 L2.length c2] 26) = W0 at *
  have y0 := cell_of_row _ _ 0 _ _ _ k1'
  have z0 := cell_of_row _ _ 0 _ _ _ k2'
  have gy0 := cell_regrown y0
  have gz0 := cell_regrown z0
  have y1 := cell_of_row _ _ 1 _ _ _ k1'
  have z1 := cell_of_row _ _ 1 _ _ _ k2'
  have gy1 := cell_regrown y1
  have gz1 := cell_regrown z1
  have y2 := cell_of_row _ _ 2 _ _ _ k1'
  have z2 := cell_of_row _ _ 2 _ _ _ k2'
  have gy2 := cell_regrown y2
  have gz2 := cell_regrown z2
  have y3 := cell_of_row _ _ 3 _ _ _ k1'
  have z3 := cell_of_row _ _ 3 _ _ _ k2'
  have gy3 := cell_regrown y3
  have gz3 := cell_regrown z3
  have y4 := cell_of_row _ _ 4 _ _ _ k1'
  have z4 := cell_of_row _ _ 4 _ _ _ k2'
  have gy4 := cell_regrown y4
  have gz4 := cell_regrown z4
  have y5 := cell_of_row _ _ 5 _ _ _ k1'
  have z5 := cell_of_row _ _ 5 _ _ _ k2'
  have gy5 := cell_regrown y5
  have gz5 := cell_regrown z5
  have y6 := cell_of_row _ _ 6 _ _ _ k1'
  have z6 := cell_of_row _ _ 6 _ _ _ k2'
  have gy6 := cell_regrown y6
  have gz6 := cell_regrown z6
  have HW0 := Lib.hid hW0
  have HB := Lib.hid hB0
  have HQ1 : Hid (∀ d os, Calls Try.prog 52 #[.agg #[.int .i64 b1, .int .i64 p1, .int .i64 e1, .int .i64 s1, .int .i64 k1, .int .i64 t1, .slice A1 L1.length c1]] (Sort.grow (redrawn W0 d) os) fun e w'' => e = .returned (.bool MK) ∧ ∃ p : Regrown, w'' = Sort.grow (redrawn W0 p.d) p.os) := fun d os => Calls.regrown_of (HMK.out _)
  have HQ2 : Hid (∀ d os, Calls Try.prog 53 #[.agg #[.int .i64 b1, .int .i64 p1, .int .i64 e1, .int .i64 s1, .int .i64 k1, .int .i64 t1, .slice A1 L1.length c1], .agg #[.int .i64 b2, .int .i64 p2, .int .i64 e2, .int .i64 s2, .int .i64 k2, .int .i64 t2, .slice A2 L2.length c2]] (Sort.grow (redrawn W0 d) os) fun e w'' => e = .returned (.bool OW) ∧ ∃ p : Regrown, w'' = Sort.grow (redrawn W0 p.d) p.os) := fun d os => Calls.regrown_of (HOW.out _)
  have HQ3 : Hid (∀ d os, Calls Try.prog 54 #[.agg #[.int .i64 b1, .int .i64 p1, .int .i64 e1, .int .i64 s1, .int .i64 k1, .int .i64 t1, .slice A1 L1.length c1]] (Sort.grow (redrawn W0 d) os) fun e w'' => e = .returned (.int .i64 NX) ∧ ∃ p : Regrown, w'' = Sort.grow (redrawn W0 p.d) p.os) := fun d os => Calls.regrown_of (HNX.out _ (hB0.trans ((below_regrown W0 d os).mono hB0.size)))
  clear hL hB0 k1' k2' hW0 hF HMK HOW HNX
  go_enter Try.func31, Try.ntmps31
  go_upto_region 1 with fail
  rw [HW0.out]
  cases MK with
  | true =>
    have HF : Hid (FO = false) := by show _ = _; rw [HFB.out]; rfl
    go_wp2_with fail
    refine wp_region_quiet_below (by kernel_rfl) (by kernel_rfl) ?_
    repeat (go_big_quiet_step (first | exact HQ1.out _ _ | exact HQ2.out _ _ | exact HQ3.out _ _))
    refine wpQuiet_nil ?_
    intro _ hw'
    obtain ⟨⟨dq, osq⟩, hw''⟩ := hw'
    subst hw''
    go_wp2_with fail
    go_ret
    exact ⟨by rw [HF.out]; rfl, HB.out.trans ((below_regrown W0 dq osq).mono HB.out.size)⟩
  | false =>
    cases OW with
    | false =>
      have HF : Hid (FO = false) := by show _ = _; rw [HFB.out]; rfl
      go_wp2_with fail
      refine wp_region_quiet_below (by kernel_rfl) (by kernel_rfl) ?_
      repeat (go_big_quiet_step (first | exact HQ1.out _ _ | exact HQ2.out _ _ | exact HQ3.out _ _))
      refine wpQuiet_nil ?_
      intro _ hw'
      obtain ⟨⟨dq, osq⟩, hw''⟩ := hw'
      subst hw''
      go_wp2_with fail
      go_ret
      exact ⟨by rw [HF.out]; rfl, HB.out.trans ((below_regrown W0 dq osq).mono HB.out.size)⟩
    | true =>
      by_cases hb : b2 = NX
      · have hb' : (b2 != NX) = false := by simp [hb]
        by_cases hp : p1 = 0
        · have hp' : (p1 == 0) = true := by simp [hp]
          have HF : Hid (FO = true) := by show _ = _; rw [HFB.out, decide_eq_true hb, decide_eq_true hp]; rfl
          clear hb hp
          go_wp2_with fail
          refine wp_region_quiet_below (by kernel_rfl) (by kernel_rfl) ?_
          repeat (go_big_quiet_step (first | exact HQ1.out _ _ | exact HQ2.out _ _ | exact HQ3.out _ _))
          refine wpQuiet_nil ?_
          intro _ hw'
          obtain ⟨⟨dq, osq⟩, hw''⟩ := hw'
          subst hw''
          go_wp2_with fail
          go_ret
          exact ⟨by rw [HF.out]; rfl, HB.out.trans ((below_regrown W0 dq osq).mono HB.out.size)⟩
        · have hp' : (p1 == 0) = false := by simp [hp]
          by_cases hs : s2 = s1 + (L1.length : Int)
          · have hs' : (s2 == s1 + (L1.length : Int)) = true := by simp [hs]
            have HF : Hid (FO = true) := by show _ = _; rw [HFB.out, decide_eq_true hb, decide_eq_true hs]; simp
            clear hb hp hs
            go_wp2_with fail
            refine wp_region_quiet_below (by kernel_rfl) (by kernel_rfl) ?_
            repeat (go_big_quiet_step (first | exact HQ1.out _ _ | exact HQ2.out _ _ | exact HQ3.out _ _))
            refine wpQuiet_nil ?_
            intro _ hw'
            obtain ⟨⟨dq, osq⟩, hw''⟩ := hw'
            subst hw''
            go_wp2_with fail
            go_ret
            exact ⟨by rw [HF.out]; rfl, HB.out.trans ((below_regrown W0 dq osq).mono HB.out.size)⟩
          · have hs' : (s2 == s1 + (L1.length : Int)) = false := by simp [hs]
            have HF : Hid (FO = false) := by show _ = _; rw [HFB.out, decide_eq_false hs, decide_eq_false hp]; simp
            clear hb hp hs
            go_wp2_with fail
            refine wp_region_quiet_below (by kernel_rfl) (by kernel_rfl) ?_
            repeat (go_big_quiet_step (first | exact HQ1.out _ _ | exact HQ2.out _ _ | exact HQ3.out _ _))
            refine wpQuiet_nil ?_
            intro _ hw'
            obtain ⟨⟨dq, osq⟩, hw''⟩ := hw'
            subst hw''
            go_wp2_with fail
            go_ret
            exact ⟨by rw [HF.out]; rfl, HB.out.trans ((below_regrown W0 dq osq).mono HB.out.size)⟩
      · have hb' : (b2 != NX) = true := by simp [hb]
        have HF : Hid (FO = false) := by show _ = _; rw [HFB.out, decide_eq_false hb]; simp
        clear hb
        go_wp2_with fail
        refine wp_region_quiet_below (by kernel_rfl) (by kernel_rfl) ?_
        repeat (go_big_quiet_step (first | exact HQ1.out _ _ | exact HQ2.out _ _ | exact HQ3.out _ _))
        refine wpQuiet_nil ?_
        intro _ hw'
        obtain ⟨⟨dq, osq⟩, hw''⟩ := hw'
        subst hw''
        go_wp2_with fail
        go_ret
        exact ⟨by rw [HF.out]; rfl, HB.out.trans ((below_regrown W0 dq osq).mono HB.out.size)⟩
end Go.Proofs.Ytapnhhoegoakiaa
