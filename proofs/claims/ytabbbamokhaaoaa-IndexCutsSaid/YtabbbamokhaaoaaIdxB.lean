/-
  What sort.Search does; what an index's count, last, Find and After do.
-/
import Derived.Test.YtabbbamokhaaoaaIdxM
import Derived.Deep.LoopGhost
import Derived.Shelf.Abstract
import Derived.Lib.QuietBelow
import Derived.BigQuiet
import Derived.Deep.QuietTactic
namespace Go.Proofs.Ytabbbamokhaaoaa
open Go.RowKit Go.Lib Go.Sort
set_option linter.unusedVariables false
set_option linter.unusedSimpArgs false

set_option maxRecDepth 100000 in
set_option maxHeartbeats 2000000 in
theorem search_any (g : Nat) (cb : Array Value) (n : Nat) (p : Nat → Bool) (w : World) (eg : ∀ args w, (callFunc g args).run Try.prog w = .ok (.enter g args) w) (hsz : n < 4611686018427387904)
    (hf : ∀ (W : World) (i : Nat), Below w.heap.size w W → i < n → Calls Try.prog g (#[.int .i64 i] ++ cb) W fun e w' => e = .returned (.bool (p i)) ∧ Below W.heap.size W w')
    (hmono : ∀ a b, a ≤ b → b < n → p a = true → p b = true) :
    Calls Try.prog 108 #[.int .i64 n, .func (.func g) #[] cb] w fun e w' => ∃ r : Nat, e = .returned (.int .i64 r) ∧ r ≤ n ∧ (∀ t, t < r → p t = false) ∧ (∀ t, r ≤ t → t < n → p t = true) ∧ Below w.heap.size w w' := by
  have HF := Lib.hid hf
  have M := Lib.hid hmono
  clear hf hmono
  go_enter Try.func108, Try.ntmps108
  go_wp2
  go_loopg [5, 6] n (fun kx s5 s6 wr => ∃ (lo hi : Nat), s5 = .int .i64 lo ∧ s6 = .int .i64 hi ∧ lo ≤ hi ∧ hi ≤ n ∧ hi - lo ≤ kx ∧ Hid (Below w.heap.size w wr) ∧
    Hid ((∀ t, t < lo → p t = false) ∧ (∀ t, hi ≤ t → t < n → p t = true)))
  case atStart => exact ⟨0, n, rfl, rfl, Nat.zero_le _, Nat.le_refl _, by omega, Below.refl _ _, (⟨fun t ht => absurd ht (Nat.not_lt_zero _), fun t h1 h2 => by omega⟩ : (∀ t, t < 0 → p t = false) ∧ (∀ t, n ≤ t → t < n → p t = true))⟩
  case round =>
    obtain ⟨lo, hi, rfl, rfl, hlh, hin, hg, HB, I⟩ := hrel
    by_cases hlt : lo < hi
    · have hc := HF.out wr ((lo + hi) / 2) HB.out (by omega)
      rw [show (((lo + hi) / 2 : Nat) : Int) = ((lo : Int) + (hi : Int)) / 2 by omega] at hc
      cases hp : p ((lo + hi) / 2) <;> rw [hp] at hc
      · have HP : Hid (p ((lo + hi) / 2) = false) := hp
        clear hp
        go_wp2_with (go_at_fn g; refine hc.mono ?_; rintro e w' ⟨rfl, hb⟩)
        have HB2 := Lib.hid (HB.out.trans (hb.mono HB.out.size))
        clear hb
        go_roundg (hi - ((lo + hi) / 2 + 1))
        case measure => omega
        case rel =>
          have I2 : Hid ((∀ t, t < (lo + hi) / 2 + 1 → p t = false) ∧ (∀ t, hi ≤ t → t < n → p t = true)) := ⟨fun t ht => (by
            cases h : p t with
            | false => rfl
            | true => have := M.out t ((lo + hi) / 2) (by omega) (by omega) h; rw [HP.out] at this; cases this), I.out.2⟩
          exact ⟨(lo + hi) / 2 + 1, hi, by rw [show ((lo : Int) + (hi : Int)) / 2 + 1 = (((lo + hi) / 2 + 1 : Nat) : Int) by omega], rfl, by omega, hin, Nat.le_refl _, HB2, I2⟩
      · have HP : Hid (p ((lo + hi) / 2) = true) := hp
        clear hp
        go_wp2_with (go_at_fn g; refine hc.mono ?_; rintro e w' ⟨rfl, hb⟩)
        have HB2 := Lib.hid (HB.out.trans (hb.mono HB.out.size))
        clear hb
        go_roundg ((lo + hi) / 2 - lo)
        case measure => omega
        case rel =>
          have I2 : Hid ((∀ t, t < lo → p t = false) ∧ (∀ t, (lo + hi) / 2 ≤ t → t < n → p t = true)) := ⟨I.out.1, fun t ht htn => M.out ((lo + hi) / 2) t ht htn HP.out⟩
          exact ⟨lo, (lo + hi) / 2, rfl, by rw [show ((lo : Int) + (hi : Int)) / 2 = (((lo + hi) / 2 : Nat) : Int) by omega], by omega, by omega, Nat.le_refl _, HB2, I2⟩
    · obtain rfl : hi = lo := by omega
      go_wp2
      go_ret
      exact ⟨hi, rfl, hin, I.out.1, I.out.2, HB.out⟩

/-- a function of one entry that tells p, and turns nothing -/
def PredE (g : Nat) (cb : Array Value) (p : Ent → Bool) (w : World) : Prop := ∀ (W : World) (e : Ent), Below w.heap.size w W → Calls Try.prog g (#[.agg e.cells.toArray] ++ cb) W fun r w' => r = .returned (.bool (p e)) ∧ Below W.heap.size W w'

set_option maxRecDepth 100000 in
set_option maxHeartbeats 2000000 in
theorem find1_any (b : Nat) (o : Int) (w : World) (hb : b < w.heap.size) (hc : w.cell? ⟨b, 0, none⟩ = some (.int .i64 o)) : PredE 54 #[.pointer (some ⟨b, 0, none⟩)] (atMost o) w := fun W e hB => by
  have hc' : W.cell? ⟨b, 0, none⟩ = some (.int .i64 o) := (hB.cell (p := ⟨b, 0, none⟩) hb).trans hc
  have hbW : b < W.heap.size := Nat.lt_of_lt_of_le hb hB.size
  have hne : b ≠ W.heap.size := by omega
  obtain ⟨eo, ep, eb⟩ := e
  show Calls Try.prog 54 #[.agg #[.int .i64 eo, .int .i64 ep, .int .i64 eb], .pointer (some ⟨b, 0, none⟩)] W _
  clear hB hc
  go_enter Try.func54, Try.ntmps54
  go_wp2
  all_goals (go_ret; exact ⟨by simp [atMost], (Below.refl _ _).alloc (Nat.le_refl _) _⟩)
set_option maxRecDepth 100000 in
set_option maxHeartbeats 2000000 in
theorem after1_any (b : Nat) (o : Int) (w : World) (hb : b < w.heap.size) (hc : w.cell? ⟨b, 0, none⟩ = some (.int .i64 o)) : PredE 55 #[.pointer (some ⟨b, 0, none⟩)] (ahead_ o) w := fun W e hB => by
  have hc' : W.cell? ⟨b, 0, none⟩ = some (.int .i64 o) := (hB.cell (p := ⟨b, 0, none⟩) hb).trans hc
  have hbW : b < W.heap.size := Nat.lt_of_lt_of_le hb hB.size
  have hne : b ≠ W.heap.size := by omega
  obtain ⟨eo, ep, eb⟩ := e
  show Calls Try.prog 55 #[.agg #[.int .i64 eo, .int .i64 ep, .int .i64 eb], .pointer (some ⟨b, 0, none⟩)] W _
  clear hB hc
  go_enter Try.func55, Try.ntmps55
  go_wp2
  all_goals (go_ret; exact ⟨by simp [ahead_], (Below.refl _ _).alloc (Nat.le_refl _) _⟩)
set_option maxRecDepth 100000 in
set_option maxHeartbeats 2000000 in
theorem cut1_any (b : Nat) (o : Int) (w : World) (hb : b < w.heap.size) (hc : w.cell? ⟨b, 0, none⟩ = some (.int .i64 o)) : PredE 59 #[.pointer (some ⟨b, 0, none⟩)] (below_ o) w := fun W e hB => by
  have hc' : W.cell? ⟨b, 0, none⟩ = some (.int .i64 o) := (hB.cell (p := ⟨b, 0, none⟩) hb).trans hc
  have hbW : b < W.heap.size := Nat.lt_of_lt_of_le hb hB.size
  have hne : b ≠ W.heap.size := by omega
  obtain ⟨eo, ep, eb⟩ := e
  show Calls Try.prog 59 #[.agg #[.int .i64 eo, .int .i64 ep, .int .i64 eb], .pointer (some ⟨b, 0, none⟩)] W _
  clear hB hc
  go_enter Try.func59, Try.ntmps59
  go_wp2
  all_goals (go_ret; exact ⟨by simp [below_], (Below.refl _ _).alloc (Nat.le_refl _) _⟩)

set_option maxRecDepth 100000 in
set_option maxHeartbeats 2000000 in
theorem count1_any (ba bx base g i fg : Nat) (cb : Array Value) (v : Value) (x : Idx) (p : Ent → Bool) (W : World) (hi : i < x.L.length) (hx : Ix W base g v x) (h1 : W.cell? ⟨ba, 0, none⟩ = some (.func (.func fg) #[] cb)) (h2 : W.cell? ⟨bx, 0, none⟩ = some (.pointer (some ⟨g, 0, none⟩)))
    (eg : ∀ args w, (callFunc fg args).run Try.prog w = .ok (.enter fg args) w) (hp : PredE fg cb p W) :
    Calls Try.prog 109 (#[.int .i64 i] ++ #[.pointer (some ⟨ba, 0, none⟩), .pointer (some ⟨bx, 0, none⟩)]) W fun e w' => e = .returned (.bool (!p (x.L.getD i default))) ∧ Below W.heap.size W w' := by
  obtain ⟨b, c, rfl, hb, hlc, r0, r1, r2⟩ := hx.row hi
  have c1 := hx.c1
  have hiz : (i : Int) < (x.L.length : Int) := by omega
  have HP : Hid (∀ d os, Calls Try.prog fg (#[.agg (x.L.getD i default).cells.toArray] ++ cb) (grow (redrawn W d) os) fun r w' => r = .returned (.bool (p (x.L.getD i default))) ∧ ∃ p : Regrown, w' = grow (redrawn W p.d) p.os) := fun d os => Calls.regrown_of (hp _ _ (below_regrown W d os))
  have g0 := cell_regrown r0
  have g1 := cell_regrown r1
  have g2 := cell_regrown r2
  have g3 := cell_regrown c1
  have g4 := cell_regrown h1
  have g5 := cell_regrown h2
  clear hx hp
  generalize p (x.L.getD i default) = pe at *
  generalize x.L.getD i default = e at *
  obtain ⟨eo, ep, eb⟩ := e
  simp only [Ent.cells] at *
  go_enter Try.func109, Try.ntmps109
  go_wp2_with fail
  refine wp_region_quiet_below (by kernel_rfl) (by kernel_rfl) ?_
  repeat (go_big_quiet_step (exact HP.out _ _))
  refine wpQuiet_nil ?_
  intro _ hw'
  obtain ⟨⟨dq, osq⟩, hw''⟩ := hw'
  subst hw''
  go_wp2_with fail
  go_ret
  exact ⟨rfl, below_regrown W dq osq⟩
end Go.Proofs.Ytabbbamokhaaoaa
