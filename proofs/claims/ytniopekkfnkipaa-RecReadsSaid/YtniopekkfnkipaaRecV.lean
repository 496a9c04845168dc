/-
  What towpathref03's out, Mark, Span and Valid do, and rec.Next.
-/
import Derived.Test.YtniopekkfnkipaaRecFi
import Derived.Lib.QuietBelow
import Derived.BigQuiet
namespace Go.Proofs.Ytniopekkfnkipaa
open Go.RowKit
set_option linter.unusedVariables false
set_option linter.unusedSimpArgs false

set_option maxRecDepth 100000 in
set_option maxHeartbeats 1000000 in
theorem rmark_any (b : Bat) (A : Option Addr) (c : Nat) (w : World) : Calls Try.prog 13 #[.agg (b.cells A c)] w fun e w' => e = .returned (.bool (markB b)) ∧ Below w.heap.size w w' := by
  obtain ⟨base, pid, epoch, seq, kind, time, L⟩ := b
  unfold Bat.cells markB
  simp only
  by_cases h2 : (kind == 2) = true
  · rw [h2]
    go_enter Try.func13, Try.ntmps13
    go_wp2
    go_ret
    exact ⟨rfl, (Below.refl _ _).alloc (Nat.le_refl _) _⟩
  · have h2' : (kind == 2) = false := by simpa using h2
    clear h2
    rw [h2']
    go_enter Try.func13, Try.ntmps13
    go_wp2
    go_ret
    exact ⟨rfl, (Below.refl _ _).alloc (Nat.le_refl _) _⟩

set_option maxRecDepth 100000 in
set_option maxHeartbeats 1000000 in
theorem rspan_any (b : Bat) (A : Option Addr) (c : Nat) (w : World) : Calls Try.prog 32 #[.agg (b.cells A c)] w fun e w' => e = .returned (.int .i64 (spanI b)) ∧ Below w.heap.size w w' := by
  have HM : Hid (∀ W, Calls Try.prog 13 #[.agg (b.cells A c)] W fun e w' => e = .returned (.bool (markB b)) ∧ Below W.heap.size W w') := fun W => rmark_any b A c W
  unfold spanI
  obtain ⟨base, pid, epoch, seq, kind, time, L⟩ := b
  unfold Bat.cells at *
  simp only at *
  generalize markB _ = mb at *
  cases mb with
  | true =>
    go_enter Try.func32, Try.ntmps32
    go_wp2_with (go_at_call 13; refine (HM.out _).mono ?_; rintro e w1 ⟨rfl, hb⟩)
    go_ret
    exact ⟨rfl, ((Below.refl _ _).alloc (Nat.le_refl _) _).trans (hb.mono (by simp))⟩
  | false =>
    go_enter Try.func32, Try.ntmps32
    go_wp2_with (go_at_call 13; refine (HM.out _).mono ?_; rintro e w1 ⟨rfl, hb⟩; obtain ⟨hc, hf⟩ := bcell hb)
    go_ret
    exact ⟨rfl, ((Below.refl _ _).alloc (Nat.le_refl _) _).trans (hb.mono (by simp))⟩

set_option maxHeartbeats 400000 in
theorem out_any (m n : Int) (w : World) : Calls Try.prog 31 #[.int .i64 n, .int .i64 0, .int .i64 m] w fun e w' => e = .returned (.bool (!fz m n)) ∧ w = w' := by
  by_cases h0 : 0 ≤ n
  · have e0 : decide (n < (0 : Int)) = false := by rw [decide_eq_false_iff_not]; omega
    have E : Hid ((!fz m n) = decide (m < n)) := by show _ = _; unfold fz; rw [decide_eq_true h0, Bool.true_and]; by_cases h : n ≤ m <;> simp [h] <;> omega
    go_enter Try.func31, Try.ntmps31
    go_wp2
    all_goals (go_ret; exact ⟨by rw [E.out]; first | rfl | simp [*], rfl⟩)
  · have e0 : decide (n < (0 : Int)) = true := by rw [decide_eq_true_iff]; omega
    have E : Hid ((!fz m n) = true) := by show _ = _; simp [fz, h0]
    go_enter Try.func31, Try.ntmps31
    go_wp2
    all_goals (go_ret; exact ⟨by rw [E.out]; rfl, rfl⟩)

def pidB (b : Bat) : Bool := (b.pid == 0) && ((b.kind != 0) || (b.epoch != 0) || (b.seq != 0))
def markFB (b : Bat) : Bool := if markB b then !((b.seq == 0) && ((b.L.length : Int) == 0)) else !(decide (0 < b.L.length))
theorem form_parts (b : Bat) : formB b = ((!pidB b) && (!markFB b)) := by
  unfold formB pidB markFB
  generalize ((b.pid == 0) && ((b.kind != 0) || (b.epoch != 0) || (b.seq != 0))) = x
  cases x <;> cases markB b <;> simp

set_option maxRecDepth 100000 in
set_option maxHeartbeats 8000000 in
theorem rvalid_any (b : Bat) (A : Option Addr) (c B : Nat) (w : World) (hL : Rcs w B A b.L.length b.L) (hB : B ≤ w.heap.size) (hl : b.L.length ≤ maxLen) :
    Calls Try.prog 11 #[.agg (b.cells A c)] w fun e w' => e = .returned (.int .i64 (validE b)) ∧ Below w.heap.size w w' := by
  unfold maxLen at hl
  have HMK : Hid (∀ W, Calls Try.prog 13 #[.agg (b.cells A c)] W fun e w' => e = .returned (.bool (markB b)) ∧ Below W.heap.size W w') := fun W => rmark_any b A c W
  have HSP : Hid (∀ W, Calls Try.prog 32 #[.agg (b.cells A c)] W fun e w' => e = .returned (.int .i64 (spanI b)) ∧ Below W.heap.size W w') := fun W => rspan_any b A c W
  have HV : Hid (validE b = if limB b && ((!pidB b) && (!markFB b)) then (if 64 < b.L.length then 7 else if firstE b.L = 0 then countE b else firstE b.L) else 2) := by show _ = _; rw [← form_parts]; rfl
  have HLM : Hid (limB b = (fz 3 b.kind && fz 1099511627776 b.base && fz 1048576 b.pid && fz 32767 b.epoch && fz 2147483647 b.seq && fz 1099511627776 b.time)) := rfl
  have HPB : Hid (pidB b = ((b.pid == 0) && ((b.kind != 0) || (b.epoch != 0) || (b.seq != 0)))) := rfl
  have HFB : Hid (markFB b = if markB b then !((b.seq == 0) && ((b.L.length : Int) == 0)) else !(decide (0 < b.L.length))) := rfl
  have HSI : Hid (spanI b = if markB b then 1 else (b.L.length : Int)) := rfl
  have HCE : Hid (countE b = if decide (1099511627776 < b.base + (spanI b - 1)) || ((b.pid != 0) && decide (2147483647 < b.seq + (spanI b - 1))) then 24 else 0) := rfl
  obtain ⟨V, hV⟩ : ∃ V, validE b = V := ⟨_, rfl⟩
  rw [hV] at HV ⊢
  clear hV
  obtain ⟨base, pid, epoch, seq, kind, time, L⟩ := b
  unfold Bat.cells at *
  simp only at *
  generalize limB _ = lm at *
  generalize pidB _ = pb at *
  generalize markFB _ = fb at *
  generalize countE _ = ce at *
  generalize spanI _ = sp at *
  generalize markB _ = mk at *
  have hB0 := (Below.refl w.heap.size w).alloc (Nat.le_refl _) (.cells #[.int .i64 base, .int .i64 pid, .int .i64 epoch, .int .i64 seq, .int .i64 kind, .int .i64 time, .slice A L.length c] 24)
  have hk0 := heap_alloc_new w (.cells #[.int .i64 base, .int .i64 pid, .int .i64 epoch, .int .i64 seq, .int .i64 kind, .int .i64 time, .slice A L.length c] 24)
  have hzz : w.heap.size < (w.alloc (.cells #[.int .i64 base, .int .i64 pid, .int .i64 epoch, .int .i64 seq, .int .i64 kind, .int .i64 time, .slice A L.length c] 24)).heap.size := by simp
  obtain ⟨w1, hw1⟩ : ∃ w1, w.alloc (.cells #[.int .i64 base, .int .i64 pid, .int .i64 epoch, .int .i64 seq, .int .i64 kind, .int .i64 time, .slice A L.length c] 24) = w1 := ⟨_, rfl⟩
  rw [hw1] at hB0 hk0 hzz
  have HW1 := Lib.hid hw1
  have HB0 := Lib.hid hB0
  have HK0 := Lib.hid hk0
  clear hw1 hB0 hk0
  have H0 : Hid (∀ W, Calls Try.prog 31 #[.int .i64 kind, .int .i64 0, .int .i64 3] W fun e w' => e = .returned (.bool (!fz 3 kind)) ∧ W = w') := fun W => out_any _ _ W
  have H1 : Hid (∀ W, Calls Try.prog 31 #[.int .i64 base, .int .i64 0, .int .i64 1099511627776] W fun e w' => e = .returned (.bool (!fz 1099511627776 base)) ∧ W = w') := fun W => out_any _ _ W
  have H2 : Hid (∀ W, Calls Try.prog 31 #[.int .i64 pid, .int .i64 0, .int .i64 1048576] W fun e w' => e = .returned (.bool (!fz 1048576 pid)) ∧ W = w') := fun W => out_any _ _ W
  have H3 : Hid (∀ W, Calls Try.prog 31 #[.int .i64 epoch, .int .i64 0, .int .i64 32767] W fun e w' => e = .returned (.bool (!fz 32767 epoch)) ∧ W = w') := fun W => out_any _ _ W
  have H4 : Hid (∀ W, Calls Try.prog 31 #[.int .i64 seq, .int .i64 0, .int .i64 2147483647] W fun e w' => e = .returned (.bool (!fz 2147483647 seq)) ∧ W = w') := fun W => out_any _ _ W
  have H5 : Hid (∀ W, Calls Try.prog 31 #[.int .i64 time, .int .i64 0, .int .i64 1099511627776] W fun e w' => e = .returned (.bool (!fz 1099511627776 time)) ∧ W = w') := fun W => out_any _ _ W
  have F0 : Hid (fz 3 kind = true → 0 ≤ kind ∧ kind ≤ 3) := fun h => (fz_iff _ _).1 h
  generalize fz 3 kind = b0 at *
  have F1 : Hid (fz 1099511627776 base = true → 0 ≤ base ∧ base ≤ 1099511627776) := fun h => (fz_iff _ _).1 h
  generalize fz 1099511627776 base = b1 at *
  have F2 : Hid (fz 1048576 pid = true → 0 ≤ pid ∧ pid ≤ 1048576) := fun h => (fz_iff _ _).1 h
  generalize fz 1048576 pid = b2 at *
  have F3 : Hid (fz 32767 epoch = true → 0 ≤ epoch ∧ epoch ≤ 32767) := fun h => (fz_iff _ _).1 h
  generalize fz 32767 epoch = b3 at *
  have F4 : Hid (fz 2147483647 seq = true → 0 ≤ seq ∧ seq ≤ 2147483647) := fun h => (fz_iff _ _).1 h
  generalize fz 2147483647 seq = b4 at *
  have F5 : Hid (fz 1099511627776 time = true → 0 ≤ time ∧ time ≤ 1099511627776) := fun h => (fz_iff _ _).1 h
  generalize fz 1099511627776 time = b5 at *
  cases b0 with
  | false =>
    go_enter Try.func11, Try.ntmps11
    go_wp2_with (first | (go_at_call 31; with_reducible refine (H0.out _).mono ?_; rintro e w1 ⟨rfl, rfl⟩))
    go_ret
    exact ⟨by rw [HV.out, HLM.out]; rfl, by rw [HW1.out]; exact HB0.out⟩
  | true =>
    cases b1 with
    | false =>
      go_enter Try.func11, Try.ntmps11
      go_wp2_with (first | (go_at_call 31; with_reducible refine (H0.out _).mono ?_; rintro e w1 ⟨rfl, rfl⟩) | (go_at_call 31; with_reducible refine (H1.out _).mono ?_; rintro e w1 ⟨rfl, rfl⟩))
      go_ret
      exact ⟨by rw [HV.out, HLM.out]; rfl, by rw [HW1.out]; exact HB0.out⟩
    | true =>
      cases b2 with
      | false =>
        go_enter Try.func11, Try.ntmps11
        go_wp2_with (first | (go_at_call 31; with_reducible refine (H0.out _).mono ?_; rintro e w1 ⟨rfl, rfl⟩) | (go_at_call 31; with_reducible refine (H1.out _).mono ?_; rintro e w1 ⟨rfl, rfl⟩) | (go_at_call 31; with_reducible refine (H2.out _).mono ?_; rintro e w1 ⟨rfl, rfl⟩))
        go_ret
        exact ⟨by rw [HV.out, HLM.out]; rfl, by rw [HW1.out]; exact HB0.out⟩
      | true =>
        cases b3 with
        | false =>
          go_enter Try.func11, Try.ntmps11
          go_wp2_with (first | (go_at_call 31; with_reducible refine (H0.out _).mono ?_; rintro e w1 ⟨rfl, rfl⟩) | (go_at_call 31; with_reducible refine (H1.out _).mono ?_; rintro e w1 ⟨rfl, rfl⟩) | (go_at_call 31; with_reducible refine (H2.out _).mono ?_; rintro e w1 ⟨rfl, rfl⟩) | (go_at_call 31; with_reducible refine (H3.out _).mono ?_; rintro e w1 ⟨rfl, rfl⟩))
          go_ret
          exact ⟨by rw [HV.out, HLM.out]; rfl, by rw [HW1.out]; exact HB0.out⟩
        | true =>
          cases b4 with
          | false =>
            go_enter Try.func11, Try.ntmps11
            go_wp2_with (first | (go_at_call 31; with_reducible refine (H0.out _).mono ?_; rintro e w1 ⟨rfl, rfl⟩) | (go_at_call 31; with_reducible refine (H1.out _).mono ?_; rintro e w1 ⟨rfl, rfl⟩) | (go_at_call 31; with_reducible refine (H2.out _).mono ?_; rintro e w1 ⟨rfl, rfl⟩) | (go_at_call 31; with_reducible refine (H3.out _).mono ?_; rintro e w1 ⟨rfl, rfl⟩) | (go_at_call 31; with_reducible refine (H4.out _).mono ?_; rintro e w1 ⟨rfl, rfl⟩))
            go_ret
            exact ⟨by rw [HV.out, HLM.out]; rfl, by rw [HW1.out]; exact HB0.out⟩
          | true =>
            cases b5 with
            | false =>
              go_enter Try.func11, Try.ntmps11
              go_wp2_with (first | (go_at_call 31; with_reducible refine (H0.out _).mono ?_; rintro e w1 ⟨rfl, rfl⟩) | (go_at_call 31; with_reducible refine (H1.out _).mono ?_; rintro e w1 ⟨rfl, rfl⟩) | (go_at_call 31; with_reducible refine (H2.out _).mono ?_; rintro e w1 ⟨rfl, rfl⟩) | (go_at_call 31; with_reducible refine (H3.out _).mono ?_; rintro e w1 ⟨rfl, rfl⟩) | (go_at_call 31; with_reducible refine (H4.out _).mono ?_; rintro e w1 ⟨rfl, rfl⟩) | (go_at_call 31; with_reducible refine (H5.out _).mono ?_; rintro e w1 ⟨rfl, rfl⟩))
              go_ret
              exact ⟨by rw [HV.out, HLM.out]; rfl, by rw [HW1.out]; exact HB0.out⟩
            | true =>
              rw [show (true && true && true && true && true && true) = true from rfl] at HLM
              have HF0 := Lib.hid (F0.out rfl)
              have HF1 := Lib.hid (F1.out rfl)
              have HF2 := Lib.hid (F2.out rfl)
              have HF4 := Lib.hid (F4.out rfl)
              clear F0 F1 F2 F3 F4 F5
              go_enter Try.func11, Try.ntmps11
              go_upto_region 3 with (first | (go_at_call 31; with_reducible refine (H0.out _).mono ?_; rintro e w1 ⟨rfl, rfl⟩) | (go_at_call 31; with_reducible refine (H1.out _).mono ?_; rintro e w1 ⟨rfl, rfl⟩) | (go_at_call 31; with_reducible refine (H2.out _).mono ?_; rintro e w1 ⟨rfl, rfl⟩) | (go_at_call 31; with_reducible refine (H3.out _).mono ?_; rintro e w1 ⟨rfl, rfl⟩) | (go_at_call 31; with_reducible refine (H4.out _).mono ?_; rintro e w1 ⟨rfl, rfl⟩) | (go_at_call 31; with_reducible refine (H5.out _).mono ?_; rintro e w1 ⟨rfl, rfl⟩))
              rw [HW1.out]
              have c0 : w1.cell? ⟨w.heap.size, 0, none⟩ = some (.int .i64 base) := cell_of_row _ _ 0 _ _ _ HK0.out
              have c1 : w1.cell? ⟨w.heap.size, 1, none⟩ = some (.int .i64 pid) := cell_of_row _ _ 1 _ _ _ HK0.out
              have c2 : w1.cell? ⟨w.heap.size, 2, none⟩ = some (.int .i64 epoch) := cell_of_row _ _ 2 _ _ _ HK0.out
              have c3 : w1.cell? ⟨w.heap.size, 3, none⟩ = some (.int .i64 seq) := cell_of_row _ _ 3 _ _ _ HK0.out
              have c4 : w1.cell? ⟨w.heap.size, 4, none⟩ = some (.int .i64 kind) := cell_of_row _ _ 4 _ _ _ HK0.out
              have c5 : w1.cell? ⟨w.heap.size, 5, none⟩ = some (.int .i64 time) := cell_of_row _ _ 5 _ _ _ HK0.out
              have c6 : w1.cell? ⟨w.heap.size, 6, none⟩ = some (.slice A L.length c) := cell_of_row _ _ 6 _ _ _ HK0.out
              go_cut [50] (fun s50 wx => s50 = .bool pb ∧ w1 = wx)
              case first =>
                rcases Bool.eq_false_or_eq_true (pid == 0) with h1 | h1
                · rcases Bool.eq_false_or_eq_true (kind != 0) with h2 | h2
                  · go_wp2_with fail
                    go_meet
                    exact ⟨by rw [HPB.out, h1, h2]; rfl, rfl⟩
                  · rcases Bool.eq_false_or_eq_true (epoch != 0) with h3 | h3
                    · go_wp2_with fail
                      go_meet
                      exact ⟨by rw [HPB.out, h1, h2, h3]; rfl, rfl⟩
                    · go_wp2_with fail
                      go_meet
                      exact ⟨by rw [HPB.out, h1, h2, h3]; rfl, rfl⟩
                · go_wp2_with fail
                  go_meet
                  exact ⟨by rw [HPB.out, h1]; rfl, rfl⟩
              case rest =>
                obtain ⟨rfl, rfl⟩ := hcut
                cases pb with
                | true =>
                  go_wp2_with fail
                  go_ret
                  exact ⟨by rw [HV.out, HLM.out]; rfl, HB0.out⟩
                | false =>
                  go_upto_region 5 with fail
                  have HSS : Hid (∀ W, Below w1.heap.size w1 W → W.cell? ⟨w.heap.size, 0, none⟩ = some (.int .i64 base) ∧ W.cell? ⟨w.heap.size, 1, none⟩ = some (.int .i64 pid) ∧ W.cell? ⟨w.heap.size, 2, none⟩ = some (.int .i64 epoch) ∧ W.cell? ⟨w.heap.size, 3, none⟩ = some (.int .i64 seq) ∧ W.cell? ⟨w.heap.size, 4, none⟩ = some (.int .i64 kind) ∧ W.cell? ⟨w.heap.size, 5, none⟩ = some (.int .i64 time) ∧ W.cell? ⟨w.heap.size, 6, none⟩ = some (.slice A L.length c)) := fun W h => ⟨(h.cell (p := ⟨w.heap.size, 0, none⟩) hzz).trans c0, (h.cell (p := ⟨w.heap.size, 1, none⟩) hzz).trans c1, (h.cell (p := ⟨w.heap.size, 2, none⟩) hzz).trans c2, (h.cell (p := ⟨w.heap.size, 3, none⟩) hzz).trans c3, (h.cell (p := ⟨w.heap.size, 4, none⟩) hzz).trans c4, (h.cell (p := ⟨w.heap.size, 5, none⟩) hzz).trans c5, (h.cell (p := ⟨w.heap.size, 6, none⟩) hzz).trans c6⟩
                  have s1 := HSS.out w1.drew ((Below.refl _ _).drew)
                  have HMQ : Hid (∀ d os, Calls Try.prog 13 #[.agg #[.int .i64 base, .int .i64 pid, .int .i64 epoch, .int .i64 seq, .int .i64 kind, .int .i64 time, .slice A L.length c]] (Sort.grow (redrawn w1 d) os) fun e w'' => e = .returned (.bool mk) ∧ ∃ p : Regrown, w'' = Sort.grow (redrawn w1 p.d) p.os) := fun d os => Calls.regrown_of (HMK.out _)
                  have g0 := cell_regrown c0
                  have g1 := cell_regrown c1
                  have g2 := cell_regrown c2
                  have g3 := cell_regrown c3
                  have g4 := cell_regrown c4
                  have g5 := cell_regrown c5
                  have g6 := cell_regrown c6
                  go_cut [66] (fun s66 wx => s66 = .bool fb ∧ Below w1.heap.size w1 wx)
                  case first =>
                    cases mk with
                    | false =>
                      rcases Nat.eq_zero_or_pos L.length with hl0 | hl0
                      · have el : ((L.length : Int) == 0) = true := by rw [beq_iff_eq]; omega
                        have HDD : Hid (decide (0 < L.length) = false) := decide_eq_false (by omega)
                        clear hl0
                        refine wp_region_quiet_below (by kernel_rfl) (by kernel_rfl) ?_
                        repeat (go_big_quiet_step (exact HMQ.out _ _))
                        refine wpQuiet_nil ?_
                        intro _ hw'
                        obtain ⟨⟨dq, osq⟩, hw''⟩ := hw'
                        subst hw''
                        go_wp2_with fail
                        go_meet
                        exact ⟨by rw [HFB.out]; rw [HDD.out]; rfl, below_regrown w1 dq osq⟩
                      · have el : ((L.length : Int) == 0) = false := by rw [beq_eq_false_iff_ne]; omega
                        have HDD : Hid (decide (0 < L.length) = true) := decide_eq_true (by omega)
                        clear hl0
                        refine wp_region_quiet_below (by kernel_rfl) (by kernel_rfl) ?_
                        repeat (go_big_quiet_step (exact HMQ.out _ _))
                        refine wpQuiet_nil ?_
                        intro _ hw'
                        obtain ⟨⟨dq, osq⟩, hw''⟩ := hw'
                        subst hw''
                        go_wp2_with fail
                        go_meet
                        exact ⟨by rw [HFB.out]; rw [HDD.out]; rfl, below_regrown w1 dq osq⟩
                    | true =>
                      rcases Nat.eq_zero_or_pos L.length with hl0 | hl0
                      · have el : ((L.length : Int) == 0) = true := by rw [beq_iff_eq]; omega
                        clear hl0
                        rcases Bool.eq_false_or_eq_true (seq != 0) with hs | hs
                        · have HDD : Hid ((seq == 0) = false) := by show _ = _; simpa using hs
                          refine wp_region_quiet_below (by kernel_rfl) (by kernel_rfl) ?_
                          repeat (go_big_quiet_step (exact HMQ.out _ _))
                          refine wpQuiet_nil ?_
                          intro _ hw'
                          obtain ⟨⟨dq, osq⟩, hw''⟩ := hw'
                          subst hw''
                          go_wp2_with fail
                          go_meet
                          exact ⟨by rw [HFB.out]; rw [HDD.out]; rfl, below_regrown w1 dq osq⟩
                        · have HDD : Hid ((seq == 0) = true) := by show _ = _; simpa using hs
                          refine wp_region_quiet_below (by kernel_rfl) (by kernel_rfl) ?_
                          repeat (go_big_quiet_step (exact HMQ.out _ _))
                          refine wpQuiet_nil ?_
                          intro _ hw'
                          obtain ⟨⟨dq, osq⟩, hw''⟩ := hw'
                          subst hw''
                          go_wp2_with fail
                          go_meet
                          exact ⟨by rw [HFB.out]; rw [HDD.out, el]; rfl, below_regrown w1 dq osq⟩
                      · have el : ((L.length : Int) == 0) = false := by rw [beq_eq_false_iff_ne]; omega
                        refine wp_region_quiet_below (by kernel_rfl) (by kernel_rfl) ?_
                        repeat (go_big_quiet_step (exact HMQ.out _ _))
                        refine wpQuiet_nil ?_
                        intro _ hw'
                        obtain ⟨⟨dq, osq⟩, hw''⟩ := hw'
                        subst hw''
                        go_wp2_with fail
                        go_meet
                        exact ⟨by rw [HFB.out]; rw [el, Bool.and_false]; rfl, below_regrown w1 dq osq⟩
                  case rest =>
                    obtain ⟨rfl, hbc⟩ := hcut
                    have hBc := HB0.out.trans (hbc.mono HB0.out.size)
                    have hkk := (hbc.block w.heap.size hzz).trans HK0.out
                    have zc := hbc.size
                    have hzc : w.heap.size < wc.heap.size := by omega
                    clear c0 c1 c2 c3 c4 c5 c6 g0 g1 g2 g3 g4 g5 g6 HMQ HSS s1
                    cases fb with
                    | true =>
                      go_wp2_with fail
                      go_ret
                      exact ⟨by rw [HV.out, HLM.out]; rfl, hBc⟩
                    | false =>
                      rw [HLM.out] at HV
                      simp only [Bool.not_false, Bool.and_self, if_true, reduceIte] at HV
                      have c6 : wc.cell? ⟨w.heap.size, 6, none⟩ = some (.slice A L.length c) := cell_of_row _ _ 6 _ _ _ hkk
                      have HKC := Lib.hid hkk
                      clear hkk
                      rcases Nat.lt_or_ge 64 L.length with h64 | h64
                      · have e64 : decide ((64 : Int) < (L.length : Int)) = true := by simp; omega
                        go_wp2_with fail
                        go_ret
                        exact ⟨by rw [HV.out, if_pos h64]; rfl, hBc⟩
                      · have e64 : decide ((64 : Int) < (L.length : Int)) = false := by simp; omega
                        rw [if_neg (by omega)] at HV
                        have hLc := hL.below (hBc.mono hB)
                        obtain ⟨n, hn⟩ : ∃ n, L.length = n := ⟨_, rfl⟩
                        have HN := Lib.hid hn
                        rw [hn] at hLc h64 e64 c6 HKC HSI HMK HSP ⊢
                        clear hn hL HFB
                        go_wp2_with fail
                        clear c6
                        go_loopw [74] (fun i wr => ∃ k : Nat, k ≤ n ∧ i = .int .i64 k ∧ (∀ j, j < k → recE (L.getD j default) = 0) ∧ Below wc.heap.size wc wr) (fun i _ => n - (intOf i).toNat)
                        case atStart => exact ⟨0, by omega, rfl, fun j hj => absurd hj (by omega), Below.refl _ _⟩
                        case round =>
                          obtain ⟨k, hk, rfl, hz, hb⟩ := hrel
                          have HZ := Lib.hid hz
                          clear hz
                          have zr := hb.size
                          have hB3 := hBc.trans (hb.mono (by omega))
                          by_cases hlt : k < n
                          · obtain ⟨p, rfl, hp, r0, r1, r2, r3⟩ := (hLc.below (hb.mono (by omega))).row hlt
                            have HA := Lib.hid (firstE_at L k (by rw [HN.out]; exact hlt) HZ.out)
                            have HNX : Hid (recE (L.getD k default) = 0 → ∀ j, j < k + 1 → recE (L.getD j default) = 0) := fun h j hj => by
                              rcases Nat.lt_or_ge j k with g | g
                              · exact HZ.out j g
                              · rw [show j = k from by omega]; exact h
                            have HRE : Hid (recE (L.getD k default) = if decide (1024 < (L.getD k default).key.size) || decide (1024 < (L.getD k default).value.size) then 7 else if (!fz 1099511627776 (L.getD k default).time) || ((L.getD k default).gone && decide (0 < (L.getD k default).value.size)) then 2 else 0) := rfl
                            generalize L.getD k default = r at *
                            have HO : Hid (∀ W, Calls Try.prog 31 #[.int .i64 r.time, .int .i64 0, .int .i64 1099511627776] W fun e w' => e = .returned (.bool (!fz 1099511627776 r.time)) ∧ W = w') := fun W => out_any _ _ W
                            obtain ⟨x, hx⟩ : ∃ x, recE r = x := ⟨_, rfl⟩
                            rw [hx] at HA HNX HRE
                            clear hx
                            obtain ⟨key, value, gone, rt⟩ := r
                            simp only at r0 r1 r2 r3 HRE HO
                            generalize fz 1099511627776 rt = ft at *
                            have HBN := Lib.hid (hB3.alloc hB3.size (.cells #[.string key, .string value, .bool gone, .int .i64 rt] 40))
                            have HBR := Lib.hid (hb.alloc zr (.cells #[.string key, .string value, .bool gone, .int .i64 rt] 40))
                            rcases Nat.lt_or_ge 1024 key.size with hk1 | hk1
                            · have E : Hid (x = 7) := by show _ = _; rw [HRE.out, decide_eq_true hk1]; rfl
                              have d1 : decide ((1024 : Int) < (key.size : Int)) = true := by simp; omega
                              go_wp2_with fail
                              go_ret
                              exact ⟨by rw [HV.out, HA.out (by rw [E.out]; decide), E.out]; rfl, HBN.out⟩
                            · have d1 : decide ((1024 : Int) < (key.size : Int)) = false := by simp; omega
                              rcases Nat.lt_or_ge 1024 value.size with hk2 | hk2
                              · have E : Hid (x = 7) := by show _ = _; rw [HRE.out, decide_eq_true hk2, Bool.or_true]; rfl
                                have d2 : decide ((1024 : Int) < (value.size : Int)) = true := by simp; omega
                                go_wp2_with fail
                                go_ret
                                exact ⟨by rw [HV.out, HA.out (by rw [E.out]; decide), E.out]; rfl, HBN.out⟩
                              · have d2 : decide ((1024 : Int) < (value.size : Int)) = false := by simp; omega
                                have HE0 : Hid (x = if (!ft) || (gone && decide (0 < value.size)) then 2 else 0) := by
                                  show _ = _
                                  rw [HRE.out, decide_eq_false (by omega : ¬ 1024 < key.size), decide_eq_false (by omega : ¬ 1024 < value.size)]
                                  rfl
                                clear HRE
                                cases ft with
                                | false =>
                                  have E : Hid (x = 2) := HE0.out
                                  go_wp2_with (go_at_call 31; refine (HO.out _).mono ?_; rintro e w5 ⟨rfl, rfl⟩)
                                  go_ret
                                  exact ⟨by rw [HV.out, HA.out (by rw [E.out]; decide), E.out]; rfl, HBN.out⟩
                                | true =>
                                  cases gone with
                                  | false =>
                                    have E : Hid (x = 0) := HE0.out
                                    go_wp2_with (go_at_call 31; refine (HO.out _).mono ?_; rintro e w5 ⟨rfl, rfl⟩)
                                    go_roundw
                                    case rel => exact ⟨k + 1, by omega, by go_num, HNX.out E.out, HBR.out⟩
                                    case measure => simp [intOf]; omega
                                  | true =>
                                    rcases Nat.eq_zero_or_pos value.size with hv | hv
                                    · have d3 : decide ((0 : Int) < (value.size : Int)) = false := by rw [decide_eq_false_iff_not]; omega
                                      have d4 : decide (0 < value.size) = false := by rw [decide_eq_false_iff_not]; omega
                                      have E : Hid (x = 0) := by show _ = _; rw [HE0.out, d4]; rfl
                                      clear hv HE0
                                      go_wp2_with (go_at_call 31; refine (HO.out _).mono ?_; rintro e w5 ⟨rfl, rfl⟩)
                                      go_roundw
                                      case rel => exact ⟨k + 1, by omega, by go_num, HNX.out E.out, HBR.out⟩
                                      case measure => simp [intOf]; omega
                                    · have d3 : decide ((0 : Int) < (value.size : Int)) = true := by rw [decide_eq_true_iff]; omega
                                      have E : Hid (x = 2) := by show _ = _; rw [HE0.out, decide_eq_true hv]; rfl
                                      clear HE0
                                      go_wp2_with (go_at_call 31; refine (HO.out _).mono ?_; rintro e w5 ⟨rfl, rfl⟩)
                                      go_ret
                                      exact ⟨by rw [HV.out, HA.out (by rw [E.out]; decide), E.out]; rfl, HBN.out⟩
                          · obtain rfl : k = n := by omega
                            have HA : Hid (firstE L = 0) := firstE_all L (fun j hj => HZ.out j (by rw [← HN.out]; exact hj))
                            rw [HA.out, if_pos rfl] at HV
                            have hk2 := (hb.block _ hzc).trans HKC.out
                            have c0 : wr.cell? ⟨w.heap.size, 0, none⟩ = some (.int .i64 base) := cell_of_row _ _ 0 _ _ _ hk2
                            have c1 : wr.cell? ⟨w.heap.size, 1, none⟩ = some (.int .i64 pid) := cell_of_row _ _ 1 _ _ _ hk2
                            have c2 : wr.cell? ⟨w.heap.size, 2, none⟩ = some (.int .i64 epoch) := cell_of_row _ _ 2 _ _ _ hk2
                            have c3 : wr.cell? ⟨w.heap.size, 3, none⟩ = some (.int .i64 seq) := cell_of_row _ _ 3 _ _ _ hk2
                            have c4 : wr.cell? ⟨w.heap.size, 4, none⟩ = some (.int .i64 kind) := cell_of_row _ _ 4 _ _ _ hk2
                            have c5 : wr.cell? ⟨w.heap.size, 5, none⟩ = some (.int .i64 time) := cell_of_row _ _ 5 _ _ _ hk2
                            have c6 : wr.cell? ⟨w.heap.size, 6, none⟩ = some (.slice A k c) := cell_of_row _ _ 6 _ _ _ hk2
                            have g0 := cell_regrown c0
                            have g1 := cell_regrown c1
                            have g2 := cell_regrown c2
                            have g3 := cell_regrown c3
                            have g4 := cell_regrown c4
                            have g5 := cell_regrown c5
                            have g6 := cell_regrown c6
                            have HSQ : Hid (∀ d os, Calls Try.prog 32 #[.agg #[.int .i64 base, .int .i64 pid, .int .i64 epoch, .int .i64 seq, .int .i64 kind, .int .i64 time, .slice A k c]] (Sort.grow (redrawn wr d) os) fun e w'' => e = .returned (.int .i64 sp) ∧ ∃ p : Regrown, w'' = Sort.grow (redrawn wr p.d) p.os) := fun d os => Calls.regrown_of (HSP.out _)
                            have hsp1 : 0 ≤ sp := by rw [HSI.out]; split <;> omega
                            have hsp2 : sp ≤ 64 := by rw [HSI.out]; split <;> omega
                            have q1 := HF1.out.1
                            have q2 := HF1.out.2
                            have q3 := HF4.out.1
                            have q4 := HF4.out.2
                            have q5 := HF2.out.1
                            have ew1 : IntKind.i64.wrap (base + sp) = base + sp := IntWalk.i64_in _ (by omega)
                            have ew2 : IntKind.i64.wrap (base + sp - 1) = base + sp - 1 := IntWalk.i64_in _ (by omega)
                            have HEQ : Hid (base + (sp - 1) = base + sp - 1) := by show _ = _; omega
                            rw [HCE.out, HEQ.out] at HV
                            clear hk2 HCE HKC
                            rcases Bool.eq_false_or_eq_true (decide (1099511627776 < base + sp - 1)) with e1 | e1
                            ·
                              go_wp2_with fail
                              refine wp_region_quiet_below (by kernel_rfl) (by kernel_rfl) ?_
                              repeat (go_big_quiet_step (exact HSQ.out _ _))
                              refine wpQuiet_nil ?_
                              intro _ hw'
                              obtain ⟨⟨dq, osq⟩, hw''⟩ := hw'
                              subst hw''
                              have hB5 := hB3.trans ((below_regrown wr dq osq).mono hB3.size)
                              clear HSQ ew1 ew2
                              go_wp2_with fail
                              go_ret
                              exact ⟨by rw [HV.out, e1]; rfl, hB5⟩
                            ·
                              go_wp2_with fail
                              refine wp_region_quiet_below (by kernel_rfl) (by kernel_rfl) ?_
                              repeat (go_big_quiet_step (exact HSQ.out _ _))
                              refine wpQuiet_nil ?_
                              intro _ hw'
                              obtain ⟨⟨dq, osq⟩, hw''⟩ := hw'
                              subst hw''
                              have hB5 := hB3.trans ((below_regrown wr dq osq).mono hB3.size)
                              clear HSQ ew1 ew2
                              have c0' := g0 dq osq
                              have c1' := g1 dq osq
                              have c2' := g2 dq osq
                              have c3' := g3 dq osq
                              have c4' := g4 dq osq
                              have c5' := g5 dq osq
                              have c6' := g6 dq osq
                              clear g0 g1 g2 g3 g4 g5 g6 c0 c1 c2 c3 c4 c5 c6
                              generalize Sort.grow (redrawn wr dq) osq = w6 at *
                              rw [e1] at HV
                              rcases Int.lt_or_le 0 pid with hp | hp
                              · have d1 : decide ((0 : Int) < pid) = true := by rw [decide_eq_true_iff]; exact hp
                                have HP1 : Hid ((pid != 0) = true) := by show _ = _; rw [bne_iff_ne]; omega
                                rw [HP1.out, Bool.false_or, Bool.true_and] at HV
                                cases mk with
                                | true =>
                                  have HS1 : Hid (sp = 1) := by show _ = _; rw [HSI.out]; rfl
                                  have HV0 : Hid (V = 0) := by show _ = _; rw [HV.out, HS1.out, decide_eq_false (by omega)]; rfl
                                  clear e1 HV
                                  go_wp2_with (go_at_call 13; refine (HMK.out _).mono ?_; rintro e w7 ⟨rfl, hb7⟩)
                                  go_ret
                                  exact ⟨by rw [HV0.out]; rfl, hB5.trans (hb7.mono hB5.size)⟩
                                | false =>
                                  have HS1 : Hid (sp = (k : Int)) := by show _ = _; rw [HSI.out]; rfl
                                  have HEQ2 : Hid (seq + ((k : Int) - 1) = seq + (k : Int) - 1) := by show _ = _; omega
                                  rw [HS1.out, HEQ2.out] at HV
                                  clear e1
                                  rcases Bool.eq_false_or_eq_true (decide (2147483647 < seq + (k : Int) - 1)) with e3 | e3
                                  all_goals
                                    rw [e3] at HV
                                    go_wp2_with (go_at_call 13; refine (HMK.out _).mono ?_; rintro e w7 ⟨rfl, hb7⟩; obtain ⟨hc7, hf7⟩ := bcell hb7; have m3 : w7.cell? ⟨w.heap.size, 3, none⟩ = some (.int .i64 seq) := (hb7.cell (p := ⟨w.heap.size, 3, none⟩) (World.block_lt_of_cell? _ _ c3')).trans c3'; have m6 : w7.cell? ⟨w.heap.size, 6, none⟩ = some (.slice A k c) := (hb7.cell (p := ⟨w.heap.size, 6, none⟩) (World.block_lt_of_cell? _ _ c6')).trans c6'; clear hc7 hf7)
                                    go_ret
                                    exact ⟨by rw [HV.out]; rfl, hB5.trans (hb7.mono hB5.size)⟩
                              · have d1 : decide ((0 : Int) < pid) = false := by rw [decide_eq_false_iff_not]; omega
                                have HP1 : Hid ((pid != 0) = false) := by show _ = _; simp; omega
                                rw [HP1.out] at HV
                                clear e1
                                go_wp2_with fail
                                go_ret
                                exact ⟨by rw [HV.out]; rfl, hB5⟩
end Go.Proofs.Ytniopekkfnkipaa
