/-
  What rec.inLimits, inForm, validRecord and countable do.
-/
import Derived.Test.YtniopekkfnkipaaRecA
namespace Go.Proofs.Ytniopekkfnkipaa
open Go.RowKit
set_option linter.unusedVariables false
set_option linter.unusedSimpArgs false

set_option maxRecDepth 100000 in
set_option maxHeartbeats 2000000 in
theorem inLimits_any (b : Bat) (A : Option Addr) (c : Nat) (w : World) : Calls Try.prog 40 #[.agg (b.cells A c)] w fun e w' => e = .returned (.bool (limB b)) ∧ Below w.heap.size w w' := by
  obtain ⟨base, pid, epoch, seq, kind, time, L⟩ := b
  unfold Bat.cells limB
  simp only
  have H0 : Hid (∀ W, Calls Try.prog 61 #[.int .i64 3, .int .i64 kind] W fun e w' => e = .returned (.bool (fz 3 kind)) ∧ W = w') := fun W => from0_any _ _ W
  generalize fz 3 kind = b0 at *
  have H1 : Hid (∀ W, Calls Try.prog 61 #[.int .i64 1099511627776, .int .i64 base] W fun e w' => e = .returned (.bool (fz 1099511627776 base)) ∧ W = w') := fun W => from0_any _ _ W
  generalize fz 1099511627776 base = b1 at *
  have H2 : Hid (∀ W, Calls Try.prog 61 #[.int .i64 1048576, .int .i64 pid] W fun e w' => e = .returned (.bool (fz 1048576 pid)) ∧ W = w') := fun W => from0_any _ _ W
  generalize fz 1048576 pid = b2 at *
  have H3 : Hid (∀ W, Calls Try.prog 61 #[.int .i64 32767, .int .i64 epoch] W fun e w' => e = .returned (.bool (fz 32767 epoch)) ∧ W = w') := fun W => from0_any _ _ W
  generalize fz 32767 epoch = b3 at *
  have H4 : Hid (∀ W, Calls Try.prog 61 #[.int .i64 2147483647, .int .i64 seq] W fun e w' => e = .returned (.bool (fz 2147483647 seq)) ∧ W = w') := fun W => from0_any _ _ W
  generalize fz 2147483647 seq = b4 at *
  have H5 : Hid (∀ W, Calls Try.prog 61 #[.int .i64 1099511627776, .int .i64 time] W fun e w' => e = .returned (.bool (fz 1099511627776 time)) ∧ W = w') := fun W => from0_any _ _ W
  generalize fz 1099511627776 time = b5 at *
  cases b0 with
  | false =>
    go_enter Try.func40, Try.ntmps40
    go_wp2_with (first | (go_at_call 61; with_reducible refine (H0.out _).mono ?_; rintro e w1 ⟨rfl, rfl⟩))
    go_ret
    exact ⟨rfl, (Below.refl _ _).alloc (Nat.le_refl _) _⟩
  | true =>
    cases b1 with
    | false =>
      go_enter Try.func40, Try.ntmps40
      go_wp2_with (first | (go_at_call 61; with_reducible refine (H0.out _).mono ?_; rintro e w1 ⟨rfl, rfl⟩) | (go_at_call 61; with_reducible refine (H1.out _).mono ?_; rintro e w1 ⟨rfl, rfl⟩))
      go_ret
      exact ⟨rfl, (Below.refl _ _).alloc (Nat.le_refl _) _⟩
    | true =>
      cases b2 with
      | false =>
        go_enter Try.func40, Try.ntmps40
        go_wp2_with (first | (go_at_call 61; with_reducible refine (H0.out _).mono ?_; rintro e w1 ⟨rfl, rfl⟩) | (go_at_call 61; with_reducible refine (H1.out _).mono ?_; rintro e w1 ⟨rfl, rfl⟩) | (go_at_call 61; with_reducible refine (H2.out _).mono ?_; rintro e w1 ⟨rfl, rfl⟩))
        go_ret
        exact ⟨rfl, (Below.refl _ _).alloc (Nat.le_refl _) _⟩
      | true =>
        cases b3 with
        | false =>
          go_enter Try.func40, Try.ntmps40
          go_wp2_with (first | (go_at_call 61; with_reducible refine (H0.out _).mono ?_; rintro e w1 ⟨rfl, rfl⟩) | (go_at_call 61; with_reducible refine (H1.out _).mono ?_; rintro e w1 ⟨rfl, rfl⟩) | (go_at_call 61; with_reducible refine (H2.out _).mono ?_; rintro e w1 ⟨rfl, rfl⟩) | (go_at_call 61; with_reducible refine (H3.out _).mono ?_; rintro e w1 ⟨rfl, rfl⟩))
          go_ret
          exact ⟨rfl, (Below.refl _ _).alloc (Nat.le_refl _) _⟩
        | true =>
          cases b4 with
          | false =>
            go_enter Try.func40, Try.ntmps40
            go_wp2_with (first | (go_at_call 61; with_reducible refine (H0.out _).mono ?_; rintro e w1 ⟨rfl, rfl⟩) | (go_at_call 61; with_reducible refine (H1.out _).mono ?_; rintro e w1 ⟨rfl, rfl⟩) | (go_at_call 61; with_reducible refine (H2.out _).mono ?_; rintro e w1 ⟨rfl, rfl⟩) | (go_at_call 61; with_reducible refine (H3.out _).mono ?_; rintro e w1 ⟨rfl, rfl⟩) | (go_at_call 61; with_reducible refine (H4.out _).mono ?_; rintro e w1 ⟨rfl, rfl⟩))
            go_ret
            exact ⟨rfl, (Below.refl _ _).alloc (Nat.le_refl _) _⟩
          | true =>
            cases b5 with
            | false =>
              go_enter Try.func40, Try.ntmps40
              go_wp2_with (first | (go_at_call 61; with_reducible refine (H0.out _).mono ?_; rintro e w1 ⟨rfl, rfl⟩) | (go_at_call 61; with_reducible refine (H1.out _).mono ?_; rintro e w1 ⟨rfl, rfl⟩) | (go_at_call 61; with_reducible refine (H2.out _).mono ?_; rintro e w1 ⟨rfl, rfl⟩) | (go_at_call 61; with_reducible refine (H3.out _).mono ?_; rintro e w1 ⟨rfl, rfl⟩) | (go_at_call 61; with_reducible refine (H4.out _).mono ?_; rintro e w1 ⟨rfl, rfl⟩) | (go_at_call 61; with_reducible refine (H5.out _).mono ?_; rintro e w1 ⟨rfl, rfl⟩))
              go_ret
              exact ⟨rfl, (Below.refl _ _).alloc (Nat.le_refl _) _⟩
            | true =>
              go_enter Try.func40, Try.ntmps40
              go_wp2_with (first | (go_at_call 61; with_reducible refine (H0.out _).mono ?_; rintro e w1 ⟨rfl, rfl⟩) | (go_at_call 61; with_reducible refine (H1.out _).mono ?_; rintro e w1 ⟨rfl, rfl⟩) | (go_at_call 61; with_reducible refine (H2.out _).mono ?_; rintro e w1 ⟨rfl, rfl⟩) | (go_at_call 61; with_reducible refine (H3.out _).mono ?_; rintro e w1 ⟨rfl, rfl⟩) | (go_at_call 61; with_reducible refine (H4.out _).mono ?_; rintro e w1 ⟨rfl, rfl⟩) | (go_at_call 61; with_reducible refine (H5.out _).mono ?_; rintro e w1 ⟨rfl, rfl⟩))
              go_ret
              exact ⟨rfl, (Below.refl _ _).alloc (Nat.le_refl _) _⟩

set_option maxRecDepth 100000 in
set_option maxHeartbeats 2000000 in
theorem inForm_any (b : Bat) (A : Option Addr) (c : Nat) (w : World) (hl : b.L.length ≤ 9223372036854775807) : Calls Try.prog 41 #[.agg (b.cells A c)] w fun e w' => e = .returned (.bool (formB b)) ∧ Below w.heap.size w w' := by
  have HM : Hid (∀ W, Calls Try.prog 24 #[.agg (b.cells A c)] W fun e w' => e = .returned (.bool (markB b)) ∧ Below W.heap.size W w') := fun W => marker_any b A c W
  unfold formB
  obtain ⟨base, pid, epoch, seq, kind, time, L⟩ := b
  unfold Bat.cells at *
  simp only at *
  generalize markB _ = mb at *
  have fin : ((pid == 0) && ((kind != 0) || (epoch != 0) || (seq != 0))) = false → Calls Try.prog 41 #[.agg #[.int .i64 base, .int .i64 pid, .int .i64 epoch, .int .i64 seq, .int .i64 kind, .int .i64 time, .slice A L.length c]] w fun e w' => e = .returned (.bool (if mb = true then (seq == 0) && ((L.length : Int) == 0) else decide (0 < L.length))) ∧ Below w.heap.size w w' := by
    intro h
    have h' : ((pid == 0) = false) ∨ ((pid == 0) = true ∧ (kind != 0) = false ∧ (epoch != 0) = false ∧ (seq != 0) = false) := by
      revert h
      generalize (pid == 0) = a1
      generalize (kind != 0) = a2
      generalize (epoch != 0) = a3
      generalize (seq != 0) = a4
      revert a1 a2 a3 a4
      decide
    clear h
    cases mb with
    | true =>
      rcases Bool.eq_false_or_eq_true (seq == 0) with h5 | h5
      all_goals
        rcases h' with h1 | ⟨h1, h2, h3, h4⟩
        all_goals
          go_enter Try.func41, Try.ntmps41
          go_wp2_with (go_at_call 24; refine (HM.out _).mono ?_; rintro e w1 ⟨rfl, hb⟩; obtain ⟨hc, hf⟩ := bcell hb)
          go_ret
          exact ⟨by first | rfl | (rw [h5]; rfl) | simp [h5], ((Below.refl _ _).alloc (Nat.le_refl _) _).trans (hb.mono (by simp))⟩
    | false =>
      rcases h' with h1 | ⟨h1, h2, h3, h4⟩
      all_goals
        go_enter Try.func41, Try.ntmps41
        go_wp2_with (go_at_call 24; refine (HM.out _).mono ?_; rintro e w1 ⟨rfl, hb⟩; obtain ⟨hc, hf⟩ := bcell hb)
        go_ret
        exact ⟨by first | rfl | simp, ((Below.refl _ _).alloc (Nat.le_refl _) _).trans (hb.mono (by simp))⟩
  rcases Bool.eq_false_or_eq_true ((pid == 0) && ((kind != 0) || (epoch != 0) || (seq != 0))) with h | h
  · rw [h]
    have h1 : (pid == 0) = true := by simp only [Bool.and_eq_true] at h; exact h.1
    have h' : (kind != 0) = true ∨ ((kind != 0) = false ∧ (epoch != 0) = true) ∨ ((kind != 0) = false ∧ (epoch != 0) = false ∧ (seq != 0) = true) := by
      rw [h1] at h
      revert h
      generalize (kind != 0) = a2
      generalize (epoch != 0) = a3
      generalize (seq != 0) = a4
      revert a2 a3 a4
      decide
    clear h fin
    rcases h' with h2 | ⟨h2, h3⟩ | ⟨h2, h3, h4⟩
    all_goals
      go_enter Try.func41, Try.ntmps41
      go_wp2_with fail
      go_ret
      exact ⟨rfl, (Below.refl _ _).alloc (Nat.le_refl _) _⟩
  · have := fin h
    rw [h]
    exact this

set_option maxRecDepth 100000 in
set_option maxHeartbeats 2000000 in
theorem validRec_any (r : Rec) (w : World) : Calls Try.prog 42 #[.agg r.cells.toArray] w fun e w' => e = .returned (.int .i64 (recE r)) ∧ Below w.heap.size w w' := by
  obtain ⟨key, value, gone, time⟩ := r
  unfold Rec.cells recE
  simp only
  have HF : Hid (∀ W, Calls Try.prog 61 #[.int .i64 1099511627776, .int .i64 time] W fun e w' => e = .returned (.bool (fz 1099511627776 time)) ∧ W = w') := fun W => from0_any _ _ W
  generalize fz 1099511627776 time = ft at *
  rcases Nat.lt_or_ge 1024 key.size with hk | hk
  · have e1 : decide (1024 < key.size) = true := by simpa using hk
    rw [e1]
    clear e1
    go_enter Try.func42, Try.ntmps42
    go_wp2_with fail
    go_ret
    exact ⟨rfl, (Below.refl _ _).alloc (Nat.le_refl _) _⟩
  · have e1 : decide (1024 < key.size) = false := by simp; omega
    have e1' : decide ((1024 : Int) < (key.size : Int)) = false := by simp; omega
    rcases Nat.lt_or_ge 1024 value.size with hv | hv
    · have e2 : decide (1024 < value.size) = true := by simpa using hv
      rw [e1, e2]
      clear e1 e2
      go_enter Try.func42, Try.ntmps42
      go_wp2_with fail
      go_ret
      exact ⟨rfl, (Below.refl _ _).alloc (Nat.le_refl _) _⟩
    · have e2 : decide (1024 < value.size) = false := by simp; omega
      have e2' : decide ((1024 : Int) < (value.size : Int)) = false := by simp; omega
      rw [e1, e2]
      clear e1 e2
      cases ft with
      | false =>
        go_enter Try.func42, Try.ntmps42
        go_wp2_with (go_at_call 61; refine (HF.out _).mono ?_; rintro e w1 ⟨rfl, rfl⟩)
        go_ret
        exact ⟨rfl, (Below.refl _ _).alloc (Nat.le_refl _) _⟩
      | true =>
        cases gone with
        | false =>
          go_enter Try.func42, Try.ntmps42
          go_wp2_with (go_at_call 61; refine (HF.out _).mono ?_; rintro e w1 ⟨rfl, rfl⟩)
          go_ret
          exact ⟨rfl, (Below.refl _ _).alloc (Nat.le_refl _) _⟩
        | true =>
          rcases Nat.eq_zero_or_pos value.size with h0 | h0
          · have hve : value = ⟨#[]⟩ := by cases value; rename_i d; simp only [ByteArray.size] at h0; simp [Array.size_eq_zero_iff.1 h0]
            have e3 : decide (0 < value.size) = false := decide_eq_false (by omega)
            rw [e3]
            subst hve
            clear e3 h0 e2' hv
            go_enter Try.func42, Try.ntmps42
            go_wp2_with (go_at_call 61; refine (HF.out _).mono ?_; rintro e w1 ⟨rfl, rfl⟩)
            go_ret
            exact ⟨rfl, (Below.refl _ _).alloc (Nat.le_refl _) _⟩
          · have e3 : decide (0 < value.size) = true := by simpa using h0
            rw [e3]
            clear e3
            have hne : ¬ value.toList = [] := fun e => by have := congrArg List.length e; rw [ByteArray.toList_eq, Array.length_toList] at this; simp only [List.length_nil] at this; have h2 : value.data.size = value.size := rfl; omega
            have hne2 : value.toList.isEmpty = false := by cases h : value.toList with | nil => exact absurd h hne | cons _ _ => rfl
            go_enter Try.func42, Try.ntmps42
            go_wp2_with (go_at_call 61; refine (HF.out _).mono ?_; rintro e w1 ⟨rfl, rfl⟩)
            all_goals first | (go_ret; exact ⟨rfl, (Below.refl _ _).alloc (Nat.le_refl _) _⟩) | (exfalso; exact hne (by assumption)) | (exfalso; simp_all)

set_option maxRecDepth 100000 in
set_option maxHeartbeats 2000000 in
theorem countable_any (b : Bat) (A : Option Addr) (c : Nat) (w : World) (h1 : fz 1099511627776 b.base = true) (h2 : fz 2147483647 b.seq = true) (hl : b.L.length ≤ 64) : Calls Try.prog 43 #[.agg (b.cells A c)] w fun e w' => e = .returned (.int .i64 (countE b)) ∧ Below w.heap.size w w' := by
  have HM : Hid (∀ W, Calls Try.prog 62 #[.agg (b.cells A c)] W fun e w' => e = .returned (.int .i64 (spanI b)) ∧ Below W.heap.size W w') := fun W => span_any b A c W
  unfold countE
  have hs1 : 0 ≤ spanI b := by unfold spanI; split <;> omega
  have hs2 : spanI b ≤ 64 := by unfold spanI; split <;> omega
  rw [fz_iff] at h1 h2
  obtain ⟨base, pid, epoch, seq, kind, time, L⟩ := b
  unfold Bat.cells at *
  simp only at *
  generalize spanI _ = sp at *
  obtain ⟨b1, b2⟩ := h1
  obtain ⟨q1, q2⟩ := h2
  rcases Bool.eq_false_or_eq_true (decide (1099511627776 < base + (sp - 1))) with e1 | e1
  · rw [e1]
    go_enter Try.func43, Try.ntmps43
    go_wp2_with (go_at_call 62; refine (HM.out _).mono ?_; rintro e w1 ⟨rfl, hb⟩; obtain ⟨hc, hf⟩ := bcell hb)
    go_ret
    exact ⟨rfl, ((Below.refl _ _).alloc (Nat.le_refl _) _).trans (hb.mono (by simp))⟩
  · rw [e1]
    rcases Bool.eq_false_or_eq_true (pid != 0) with e2 | e2
    · rw [e2]
      rcases Bool.eq_false_or_eq_true (decide (2147483647 < seq + (sp - 1))) with e3 | e3
      all_goals
        rw [e3]
        go_enter Try.func43, Try.ntmps43
        go_wp2_with (go_at_call 62; refine (HM.out _).mono ?_; rintro e w1 ⟨rfl, hb⟩; obtain ⟨hc, hf⟩ := bcell hb)
        go_ret
        exact ⟨rfl, ((Below.refl _ _).alloc (Nat.le_refl _) _).trans (hb.mono (by simp))⟩
    · rw [e2]
      go_enter Try.func43, Try.ntmps43
      go_wp2_with (go_at_call 62; refine (HM.out _).mono ?_; rintro e w1 ⟨rfl, hb⟩; obtain ⟨hc, hf⟩ := bcell hb)
      go_ret
      exact ⟨rfl, ((Below.refl _ _).alloc (Nat.le_refl _) _).trans (hb.mono (by simp))⟩


end Go.Proofs.Ytniopekkfnkipaa
