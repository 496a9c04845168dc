/-
  What rec.Valid and rec.Next do.
-/
import Derived.Test.YtniopekkfnkipaaRecB
namespace Go.Proofs.Ytniopekkfnkipaa
open Go.RowKit
set_option linter.unusedVariables false
set_option linter.unusedSimpArgs false

def firstE : List Rec → Int
  | [] => 0
  | r :: L => if recE r = 0 then firstE L else recE r
def validE (b : Bat) : Int := if limB b && formB b then (if 64 < b.L.length then 7 else if firstE b.L = 0 then countE b else firstE b.L) else 2
theorem firstE_at (L : List Rec) : ∀ k, k < L.length → (∀ j, j < k → recE (L.getD j default) = 0) → recE (L.getD k default) ≠ 0 → firstE L = recE (L.getD k default) := by
  induction L with
  | nil => intro k h; exact absurd h (by simp)
  | cons r L ih =>
    intro k hk hj hr
    cases k with
    | zero => simp at hr ⊢; simp [firstE, hr]
    | succ k =>
      have h0 := hj 0 (by omega)
      simp at h0
      have := ih k (by simpa using hk) (fun j hjk => by have := hj (j + 1) (by omega); simpa using this) (by simpa using hr)
      simp [firstE, h0, this]
theorem firstE_all (L : List Rec) : (∀ j, j < L.length → recE (L.getD j default) = 0) → firstE L = 0 := by
  induction L with
  | nil => intro _; rfl
  | cons r L ih =>
    intro hj
    have h0 := hj 0 (by simp)
    simp at h0
    have := ih (fun j hjk => by have := hj (j + 1) (by simpa using hjk); simpa using this)
    simp [firstE, h0, this]

set_option maxRecDepth 100000 in
set_option maxHeartbeats 4000000 in
theorem valid_any (b : Bat) (A : Option Addr) (c B : Nat) (w : World) (hL : Rcs w B A b.L.length b.L) (hB : B ≤ w.heap.size) (hl : b.L.length ≤ maxLen) :
    Calls Try.prog 20 #[.agg (b.cells A c)] w fun e w' => e = .returned (.int .i64 (validE b)) ∧ Below w.heap.size w w' := by
  unfold maxLen at hl
  have HLim : Hid (∀ W, Calls Try.prog 40 #[.agg (b.cells A c)] W fun e w' => e = .returned (.bool (limB b)) ∧ Below W.heap.size W w') := fun W => inLimits_any b A c W
  have HForm : Hid (∀ W, Calls Try.prog 41 #[.agg (b.cells A c)] W fun e w' => e = .returned (.bool (formB b)) ∧ Below W.heap.size W w') := fun W => inForm_any b A c W (by omega)
  have HCnt : Hid (limB b = true → b.L.length ≤ 64 → ∀ W, Calls Try.prog 43 #[.agg (b.cells A c)] W fun e w' => e = .returned (.int .i64 (countE b)) ∧ Below W.heap.size W w') := fun h h64 W => countable_any b A c W (by simp only [limB, Bool.and_eq_true] at h; exact h.1.1.1.1.2) (by simp only [limB, Bool.and_eq_true] at h; exact h.1.2) h64
  have HR : Hid (∀ W r, Calls Try.prog 42 #[.agg (Rec.cells r).toArray] W fun e w' => e = .returned (.int .i64 (recE r)) ∧ Below W.heap.size W w') := fun W r => validRec_any r W
  have HV : Hid (validE b = if limB b && formB b then (if 64 < b.L.length then 7 else if firstE b.L = 0 then countE b else firstE b.L) else 2) := rfl
  obtain ⟨V, hV⟩ : ∃ V, validE b = V := ⟨_, rfl⟩
  rw [hV] at HV ⊢
  clear hV
  obtain ⟨base, pid, epoch, seq, kind, time, L⟩ := b
  unfold Bat.cells at *
  simp only at *
  obtain ⟨lm, hlm⟩ : ∃ lm, limB ⟨base, pid, epoch, seq, kind, time, L⟩ = lm := ⟨_, rfl⟩
  rw [hlm] at HLim HCnt HV
  clear hlm
  generalize formB _ = fb at *
  generalize countE _ = ce at *
  have hB0 := (Below.refl w.heap.size w).alloc (Nat.le_refl _) (.cells #[.int .i64 base, .int .i64 pid, .int .i64 epoch, .int .i64 seq, .int .i64 kind, .int .i64 time, .slice A L.length c] 24)
  have HB0 := Lib.hid hB0
  clear hB0
  cases lm with
  | false =>
    go_enter Try.func20, Try.ntmps20
    go_wp2_with (go_at_call 40; refine (HLim.out _).mono ?_; rintro e w1 ⟨rfl, hb⟩)
    go_ret
    exact ⟨by rw [HV.out]; rfl, HB0.out.trans (hb.mono HB0.out.size)⟩
  | true =>
    cases fb with
    | false =>
      go_enter Try.func20, Try.ntmps20
      go_wp2_with (first | (go_at_call 40; refine (HLim.out _).mono ?_; rintro e w1 ⟨rfl, hb⟩; obtain ⟨hc, hf⟩ := bcell hb) | (go_at_call 41; refine (HForm.out _).mono ?_; rintro e w2 ⟨rfl, hb2⟩))
      go_ret
      exact ⟨by rw [HV.out]; rfl, (HB0.out.trans (hb.mono HB0.out.size)).trans (hb2.mono (HB0.out.trans (hb.mono HB0.out.size)).size)⟩
    | true =>
      go_enter Try.func20, Try.ntmps20
      go_wp2_with fail
      refine (HLim.out _).mono ?_
      rintro e w1 ⟨rfl, hb1⟩
      have hB1 := HB0.out.trans (hb1.mono HB0.out.size)
      obtain ⟨hc1, hf1⟩ := bcell hb1
      go_wp2_with fail
      refine (HForm.out _).mono ?_
      rintro e w2 ⟨rfl, hb2⟩
      have hB2 := hB1.trans (hb2.mono hB1.size)
      have hk : w2.heap[w.heap.size]? = some (.cells #[.int .i64 base, .int .i64 pid, .int .i64 epoch, .int .i64 seq, .int .i64 kind, .int .i64 time, .slice A L.length c] 24 (0, 0)) :=
        (hb2.block _ (by have := hb1.size; simp at this; omega)).trans ((hb1.block _ (by simp)).trans (heap_alloc_new w _))
      clear hc1 hf1 hb1 hb2 HLim HForm
      have z2 := hB2.size
      have HK := Lib.hid hk
      have c6 : w2.cell? ⟨w.heap.size, 6, none⟩ = some (.slice A L.length c) := cell_of_row w2 _ 6 _ _ _ hk
      have hlt0 : w.heap.size < w2.heap.size := (Array.getElem?_eq_some_iff.1 hk).1
      clear hk
      rcases Nat.lt_or_ge 64 L.length with h64 | h64
      · have e64 : decide ((64 : Int) < (L.length : Int)) = true := by simp; omega
        go_wp2_with fail
        go_ret
        exact ⟨by rw [HV.out, Bool.and_self, if_pos rfl, if_pos h64]; rfl, hB2⟩
      · have e64 : decide ((64 : Int) < (L.length : Int)) = false := by simp; omega
        have HC2 := Lib.hid (HCnt.out (by simp) h64)
        have HIF : Hid (V = if firstE L = 0 then ce else firstE L) := by show _ = _; rw [HV.out, Bool.and_self, if_pos rfl, if_neg (by omega)]
        have hL2 := hL.below (hB2.mono hB)
        obtain ⟨n, hn⟩ : ∃ n, L.length = n := ⟨_, rfl⟩
        have HN := Lib.hid hn
        rw [hn] at hL2 h64 e64 c6 HK ⊢
        clear hn hL HCnt
        go_wp2_with fail
        clear c6
        go_loopw [21] (fun i wr => ∃ k : Nat, k ≤ n ∧ i = .int .i64 k ∧ (∀ j, j < k → recE (L.getD j default) = 0) ∧ Below w2.heap.size w2 wr) (fun i _ => n - (intOf i).toNat)
        case atStart => exact ⟨0, by omega, rfl, fun j hj => absurd hj (by omega), Below.refl _ _⟩
        case round =>
          obtain ⟨k, hk, rfl, hz, hb⟩ := hrel
          have HZ := Lib.hid hz
          clear hz
          have zr := hb.size
          have hB3 := hB2.trans (hb.mono z2)
          by_cases hlt : k < n
          · obtain ⟨p, rfl, hp, c0, c1, c2, c3⟩ := (hL2.below (hb.mono (Nat.le_trans hB z2))).row hlt
            have HA := Lib.hid (firstE_at L k (by rw [HN.out]; exact hlt) HZ.out)
            have HNX : Hid (recE (L.getD k default) = 0 → ∀ j, j < k + 1 → recE (L.getD j default) = 0) := fun h j hj => by
              rcases Nat.lt_or_ge j k with g | g
              · exact HZ.out j g
              · rw [show j = k from by omega]; exact h
            have HRk := Lib.hid (HR.out (wr.alloc (.cells (Rec.cells (L.getD k default)).toArray 40)) (L.getD k default))
            generalize L.getD k default = r at *
            obtain ⟨x, hx⟩ : ∃ x, recE r = x := ⟨_, rfl⟩
            rw [hx] at HA HNX HRk
            clear hx
            obtain ⟨key, value, gone, time'⟩ := r
            unfold Rec.cells at HRk
            simp only at c0 c1 c2 c3 HRk
            rcases Bool.eq_false_or_eq_true (x != 0) with hx | hx
            · go_wp2_with (go_at_call 42; refine HRk.out.mono ?_; rintro e w3 ⟨rfl, hb3⟩)
              go_ret
              have hxn : x ≠ 0 := by simpa using hx
              exact ⟨by rw [HIF.out, HA.out hxn, if_neg hxn]; rfl, (hB3.alloc hB3.size _).trans (hb3.mono (by have := hB3.size; simp; omega))⟩
            · go_wp2_with (go_at_call 42; refine HRk.out.mono ?_; rintro e w3 ⟨rfl, hb3⟩)
              have hxn : x = 0 := by simpa using hx
              go_roundw
              case rel => exact ⟨k + 1, by omega, by go_num, HNX.out hxn, (hb.alloc zr _).trans (hb3.mono (by simp; omega))⟩
              case measure => simp [intOf]; omega
          · obtain rfl : k = n := by omega
            have HA : Hid (firstE L = 0) := firstE_all L (fun j hj => HZ.out j (by rw [← HN.out]; exact hj))
            have hk2 := (hb.block _ hlt0).trans HK.out
            have c0 : wr.cell? ⟨w.heap.size, 0, none⟩ = some (.int .i64 base) := cell_of_row wr _ 0 _ _ _ hk2
            have c1 : wr.cell? ⟨w.heap.size, 1, none⟩ = some (.int .i64 pid) := cell_of_row wr _ 1 _ _ _ hk2
            have c2 : wr.cell? ⟨w.heap.size, 2, none⟩ = some (.int .i64 epoch) := cell_of_row wr _ 2 _ _ _ hk2
            have c3 : wr.cell? ⟨w.heap.size, 3, none⟩ = some (.int .i64 seq) := cell_of_row wr _ 3 _ _ _ hk2
            have c4 : wr.cell? ⟨w.heap.size, 4, none⟩ = some (.int .i64 kind) := cell_of_row wr _ 4 _ _ _ hk2
            have c5 : wr.cell? ⟨w.heap.size, 5, none⟩ = some (.int .i64 time) := cell_of_row wr _ 5 _ _ _ hk2
            have c6 : wr.cell? ⟨w.heap.size, 6, none⟩ = some (.slice A k c) := cell_of_row wr _ 6 _ _ _ hk2
            rw [HN.out] at HC2
            clear hk2
            go_wp2_with (go_at_call 43; refine (HC2.out _).mono ?_; rintro e w3 ⟨rfl, hb3⟩)
            go_ret
            exact ⟨by rw [HIF.out, if_pos HA.out]; rfl, hB3.trans (hb3.mono hB3.size)⟩
end Go.Proofs.Ytniopekkfnkipaa
