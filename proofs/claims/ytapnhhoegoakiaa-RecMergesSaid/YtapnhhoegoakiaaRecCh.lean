/-
  Batches each of which stands to the one ahead as a part does: where the last of them ends.
-/
import Derived.Test.YtapnhhoegoakiaaRecMg
namespace Go.Proofs.Ytapnhhoegoakiaa
open Go.RowKit
set_option linter.unusedVariables false
set_option linter.unusedSimpArgs false

theorem fol_iff {a b : Bat} : folB a b = true ↔ markB a = false ∧ ownP a b ∧ b.base = nextI a ∧ (a.pid = 0 ∨ b.seq = a.seq + (a.L.length : Int)) := by
  unfold folB
  simp only [Bool.and_eq_true, Bool.or_eq_true, Bool.not_eq_true', decide_eq_true_eq]
  constructor
  · rintro ⟨⟨⟨h1, h2⟩, h3⟩, h4⟩; exact ⟨h1, h2, h3, h4⟩
  · rintro ⟨h1, h2, h3, h4⟩; exact ⟨⟨⟨h1, h2⟩, h3⟩, h4⟩
theorem next_len {a : Bat} (hv : validE a = 0) (hm : markB a = false) : nextI a = a.base + (a.L.length : Int) := by
  unfold nextI spanI
  rw [if_pos hv, hm]; rfl
/-- where the first q batches end, if they are parts of one -/
structure Chn (l : List Bat) (q : Nat) : Prop where
  mark : ∀ j, j < q → markB (l.getD j zB) = false
  fol : ∀ j, j + 1 < q → folB (l.getD j zB) (l.getD (j + 1) zB) = true
structure Pos (l : List Bat) (q : Nat) : Prop where
  own : ownP (l.getD 0 zB) (l.getD (q - 1) zB)
  base : (l.getD (q - 1) zB).base + ((l.getD (q - 1) zB).L.length : Int) = (l.getD 0 zB).base + ((catL (l.take q)).length : Int)
  seq : (l.getD 0 zB).pid ≠ 0 → (l.getD (q - 1) zB).seq + ((l.getD (q - 1) zB).L.length : Int) = (l.getD 0 zB).seq + ((catL (l.take q)).length : Int)
theorem catL_one (l : List Bat) (h : 0 < l.length) : catL (l.take 1) = (l.getD 0 zB).L := by
  have := catL_take l 0 h
  simpa [catL] using this
theorem chain_pos (l : List Bat) (hv : ∀ j, j < l.length → validE (l.getD j zB) = 0) : ∀ q, q + 1 ≤ l.length → Chn l (q + 1) → Pos l (q + 1) := by
  intro q
  induction q with
  | zero =>
    intro hq hc
    refine ⟨⟨rfl, rfl, rfl, rfl⟩, ?_, fun _ => ?_⟩
    · show (l.getD 0 zB).base + _ = _; rw [catL_one l (by omega)]
    · show (l.getD 0 zB).seq + _ = _; rw [catL_one l (by omega)]
  | succ q ih =>
    intro hq hc
    have hp := ih (by omega) ⟨fun j hj => hc.mark j (by omega), fun j hj => hc.fol j (by omega)⟩
    obtain ⟨f1, f2, f3, f4⟩ := fol_iff.1 (hc.fol q (by omega))
    have hn := next_len (hv q (by omega)) f1
    have h1 := hp.own
    have h2 := hp.base
    have h3 := hp.seq
    simp only [Nat.add_sub_cancel] at h1 h2 h3 ⊢
    have hct := catL_take l (q + 1) (by omega)
    refine ⟨?_, ?_, fun hpid => ?_⟩
    · simp only [Nat.add_sub_cancel]
      exact ⟨h1.1.trans f2.1, h1.2.1.trans f2.2.1, h1.2.2.1.trans f2.2.2.1, h1.2.2.2.trans f2.2.2.2⟩
    · simp only [Nat.add_sub_cancel]
      rw [hct, List.length_append, f3, hn]
      omega
    · simp only [Nat.add_sub_cancel]
      rw [hct, List.length_append]
      have h4 := h3 hpid
      rcases f4 with f4 | f4
      · exact absurd (h1.2.1.trans f4) hpid
      · rw [f4]; omega
/-- what the reference asks of the next batch is that it stands so to the one ahead -/
theorem fol_all (l : List Bat) (hv : ∀ j, j < l.length → validE (l.getD j zB) = 0) (q : Nat) (hq : q + 1 < l.length) (hc : Chn l (q + 1)) :
    folB (l.getD q zB) (l.getD (q + 1) zB) = true ↔ (l.getD (q + 1) zB).kind = (l.getD 0 zB).kind ∧ (l.getD (q + 1) zB).pid = (l.getD 0 zB).pid ∧ (l.getD (q + 1) zB).epoch = (l.getD 0 zB).epoch ∧ (l.getD (q + 1) zB).time = (l.getD 0 zB).time ∧
      (l.getD (q + 1) zB).base = (l.getD 0 zB).base + ((catL (l.take (q + 1))).length : Int) ∧ (0 < (l.getD (q + 1) zB).pid → (l.getD (q + 1) zB).seq = (l.getD 0 zB).seq + ((catL (l.take (q + 1))).length : Int)) := by
  have hp := chain_pos l hv q (by omega) hc
  have hm := hc.mark q (by omega)
  have hn := next_len (hv q (by omega)) hm
  have hF := (fine_iff _).1 (hv (q + 1) hq)
  have h1 := hp.own
  have h2 := hp.base
  have h3 := hp.seq
  simp only [Nat.add_sub_cancel] at h1 h2 h3
  rw [fol_iff]
  constructor
  · rintro ⟨_, f2, f3, f4⟩
    refine ⟨(h1.1.trans f2.1).symm, (h1.2.1.trans f2.2.1).symm, (h1.2.2.1.trans f2.2.2.1).symm, (h1.2.2.2.trans f2.2.2.2).symm, by rw [f3, hn, h2], fun hpos => ?_⟩
    have e1 := h1.2.1.trans f2.2.1
    rcases f4 with f4 | f4
    · have := f2.2.1; omega
    · rw [f4]; exact h3 (by omega)
  · rintro ⟨g1, g2, g3, g4, g5, g6⟩
    refine ⟨hm, ⟨h1.1.symm.trans g1.symm, h1.2.1.symm.trans g2.symm, h1.2.2.1.symm.trans g3.symm, h1.2.2.2.symm.trans g4.symm⟩, by rw [g5, hn, h2], ?_⟩
    have hp1 := hF.p1
    by_cases hz : (l.getD q zB).pid = 0
    · exact .inl hz
    · right
      have e := h1.2.1
      rw [g6 (by omega)]; exact (h3 (by omega)).symm
/-- a mark among them: they are no parts of one -/
theorem mark_no (l : List Bat) (q : Nat) (hq : q < l.length) (h2 : 2 ≤ l.length) (hm : markB (l.getD q zB) = true) (hb : ∀ j, j < q → markB (l.getD j zB) = false) : chainB l = false := by
  cases q with
  | zero =>
    refine chain_no l 0 (by omega) ?_
    cases hf : folB (l.getD 0 zB) (l.getD (0 + 1) zB) with
    | false => rfl
    | true => have := (fol_iff.1 hf).1; rw [hm] at this; cases this
  | succ q =>
    refine chain_no l q (by omega) ?_
    cases hf : folB (l.getD q zB) (l.getD (q + 1) zB) with
    | false => rfl
    | true =>
      have h1 := (fol_iff.1 hf).2.1.1
      have h3 := hb q (by omega)
      unfold markB at hm h3
      rw [← h1, h3] at hm
      cases hm
end Go.Proofs.Ytapnhhoegoakiaa
