/-
  What a range of the document's table holds, as data; what its Range does.
-/
import Derived.Test.YtmlekkbjmfknfaaCtB
namespace Go.Proofs.Ytmlekkbjmfknfaa
open Go.RowKit Go.Lib Go.Sort
set_option linter.unusedVariables false
set_option linter.unusedSimpArgs false

/-- does a key stand in a range? -/
def inR (from_ to_ : ByteArray) (x : AtC) : Bool := !lessB x.key from_ && (decide (to_ = ⟨#[]⟩) || lessB x.key to_)
/-- the rows in a range -/
def rngL (from_ to_ : ByteArray) (L : List AtC) : List AtC := L.filter (inR from_ to_)
theorem rng_srt {f t : ByteArray} {L : List AtC} (h : Srt L) : Srt (rngL f t L) := h.sublist List.filter_sublist
/-- what may still be told when F's first j rows have been -/
def elig (f t : ByteArray) (F : List AtC) (j : Nat) (x : AtC) : Bool := inR f t x && (decide (j = 0) || lessB (F.getD (j - 1) default).key x.key)
theorem elig_iff {f t : ByteArray} {L R : List AtC} (h : Alk L R) (hs : Srt L) {j : Nat} (hj : j ≤ (rngL f t L).length) {x : AtC} (hx : x ∈ R) : elig f t (rngL f t L) j x = true ↔ ∃ i, j ≤ i ∧ i < (rngL f t L).length ∧ x = (rngL f t L).getD i default := by
  have hF := rng_srt (f := f) (t := t) hs
  unfold elig
  rw [Bool.and_eq_true, Bool.or_eq_true, decide_eq_true_iff]
  constructor
  · rintro ⟨h1, h2⟩
    have hm : x ∈ rngL f t L := List.mem_filter.2 ⟨(h.mem x).2 hx, h1⟩
    obtain ⟨i, hi, e⟩ := getD_mem hm
    refine ⟨i, ?_, hi, e⟩
    rcases h2 with h2 | h2
    · omega
    · rcases Nat.lt_or_ge i j with h3 | h3
      · exfalso
        rw [e] at h2
        rcases Nat.lt_or_ge i (j - 1) with h4 | h4
        · have := lessB_trans h2 (srt_get hF h4 (by omega))
          rw [lessB_irr] at this; cases this
        · rw [show i = j - 1 by omega, lessB_irr] at h2; cases h2
      · exact h3
  · rintro ⟨i, h1, h2, e⟩
    have hm : x ∈ rngL f t L := by rw [e, List.getD_eq_getElem?_getD, List.getElem?_eq_getElem h2]; exact List.getElem_mem _
    refine ⟨(List.mem_filter.1 hm).2, ?_⟩
    rcases Nat.eq_zero_or_pos j with h3 | h3
    · exact .inl h3
    · right
      rw [e]
      exact srt_get hF (by omega) h2
/-- the least of the first n that may be told: its place, if there is one -/
def leastP (f t : ByteArray) (F R : List AtC) (j : Nat) : Nat → Option Nat
  | 0 => none
  | n + 1 => if elig f t F j (R.getD n default) = true then
      match leastP f t F R j n with
      | none => some n
      | some b => if lessB (R.getD n default).key (R.getD b default).key = true then some n else some b
    else leastP f t F R j n
theorem least_some {f t : ByteArray} {F R : List AtC} {j : Nat} : ∀ n b, leastP f t F R j n = some b → b < n ∧ elig f t F j (R.getD b default) = true ∧ ∀ i, i < n → elig f t F j (R.getD i default) = true → lessB (R.getD i default).key (R.getD b default).key = false := by
  intro n
  induction n with
  | zero => intro b h; cases h
  | succ n ih =>
    intro b h
    unfold leastP at h
    by_cases he : elig f t F j (R.getD n default) = true
    · rw [if_pos he] at h
      cases hl : leastP f t F R j n with
      | none =>
        rw [hl] at h
        simp only [Option.some.injEq] at h
        subst h
        refine ⟨by omega, he, fun i hi hei => ?_⟩
        rcases Nat.lt_or_ge i n with h1 | h1
        · exfalso
          clear ih
          have : ∀ m, leastP f t F R j m = none → ∀ i, i < m → elig f t F j (R.getD i default) = true → False := by
            intro m
            induction m with
            | zero => intro _ i hi; omega
            | succ m ihm =>
              intro hm i hi hei
              unfold leastP at hm
              by_cases hem : elig f t F j (R.getD m default) = true
              · rw [if_pos hem] at hm
                split at hm
                · cases hm
                · split at hm <;> cases hm
              · rw [if_neg hem] at hm
                rcases Nat.lt_or_ge i m with h2 | h2
                · exact ihm hm i h2 hei
                · rw [show i = m by omega] at hei; exact hem hei
          exact this n hl i h1 hei
        · rw [show i = n by omega, lessB_irr]
      | some b' =>
        rw [hl] at h
        obtain ⟨i1, i2, i3⟩ := ih b' hl
        simp only at h
        by_cases hb : lessB (R.getD n default).key (R.getD b' default).key = true
        · rw [if_pos hb] at h
          simp only [Option.some.injEq] at h
          subst h
          refine ⟨by omega, he, fun i hi hei => ?_⟩
          rcases Nat.lt_or_ge i n with h1 | h1
          · cases hc : lessB (R.getD i default).key (R.getD n default).key with
            | false => rfl
            | true =>
              have h4 := i3 i h1 hei
              rw [lessB_trans hc hb] at h4
              cases h4
          · rw [show i = n by omega, lessB_irr]
        · rw [if_neg hb] at h
          simp only [Option.some.injEq] at h
          subst h
          refine ⟨by omega, i2, fun i hi hei => ?_⟩
          rcases Nat.lt_or_ge i n with h1 | h1
          · exact i3 i h1 hei
          · rw [show i = n by omega]; simpa using hb
    · rw [if_neg he] at h
      obtain ⟨i1, i2, i3⟩ := ih b h
      refine ⟨by omega, i2, fun i hi hei => ?_⟩
      rcases Nat.lt_or_ge i n with h1 | h1
      · exact i3 i h1 hei
      · rw [show i = n by omega] at hei; exact absurd hei he
theorem least_none {f t : ByteArray} {F R : List AtC} {j : Nat} : ∀ n, leastP f t F R j n = none → ∀ i, i < n → elig f t F j (R.getD i default) = false := by
  intro n
  induction n with
  | zero => intro _ i hi; omega
  | succ n ih =>
    intro h i hi
    unfold leastP at h
    by_cases he : elig f t F j (R.getD n default) = true
    · rw [if_pos he] at h
      split at h
      · cases h
      · split at h <;> cases h
    · rw [if_neg he] at h
      rcases Nat.lt_or_ge i n with h1 | h1
      · exact ih h i h1
      · rw [show i = n by omega]; simpa using he
/-- the least that may be told is the next row of the range -/
theorem least_next {f t : ByteArray} {L R : List AtC} (h : Alk L R) (hs : Srt L) {j : Nat} (hj : j ≤ (rngL f t L).length) :
    (j < (rngL f t L).length → ∃ b, leastP f t (rngL f t L) R j R.length = some b ∧ b < R.length ∧ R.getD b default = (rngL f t L).getD j default) ∧ (j = (rngL f t L).length → leastP f t (rngL f t L) R j R.length = none) := by
  have hF := rng_srt (f := f) (t := t) hs
  have hmem : ∀ i, i < R.length → R.getD i default ∈ R := fun i hi => by rw [List.getD_eq_getElem?_getD, List.getElem?_eq_getElem hi]; exact List.getElem_mem _
  constructor
  · intro hjl
    have hm : (rngL f t L).getD j default ∈ R := (h.mem _).1 (List.mem_filter.1 (show (rngL f t L).getD j default ∈ rngL f t L by rw [List.getD_eq_getElem?_getD, List.getElem?_eq_getElem hjl]; exact List.getElem_mem _)).1
    obtain ⟨i0, hi0, e0⟩ := getD_mem hm
    have hel : elig f t (rngL f t L) j (R.getD i0 default) = true := by rw [← e0]; exact (elig_iff h hs hj hm).2 ⟨j, Nat.le_refl _, hjl, rfl⟩
    cases hl : leastP f t (rngL f t L) R j R.length with
    | none => have := least_none _ hl i0 hi0; rw [hel] at this; cases this
    | some b =>
      obtain ⟨b1, b2, b3⟩ := least_some _ _ hl
      refine ⟨b, rfl, b1, ?_⟩
      obtain ⟨i, h1, h2, e⟩ := (elig_iff h hs hj (hmem b b1)).1 b2
      rcases Nat.lt_or_ge j i with h3 | h3
      · exfalso
        have h4 := b3 i0 hi0 hel
        rw [← e0, e, srt_get hF h3 h2] at h4
        cases h4
      · rw [e, show i = j by omega]
  · intro hjl
    cases hl : leastP f t (rngL f t L) R j R.length with
    | none => rfl
    | some b =>
      obtain ⟨b1, b2, b3⟩ := least_some _ _ hl
      obtain ⟨i, h1, h2, e⟩ := (elig_iff h hs hj (hmem b b1)).1 b2
      omega
end Go.Proofs.Ytmlekkbjmfknfaa
