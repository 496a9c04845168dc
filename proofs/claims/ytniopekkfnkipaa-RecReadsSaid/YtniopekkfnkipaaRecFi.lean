/-
  A batch that may be, as numbers.
-/
import Derived.Test.YtniopekkfnkipaaRecC
namespace Go.Proofs.Ytniopekkfnkipaa
open Go.RowKit
set_option linter.unusedVariables false
set_option linter.unusedSimpArgs false

theorem recE_zero {r : Rec} (h : recE r = 0) : r.key.size ≤ 1024 ∧ r.value.size ≤ 1024 ∧ 0 ≤ r.time ∧ r.time ≤ 1099511627776 ∧ (r.gone = true → r.value.size = 0) := by
  unfold recE at h
  split at h
  · cases h
  · rename_i h1
    split at h
    · cases h
    · rename_i h2
      simp at h1 h2
      have h3 := h2.1
      rw [fz_iff] at h3
      refine ⟨h1.1, h1.2, h3.1, h3.2, fun hg => ?_⟩
      have := h2.2 hg
      rw [this]
      rfl
theorem firstE_mem (L : List Rec) (h : firstE L = 0) : ∀ r ∈ L, recE r = 0 := by
  induction L with
  | nil => intro r hr; cases hr
  | cons x L ih =>
    unfold firstE at h
    split at h
    · rename_i hx
      intro r hr
      rcases List.mem_cons.1 hr with rfl | hr
      · exact hx
      · exact ih h r hr
    · rename_i hx; exact absurd h hx
/-- a batch that may be -/
structure Fine (b : Bat) : Prop where
  k1 : 0 ≤ b.kind
  k2 : b.kind ≤ 3
  b1 : 0 ≤ b.base
  b2 : b.base ≤ 1099511627776
  p1 : 0 ≤ b.pid
  p2 : b.pid ≤ 1048576
  e1 : 0 ≤ b.epoch
  e2 : b.epoch ≤ 32767
  s1 : 0 ≤ b.seq
  s2 : b.seq ≤ 2147483647
  t1 : 0 ≤ b.time
  t2 : b.time ≤ 1099511627776
  form : formB b = true
  len : b.L.length ≤ 64
  recs : ∀ r ∈ b.L, recE r = 0
  cnt : countE b = 0
theorem fine_iff (b : Bat) : validE b = 0 ↔ Fine b := by
  unfold validE
  constructor
  · intro h
    split at h
    · rename_i h1
      rw [Bool.and_eq_true] at h1
      obtain ⟨hl, hf⟩ := h1
      simp only [limB, Bool.and_eq_true, fz_iff] at hl
      obtain ⟨⟨⟨⟨⟨a1, a2⟩, a3⟩, a4⟩, a5⟩, a6⟩ := hl
      split at h
      · cases h
      · rename_i h64
        split at h
        · rename_i h0
          exact ⟨a1.1, a1.2, a2.1, a2.2, a3.1, a3.2, a4.1, a4.2, a5.1, a5.2, a6.1, a6.2, hf, by omega, firstE_mem _ h0, h⟩
        · rename_i h0; exact absurd h h0
    · cases h
  · intro h
    have hl : limB b = true := by
      simp only [limB, Bool.and_eq_true, fz_iff]
      exact ⟨⟨⟨⟨⟨⟨h.k1, h.k2⟩, h.b1, h.b2⟩, h.p1, h.p2⟩, h.e1, h.e2⟩, h.s1, h.s2⟩, h.t1, h.t2⟩
    have h0 : firstE b.L = 0 := firstE_all b.L (fun j hj => h.recs _ (by rw [List.getD_eq_getElem?_getD, List.getElem?_eq_getElem hj]; exact List.getElem_mem hj))
    rw [hl, h.form, Bool.and_self, if_pos rfl, if_neg (by have := h.len; omega), if_pos h0]
    exact h.cnt
end Go.Proofs.Ytniopekkfnkipaa
