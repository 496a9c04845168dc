/-
  What the document's Reader's Ints and Texts do.
-/
import Derived.Test.YtniopekkfnkipaaWrH
-- SOFT
namespace Go.Proofs.Ytniopekkfnkipaa
open Go.RowKit Go.Lib Go.Sort
set_option linter.unusedVariables false
set_option linter.unusedSimpArgs false

def manyS {α : Type} (f : Nat → α × Nat × Nat) : Nat → Nat → Nat → List α × Nat × Nat
  | 0, p, e => ([], p, e)
  | n + 1, p, e => if e ≠ 0 then ([], p, e) else ((f p).1 :: (manyS f n (f p).2.1 (f p).2.2).1, (manyS f n (f p).2.1 (f p).2.2).2)
theorem manyS_end {α : Type} (f : Nat → α × Nat × Nat) (n p e : Nat) (h : n = 0 ∨ e ≠ 0) : manyS f n p e = ([], p, e) := by
  cases n with
  | zero => rfl
  | succ n =>
    rcases h with h | h
    · cases h
    · unfold manyS; rw [if_pos h]
theorem manyS_step {α : Type} (f : Nat → α × Nat × Nat) (n p : Nat) : manyS f (n + 1) p 0 = ((f p).1 :: (manyS f n (f p).2.1 (f p).2.2).1, (manyS f n (f p).2.1 (f p).2.2).2) := by
  show (if (0 : Nat) ≠ 0 then _ else _) = _
  rw [if_neg (by simp)]
/-- a list: what was read, where the reader then stands, its error -/
def listR {α : Type} (f : Nat → α × Nat × Nat) (n p0 e0 p : Nat) : List α × Nat × Nat := if (manyS f n p0 e0).2.2 ≠ 0 then ([], p, (manyS f n p0 e0).2.2) else manyS f n p0 e0
def intsR (l : List UInt8) (p err : Nat) (count : Int) : List Int × Nat × Nat := listR (fun q => iR l q 0) (uR l p err).1 (uR l p err).2.1 (mE l p err count) p
def textsR (l : List UInt8) (p err : Nat) (count most : Int) : List (List UInt8) × Nat × Nat := listR (fun q => textR l q 0 most) (uR l p err).1 (uR l p err).2.1 (mE l p err count) p
theorem uR_on {l : List UInt8} {p : Nat} (h : (uR l p 0).2.2 = 0) : p < (uR l p 0).2.1 := by
  unfold uR at *
  rw [if_pos rfl] at *
  by_cases hz : (numP (l.drop p)).2 = 0
  · rw [if_pos hz] at h; cases h
  · show p < p + _; omega
theorem iR_on {l : List UInt8} {p : Nat} (h : (iR l p 0).2.2 = 0) : p < (iR l p 0).2.1 := uR_on h
theorem textR_on {l : List UInt8} {p : Nat} {most : Int} (h : (textR l p 0 most).2.2 = 0) : p < (textR l p 0 most).2.1 := by
  unfold textR at *
  by_cases ht : textE l p 0 most ≠ 0
  · rw [if_pos ht] at h; exact absurd h ht
  · rw [if_neg ht] at *
    have h1 : textE l p 0 most = 0 := by omega
    have h2 : (uR l p 0).2.2 = 0 := by
      unfold textE at h1
      by_cases h3 : mE l p 0 most = 0
      · unfold mE at h3
        split at h3
        · cases h3
        · exact h3
      · rw [if_neg (fun q => h3 q.1)] at h1; exact absurd h1 h3
    have := uR_on h2
    show p < _ + _
    omega
theorem new_cellsW (w : World) (cs : List Value) (e : TypeId) : ∀ j u, cs[j]? = some u → (w.alloc (.cells cs.toArray e)).cell? ((⟨w.heap.size, 0, none⟩ : Addr).add j) = some u := fun j u hj => by
  obtain ⟨q, hq, _, hc⟩ := (Lies.of_new w cs.toArray e).get j u (by simpa using hj)
  injection hq with hq
  subst hq
  exact hc
theorem row_set1 {w : World} {base s n g i : Nat} {e : TypeId} {v u : Value} {xs : List Value} (h : w.ownsRow base e s v n xs) (hg : g < base) : (w.setCell ⟨g, i, none⟩ u).ownsRow base e s v n xs := by
  refine ⟨h.1, ?_⟩
  rcases h.2 with h2 | ⟨b, cap, cur, rfl, hb, hh, r⟩
  · exact .inl h2
  · exact .inr ⟨b, cap, cur, rfl, hb, (Below.heap_setCell w ⟨g, i, none⟩ u b (fun e => by have h9 : b = g := e; omega)).trans hh, r⟩
theorem row_grown {w w' : World} {base s n g : Nat} {e : TypeId} {v : Value} {xs : List Value} (h : w.ownsRow base e s v n xs) (hg : w.grownBy w' (some g)) (hb : g < base) : w'.ownsRow base e s v n xs := by
  refine ⟨h.1, ?_⟩
  rcases h.2 with h2 | ⟨b, cap, cur, rfl, hb2, hh, r⟩
  · exact .inl h2
  · exact .inr ⟨b, cap, cur, rfl, hb2, (hg.block b (Array.getElem?_eq_some_iff.1 hh).1 (fun e => by injection e with e; omega)).trans hh, r⟩
theorem row_anyW {w : World} {base s n : Nat} {e : TypeId} {v : Value} {xs : List Value} (h : w.ownsRow base e s v n xs) : ∃ A c, v = .slice A n c ∧ n ≤ c ∧ c ≤ maxLen := by
  rcases h.2 with ⟨rfl, rfl⟩ | ⟨b, cap, cur, rfl, _, _, hnc, hm, _⟩
  · exact ⟨none, 0, rfl, Nat.le_refl _, Nat.zero_le _⟩
  · exact ⟨_, cap, rfl, hnc, hm⟩
theorem int_info : (Try.prog.info? 2).map (fun i => (i.zero, i.size, i.bytes)) = some (some (.int .i64 0), 1, 8) := by kernel_rfl
theorem str_info : (Try.prog.info? 9).map (fun i => (i.zero, i.size, i.bytes)) = some (some (.string ⟨#[]⟩), 1, 16) := by kernel_rfl
def encI (v : Int) : Value := .int .i64 v
def encS (v : List UInt8) : Value := .string ⟨v.toArray⟩
def lenW : Value → Nat
  | .slice _ n _ => n
  | _ => 0

end Go.Proofs.Ytniopekkfnkipaa
