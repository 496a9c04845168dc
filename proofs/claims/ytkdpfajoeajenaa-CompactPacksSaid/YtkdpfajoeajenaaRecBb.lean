/-
  A slice of batches in memory.
-/
import Derived.Test.YtkdpfajoeajenaaRecC
import Derived.Test.YtkdpfajoeajenaaRecZ
namespace Go.Proofs.Ytkdpfajoeajenaa
open Go.RowKit
set_option linter.unusedVariables false
set_option linter.unusedSimpArgs false

/-- a batch, and where its records lie -/
structure BA where
  b : Bat
  A : Option Addr
  c : Nat
instance : Inhabited BA := ⟨⟨zB, none, 0⟩⟩
def BA.cells (x : BA) : List Value := (x.b.cells x.A x.c).toList
def bcells (M : List BA) : List Value := M.flatMap BA.cells
theorem bcells_length (M : List BA) : (bcells M).length = M.length * 7 := by
  induction M with
  | nil => rfl
  | cons r L ih => simp only [bcells, List.flatMap_cons, List.length_append, List.length_cons] at *; rw [ih]; simp only [BA.cells, Bat.cells, List.length_cons, List.length_nil]; omega
theorem bcells_append (L M : List BA) : bcells (L ++ M) = bcells L ++ bcells M := by simp [bcells]
theorem bcells_get (L : List BA) : ∀ (k j : Nat), k < L.length → j < 7 → (bcells L)[k * 7 + j]? = ((L.getD k default).cells)[j]? := by
  induction L with
  | nil => intro k j h; exact absurd h (by simp)
  | cons r L ih =>
    intro k j h hj
    have e : bcells (r :: L) = r.cells ++ bcells L := by simp [bcells]
    have hl : r.cells.length = 7 := rfl
    rw [e]
    cases k with
    | zero => rw [List.getElem?_append_left (by omega)]; simp
    | succ k =>
      rw [List.getElem?_append_right (by omega), show (k + 1) * 7 + j - r.cells.length = k * 7 + j from by omega, ih k j (by simpa using h) hj]
      simp
/-- '.slice A n c' is a slice of batches -/
structure Bas (w : World) (B : Nat) (A : Option Addr) (n : Nat) (M : List BA) : Prop where
  len : M.length = n
  lies : Lies w B A (bcells M)
  each : ∀ k, k < n → Rcs w B (M.getD k default).A (M.getD k default).b.L.length (M.getD k default).b.L ∧ (M.getD k default).b.L.length ≤ 80 ∧ (M.getD k default).b.L.length ≤ (M.getD k default).c ∧ (M.getD k default).c ≤ maxLen
section
variable {w w' : World} {B B' n : Nat} {A : Option Addr} {M : List BA}
theorem Bas.nil_ : Bas w B A 0 [] := ⟨rfl, Lies.empty, fun k h => absurd h (by omega)⟩
theorem Bas.below (h : Bas w B A n M) (hb : Below B w w') : Bas w' B A n M := ⟨h.len, h.lies.keep fun _ hp => hb.cell hp, fun k hk => ⟨(h.each k hk).1.below hb, (h.each k hk).2⟩⟩
theorem Bas.wider (h : Bas w B A n M) (hB : B ≤ B') : Bas w B' A n M := ⟨h.len, h.lies.wider hB, fun k hk => ⟨(h.each k hk).1.wider hB, (h.each k hk).2⟩⟩
/-- a batch's cells -/
theorem Bas.row {k : Nat} (h : Bas w B A n M) (hk : k < n) : ∃ p, A = some p ∧ p.block < B ∧ w.cell? (p.add (k * 7)) = some (.int .i64 (M.getD k default).b.base) ∧
    w.cell? ⟨(p.add (k * 7)).block, (p.add (k * 7)).off + 1, none⟩ = some (.int .i64 (M.getD k default).b.pid) ∧
    w.cell? ⟨(p.add (k * 7)).block, (p.add (k * 7)).off + 2, none⟩ = some (.int .i64 (M.getD k default).b.epoch) ∧
    w.cell? ⟨(p.add (k * 7)).block, (p.add (k * 7)).off + 3, none⟩ = some (.int .i64 (M.getD k default).b.seq) ∧
    w.cell? ⟨(p.add (k * 7)).block, (p.add (k * 7)).off + 4, none⟩ = some (.int .i64 (M.getD k default).b.kind) ∧
    w.cell? ⟨(p.add (k * 7)).block, (p.add (k * 7)).off + 5, none⟩ = some (.int .i64 (M.getD k default).b.time) ∧
    w.cell? ⟨(p.add (k * 7)).block, (p.add (k * 7)).off + 6, none⟩ = some (.slice (M.getD k default).A (M.getD k default).b.L.length (M.getD k default).c) := by
  have hl := h.len
  have g : ∀ j u, j < 7 → ((M.getD k default).cells)[j]? = some u → ∃ p, A = some p ∧ p.block < B ∧ w.cell? ((p.add (k * 7)).add j) = some u := by
    intro j u hj hu
    obtain ⟨p, e, hb, hc⟩ := h.lies.get (k * 7 + j) u ((bcells_get M k j (by omega) hj).trans hu)
    exact ⟨p, e, hb, by rw [add_twice]; exact hc⟩
  obtain ⟨p, e, hb, c0⟩ := g 0 _ (by omega) rfl
  have g' : ∀ j u, 0 < j → j < 7 → ((M.getD k default).cells)[j]? = some u → w.cell? ⟨(p.add (k * 7)).block, (p.add (k * 7)).off + j, none⟩ = some u := fun j u h0 hj hu => by
    obtain ⟨q, e', _, c⟩ := g j u hj hu
    rw [e] at e'
    injection e' with e'
    subst e'
    rw [← add_pos' _ j h0]; exact c
  refine ⟨p, e, hb, ?_, g' 1 _ (by omega) (by omega) rfl, g' 2 _ (by omega) (by omega) rfl, g' 3 _ (by omega) (by omega) rfl, g' 4 _ (by omega) (by omega) rfl, g' 5 _ (by omega) (by omega) rfl, g' 6 _ (by omega) (by omega) rfl⟩
  rw [add_twice, Nat.add_zero] at c0; exact c0
end

/-- the first batch that may not be -/
def badE : List Bat → Int
  | [] => 0
  | b :: l => if validE b = 0 then badE l else validE b
def catL (l : List Bat) : List Rec := l.flatMap Bat.L
theorem badE_at : ∀ (l : List Bat) (k : Nat), k < l.length → (∀ j, j < k → validE (l.getD j zB) = 0) → validE (l.getD k zB) ≠ 0 → badE l = validE (l.getD k zB) := by
  intro l
  induction l with
  | nil => intro k h; simp at h
  | cons b l ih =>
    intro k hk hj hv
    unfold badE
    cases k with
    | zero => rw [if_neg (by simpa using hv)]; rfl
    | succ k =>
      rw [if_pos (by simpa using hj 0 (by omega))]
      have := ih k (by simpa using hk) (fun j hj2 => by simpa using hj (j + 1) (by omega)) (by simpa using hv)
      simpa using this
theorem badE_all : ∀ (l : List Bat), (∀ j, j < l.length → validE (l.getD j zB) = 0) → badE l = 0 := by
  intro l
  induction l with
  | nil => intro _; rfl
  | cons b l ih =>
    intro h
    unfold badE
    rw [if_pos (by simpa using h 0 (by simp))]
    exact ih fun j hj => by simpa using h (j + 1) (by simp; omega)
theorem catL_take (l : List Bat) (k : Nat) (h : k < l.length) : catL (l.take (k + 1)) = catL (l.take k) ++ (l.getD k zB).L := by
  unfold catL
  rw [List.take_succ_eq_append_getElem h, List.flatMap_append, List.getD_eq_getElem?_getD, List.getElem?_eq_getElem h]
  simp
end Go.Proofs.Ytkdpfajoeajenaa
