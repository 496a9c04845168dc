/-
  Slices of slices of bytes that the call itself has made.
-/
import Derived.Test.YtniopekkfnkipaaWords
namespace Go.Proofs.Ytniopekkfnkipaa
open Go.RowKit
set_option linter.unusedVariables false

/-- v is a slice of the call's own, its rows are the lists L, none of which lies in v's own block -/
structure OwnR (w : World) (base : Nat) (v : Value) (L : List (List UInt8)) : Prop where
  rows : ∃ vs, w.ownsRow base 25 1 v L.length vs ∧ ∀ k, k < L.length → ∃ A c, vs[k]? = some (.slice A (L.getD k []).length c) ∧ (L.getD k []).length ≤ c ∧ c ≤ maxLen ∧
    Bs w w.heap.size A (L.getD k []).length (L.getD k []) ∧ ∀ p, A = some p → L.getD k [] ≠ [] → some p.block ≠ v.ownBlock
section
variable {w w' : World} {base : Nat} {v : Value} {L : List (List UInt8)}
theorem OwnR.nil_ (w : World) (base : Nat) : OwnR w base (.slice none 0 0) [] := ⟨[], World.ownsRow_nil _ _ _ _, fun k hk => absurd hk (by simp)⟩
theorem Bs.far {B n : Nat} {A : Option Addr} {l : List UInt8} (h : Bs w B A n l) (hk : ∀ p, A = some p → ∀ i, w'.cell? (p.add i) = w.cell? (p.add i)) : Bs w' B A n l :=
  ⟨h.len, ⟨fun j u hj => by
    obtain ⟨p, e, hb, hc⟩ := h.lies.get j u hj
    exact ⟨p, e, hb, (hk p e j).trans hc⟩⟩⟩
theorem OwnR.below {B : Nat} (h : OwnR w base v L) (hb : Below B w w') (hB : w.heap.size ≤ B) : OwnR w' base v L := by
  obtain ⟨vs, hown, hrow⟩ := h.rows
  refine ⟨vs, ⟨hown.1, ?_⟩, fun k hk => ?_⟩
  · rcases hown.2 with h2 | ⟨g, cap, cur, hv, hg, hh, r⟩
    · exact .inl h2
    · have hgl : g < w.heap.size := (Array.getElem?_eq_some_iff.1 hh).1
      exact .inr ⟨g, cap, cur, hv, hg, (hb.block g (by omega)).trans hh, r⟩
  · obtain ⟨A, c, e, h1, h2, h3, h4⟩ := hrow k hk
    exact ⟨A, c, e, h1, h2, (h3.below (hb.mono hB)).wider hb.size, h4⟩
theorem OwnR.alloc (h : OwnR w base v L) (o : Obj) : OwnR (w.alloc o) base v L := h.below ((Below.refl _ _).alloc (Nat.le_refl _) o) (Nat.le_refl _)
theorem OwnR.drew (h : OwnR w base v L) : OwnR w.drew base v L := h.below ((Below.refl _ _).drew) (Nat.le_refl _)
theorem OwnR.drewN (h : OwnR w base v L) (k : Nat) : OwnR (w.drewN k) base v L := h.below (below_draws (Below.refl _ _) k) (Nat.le_refl _)
theorem OwnR.rs (h : OwnR w base v L) : ∃ A c, v = .slice A L.length c ∧ L.length ≤ c ∧ c ≤ maxLen ∧ Rs w w.heap.size A L.length L := by
  obtain ⟨vs, hown, hrow⟩ := h.rows
  rcases hown.2 with ⟨rfl, hn⟩ | ⟨g, cap, cur, rfl, hb, hg, hnc, hm, _⟩
  · have : L = [] := List.length_eq_zero_iff.1 hn
    subst this
    exact ⟨none, 0, rfl, by simp, by simp [maxLen], Rs.nil_⟩
  · refine ⟨_, cap, rfl, hnc, hm, rfl, fun k hk => ?_⟩
    obtain ⟨A, c, e, h1, h2, h3, _⟩ := hrow k hk
    obtain ⟨p, hp, hpb, hc⟩ := (Lies.of_row hown).get k _ e
    exact ⟨p, A, c, hp, hpb, hc, h1, h2, h3⟩
theorem OwnR.lt (h : OwnR w base v L) : ∀ k, v.ownBlock = some k → base ≤ k ∧ k < w.heap.size := by
  obtain ⟨vs, hown, _⟩ := h.rows
  exact World.ownsRow.lt hown
theorem OwnR.base_le {base' : Nat} (h : OwnR w base v L) (hb : base' ≤ base) : OwnR w base' v L := by
  obtain ⟨vs, hown, hrow⟩ := h.rows
  refine ⟨vs, ⟨hown.1, ?_⟩, hrow⟩
  rcases hown.2 with h2 | ⟨g, cap, cur, hv, hg, hh, r⟩
  · exact .inl h2
  · exact .inr ⟨g, cap, cur, hv, by omega, hh, r⟩
/-- what append leaves -/
theorem OwnR.push {vs : List Value} {v' : Value} {A : Option Addr} {m c : Nat} {l : List UInt8} (hown : w.ownsRow base 25 1 v L.length vs)
    (hrow : ∀ k, k < L.length → ∃ A c, vs[k]? = some (.slice A (L.getD k []).length c) ∧ (L.getD k []).length ≤ c ∧ c ≤ maxLen ∧ Bs w w.heap.size A (L.getD k []).length (L.getD k []) ∧ ∀ p, A = some p → L.getD k [] ≠ [] → some p.block ≠ v.ownBlock)
    (hl : Bs w w.heap.size A m l) (hm : m ≤ c) (hc : c ≤ maxLen) (hne : ∀ p, A = some p → l ≠ [] → some p.block ≠ v.ownBlock)
    (hown' : w'.ownsRow base 25 1 v' (L.length + 1) (vs ++ [.slice A m c])) (hg : w.grownBy w' v.ownBlock) (hat : v'.ownBlock = v.ownBlock ∨ v'.ownBlock = some w.heap.size) : OwnR w' base v' (L ++ [l]) := by
  have hvl : vs.length = L.length := by have := hown.1; omega
  have keep : ∀ {A : Option Addr} {n : Nat} {x : List UInt8}, Bs w w.heap.size A n x → (∀ p, A = some p → x ≠ [] → some p.block ≠ v.ownBlock) → Bs w' w'.heap.size A n x ∧ ∀ p, A = some p → x ≠ [] → some p.block ≠ v'.ownBlock := by
    intro A n x hx hp
    cases x with
    | nil => exact ⟨⟨hx.len, Lies.empty⟩, fun p _ h => absurd rfl h⟩
    | cons b r =>
      have hlt : ∀ p, A = some p → p.block < w.heap.size := by
        intro p hA
        obtain ⟨q, hq, hqb, _⟩ := hx.lies.get 0 _ rfl
        rw [hA] at hq
        injection hq with hq
        subst hq
        exact hqb
      refine ⟨(hx.far fun p hA i => ?_).wider hg.size, fun p hA _ => ?_⟩
      · exact World.cell?_of_block (hg.block _ (by rw [add_block]; exact hlt p hA) (by rw [add_block]; exact hp p hA (by simp)))
      · rcases hat with e | e
        · rw [e]; exact hp p hA (by simp)
        · rw [e]
          intro h
          injection h with h
          have := hlt p hA
          omega
  refine ⟨vs ++ [.slice A m c], by rw [List.length_append]; exact hown', fun k hk => ?_⟩
  rw [List.length_append, List.length_singleton] at hk
  by_cases hkl : k < L.length
  · obtain ⟨A1, c1, e, h1, h2, h3, h4⟩ := hrow k hkl
    have eL : (L ++ [l]).getD k [] = L.getD k [] := by
      rw [List.getD_eq_getElem?_getD, List.getD_eq_getElem?_getD, List.getElem?_append_left hkl]
    rw [eL]
    obtain ⟨k1, k2⟩ := keep h3 h4
    exact ⟨A1, c1, by rw [List.getElem?_append_left (by omega)]; exact e, h1, h2, k1, k2⟩
  · obtain rfl : k = L.length := by omega
    have eL : (L ++ [l]).getD L.length [] = l := by
      rw [List.getD_eq_getElem?_getD, List.getElem?_append_right (Nat.le_refl _)]
      simp
    rw [eL]
    obtain ⟨k1, k2⟩ := keep hl hne
    have hll := hl.len
    subst hll
    exact ⟨A, c, by rw [List.getElem?_append_right (by omega)]; simp [hvl], hm, hc, k1, k2⟩
end

theorem rows_below {w w' : World} {v : Value} {L : List (List UInt8)} {vs : List Value} (hb : Below w.heap.size w w')
    (hrow : ∀ k, k < L.length → ∃ A c, vs[k]? = some (.slice A (L.getD k []).length c) ∧ (L.getD k []).length ≤ c ∧ c ≤ maxLen ∧ Bs w w.heap.size A (L.getD k []).length (L.getD k []) ∧ ∀ p, A = some p → L.getD k [] ≠ [] → some p.block ≠ v.ownBlock) :
    ∀ k, k < L.length → ∃ A c, vs[k]? = some (.slice A (L.getD k []).length c) ∧ (L.getD k []).length ≤ c ∧ c ≤ maxLen ∧ Bs w' w'.heap.size A (L.getD k []).length (L.getD k []) ∧ ∀ p, A = some p → L.getD k [] ≠ [] → some p.block ≠ v.ownBlock := by
  intro k hk
  obtain ⟨A, c, e, h1, h2, h3, h4⟩ := hrow k hk
  exact ⟨A, c, e, h1, h2, (h3.below hb).wider hb.size, h4⟩
theorem Bs.block_lt {w : World} {B n : Nat} {A : Option Addr} {l : List UInt8} (h : Bs w B A n l) (hl : l ≠ []) (p : Addr) (hp : A = some p) : p.block < B := by
  cases l with
  | nil => exact absurd rfl hl
  | cons b r =>
    obtain ⟨q, hq, hqb, _⟩ := h.lies.get 0 _ rfl
    rw [hp] at hq
    injection hq with hq
    subst hq
    exact hqb

section
variable {w : World} {base : Nat} {v : Value} {L : List (List UInt8)}
theorem OwnR.cells (h : OwnR w base v L) : ∃ vs, w.ownsRow base 25 1 v L.length vs ∧ ∀ k, k < L.length → ∃ A c, vs[k]? = some (.slice A (L.getD k []).length c) ∧ (L.getD k []).length ≤ c ∧ c ≤ maxLen ∧
    Bs w w.heap.size A (L.getD k []).length (L.getD k []) ∧ ∀ p, A = some p → L.getD k [] ≠ [] → some p.block ≠ v.ownBlock := h.rows
end
end Go.Proofs.Ytniopekkfnkipaa
