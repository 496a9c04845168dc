/-
  A slice of slices of bytes that the call has made, beside another slice of the call's own that grows.
-/
import Derived.Test.YtgbdgpacnpeahaaRows2
namespace Go.Proofs.Ytgbdgpacnpeahaa
open Go.RowKit
set_option linter.unusedVariables false

/-- a row of bytes that lies in none of the blocks F -/
structure Row (w : World) (F : List (Option Nat)) (A : Option Addr) (c : Nat) (l : List UInt8) : Prop where
  le : l.length ≤ c
  cm : c ≤ maxLen
  bs : Bs w w.heap.size A l.length l
  far : ∀ p, A = some p → l ≠ [] → ∀ f ∈ F, f ≠ some p.block
section
variable {w w' : World} {F F' : List (Option Nat)} {A : Option Addr} {c : Nat} {l : List UInt8}
theorem Row.grow {g : Option Nat} (h : Row w F A c l) (hg : w.grownBy w' g) (hF : g = none ∨ g ∈ F) (hF' : ∀ f ∈ F', f ∈ F ∨ f = none ∨ ∃ b, f = some b ∧ w.heap.size ≤ b) : Row w' F' A c l := by
  cases l with
  | nil => exact ⟨h.le, h.cm, ⟨rfl, Lies.empty⟩, fun p _ h => absurd rfl h⟩
  | cons b r =>
    have hlt : ∀ p, A = some p → p.block < w.heap.size := h.bs.block_lt (by simp)
    refine ⟨h.le, h.cm, (h.bs.far fun p hA i => ?_).wider hg.size, fun p hA _ f hf => ?_⟩
    · refine World.cell?_of_block (hg.block _ (by rw [add_block]; exact hlt p hA) ?_)
      rw [add_block]
      rcases hF with e | e
      · rw [e]; simp
      · exact fun e2 => h.far p hA (by simp) g e e2.symm
    · rcases hF' f hf with e | e | ⟨x, e, hx⟩
      · exact h.far p hA (by simp) f e
      · rw [e]; simp
      · rw [e]
        intro h2
        injection h2 with h2
        have := hlt p hA
        omega
end
/-- v is a slice of the call's own; its rows are the lists L; none of these lies in v's block or in vb's -/
structure OwnQ (w : World) (base : Nat) (v vb : Value) (L : List (List UInt8)) : Prop where
  rows : ∃ vs, w.ownsRow base 23 1 v L.length vs ∧ ∀ k, k < L.length → ∃ A c, vs[k]? = some (.slice A (L.getD k []).length c) ∧ Row w [v.ownBlock, vb.ownBlock] A c (L.getD k [])
section
variable {w w' : World} {base : Nat} {v v' vb vb' : Value} {L : List (List UInt8)}
theorem OwnQ.nil_ (w : World) (base : Nat) (vb : Value) : OwnQ w base (.slice none 0 0) vb [] := ⟨[], World.ownsRow_nil _ _ _ _, fun k hk => absurd hk (by simp)⟩
theorem OwnQ.below {B : Nat} (h : OwnQ w base v vb L) (hb : Below B w w') (hB : w.heap.size ≤ B) : OwnQ w' base v vb L := by
  obtain ⟨vs, hown, hrow⟩ := h.rows
  refine ⟨vs, ⟨hown.1, ?_⟩, fun k hk => ?_⟩
  · rcases hown.2 with h2 | ⟨g, cap, cur, hv, hg, hh, r⟩
    · exact .inl h2
    · have hgl : g < w.heap.size := (Array.getElem?_eq_some_iff.1 hh).1
      exact .inr ⟨g, cap, cur, hv, hg, (hb.block g (by omega)).trans hh, r⟩
  · obtain ⟨A, c, e, hr⟩ := hrow k hk
    exact ⟨A, c, e, hr.le, hr.cm, (hr.bs.below (hb.mono hB)).wider hb.size, hr.far⟩
theorem OwnQ.alloc (h : OwnQ w base v vb L) (o : Obj) : OwnQ (w.alloc o) base v vb L := h.below ((Below.refl _ _).alloc (Nat.le_refl _) o) (Nat.le_refl _)
theorem OwnQ.toR (h : OwnQ w base v vb L) : OwnR w base v L := by
  obtain ⟨vs, hown, hrow⟩ := h.rows
  refine ⟨vs, hown, fun k hk => ?_⟩
  obtain ⟨A, c, e, hr⟩ := hrow k hk
  exact ⟨A, c, e, hr.le, hr.cm, hr.bs, fun p hp hl e2 => hr.far p hp hl _ (by simp) e2.symm⟩
theorem OwnQ.lt (h : OwnQ w base v vb L) : ∀ k, v.ownBlock = some k → base ≤ k ∧ k < w.heap.size := h.toR.lt
/-- the other one grows -/
theorem OwnQ.grow (h : OwnQ w base v vb L) (hg : w.grownBy w' vb.ownBlock) (hat : vb'.ownBlock = vb.ownBlock ∨ vb'.ownBlock = some w.heap.size) (hne : v.ownBlock = none ∨ v.ownBlock ≠ vb.ownBlock) : OwnQ w' base v vb' L := by
  obtain ⟨vs, hown, hrow⟩ := h.rows
  refine ⟨vs, hown.kept hg hne, fun k hk => ?_⟩
  obtain ⟨A, c, e, hr⟩ := hrow k hk
  refine ⟨A, c, e, hr.grow hg (.inr (by simp)) fun f hf => ?_⟩
  simp only [List.mem_cons, List.not_mem_nil, or_false] at hf
  rcases hf with rfl | rfl
  · exact .inl (by simp)
  · rcases hat with e | e
    · rw [e]; exact .inl (by simp)
    · exact .inr (.inr ⟨_, e, Nat.le_refl _⟩)
/-- a row is appended -/
theorem OwnQ.push {vs : List Value} {A : Option Addr} {m c : Nat} {l : List UInt8} (hown : w.ownsRow base 23 1 v L.length vs)
    (hrow : ∀ k, k < L.length → ∃ A c, vs[k]? = some (.slice A (L.getD k []).length c) ∧ Row w [v.ownBlock, vb.ownBlock] A c (L.getD k []))
    (hm : l.length = m) (hl : Row w [v.ownBlock, vb.ownBlock] A c l)
    (hown' : w'.ownsRow base 23 1 v' (L.length + 1) (vs ++ [.slice A m c])) (hg : w.grownBy w' v.ownBlock) (hat : v'.ownBlock = v.ownBlock ∨ v'.ownBlock = some w.heap.size) : OwnQ w' base v' vb (L ++ [l]) := by
  have hvl : vs.length = L.length := by have := hown.1; omega
  have keep : ∀ {A : Option Addr} {c : Nat} {x : List UInt8}, Row w [v.ownBlock, vb.ownBlock] A c x → Row w' [v'.ownBlock, vb.ownBlock] A c x := fun hr => by
    refine hr.grow hg (.inr (by simp)) fun f hf => ?_
    simp only [List.mem_cons, List.not_mem_nil, or_false] at hf
    rcases hf with rfl | rfl
    · rcases hat with e | e
      · rw [e]; exact .inl (by simp)
      · exact .inr (.inr ⟨_, e, Nat.le_refl _⟩)
    · exact .inl (by simp)
  refine ⟨vs ++ [.slice A m c], by rw [List.length_append]; exact hown', fun k hk => ?_⟩
  rw [List.length_append, List.length_singleton] at hk
  by_cases hkl : k < L.length
  · obtain ⟨A1, c1, e, hr⟩ := hrow k hkl
    have eL : (L ++ [l]).getD k [] = L.getD k [] := by
      rw [List.getD_eq_getElem?_getD, List.getD_eq_getElem?_getD, List.getElem?_append_left hkl]
    rw [eL]
    exact ⟨A1, c1, by rw [List.getElem?_append_left (by omega)]; exact e, keep hr⟩
  · obtain rfl : k = L.length := by omega
    have eL : (L ++ [l]).getD L.length [] = l := by
      rw [List.getD_eq_getElem?_getD, List.getElem?_append_right (Nat.le_refl _)]
      simp
    rw [eL]
    subst hm
    exact ⟨A, c, by rw [List.getElem?_append_right (by omega)]; simp [hvl], keep hl⟩
theorem rows_below3 {vs : List Value} {F : List (Option Nat)} (hb : Below w.heap.size w w') (hrow : ∀ k, k < L.length → ∃ A c, vs[k]? = some (.slice A (L.getD k []).length c) ∧ Row w F A c (L.getD k [])) :
    ∀ k, k < L.length → ∃ A c, vs[k]? = some (.slice A (L.getD k []).length c) ∧ Row w' F A c (L.getD k []) := fun k hk => by
  obtain ⟨A, c, e, hr⟩ := hrow k hk
  exact ⟨A, c, e, hr.le, hr.cm, (hr.bs.below hb).wider hb.size, hr.far⟩
end
theorem two_rows' {w : World} {base base' : Nat} {e e' : TypeId} {s s' : Nat} {v v' : Value} {n n' : Nat} {xs xs' : List Value} (h : w.ownsRow base e s v n xs) (h' : w.ownsRow base' e' s' v' n' xs') (hne : e ≠ e') :
    v.ownBlock = none ∨ v.ownBlock ≠ v'.ownBlock := by
  rcases h.2 with ⟨rfl, _⟩ | ⟨g, cap, cur, rfl, _, hh, _⟩
  · exact .inl rfl
  · right
    rcases h'.2 with ⟨rfl, _⟩ | ⟨g', cap', cur', rfl, _, hh', _⟩
    · simp [Value.ownBlock]
    · intro e1
      simp only [Value.ownBlock, Option.some.injEq] at e1
      subst e1
      rw [hh] at hh'
      injection hh' with hh'
      injection hh' with _ ht
      exact hne ht
end Go.Proofs.Ytgbdgpacnpeahaa
