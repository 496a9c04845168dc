/-
  A slice of batches of the call's own, each with records of its own, that grows.
-/
import Derived.Test.YtkdpfajoeajenaaRecBb
import Derived.BigRegion
namespace Go.Proofs.Ytkdpfajoeajenaa
open Go.RowKit
set_option linter.unusedVariables false
set_option linter.unusedSimpArgs false

theorem Rcs.stay {w w' : World} {B B' n : Nat} {A : Option Addr} {L : List Rec} (h : Rcs w B A n L) (hB : B ≤ B') (hk : ∀ p, A = some p → L ≠ [] → p.block < B → w'.heap[p.block]? = w.heap[p.block]?) : Rcs w' B' A n L := by
  refine ⟨h.len, ⟨fun j u hj => ?_⟩, h.ok⟩
  obtain ⟨p, e, hb, hc⟩ := h.lies.get j u hj
  have hL : L ≠ [] := fun e => by subst e; simp [rcells] at hj
  exact ⟨p, e, by omega, (World.cell?_of_block (a := p.add j) (by rw [add_block]; exact hk p e hL hb)).trans hc⟩
structure Ml (w wr : World) (v : Value) (M : List BA) : Prop where
  own : wr.ownsRow w.heap.size 24 7 v M.length (bcells M)
  each : ∀ x ∈ M, Rcs wr wr.heap.size x.A x.b.L.length x.b.L ∧ x.b.L.length ≤ 80 ∧ x.b.L.length ≤ x.c ∧ x.c ≤ maxLen
  far : ∀ x ∈ M, x.b.L ≠ [] → ∀ p, x.A = some p → v.ownBlock ≠ some p.block
  bel : Below w.heap.size w wr
theorem Ml.nil_ (w : World) : Ml w w (.slice none 0 0) [] := ⟨World.ownsRow_nil _ _ _ _, (fun x h => by cases h), (fun x h => by cases h), Below.refl _ _⟩
section
variable {w wr w' wb : World} {v v' : Value} {M : List BA}
theorem rowbM {base s n : Nat} {e : TypeId} {v : Value} {xs : List Value} (h : wr.ownsRow base e s v n xs) (hb : Below wr.heap.size wr w') : w'.ownsRow base e s v n xs := by
  refine ⟨h.1, ?_⟩
  rcases h.2 with h2 | ⟨b, cap, cur, hv, hb', hh, r⟩
  · exact .inl h2
  · exact .inr ⟨b, cap, cur, hv, hb', (hb.block b (Array.getElem?_eq_some_iff.1 hh).1).trans hh, r⟩
theorem Ml.below (h : Ml w wr v M) (hb : Below wr.heap.size wr w') : Ml w w' v M :=
  ⟨rowbM h.own hb, fun x hx => ⟨((h.each x hx).1.below hb).wider hb.size, (h.each x hx).2⟩, h.far, h.bel.trans (hb.mono h.bel.size)⟩
theorem Ml.bas (h : Ml w wr v M) : ∃ A c, v = .slice A M.length c ∧ M.length ≤ c ∧ c ≤ maxLen ∧ Bas wr wr.heap.size A M.length M := by
  have he : ∀ k, k < M.length → M.getD k default ∈ M := fun k hk => by rw [List.getD_eq_getElem?_getD, List.getElem?_eq_getElem hk]; exact List.getElem_mem _
  have h0 := h.own
  rcases h.own.2 with ⟨rfl, hz⟩ | ⟨b, cap, cur, rfl, hb, hh, hnc, hm, _⟩
  · have : M = [] := List.length_eq_zero_iff.1 hz
    subst this
    exact ⟨none, 0, rfl, Nat.le_refl _, Nat.zero_le _, Bas.nil_⟩
  · exact ⟨_, cap, rfl, hnc, hm, rfl, ⟨fun j u hj => ⟨_, rfl, (Array.getElem?_eq_some_iff.1 hh).1, h0.cells (g := b) rfl j u hj⟩⟩, fun k hk => h.each _ (he k hk)⟩
theorem Ml.push {x : BA} (h : Ml w wr v M) (hx : Rcs wr wr.heap.size x.A x.b.L.length x.b.L ∧ x.b.L.length ≤ 80 ∧ x.b.L.length ≤ x.c ∧ x.c ≤ maxLen) (hf : x.b.L ≠ [] → ∀ p, x.A = some p → v.ownBlock ≠ some p.block)
    (ho : wb.ownsRow w.heap.size 24 7 v' (M.length + 1) (bcells M ++ x.cells)) (hg : wr.grownBy wb v.ownBlock) (hat : v'.ownBlock = v.ownBlock ∨ v'.ownBlock = some wr.heap.size) : Ml w wb v' (M ++ [x]) := by
  have keep : ∀ y : BA, Rcs wr wr.heap.size y.A y.b.L.length y.b.L → (y.b.L ≠ [] → ∀ p, y.A = some p → v.ownBlock ≠ some p.block) → Rcs wb wb.heap.size y.A y.b.L.length y.b.L := fun y h1 h2 =>
    h1.stay hg.size fun p hp hL hb => hg.block p.block hb (fun e => h2 hL p hp e.symm)
  have fr : ∀ y : BA, Rcs wr wr.heap.size y.A y.b.L.length y.b.L → (y.b.L ≠ [] → ∀ p, y.A = some p → v.ownBlock ≠ some p.block) → (y.b.L ≠ [] → ∀ p, y.A = some p → v'.ownBlock ≠ some p.block) := fun y h1 h2 hL p hp => by
    rcases hat with e | e
    · rw [e]; exact h2 hL p hp
    · rw [e]
      intro e2
      injection e2 with e2
      have hpos : 0 < y.b.L.length := List.length_pos_iff.2 hL
      obtain ⟨p', e', hb, _⟩ := h1.row (k := 0) hpos
      rw [hp] at e'
      injection e' with e'
      subst e'
      omega
  refine ⟨?_, fun y hy => ?_, fun y hy => ?_, h.bel.trans ((Below.refl _ _).grown hg h.bel.size (fun k hk => (World.ownsRow.lt h.own k hk).1))⟩
  · rw [bcells_append, List.length_append]; simpa [bcells] using ho
  · rcases List.mem_append.1 hy with hy | hy
    · exact ⟨keep y (h.each y hy).1 (h.far y hy), (h.each y hy).2⟩
    · simp at hy; subst hy; exact ⟨keep y hx.1 hf, hx.2⟩
  · rcases List.mem_append.1 hy with hy | hy
    · exact fr y (h.each y hy).1 (h.far y hy)
    · simp at hy; subst hy; exact fr y hx.1 hf
end
/-- a slice of batches that came in -/
structure Bai (w : World) (B : Nat) (A : Option Addr) (n : Nat) (M : List BA) : Prop where
  len : M.length = n
  lies : Lies w B A (bcells M)
  each : ∀ k, k < n → Rcs w B (M.getD k default).A (M.getD k default).b.L.length (M.getD k default).b.L ∧ (M.getD k default).b.L.length ≤ (M.getD k default).c ∧ (M.getD k default).c ≤ maxLen
theorem Bai.below {w w' : World} {B n : Nat} {A : Option Addr} {M : List BA} (h : Bai w B A n M) (hb : Below B w w') : Bai w' B A n M := ⟨h.len, h.lies.keep fun _ hp => hb.cell hp, fun k hk => ⟨(h.each k hk).1.below hb, (h.each k hk).2⟩⟩
theorem Bai.row {w : World} {B n : Nat} {A : Option Addr} {M : List BA} {k : Nat} (h : Bai w B A n M) (hk : k < n) : ∃ p, A = some p ∧ p.block < B ∧ w.cell? (p.add (k * 7)) = some (.int .i64 (M.getD k default).b.base) ∧
    w.cell? ⟨(p.add (k * 7)).block, (p.add (k * 7)).off + 1, none⟩ = some (.int .i64 (M.getD k default).b.pid) ∧
    w.cell? ⟨(p.add (k * 7)).block, (p.add (k * 7)).off + 2, none⟩ = some (.int .i64 (M.getD k default).b.epoch) ∧
    w.cell? ⟨(p.add (k * 7)).block, (p.add (k * 7)).off + 3, none⟩ = some (.int .i64 (M.getD k default).b.seq) ∧
    w.cell? ⟨(p.add (k * 7)).block, (p.add (k * 7)).off + 4, none⟩ = some (.int .i64 (M.getD k default).b.kind) ∧
    w.cell? ⟨(p.add (k * 7)).block, (p.add (k * 7)).off + 5, none⟩ = some (.int .i64 (M.getD k default).b.time) ∧
    w.cell? ⟨(p.add (k * 7)).block, (p.add (k * 7)).off + 6, none⟩ = some (.slice (M.getD k default).A (M.getD k default).b.L.length (M.getD k default).c) := by
  have hl := h.len
  have g : ∀ j u, j < 7 → ((M.getD k default).cells)[j]? = some u → ∃ p, A = some p ∧ p.block < B ∧ w.cell? ((p.add (k * 7)).add j) = some u := by
    intro j u hj hu
    obtain ⟨p, e, hb, hc⟩ := h.lies.get (k * 7 + j) u ((bcells_get M k j (by omega) hj).trans hu)
    exact ⟨p, e, hb, by rw [add_twice]; exact hc⟩
  obtain ⟨p, e, hb, c0⟩ := g 0 _ (by omega) rfl
  have g' : ∀ j u, 0 < j → j < 7 → ((M.getD k default).cells)[j]? = some u → w.cell? ⟨(p.add (k * 7)).block, (p.add (k * 7)).off + j, none⟩ = some u := fun j u h0 hj hu => by
    obtain ⟨q, e', _, c⟩ := g j u hj hu
    rw [e] at e'
    injection e' with e'
    subst e'
    rw [← add_pos' _ j h0]; exact c
  refine ⟨p, e, hb, ?_, g' 1 _ (by omega) (by omega) rfl, g' 2 _ (by omega) (by omega) rfl, g' 3 _ (by omega) (by omega) rfl, g' 4 _ (by omega) (by omega) rfl, g' 5 _ (by omega) (by omega) rfl, g' 6 _ (by omega) (by omega) rfl⟩
  rw [add_twice, Nat.add_zero] at c0; exact c0
structure Bbs (w : World) (B : Nat) (A : Option Addr) (n : Nat) (L : List Bool) : Prop where
  len : L.length = n
  row : ∀ k, k < n → ∃ p, A = some p ∧ p.block < B ∧ w.cell? (p.add k) = some (.bool (L.getD k false))
theorem Bbs.below {w w' : World} {B n : Nat} {A : Option Addr} {L : List Bool} (h : Bbs w B A n L) (hb : Below B w w') : Bbs w' B A n L :=
  ⟨h.len, fun k hk => by
    obtain ⟨p, e, hp, hc⟩ := h.row k hk
    exact ⟨p, e, hp, (hb.cell (by rw [add_block]; exact hp)).trans hc⟩⟩
end Go.Proofs.Ytkdpfajoeajenaa
