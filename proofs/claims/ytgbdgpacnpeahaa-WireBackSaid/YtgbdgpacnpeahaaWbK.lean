/-
  Items that are kept in a slice of the call's own, beside bytes that grow.
-/
import Derived.Test.YtgbdgpacnpeahaaItemC
import Derived.Test.YtgbdgpacnpeahaaRows3
namespace Go.Proofs.Ytgbdgpacnpeahaa
open Go.RowKit
set_option linter.unusedVariables false
set_option linter.unusedSimpArgs false

/-- an item, and where its lists lie -/
structure KI where
  x : Item
  LA : Option Addr
  lc : Nat
  IA : Option Addr
  ic : Nat
instance : Inhabited KI := ⟨⟨default, none, 0, none, 0⟩⟩
def KI.cells (y : KI) : List Value := [.int .i64 y.x.kind, .int .u64 (y.x.u : Int), .int .i64 y.x.n, .int .i64 y.x.m, .string y.x.s, .bool y.x.on, .slice y.LA y.x.L.length y.lc, .slice y.IA y.x.I.length y.ic]
def kcells (L : List KI) : List Value := L.flatMap KI.cells
theorem kcells_length (L : List KI) : (kcells L).length = L.length * 8 := by
  induction L with
  | nil => rfl
  | cons r L ih => simp only [kcells, List.flatMap_cons, List.length_append, List.length_cons] at *; rw [ih]; simp only [KI.cells, List.length_cons, List.length_nil]; omega
theorem kcells_append (L M : List KI) : kcells (L ++ M) = kcells L ++ kcells M := by simp [kcells]
theorem kcells_get (L : List KI) : ∀ (k j : Nat), k < L.length → j < 8 → (kcells L)[k * 8 + j]? = ((L.getD k default).cells)[j]? := by
  induction L with
  | nil => intro k j h; exact absurd h (by simp)
  | cons r L ih =>
    intro k j h hj
    have e : kcells (r :: L) = r.cells ++ kcells L := by simp [kcells]
    have hl : r.cells.length = 8 := rfl
    rw [e]
    cases k with
    | zero => rw [List.getElem?_append_left (by omega)]; simp
    | succ k =>
      rw [List.getElem?_append_right (by omega), show (k + 1) * 8 + j - r.cells.length = k * 8 + j from by omega, ih k j (by simpa using h) hj]
      simp
theorem add_zeroK (p : Addr) : p.add 0 = p := by simp [Addr.add]
theorem kcells_one (L : List KI) : ∀ u ∈ kcells L, u.oneCell' = true := fun u hu => by
  obtain ⟨y, _, hy⟩ := List.mem_flatMap.1 hu
  simp only [KI.cells, List.mem_cons, List.not_mem_nil, or_false] at hy
  rcases hy with rfl | rfl | rfl | rfl | rfl | rfl | rfl | rfl <;> rfl

/-- a kept item's lists lie in memory, in none of the blocks F; it was told by at most 10000 bytes -/
structure Kin (w : World) (F : List (Option Nat)) (y : KI) : Prop where
  ok : y.x.ok
  l : Lies w w.heap.size y.LA (y.x.L.map .string)
  l1 : y.x.L.length ≤ y.lc
  l2 : y.lc ≤ maxLen
  i : Is w w.heap.size y.IA y.x.I.length y.x.I
  i1 : y.x.I.length ≤ y.ic
  i2 : y.ic ≤ maxLen
  lf : ∀ p, y.LA = some p → y.x.L ≠ [] → ∀ f ∈ F, f ≠ some p.block
  jf : ∀ p, y.IA = some p → y.x.I ≠ [] → ∀ f ∈ F, f ≠ some p.block
  s : y.x.s.size ≤ 300
  ls : ∀ s ∈ y.x.L, s.size ≤ 60
  ln : y.x.L.length ≤ 12
  jn : y.x.I.length ≤ 20
  t : ∃ b, toldS y.x = some b ∧ b.length ≤ 10000
section
variable {w w' : World} {F F' : List (Option Nat)} {y : KI} {base : Nat} {v v' vb vb' : Value} {L : List KI}
theorem far_new {w : World} {F F' : List (Option Nat)} {b : Nat} (hb : b < w.heap.size) (h : ∀ f ∈ F, f ≠ some b) (hF' : ∀ f ∈ F', f ∈ F ∨ f = none ∨ ∃ b, f = some b ∧ w.heap.size ≤ b) : ∀ f ∈ F', f ≠ some b := fun f hf => by
  rcases hF' f hf with e | e | ⟨x, e, hx⟩
  · exact h f e
  · rw [e]; simp
  · rw [e]
    intro h2
    injection h2 with h2
    omega
theorem Kin.grow {g : Option Nat} (h : Kin w F y) (hg : w.grownBy w' g) (hF : g = none ∨ g ∈ F) (hF' : ∀ f ∈ F', f ∈ F ∨ f = none ∨ ∃ b, f = some b ∧ w.heap.size ≤ b) : Kin w' F' y := by
  have hne : ∀ b, (∀ f ∈ F, f ≠ some b) → (some b : Option Nat) ≠ g := fun b hb e => by
    rcases hF with e2 | e2
    · rw [e2] at e; cases e
    · exact hb g e2 e.symm
  have hL : Lies w' w'.heap.size y.LA (y.x.L.map .string) ∧ (∀ p, y.LA = some p → y.x.L ≠ [] → ∀ f ∈ F', f ≠ some p.block) := by
    cases hx : y.x.L with
    | nil => exact ⟨Lies.empty, fun p _ h => absurd rfl h⟩
    | cons s r =>
      obtain ⟨p, e, hb, _⟩ := h.l.get 0 (.string s) (by rw [hx]; rfl)
      have hfp := h.lf p e (by rw [hx]; simp)
      refine ⟨?_, fun q hq _ => ?_⟩
      · rw [← hx]
        exact (h.l.far fun q hq i => by
          rw [e] at hq
          injection hq with hq
          subst hq
          exact World.cell?_of_block (hg.block _ (by rw [add_block]; exact hb) (by rw [add_block]; exact hne _ hfp))).wider hg.size
      · rw [e] at hq
        injection hq with hq
        subst hq
        exact far_new hb hfp hF'
  have hI : Is w' w'.heap.size y.IA y.x.I.length y.x.I ∧ (∀ p, y.IA = some p → y.x.I ≠ [] → ∀ f ∈ F', f ≠ some p.block) := by
    by_cases hx : y.x.I = []
    · rw [hx]
      exact ⟨⟨rfl, fun k hk => absurd hk (by simp)⟩, fun p _ h => absurd rfl h⟩
    · have hpos : 0 < y.x.I.length := List.length_pos_iff.2 hx
      obtain ⟨p, e, hb, _⟩ := h.i.row 0 hpos
      have hfp := h.jf p e hx
      refine ⟨⟨h.i.len, fun k hk => ?_⟩, fun q hq _ => ?_⟩
      · obtain ⟨q, hq, hqb, hc, hr⟩ := h.i.row k hk
        rw [e] at hq
        injection hq with hq
        subst hq
        exact ⟨p, e, Nat.lt_of_lt_of_le hqb hg.size, (World.cell?_of_block (hg.block _ (by rw [add_block]; exact hb) (by rw [add_block]; exact hne _ hfp))).trans hc, hr⟩
      · rw [e] at hq
        injection hq with hq
        subst hq
        exact far_new hb hfp hF'
  exact ⟨h.ok, hL.1, h.l1, h.l2, hI.1, h.i1, h.i2, hL.2, hI.2, h.s, h.ls, h.ln, h.jn, h.t⟩
theorem Kin.below {B : Nat} (h : Kin w F y) (hb : Below B w w') (hB : w.heap.size ≤ B) : Kin w' F y :=
  h.grow (g := none) ⟨hb.os, hb.tape, hb.output, hb.size, fun k hk _ => hb.block k (by omega)⟩ (.inl rfl) fun f hf => .inl hf

/-- v is a slice of the call's own; its items are L; none of their lists lies in v's block or in vb's -/
structure OwnK (w : World) (base : Nat) (v vb : Value) (L : List KI) : Prop where
  own : w.ownsRow base 28 8 v L.length (kcells L)
  ins : ∀ y ∈ L, Kin w [v.ownBlock, vb.ownBlock] y
theorem OwnK.nil_ (w : World) (base : Nat) (vb : Value) : OwnK w base (.slice none 0 0) vb [] := ⟨World.ownsRow_nil _ _ _ _, fun y hy => absurd hy (by simp)⟩
theorem OwnK.below {B : Nat} (h : OwnK w base v vb L) (hb : Below B w w') (hB : w.heap.size ≤ B) : OwnK w' base v vb L :=
  ⟨row_below' h.own hb hB, fun y hy => (h.ins y hy).below hb hB⟩
theorem OwnK.alloc (h : OwnK w base v vb L) (o : Obj) : OwnK (w.alloc o) base v vb L := h.below ((Below.refl _ _).alloc (Nat.le_refl _) o) (Nat.le_refl _)
theorem OwnK.lt (h : OwnK w base v vb L) : ∀ k, v.ownBlock = some k → base ≤ k ∧ k < w.heap.size := World.ownsRow.lt h.own
/-- the other one grows -/
theorem OwnK.grow (h : OwnK w base v vb L) (hg : w.grownBy w' vb.ownBlock) (hat : vb'.ownBlock = vb.ownBlock ∨ vb'.ownBlock = some w.heap.size) (hne : v.ownBlock = none ∨ v.ownBlock ≠ vb.ownBlock) : OwnK w' base v vb' L := by
  refine ⟨h.own.kept hg hne, fun y hy => (h.ins y hy).grow hg (.inr (by simp)) fun f hf => ?_⟩
  simp only [List.mem_cons, List.not_mem_nil, or_false] at hf
  rcases hf with rfl | rfl
  · exact .inl (by simp)
  · rcases hat with e | e
    · rw [e]; exact .inl (by simp)
    · exact .inr (.inr ⟨_, e, Nat.le_refl _⟩)
/-- an item is appended -/
theorem OwnK.push (h : OwnK w base v vb L) (hy : Kin w [v.ownBlock, vb.ownBlock] y) (hown' : w'.ownsRow base 28 8 v' (L.length + 1) (kcells L ++ y.cells)) (hg : w.grownBy w' v.ownBlock) (hat : v'.ownBlock = v.ownBlock ∨ v'.ownBlock = some w.heap.size) : OwnK w' base v' vb (L ++ [y]) := by
  have keep : ∀ {z : KI}, Kin w [v.ownBlock, vb.ownBlock] z → Kin w' [v'.ownBlock, vb.ownBlock] z := fun hr => by
    refine hr.grow hg (.inr (by simp)) fun f hf => ?_
    simp only [List.mem_cons, List.not_mem_nil, or_false] at hf
    rcases hf with rfl | rfl
    · rcases hat with e | e
      · rw [e]; exact .inl (by simp)
      · exact .inr (.inr ⟨_, e, Nat.le_refl _⟩)
    · exact .inl (by simp)
  refine ⟨?_, fun z hz => ?_⟩
  · rw [List.length_append, List.length_singleton, kcells_append]
    have e : kcells [y] = y.cells := by simp [kcells]
    rw [e]
    exact hown'
  · rcases List.mem_append.1 hz with hz | hz
    · exact keep (h.ins z hz)
    · rw [List.mem_singleton] at hz
      subst hz
      exact keep hy
/-- the items in memory, as those that came in -/
theorem OwnK.its (h : OwnK w base v vb L) : ∃ A c, v = .slice A L.length c ∧ L.length ≤ c ∧ c ≤ maxLen ∧ ∀ k, k < L.length → ∃ p, A = some p ∧ ItAt w w.heap.size (p.add (k * 8)) (L.getD k default).x (L.getD k default).LA (L.getD k default).lc (L.getD k default).IA (L.getD k default).ic := by
  have h0 := h.own
  rcases h.own.2 with ⟨rfl, hz⟩ | ⟨b, cap, cur, rfl, hb, hh, hnc, hm, _⟩
  · exact ⟨none, 0, by rw [hz], by omega, Nat.zero_le _, fun k hk => absurd hk (by omega)⟩
  · refine ⟨_, cap, rfl, hnc, hm, fun k hk => ⟨_, rfl, ?_⟩⟩
    have hc : ∀ j u, j < 8 → ((L.getD k default).cells)[j]? = some u → w.cell? (((⟨b, 0, none⟩ : Addr).add (k * 8)).add j) = some u := fun j u hj hu => by
      rw [add_twice]
      exact h0.cells (g := b) rfl _ u ((kcells_get L k j hk hj).trans hu)
    have hin := h.ins (L.getD k default) (by
      rw [List.getD_eq_getElem?_getD, List.getElem?_eq_getElem hk]
      exact List.getElem_mem hk)
    have c0 := hc 0 _ (by omega) rfl
    rw [add_zeroK] at c0
    exact ⟨by rw [add_block]; exact (Array.getElem?_eq_some_iff.1 hh).1, c0, hc 1 _ (by omega) rfl, hc 2 _ (by omega) rfl, hc 3 _ (by omega) rfl, hc 4 _ (by omega) rfl, hc 5 _ (by omega) rfl, hc 6 _ (by omega) rfl, hc 7 _ (by omega) rfl, hin.ok, hin.l, hin.l1, hin.l2, hin.i, hin.i1, hin.i2⟩
end
end Go.Proofs.Ytgbdgpacnpeahaa
