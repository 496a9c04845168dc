/-
  A batch of noughts.
  A slice of batches in memory.
  A slice of batches of the call's own, each with records of its own, that grows.
  The records of batches at their offsets; two records that are the same, compared.
-/
import Derived.Test.YtkdpfajoeajenaaRecA
import Derived.Test.YtkdpfajoeajenaaRecC
import Derived.BigRegion
import Derived.Test.YtkdpfajoeajenaaCpA
import Derived.Laws.StructEq
namespace Go.Proofs.Ytkdpfajoeajenaa
open Go.RowKit
set_option linter.unusedVariables false
set_option linter.unusedSimpArgs false

def zB : Bat := ⟨0, 0, 0, 0, 0, 0, []⟩
end Go.Proofs.Ytkdpfajoeajenaa
namespace Go.Proofs.Ytkdpfajoeajenaa
open Go.RowKit
set_option linter.unusedVariables false
set_option linter.unusedSimpArgs false

/-- a batch, and where its records lie -/
structure BA where
  b : Bat
  A : Option Addr
  c : Nat
instance : Inhabited BA := ⟨⟨zB, none, 0⟩⟩
def BA.cells (x : BA) : List Value := (x.b.cells x.A x.c).toList
def bcells (M : List BA) : List Value := M.flatMap BA.cells
theorem bcells_length (M : List BA) : (bcells M).length = M.length * 7 := by
  induction M with
  | nil => rfl
  | cons r L ih => simp only [bcells, List.flatMap_cons, List.length_append, List.length_cons] at *; rw [ih]; simp only [BA.cells, Bat.cells, List.length_cons, List.length_nil]; omega
theorem bcells_append (L M : List BA) : bcells (L ++ M) = bcells L ++ bcells M := by simp [bcells]
theorem bcells_get (L : List BA) : ∀ (k j : Nat), k < L.length → j < 7 → (bcells L)[k * 7 + j]? = ((L.getD k default).cells)[j]? := by
  induction L with
  | nil => intro k j h; exact absurd h (by simp)
  | cons r L ih =>
    intro k j h hj
    have e : bcells (r :: L) = r.cells ++ bcells L := by simp [bcells]
    have hl : r.cells.length = 7 := rfl
    rw [e]
    cases k with
    | zero => rw [List.getElem?_append_left (by omega)]; simp
    | succ k =>
      rw [List.getElem?_append_right (by omega), show (k + 1) * 7 + j - r.cells.length = k * 7 + j from by omega, ih k j (by simpa using h) hj]
      simp
/-- '.slice A n c' is a slice of batches -/
structure Bas (w : World) (B : Nat) (A : Option Addr) (n : Nat) (M : List BA) : Prop where
  len : M.length = n
  lies : Lies w B A (bcells M)
  each : ∀ k, k < n → Rcs w B (M.getD k default).A (M.getD k default).b.L.length (M.getD k default).b.L ∧ (M.getD k default).b.L.length ≤ 80 ∧ (M.getD k default).b.L.length ≤ (M.getD k default).c ∧ (M.getD k default).c ≤ maxLen
section
variable {w w' : World} {B B' n : Nat} {A : Option Addr} {M : List BA}
theorem Bas.nil_ : Bas w B A 0 [] := ⟨rfl, Lies.empty, fun k h => absurd h (by omega)⟩
theorem Bas.below (h : Bas w B A n M) (hb : Below B w w') : Bas w' B A n M := ⟨h.len, h.lies.keep fun _ hp => hb.cell hp, fun k hk => ⟨(h.each k hk).1.below hb, (h.each k hk).2⟩⟩
theorem Bas.wider (h : Bas w B A n M) (hB : B ≤ B') : Bas w B' A n M := ⟨h.len, h.lies.wider hB, fun k hk => ⟨(h.each k hk).1.wider hB, (h.each k hk).2⟩⟩
/-- a batch's cells -/
theorem Bas.row {k : Nat} (h : Bas w B A n M) (hk : k < n) : ∃ p, A = some p ∧ p.block < B ∧ w.cell? (p.add (k * 7)) = some (.int .i64 (M.getD k default).b.base) ∧
    w.cell? ⟨(p.add (k * 7)).block, (p.add (k * 7)).off + 1, none⟩ = some (.int .i64 (M.getD k default).b.pid) ∧
    w.cell? ⟨(p.add (k * 7)).block, (p.add (k * 7)).off + 2, none⟩ = some (.int .i64 (M.getD k default).b.epoch) ∧
    w.cell? ⟨(p.add (k * 7)).block, (p.add (k * 7)).off + 3, none⟩ = some (.int .i64 (M.getD k default).b.seq) ∧
    w.cell? ⟨(p.add (k * 7)).block, (p.add (k * 7)).off + 4, none⟩ = some (.int .i64 (M.getD k default).b.kind) ∧
    w.cell? ⟨(p.add (k * 7)).block, (p.add (k * 7)).off + 5, none⟩ = some (.int .i64 (M.getD k default).b.time) ∧
    w.cell? ⟨(p.add (k * 7)).block, (p.add (k * 7)).off + 6, none⟩ = some (.slice (M.getD k default).A (M.getD k default).b.L.length (M.getD k default).c) := by
  have hl := h.len
  have g : ∀ j u, j < 7 → ((M.getD k default).cells)[j]? = some u → ∃ p, A = some p ∧ p.block < B ∧ w.cell? ((p.add (k * 7)).add j) = some u := by
    intro j u hj hu
    obtain ⟨p, e, hb, hc⟩ := h.lies.get (k * 7 + j) u ((bcells_get M k j (by omega) hj).trans hu)
    exact ⟨p, e, hb, by rw [add_twice]; exact hc⟩
  obtain ⟨p, e, hb, c0⟩ := g 0 _ (by omega) rfl
  have g' : ∀ j u, 0 < j → j < 7 → ((M.getD k default).cells)[j]? = some u → w.cell? ⟨(p.add (k * 7)).block, (p.add (k * 7)).off + j, none⟩ = some u := fun j u h0 hj hu => by
    obtain ⟨q, e', _, c⟩ := g j u hj hu
    rw [e] at e'
    injection e' with e'
    subst e'
    rw [← add_pos' _ j h0]; exact c
  refine ⟨p, e, hb, ?_, g' 1 _ (by omega) (by omega) rfl, g' 2 _ (by omega) (by omega) rfl, g' 3 _ (by omega) (by omega) rfl, g' 4 _ (by omega) (by omega) rfl, g' 5 _ (by omega) (by omega) rfl, g' 6 _ (by omega) (by omega) rfl⟩
  rw [add_twice, Nat.add_zero] at c0; exact c0
end

/-- the first batch that may not be -/
def badE : List Bat → Int
  | [] => 0
  | b :: l => if validE b = 0 then badE l else validE b
def catL (l : List Bat) : List Rec := l.flatMap Bat.L
theorem badE_at : ∀ (l : List Bat) (k : Nat), k < l.length → (∀ j, j < k → validE (l.getD j zB) = 0) → validE (l.getD k zB) ≠ 0 → badE l = validE (l.getD k zB) := by
  intro l
  induction l with
  | nil => intro k h; simp at h
  | cons b l ih =>
    intro k hk hj hv
    unfold badE
    cases k with
    | zero => rw [if_neg (by simpa using hv)]; rfl
    | succ k =>
      rw [if_pos (by simpa using hj 0 (by omega))]
      have := ih k (by simpa using hk) (fun j hj2 => by simpa using hj (j + 1) (by omega)) (by simpa using hv)
      simpa using this
theorem badE_all : ∀ (l : List Bat), (∀ j, j < l.length → validE (l.getD j zB) = 0) → badE l = 0 := by
  intro l
  induction l with
  | nil => intro _; rfl
  | cons b l ih =>
    intro h
    unfold badE
    rw [if_pos (by simpa using h 0 (by simp))]
    exact ih fun j hj => by simpa using h (j + 1) (by simp; omega)
theorem catL_take (l : List Bat) (k : Nat) (h : k < l.length) : catL (l.take (k + 1)) = catL (l.take k) ++ (l.getD k zB).L := by
  unfold catL
  rw [List.take_succ_eq_append_getElem h, List.flatMap_append, List.getD_eq_getElem?_getD, List.getElem?_eq_getElem h]
  simp
end Go.Proofs.Ytkdpfajoeajenaa
namespace Go.Proofs.Ytkdpfajoeajenaa
open Go.RowKit
set_option linter.unusedVariables false
set_option linter.unusedSimpArgs false

theorem Rcs.stay {w w' : World} {B B' n : Nat} {A : Option Addr} {L : List Rec} (h : Rcs w B A n L) (hB : B ≤ B') (hk : ∀ p, A = some p → L ≠ [] → p.block < B → w'.heap[p.block]? = w.heap[p.block]?) : Rcs w' B' A n L := by
  refine ⟨h.len, ⟨fun j u hj => ?_⟩, h.ok⟩
  obtain ⟨p, e, hb, hc⟩ := h.lies.get j u hj
  have hL : L ≠ [] := fun e => by subst e; simp [rcells] at hj
  exact ⟨p, e, by omega, (World.cell?_of_block (a := p.add j) (by rw [add_block]; exact hk p e hL hb)).trans hc⟩
structure Ml (w wr : World) (v : Value) (M : List BA) : Prop where
  own : wr.ownsRow w.heap.size 24 7 v M.length (bcells M)
  each : ∀ x ∈ M, Rcs wr wr.heap.size x.A x.b.L.length x.b.L ∧ x.b.L.length ≤ 80 ∧ x.b.L.length ≤ x.c ∧ x.c ≤ maxLen
  far : ∀ x ∈ M, x.b.L ≠ [] → ∀ p, x.A = some p → v.ownBlock ≠ some p.block
  bel : Below w.heap.size w wr
theorem Ml.nil_ (w : World) : Ml w w (.slice none 0 0) [] := ⟨World.ownsRow_nil _ _ _ _, (fun x h => by cases h), (fun x h => by cases h), Below.refl _ _⟩
section
variable {w wr w' wb : World} {v v' : Value} {M : List BA}
theorem rowbM {base s n : Nat} {e : TypeId} {v : Value} {xs : List Value} (h : wr.ownsRow base e s v n xs) (hb : Below wr.heap.size wr w') : w'.ownsRow base e s v n xs := by
  refine ⟨h.1, ?_⟩
  rcases h.2 with h2 | ⟨b, cap, cur, hv, hb', hh, r⟩
  · exact .inl h2
  · exact .inr ⟨b, cap, cur, hv, hb', (hb.block b (Array.getElem?_eq_some_iff.1 hh).1).trans hh, r⟩
theorem Ml.below (h : Ml w wr v M) (hb : Below wr.heap.size wr w') : Ml w w' v M :=
  ⟨rowbM h.own hb, fun x hx => ⟨((h.each x hx).1.below hb).wider hb.size, (h.each x hx).2⟩, h.far, h.bel.trans (hb.mono h.bel.size)⟩
theorem Ml.bas (h : Ml w wr v M) : ∃ A c, v = .slice A M.length c ∧ M.length ≤ c ∧ c ≤ maxLen ∧ Bas wr wr.heap.size A M.length M := by
  have he : ∀ k, k < M.length → M.getD k default ∈ M := fun k hk => by rw [List.getD_eq_getElem?_getD, List.getElem?_eq_getElem hk]; exact List.getElem_mem _
  have h0 := h.own
  rcases h.own.2 with ⟨rfl, hz⟩ | ⟨b, cap, cur, rfl, hb, hh, hnc, hm, _⟩
  · have : M = [] := List.length_eq_zero_iff.1 hz
    subst this
    exact ⟨none, 0, rfl, Nat.le_refl _, Nat.zero_le _, Bas.nil_⟩
  · exact ⟨_, cap, rfl, hnc, hm, rfl, ⟨fun j u hj => ⟨_, rfl, (Array.getElem?_eq_some_iff.1 hh).1, h0.cells (g := b) rfl j u hj⟩⟩, fun k hk => h.each _ (he k hk)⟩
theorem Ml.push {x : BA} (h : Ml w wr v M) (hx : Rcs wr wr.heap.size x.A x.b.L.length x.b.L ∧ x.b.L.length ≤ 80 ∧ x.b.L.length ≤ x.c ∧ x.c ≤ maxLen) (hf : x.b.L ≠ [] → ∀ p, x.A = some p → v.ownBlock ≠ some p.block)
    (ho : wb.ownsRow w.heap.size 24 7 v' (M.length + 1) (bcells M ++ x.cells)) (hg : wr.grownBy wb v.ownBlock) (hat : v'.ownBlock = v.ownBlock ∨ v'.ownBlock = some wr.heap.size) : Ml w wb v' (M ++ [x]) := by
  have keep : ∀ y : BA, Rcs wr wr.heap.size y.A y.b.L.length y.b.L → (y.b.L ≠ [] → ∀ p, y.A = some p → v.ownBlock ≠ some p.block) → Rcs wb wb.heap.size y.A y.b.L.length y.b.L := fun y h1 h2 =>
    h1.stay hg.size fun p hp hL hb => hg.block p.block hb (fun e => h2 hL p hp e.symm)
  have fr : ∀ y : BA, Rcs wr wr.heap.size y.A y.b.L.length y.b.L → (y.b.L ≠ [] → ∀ p, y.A = some p → v.ownBlock ≠ some p.block) → (y.b.L ≠ [] → ∀ p, y.A = some p → v'.ownBlock ≠ some p.block) := fun y h1 h2 hL p hp => by
    rcases hat with e | e
    · rw [e]; exact h2 hL p hp
    · rw [e]
      intro e2
      injection e2 with e2
      have hpos : 0 < y.b.L.length := List.length_pos_iff.2 hL
      obtain ⟨p', e', hb, _⟩ := h1.row (k := 0) hpos
      rw [hp] at e'
      injection e' with e'
      subst e'
      omega
  refine ⟨?_, fun y hy => ?_, fun y hy => ?_, h.bel.trans ((Below.refl _ _).grown hg h.bel.size (fun k hk => (World.ownsRow.lt h.own k hk).1))⟩
  · rw [bcells_append, List.length_append]; simpa [bcells] using ho
  · rcases List.mem_append.1 hy with hy | hy
    · exact ⟨keep y (h.each y hy).1 (h.far y hy), (h.each y hy).2⟩
    · simp at hy; subst hy; exact ⟨keep y hx.1 hf, hx.2⟩
  · rcases List.mem_append.1 hy with hy | hy
    · exact fr y (h.each y hy).1 (h.far y hy)
    · simp at hy; subst hy; exact fr y hx.1 hf
end
/-- a slice of batches that came in -/
structure Bai (w : World) (B : Nat) (A : Option Addr) (n : Nat) (M : List BA) : Prop where
  len : M.length = n
  lies : Lies w B A (bcells M)
  each : ∀ k, k < n → Rcs w B (M.getD k default).A (M.getD k default).b.L.length (M.getD k default).b.L ∧ (M.getD k default).b.L.length ≤ (M.getD k default).c ∧ (M.getD k default).c ≤ maxLen
theorem Bai.below {w w' : World} {B n : Nat} {A : Option Addr} {M : List BA} (h : Bai w B A n M) (hb : Below B w w') : Bai w' B A n M := ⟨h.len, h.lies.keep fun _ hp => hb.cell hp, fun k hk => ⟨(h.each k hk).1.below hb, (h.each k hk).2⟩⟩
theorem Bai.row {w : World} {B n : Nat} {A : Option Addr} {M : List BA} {k : Nat} (h : Bai w B A n M) (hk : k < n) : ∃ p, A = some p ∧ p.block < B ∧ w.cell? (p.add (k * 7)) = some (.int .i64 (M.getD k default).b.base) ∧
    w.cell? ⟨(p.add (k * 7)).block, (p.add (k * 7)).off + 1, none⟩ = some (.int .i64 (M.getD k default).b.pid) ∧
    w.cell? ⟨(p.add (k * 7)).block, (p.add (k * 7)).off + 2, none⟩ = some (.int .i64 (M.getD k default).b.epoch) ∧
    w.cell? ⟨(p.add (k * 7)).block, (p.add (k * 7)).off + 3, none⟩ = some (.int .i64 (M.getD k default).b.seq) ∧
    w.cell? ⟨(p.add (k * 7)).block, (p.add (k * 7)).off + 4, none⟩ = some (.int .i64 (M.getD k default).b.kind) ∧
    w.cell? ⟨(p.add (k * 7)).block, (p.add (k * 7)).off + 5, none⟩ = some (.int .i64 (M.getD k default).b.time) ∧
    w.cell? ⟨(p.add (k * 7)).block, (p.add (k * 7)).off + 6, none⟩ = some (.slice (M.getD k default).A (M.getD k default).b.L.length (M.getD k default).c) := by
  have hl := h.len
  have g : ∀ j u, j < 7 → ((M.getD k default).cells)[j]? = some u → ∃ p, A = some p ∧ p.block < B ∧ w.cell? ((p.add (k * 7)).add j) = some u := by
    intro j u hj hu
    obtain ⟨p, e, hb, hc⟩ := h.lies.get (k * 7 + j) u ((bcells_get M k j (by omega) hj).trans hu)
    exact ⟨p, e, hb, by rw [add_twice]; exact hc⟩
  obtain ⟨p, e, hb, c0⟩ := g 0 _ (by omega) rfl
  have g' : ∀ j u, 0 < j → j < 7 → ((M.getD k default).cells)[j]? = some u → w.cell? ⟨(p.add (k * 7)).block, (p.add (k * 7)).off + j, none⟩ = some u := fun j u h0 hj hu => by
    obtain ⟨q, e', _, c⟩ := g j u hj hu
    rw [e] at e'
    injection e' with e'
    subst e'
    rw [← add_pos' _ j h0]; exact c
  refine ⟨p, e, hb, ?_, g' 1 _ (by omega) (by omega) rfl, g' 2 _ (by omega) (by omega) rfl, g' 3 _ (by omega) (by omega) rfl, g' 4 _ (by omega) (by omega) rfl, g' 5 _ (by omega) (by omega) rfl, g' 6 _ (by omega) (by omega) rfl⟩
  rw [add_twice, Nat.add_zero] at c0; exact c0
structure Bbs (w : World) (B : Nat) (A : Option Addr) (n : Nat) (L : List Bool) : Prop where
  len : L.length = n
  row : ∀ k, k < n → ∃ p, A = some p ∧ p.block < B ∧ w.cell? (p.add k) = some (.bool (L.getD k false))
theorem Bbs.below {w w' : World} {B n : Nat} {A : Option Addr} {L : List Bool} (h : Bbs w B A n L) (hb : Below B w w') : Bbs w' B A n L :=
  ⟨h.len, fun k hk => by
    obtain ⟨p, e, hp, hc⟩ := h.row k hk
    exact ⟨p, e, hp, (hb.cell (by rw [add_block]; exact hp)).trans hc⟩⟩
end Go.Proofs.Ytkdpfajoeajenaa
namespace Go.Proofs.Ytkdpfajoeajenaa
open Go.RowKit
set_option linter.unusedVariables false
set_option linter.unusedSimpArgs false

def AtC.r (a : AtC) : Rec := ⟨a.key, a.value, a.gone, a.time⟩
def atOf (o : Int) (r : Rec) : AtC := ⟨o, r.key, r.value, r.gone, r.time⟩
theorem atOf_r (a : AtC) : atOf a.off a.r = a := rfl
/-! ### the records of batches -/
def offsL (o : Int) : List Rec → List AtC
  | [] => []
  | r :: l => atOf o r :: offsL (o + 1) l
theorem offsL_step (o : Int) (L : List Rec) (k : Nat) (h : k < L.length) : offsL (o + (k : Int)) (L.drop k) = atOf (o + (k : Int)) (L.getD k default) :: offsL (o + ((k + 1 : Nat) : Int)) (L.drop (k + 1)) := by
  rw [List.drop_eq_getElem_cons h, List.getD_eq_getElem?_getD, List.getElem?_eq_getElem h]
  show atOf _ _ :: offsL _ _ = _
  rw [show o + (k : Int) + 1 = o + ((k + 1 : Nat) : Int) by omega]
  rfl
theorem offsL_len (o : Int) (L : List Rec) : (offsL o L).length = L.length := by
  induction L generalizing o with
  | nil => rfl
  | cons r l ih => show (offsL (o + 1) l).length + 1 = _; rw [ih]; rfl
def flatC (b : Bat) : List AtC := if markB b = true then [] else offsL b.base b.L
def flatA (l : List Bat) : List AtC := l.flatMap flatC
theorem flatA_take (l : List Bat) (k : Nat) (h : k < l.length) : flatA (l.take (k + 1)) = flatA (l.take k) ++ flatC (l.getD k zB) := by
  unfold flatA
  rw [List.take_succ_eq_append_getElem h, List.flatMap_append, List.getD_eq_getElem?_getD, List.getElem?_eq_getElem h]
  simp

theorem row_setQ {w : World} {base s n g i : Nat} {e : TypeId} {v u : Value} {xs : List Value} (h : w.ownsRow base e s v n xs) (hg : v.ownBlock ≠ some g) : (w.setCell ⟨g, i, none⟩ u).ownsRow base e s v n xs := by
  refine ⟨h.1, ?_⟩
  rcases h.2 with h2 | ⟨b, cap, cur, rfl, hb, hh, r⟩
  · exact .inl h2
  · exact .inr ⟨b, cap, cur, rfl, hb, (Below.heap_setCell w ⟨g, i, none⟩ u b (fun e => hg (by have h9 : b = g := e; rw [h9]; rfl))).trans hh, r⟩
theorem zero_atQ : (Try.prog.info? 40).map (fun i => (i.zero, i.size, i.bytes)) = some (some (.agg #[.int .i64 0, .string ⟨#[]⟩, .string ⟨#[]⟩, .bool false, .int .i64 0]), 5, 56) := by kernel_rfl
set_option maxRecDepth 100000 in
theorem eqRecQ (k v : ByteArray) (g : Bool) (t : Int) (w : World) : (Op.equalIn 9999 38 (.agg #[.string k, .string v, .bool g, .int .i64 t]) (.agg #[.string k, .string v, .bool g, .int .i64 t])).run Try.prog w = .ok true w := by
  have u3 := Try.underlying9
  have u2 := Try.underlying2
  have u1 := Try.underlying4
  have a3 := Try.isAgg9
  have z3 := Try.sizeOf9
  have a2 := Try.isAgg2
  have z2 := Try.sizeOf2
  have a1 := Try.isAgg4
  have z1 := Try.sizeOf4
  have hS : Try.prog.underlying 38 = some (.struct (Try.prog.fieldsOf 38)) := by kernel_rfl
  have hp : Try.prog.stoodInHeld 38 = false := by kernel_rfl
  rw [show (9999 : Nat) = 9998 + 1 from rfl, run_equalIn_agg w 9998 38 _ _ hS hp]
  simp only [Program.fieldsOf, Try.underlying38]
  go_simp
set_option maxRecDepth 100000 in
theorem neAtQ (o : Int) (k v : ByteArray) (g : Bool) (t : Int) (w : World) : (binOp .neq 40 (.agg #[.int .i64 o, .string k, .string v, .bool g, .int .i64 t]) (.agg #[.int .i64 o, .string k, .string v, .bool g, .int .i64 t])).run Try.prog w = .ok (.bool false) w := by
  have u2 := Try.underlying2
  have a2 := Try.isAgg2
  have z2 := Try.sizeOf2
  have hS : Try.prog.underlying 40 = some (.struct (Try.prog.fieldsOf 40)) := by kernel_rfl
  have hp : Try.prog.stoodInHeld 40 = false := by kernel_rfl
  have hR := eqRecQ k v g t
  rw [run_neq_struct, show (10000 : Nat) = 9999 + 1 from rfl, run_equalIn_agg w 9999 40 _ _ hS hp]
  simp only [Program.fieldsOf, Try.underlying40]
  have p2 : ∀ w, (part 2 #[.int .i64 o, .string k, .string v, .bool g, .int .i64 t] 0).run Try.prog w = .ok (.int .i64 o) w := fun w => by kernel_rfl
  have p46 : ∀ w, (part 38 #[.int .i64 o, .string k, .string v, .bool g, .int .i64 t] 1).run Try.prog w = .ok (.agg #[.string k, .string v, .bool g, .int .i64 t]) w := fun w => by kernel_rfl
  have e2 : ∀ w, (Op.equalIn 9999 2 (.int .i64 o) (.int .i64 o)).run Try.prog w = .ok true w := fun w => by
    clear p2 p46 hR
    go_simp
  simp [Op.eqFields, p2, p46, e2, hR]

end Go.Proofs.Ytkdpfajoeajenaa
