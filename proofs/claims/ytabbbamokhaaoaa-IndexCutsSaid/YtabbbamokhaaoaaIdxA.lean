/-
  An index in memory: its entries, its block; the worlds that leave all but its two blocks as they were.
-/
import Derived.Test.YtabbbamokhaaoaaBytesA
import Derived.Deep.DeepCutAuto
import Derived.Deep.RegionHeld3
namespace Go.Proofs.Ytabbbamokhaaoaa
open Go.RowKit
set_option linter.unusedVariables false
set_option linter.unusedSimpArgs false

structure Ent where
  off : Int
  pl : Int
  bf : Int
instance : Inhabited Ent := ⟨⟨0, 0, 0⟩⟩
def Ent.cells (e : Ent) : List Value := [.int .i64 e.off, .int .i64 e.pl, .int .i64 e.bf]
def ecells (L : List Ent) : List Value := L.flatMap Ent.cells
theorem ecells_length (L : List Ent) : (ecells L).length = L.length * 3 := by
  induction L with
  | nil => rfl
  | cons r L ih => simp only [ecells, List.flatMap_cons, List.length_append, List.length_cons] at *; rw [ih]; simp only [Ent.cells, List.length_cons, List.length_nil]; omega
theorem ecells_append (L M : List Ent) : ecells (L ++ M) = ecells L ++ ecells M := by simp [ecells]
theorem ecells_get (L : List Ent) : ∀ (k j : Nat), k < L.length → j < 3 → (ecells L)[k * 3 + j]? = ((L.getD k default).cells)[j]? := by
  induction L with
  | nil => intro k j h; exact absurd h (by simp)
  | cons r L ih =>
    intro k j h hj
    have e : ecells (r :: L) = r.cells ++ ecells L := by simp [ecells]
    have hl : r.cells.length = 3 := rfl
    rw [e]
    cases k with
    | zero => rw [List.getElem?_append_left (by omega)]; simp
    | succ k =>
      rw [List.getElem?_append_right (by omega), show (k + 1) * 3 + j - r.cells.length = k * 3 + j from by omega, ih k j (by simpa using h) hj]
      simp
theorem ecells_one (L : List Ent) : ∀ u ∈ ecells L, u.oneCell' = true := by
  intro u hu
  obtain ⟨r, _, hr⟩ := List.mem_flatMap.1 hu
  simp only [Ent.cells, List.mem_cons, List.not_mem_nil, or_false] at hr
  rcases hr with rfl | rfl | rfl <;> rfl
theorem ecells_take (L : List Ent) : ∀ k, k ≤ L.length → (ecells L).take (k * 3) = ecells (L.take k) := by
  intro k hk
  conv => lhs; rw [← List.take_append_drop k L, ecells_append]
  rw [List.take_append_of_le_length (by rw [ecells_length, List.length_take]; omega), List.take_of_length_le (by rw [ecells_length, List.length_take]; omega)]

theorem add_pos3 (p : Addr) (j : Nat) (h : 0 < j) : p.add j = ⟨p.block, p.off + j, none⟩ := by
  unfold Addr.add
  rw [if_neg (by omega)]
/-- '.slice A n c' is a slice of structs of three numbers -/
structure Ecs (w : World) (B : Nat) (A : Option Addr) (n : Nat) (L : List Ent) : Prop where
  len : L.length = n
  lies : Lies w B A (ecells L)
section
variable {w w' : World} {B B' n : Nat} {A : Option Addr} {L : List Ent}
theorem Ecs.nil_ : Ecs w B A 0 [] := ⟨rfl, Lies.empty⟩
theorem Ecs.below (h : Ecs w B A n L) (hb : Below B w w') : Ecs w' B A n L := ⟨h.len, h.lies.keep fun _ hp => hb.cell hp⟩
theorem Ecs.wider (h : Ecs w B A n L) (hB : B ≤ B') : Ecs w B' A n L := ⟨h.len, h.lies.wider hB⟩
theorem Ecs.row {k : Nat} (h : Ecs w B A n L) (hk : k < n) : ∃ p, A = some p ∧ p.block < B ∧ w.cell? (p.add (k * 3)) = some (.int .i64 (L.getD k default).off) ∧
    w.cell? ⟨(p.add (k * 3)).block, (p.add (k * 3)).off + 1, none⟩ = some (.int .i64 (L.getD k default).pl) ∧
    w.cell? ⟨(p.add (k * 3)).block, (p.add (k * 3)).off + 2, none⟩ = some (.int .i64 (L.getD k default).bf) := by
  have hl := h.len
  have g : ∀ j u, j < 3 → ((L.getD k default).cells)[j]? = some u → ∃ p, A = some p ∧ p.block < B ∧ w.cell? ((p.add (k * 3)).add j) = some u := by
    intro j u hj hu
    obtain ⟨p, e, hb, hc⟩ := h.lies.get (k * 3 + j) u ((ecells_get L k j (by omega) hj).trans hu)
    exact ⟨p, e, hb, by rw [add_twice]; exact hc⟩
  obtain ⟨p, e, hb, c0⟩ := g 0 _ (by omega) rfl
  obtain ⟨p1, e1, _, c1⟩ := g 1 _ (by omega) rfl
  obtain ⟨p2, e2, _, c2⟩ := g 2 _ (by omega) rfl
  rw [e] at e1 e2
  injection e1 with e1; injection e2 with e2
  subst e1 e2
  refine ⟨p, e, hb, ?_, ?_, ?_⟩
  · rw [add_twice, Nat.add_zero] at c0; exact c0
  · rw [← add_pos3 _ 1 (by omega)]; exact c1
  · rw [← add_pos3 _ 2 (by omega)]; exact c2
end
theorem Ecs.of_own {w : World} {base n : Nat} {e : TypeId} {v : Value} {L : List Ent} (h : w.ownsRow base e 3 v n (ecells L)) (hn : L.length = n) : ∃ A c, v = .slice A n c ∧ n ≤ c ∧ c ≤ maxLen ∧ Ecs w w.heap.size A n L ∧ ∀ p, A = some p → base ≤ p.block := by
  have h0 := h
  rcases h.2 with ⟨rfl, hz⟩ | ⟨b, cap, cur, rfl, hb, hh, hnc, hm, _⟩
  · subst hz
    have : L = [] := List.length_eq_zero_iff.1 hn
    subst this
    exact ⟨none, 0, rfl, by omega, by simp [maxLen], Ecs.nil_, fun p h => by cases h⟩
  · refine ⟨_, cap, rfl, hnc, hm, ⟨hn, ⟨fun j u hj => ?_⟩⟩, fun p h => by injection h with h; subst h; exact hb⟩
    exact ⟨_, rfl, (Array.getElem?_eq_some_iff.1 hh).1, h0.cells (g := b) rfl j u hj⟩

theorem grown_cell (a : World) (g i : Nat) (u : Value) : a.grownBy (a.setCell ⟨g, i, none⟩ u) (some g) :=
  ⟨rfl, rfl, rfl, by simp [World.setCell], fun k _ hk => Below.heap_setCell a _ u k (fun e => hk (by rw [e]))⟩
/-- all but one block, and one that may be there, is as it was -/
structure But (g : Nat) (k : Option Nat) (w w' : World) : Prop where
  os : w'.os = w.os
  tape : w'.tape = w.tape
  output : w'.output = w.output
  size : w.heap.size ≤ w'.heap.size
  block : ∀ i, i < w.heap.size → i ≠ g → some i ≠ k → w'.heap[i]? = w.heap[i]?
section
variable {g : Nat} {k k' : Option Nat} {w w' w'' : World}
theorem But.refl (g : Nat) (k : Option Nat) (w : World) : But g k w w := ⟨rfl, rfl, rfl, Nat.le_refl _, fun _ _ _ _ => rfl⟩
/-- k' is k, or new -/
def Newer (w : World) (k k' : Option Nat) : Prop := k' = k ∨ ∃ j, k' = some j ∧ w.heap.size ≤ j
theorem But.trans (h : But g k w w') (h2 : But g k' w' w'') (hk : Newer w k k') : But g k w w'' :=
  ⟨h2.os.trans h.os, h2.tape.trans h.tape, h2.output.trans h.output, Nat.le_trans h.size h2.size, fun i hi h1 h3 =>
    (h2.block i (Nat.lt_of_lt_of_le hi h.size) h1 (fun e => by
      rcases hk with r | ⟨j, r, hj⟩
      · rw [r] at e; exact h3 e
      · rw [r] at e; injection e with e; omega)).trans (h.block i hi h1 h3)⟩
theorem But.of_below (h : Below w.heap.size w w') : But g k w w' := ⟨h.os, h.tape, h.output, h.size, fun i hi _ _ => h.block i hi⟩
theorem But.of_grown (h : w.grownBy w' k) : But g k w w' := ⟨h.os, h.tape, h.output, h.size, fun i hi _ h2 => h.block i hi h2⟩
theorem But.set (w : World) (i : Nat) (u : Value) : But g k w (w.setCell ⟨g, i, none⟩ u) := by
  have h := grown_cell w g i u
  exact ⟨h.os, h.tape, h.output, h.size, fun j hj h1 _ => h.block j hj (fun e => h1 (by injection e))⟩
theorem But.below {B : Nat} (h : But g k w w') (hg : B ≤ g) (hk : ∀ j, k = some j → B ≤ j) (hs : B ≤ w.heap.size) : Below B w w' :=
  ⟨h.os, h.tape, h.output, h.size, fun i hi => h.block i (by omega) (by omega) (fun e => by have := hk i e.symm; omega)⟩
theorem Newer.refl (w : World) (k : Option Nat) : Newer w k k := .inl rfl
theorem Newer.trans {k'' : Option Nat} (h : Newer w k k') (h2 : Newer w' k' k'') (hs : w.heap.size ≤ w'.heap.size) : Newer w k k'' := by
  rcases h2 with r | ⟨j, r, hj⟩
  · rw [r]; exact h
  · exact .inr ⟨j, r, by omega⟩
/-- what is owned elsewhere stays so -/
theorem But.row {base s n : Nat} {e : TypeId} {v : Value} {xs : List Value} (h : But g k w w') (ho : w.ownsRow base e s v n xs) (h1 : v.ownBlock ≠ some g) (h2 : v.ownBlock = none ∨ v.ownBlock ≠ k) : w'.ownsRow base e s v n xs := by
  refine ⟨ho.1, ?_⟩
  rcases ho.2 with h3 | ⟨b, cap, cur, rfl, hb, hh, r⟩
  · exact .inl h3
  · refine .inr ⟨b, cap, cur, rfl, hb, (h.block b (Array.getElem?_eq_some_iff.1 hh).1 (fun e => h1 (by rw [← e]; rfl)) (fun e => ?_)).trans hh, r⟩
    rcases h2 with h2 | h2
    · cases h2
    · exact h2 e
end
theorem row_below {w w' : World} {base B s n : Nat} {e : TypeId} {v : Value} {xs : List Value} (h : w.ownsRow base e s v n xs) (hb : Below B w w') (hB : w.heap.size ≤ B) : w'.ownsRow base e s v n xs := by
  refine ⟨h.1, ?_⟩
  rcases h.2 with h2 | ⟨g, cap, cur, hv, hg, hh, r⟩
  · exact .inl h2
  · exact .inr ⟨g, cap, cur, hv, hg, (hb.block g (by have := (Array.getElem?_eq_some_iff.1 hh).1; omega)).trans hh, r⟩
theorem own_form {w : World} {base s n : Nat} {e : TypeId} {v : Value} {xs : List Value} (h : w.ownsRow base e s v n xs) : ∃ A c, v = .slice A n c ∧ n ≤ c ∧ c ≤ maxLen ∧ (A = none → n = 0 ∧ c = 0) ∧ (∀ p, A = some p → p.off = 0 ∧ p.spot = none ∧ base ≤ p.block ∧ p.block < w.heap.size) := by
  rcases h.2 with ⟨rfl, hz⟩ | ⟨g, cap, cur, rfl, hb, hh, hn, hm, _⟩
  · exact ⟨none, 0, by rw [hz], by omega, by simp [maxLen], (fun _ => ⟨hz, rfl⟩), (fun p h => by cases h)⟩
  · exact ⟨_, cap, rfl, hn, hm, (fun h => by cases h), (fun p h => by injection h with h; subst h; exact ⟨rfl, rfl, hb, (Array.getElem?_eq_some_iff.1 hh).1⟩)⟩

/-- an index as data -/
structure Idx where
  gap : Int
  L : List Ent
  off : Int
  pl : Int
  lat : Int
def Idx.cells (x : Idx) (v : Value) : Array Value := #[.int .i64 x.gap, v, .int .i64 x.off, .int .i64 x.pl, .int .i64 x.lat]
/-- the index x lies in block g, its entries are v -/
structure Ix (w : World) (base g : Nat) (v : Value) (x : Idx) : Prop where
  blk : w.heap[g]? = some (.cells (x.cells v) 101 (0, 0))
  own : w.ownsRow base 28 3 v x.L.length (ecells x.L)
  ne : v.ownBlock ≠ some g
  lo : base ≤ g
section
variable {w w' : World} {base g : Nat} {v : Value} {x : Idx}
theorem Ix.lt (h : Ix w base g v x) : g < w.heap.size := (Array.getElem?_eq_some_iff.1 h.blk).1
theorem Ix.below {B : Nat} (h : Ix w base g v x) (hb : Below B w w') (hB : w.heap.size ≤ B) : Ix w' base g v x :=
  ⟨(hb.block g (by have := h.lt; omega)).trans h.blk, row_below h.own hb hB, h.ne, h.lo⟩
theorem Ix.but {g2 : Nat} {k2 : Option Nat} (h : Ix w base g v x) (hb : But g2 k2 w w') (h1 : g ≠ g2) (h2 : some g ≠ k2) (h3 : v.ownBlock ≠ some g2) (h4 : v.ownBlock = none ∨ v.ownBlock ≠ k2) : Ix w' base g v x :=
  ⟨(hb.block g h.lt h1 h2).trans h.blk, hb.row h.own h3 h4, h.ne, h.lo⟩
theorem Ix.c0 (h : Ix w base g v x) : w.cell? ⟨g, 0, none⟩ = some (.int .i64 x.gap) := cell_of_row w g 0 _ _ _ h.blk
theorem Ix.c1 (h : Ix w base g v x) : w.cell? ⟨g, 1, none⟩ = some v := cell_of_row w g 1 _ _ _ h.blk
theorem Ix.c2 (h : Ix w base g v x) : w.cell? ⟨g, 2, none⟩ = some (.int .i64 x.off) := cell_of_row w g 2 _ _ _ h.blk
theorem Ix.c3 (h : Ix w base g v x) : w.cell? ⟨g, 3, none⟩ = some (.int .i64 x.pl) := cell_of_row w g 3 _ _ _ h.blk
theorem Ix.c4 (h : Ix w base g v x) : w.cell? ⟨g, 4, none⟩ = some (.int .i64 x.lat) := cell_of_row w g 4 _ _ _ h.blk
theorem Ix.free (h : Ix w base g v x) (i : Nat) : w.frozen? ⟨g, i, none⟩ = false := frozen_of_row w g i _ _ h.blk
/-- an entry's cells -/
theorem Ix.row {k : Nat} (h : Ix w base g v x) (hk : k < x.L.length) : ∃ b c, v = .slice (some ⟨b, 0, none⟩) x.L.length c ∧ b < w.heap.size ∧ x.L.length ≤ c ∧
    w.cell? ⟨b, k * 3, none⟩ = some (.int .i64 (x.L.getD k default).off) ∧ w.cell? ⟨b, k * 3 + 1, none⟩ = some (.int .i64 (x.L.getD k default).pl) ∧ w.cell? ⟨b, k * 3 + 2, none⟩ = some (.int .i64 (x.L.getD k default).bf) := by
  have h0 := h.own
  rcases h0.2 with ⟨_, hz⟩ | ⟨b, c, cur, rfl, hb, hh, hn, hm, hs, ht⟩
  · omega
  · have g : ∀ j u, j < 3 → ((x.L.getD k default).cells)[j]? = some u → w.cell? ⟨b, k * 3 + j, none⟩ = some u := fun j u hj hu => by
      rw [cell_of_row w b (k * 3 + j) _ _ _ hh, ← Array.getElem?_toList]
      have e := (ecells_get x.L k j hk hj).trans hu
      rw [← ht, List.getElem?_take] at e
      split at e
      · exact e
      · cases e
    exact ⟨b, c, rfl, (Array.getElem?_eq_some_iff.1 hh).1, hn, g 0 _ (by omega) rfl, g 1 _ (by omega) rfl, g 2 _ (by omega) rfl⟩
end
/-- from 0 to m -/
def ifz (m n : Int) : Bool := decide (0 ≤ n) && decide (n ≤ m)
theorem ifz_iff (m n : Int) : ifz m n = true ↔ 0 ≤ n ∧ n ≤ m := by simp [ifz]
theorem zero_ent : (Try.prog.info? 28).map (fun i => (i.zero, i.size, i.bytes)) = some (some (.agg #[.int .i64 0, .int .i64 0, .int .i64 0]), 3, 24) := by kernel_rfl

set_option maxHeartbeats 400000 in
theorem ifrom0_any (m n : Int) (w : World) : Calls Try.prog 57 #[.int .i64 m, .int .i64 n] w fun e w' => e = .returned (.bool (ifz m n)) ∧ w = w' := by
  by_cases h0 : 0 ≤ n
  · have e0 : decide ((0 : Int) ≤ n) = true := by simpa using h0
    have E : Hid (ifz m n = decide (n ≤ m)) := by show _ = _; simp [ifz, h0]
    go_enter Try.func57, Try.ntmps57
    go_wp2
    all_goals (go_ret; exact ⟨by rw [E.out]; first | rfl | simp [*], rfl⟩)
  · have e0 : decide ((0 : Int) ≤ n) = false := by simpa using h0
    have E : Hid (ifz m n = false) := by show _ = _; simp [ifz, h0]
    go_enter Try.func57, Try.ntmps57
    go_wp2
    all_goals (go_ret; exact ⟨by rw [E.out]; rfl, rfl⟩)

set_option maxRecDepth 100000 in
set_option maxHeartbeats 1000000 in
theorem new_any (gap : Int) (w : World) (h1 : 1 ≤ gap) (h2 : gap ≤ 4194304) :
    Calls Try.prog 15 #[.int .i64 gap] w fun e w' => e = .returned (.tuple #[.pointer (some ⟨w.heap.size, 0, none⟩), .int .i64 0]) ∧ Ix w' w.heap.size w.heap.size (.slice none 0 0) ⟨gap, [], -1, -1, -1⟩ ∧ Below w.heap.size w w' := by
  have e1 : decide (gap < 1) = false := by simp; omega
  have e2 : decide (4194304 < gap) = false := by simp; omega
  go_enter Try.func15, Try.ntmps15
  go_wp2
  go_ret2
  exact ⟨rfl, ⟨heap_alloc_new w _, World.ownsRow_nil _ _ _ _, by simp [Value.ownBlock], Nat.le_refl _⟩, (Below.refl _ _).alloc (Nat.le_refl _) _⟩
set_option maxRecDepth 100000 in
set_option maxHeartbeats 1000000 in
theorem new_no (gap : Int) (w : World) (h : gap < 1 ∨ 4194304 < gap) :
    Calls Try.prog 15 #[.int .i64 gap] w fun e w' => e = .returned (.tuple #[.pointer none, .int .i64 2]) ∧ w' = w := by
  by_cases h1 : gap < 1
  · have e1 : decide (gap < 1) = true := by simpa using h1
    go_enter Try.func15, Try.ntmps15
    go_wp2
    go_ret2
    exact ⟨rfl, rfl⟩
  · have e1 : decide (gap < 1) = false := by simpa using h1
    have e2 : decide (4194304 < gap) = true := by simp; omega
    go_enter Try.func15, Try.ntmps15
    go_wp2
    go_ret2
    exact ⟨rfl, rfl⟩
set_option maxRecDepth 100000 in
set_option maxHeartbeats 1000000 in
theorem len_any (base g : Nat) (v : Value) (x : Idx) (w : World) (h : Ix w base g v x) :
    Calls Try.prog 19 #[.pointer (some ⟨g, 0, none⟩)] w fun e w' => e = .returned (.int .i64 (x.L.length : Int)) ∧ w' = w := by
  obtain ⟨A, c, rfl, hc, hm, _, _⟩ := own_form h.own
  have c1 := h.c1
  clear h
  go_enter Try.func19, Try.ntmps19
  go_wp2
  go_ret
  exact ⟨rfl, rfl⟩
set_option maxRecDepth 100000 in
set_option maxHeartbeats 1000000 in
theorem gap_any (base g : Nat) (v : Value) (x : Idx) (w : World) (h : Ix w base g v x) :
    Calls Try.prog 18 #[.pointer (some ⟨g, 0, none⟩)] w fun e w' => e = .returned (.int .i64 x.gap) ∧ w' = w := by
  have c0 := h.c0
  clear h
  go_enter Try.func18, Try.ntmps18
  go_wp2
  go_ret
  exact ⟨rfl, rfl⟩
end Go.Proofs.Ytabbbamokhaaoaa
