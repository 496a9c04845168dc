/-
  All but two blocks as it was; a record of noughts.
-/
import Derived.Test.YtniopekkfnkipaaRecC
namespace Go.Proofs.Ytniopekkfnkipaa
open Go.RowKit
set_option linter.unusedVariables false
set_option linter.unusedSimpArgs false

/-- all but two blocks is as it was -/
structure Two (g d : Nat) (w w' : World) : Prop where
  os : w'.os = w.os
  tape : w'.tape = w.tape
  output : w'.output = w.output
  size : w.heap.size ≤ w'.heap.size
  block : ∀ i, i < w.heap.size → i ≠ g → i ≠ d → w'.heap[i]? = w.heap[i]?
section
variable {g d : Nat} {w w' w'' : World}
theorem Two.refl (g d : Nat) (w : World) : Two g d w w := ⟨rfl, rfl, rfl, Nat.le_refl _, fun _ _ _ _ => rfl⟩
theorem Two.trans (h : Two g d w w') (k : Two g d w' w'') : Two g d w w'' :=
  ⟨k.os.trans h.os, k.tape.trans h.tape, k.output.trans h.output, Nat.le_trans h.size k.size, fun i hi h1 h2 => (k.block i (Nat.lt_of_lt_of_le hi h.size) h1 h2).trans (h.block i hi h1 h2)⟩
theorem Two.of_grown (h : w.grownBy w' (some g)) : Two g d w w' := ⟨h.os, h.tape, h.output, h.size, fun i hi h1 _ => h.block i hi (fun e => h1 (by injection e))⟩
theorem Two.of_below (h : Below w.heap.size w w') : Two g d w w' := ⟨h.os, h.tape, h.output, h.size, fun i hi _ _ => h.block i hi⟩
theorem Two.set (w : World) (i : Nat) (u : Value) : Two g d w (w.setCell ⟨d, i, none⟩ u) := by
  have h := grown_set w d i u
  exact ⟨h.os, h.tape, h.output, h.size, fun k hk _ h2 => h.block k hk (fun e => h2 (by injection e))⟩
theorem Two.below {B : Nat} (h : Two g d w w') (hg : B ≤ g) (hd : B ≤ d) (hs : B ≤ w.heap.size) : Below B w w' :=
  ⟨h.os, h.tape, h.output, h.size, fun k hk => h.block k (by omega) (by omega) (by omega)⟩
theorem Two.new {i : Nat} (h : Two g d w w') (u : Value) {b : Nat} (hb : w.heap.size ≤ b) : Two g d w (w'.setCell ⟨b, i, none⟩ u) := by
  have k := grown_set w' b i u
  exact ⟨k.os.trans h.os, k.tape.trans h.tape, k.output.trans h.output, Nat.le_trans h.size k.size, fun j hj h1 h2 => (k.block j (Nat.lt_of_lt_of_le hj h.size) (fun e => by injection e with e; omega)).trans (h.block j hj h1 h2)⟩
end
theorem zero_rec : (Try.prog.info? 40).map (fun i => (i.zero, i.size, i.bytes)) = some (some (.agg #[.string ⟨#[]⟩, .string ⟨#[]⟩, .bool false, .int .i64 0]), 4, 48) := by kernel_rfl
section
variable {g d : Nat} {w w' w'' : World}
theorem Two.grow {o : Option Nat} (h : Two g d w w') (hg : w'.grownBy w'' o) (ho : ∀ k, o = some k → w.heap.size ≤ k) : Two g d w w'' :=
  ⟨hg.os.trans h.os, hg.tape.trans h.tape, hg.output.trans h.output, Nat.le_trans h.size hg.size, fun i hi h1 h2 => (hg.block i (Nat.lt_of_lt_of_le hi h.size) (fun e => by have := ho i e.symm; omega)).trans (h.block i hi h1 h2)⟩
theorem row_two {base s n : Nat} {e : TypeId} {v : Value} {xs : List Value} (h : w.ownsRow base e s v n xs) (ht : Two g d w w') (h1 : g < base) (h2 : d < base) : w'.ownsRow base e s v n xs := by
  refine ⟨h.1, ?_⟩
  rcases h.2 with h3 | ⟨b, cap, cur, hv, hb, hh, r⟩
  · exact .inl h3
  · exact .inr ⟨b, cap, cur, hv, hb, (ht.block b (Array.getElem?_eq_some_iff.1 hh).1 (by omega) (by omega)).trans hh, r⟩
end
theorem rcells_succ (L : List Rec) (k : Nat) (h : k < L.length) : rcells (L.take (k + 1)) = rcells (L.take k) ++ (L.getD k default).cells := by
  rw [List.take_succ_eq_append_getElem h, rcells_append, List.getD_eq_getElem?_getD, List.getElem?_eq_getElem h]
  simp [rcells]
theorem Rcs.of_own {w : World} {base n : Nat} {v : Value} {L : List Rec} (h : w.ownsRow base 40 4 v n (rcells L)) (hn : L.length = n) (hok : ∀ r ∈ L, i64_ r.time) : ∃ A c, v = .slice A n c ∧ n ≤ c ∧ c ≤ maxLen ∧ Rcs w w.heap.size A n L ∧ ∀ p, A = some p → base ≤ p.block := by
  have h0 := h
  rcases h.2 with ⟨rfl, hz⟩ | ⟨b, cap, cur, rfl, hb, hh, hnc, hm, _⟩
  · subst hz
    have : L = [] := List.length_eq_zero_iff.1 hn
    subst this
    exact ⟨none, 0, rfl, by omega, by simp [maxLen], Rcs.nil_, fun p h => by cases h⟩
  · refine ⟨_, cap, rfl, hnc, hm, ⟨hn, ⟨fun j u hj => ?_⟩, hok⟩, fun p h => by injection h with h; subst h; exact hb⟩
    exact ⟨_, rfl, (Array.getElem?_eq_some_iff.1 hh).1, h0.cells (g := b) rfl j u hj⟩

theorem Lies.far_ {w w' : World} {B : Nat} {A : Option Addr} {xs : List Value} (h : Lies w B A xs) (hk : ∀ p, A = some p → ∀ i, w'.cell? (p.add i) = w.cell? (p.add i)) : Lies w' B A xs :=
  ⟨fun j u hj => by
    obtain ⟨p, e, hb, hc⟩ := h.get j u hj
    exact ⟨p, e, hb, (hk p e j).trans hc⟩⟩
end Go.Proofs.Ytniopekkfnkipaa
