/-
  A slice of items that came in.
-/
import Derived.Test.YtgbdgpacnpeahaaLiftS
import Derived.Test.YtgbdgpacnpeahaaItemV
namespace Go.Proofs.Ytgbdgpacnpeahaa
open Go.ChangeShapes Go.WideShapes Go.ChangeAt Go.RowKit Go.Deep
set_option linter.unusedVariables false
section
variable {H : Type} {enc : TypeId × Value → H} {W W' : World} {base : Nat} {spare : Nat → Bool} {held : Bool}
set_option maxRecDepth 100000 in
theorem item_cells {fuel : Nat} {cs : List Value} {x : DataW H × List MemPlace} (h : DataW.trod enc Try.prog W base spare held fuel 28 cs = some x) :
    ∃ (y : Item) (LA : Option Addr) (lc : Nat) (IA : Option Addr) (ic : Nat), cs = (y.cells LA lc IA ic).toList ∧ y.ok ∧ Lies W W.heap.size LA (y.L.map .string) ∧ y.L.length ≤ lc ∧ lc ≤ maxLen ∧ Is W W.heap.size IA y.I.length y.I ∧ y.I.length ≤ ic ∧ ic ≤ maxLen := by
  obtain ⟨hl, m, hf⟩ := each_field Try.underlying28 (by kernel_rfl) (by kernel_rfl) h
  match cs, hl with
  | [v0, v1, v2, v3, v4, v5, v6, v7], _ =>
    obtain ⟨_, _, e0, t0⟩ := hf 0 _ rfl
    obtain ⟨_, _, e1, t1⟩ := hf 1 _ rfl
    obtain ⟨_, _, e2, t2⟩ := hf 2 _ rfl
    obtain ⟨_, _, e3, t3⟩ := hf 3 _ rfl
    obtain ⟨_, _, e4, t4⟩ := hf 4 _ rfl
    obtain ⟨_, _, e5, t5⟩ := hf 5 _ rfl
    obtain ⟨_, _, e6, t6⟩ := hf 6 _ rfl
    obtain ⟨_, _, e7, t7⟩ := hf 7 _ rfl
    simp only [List.getElem?_cons_zero, List.getElem?_cons_succ, Option.some.injEq] at e0 e1 e2 e3 e4 e5 e6 e7
    subst e0 e1 e2 e3 e4 e5 e6 e7
    obtain ⟨n0, q0, _, w0⟩ := DataW.trod_int Try.underlying3 t0
    obtain ⟨n1, q1, _, w1⟩ := DataW.trod_int Try.underlying24 t1
    obtain ⟨n2, q2, _, w2⟩ := DataW.trod_int Try.underlying2 t2
    obtain ⟨n3, q3, _, w3⟩ := DataW.trod_int Try.underlying3 t3
    obtain ⟨s4, q4, _, w4⟩ := DataW.trod_string Try.underlying9 t4
    obtain ⟨b5, q5, _⟩ := DataW.trod_bool Try.underlying4 t5
    obtain ⟨A6, m6, c6, L6, rfl, h61, h62, rfl, h64⟩ := texts_cell t6
    obtain ⟨A7, m7, c7, L7, rfl, h71, h72, h73⟩ := ints_cell t7
    simp at q0 q1 q2 q3 q4 q5
    subst q0 q1 q2 q3 q4 q5
    obtain ⟨u, rfl, hu⟩ := bd_u64 w1
    have b0 := bd_i64 w0
    have b2 := bd_i64 w2
    have b3 := bd_i64 w3
    obtain rfl := h73.len
    exact ⟨⟨n0, u, n2, n3, s4, b5, L6, L7⟩, A6, c6, A7, c7, rfl, ⟨b0.1, b0.2, hu, b2.1, b2.2, b3.1, b3.2⟩, h64, h61, h62, h73, h71, h72⟩
set_option maxRecDepth 100000 in
theorem items_in {base0 : Nat} {v : Value} {d : DataW H} {p : List MemPlace} (hv : Value.okWide Try.prog W .any base0 22 v) (h : DataW.Trod enc Try.prog W 0 (fun _ => true) true 22 v d p) :
    ∃ A n c X, v = .slice A n c ∧ n ≤ c ∧ c ≤ maxLen ∧ Its W W.heap.size A n X := by
  obtain ⟨A0, n0, c0, rfl⟩ := okWide_slice Try.underlying22 hv
  obtain ⟨fuel, hf⟩ := h
  have hC : Try.prog.cellsOf 28 = 8 := by kernel_rfl
  rcases Go.Deep.open_slice Try.underlying22 hf with ⟨hcs, _⟩ | ⟨a, len, cap, m, n, D, Pl, hcs, _, hl, hm, hmm, _, hi⟩
  · simp [Value.cells] at hcs
    obtain ⟨rfl, rfl, rfl⟩ := hcs
    exact ⟨none, 0, 0, [], rfl, by omega, by simp [maxLen], rfl, fun k hk => absurd hk (by omega)⟩
  · simp [Value.cells] at hcs
    obtain ⟨rfl, rfl, rfl⟩ := hcs
    have hmc : m = c0 := by simpa using hmm
    have key : ∀ i, i < n0 → ∃ y : Item, ∃ LA lc IA ic, ItAt W W.heap.size (a.add (i * 8)) y LA lc IA ic := by
      intro i hin
      obtain ⟨cs', hc, ht⟩ := hi i (by omega)
      rw [hC] at hc
      obtain ⟨_, hcl, hat⟩ := World.cells?_some hc
      obtain ⟨y, LA, lc, IA, ic, rfl, hok, h1, h2, h3, h4, h5, h6⟩ := item_cells ht
      have g0 := hat 0 (by omega)
      have g1 := hat 1 (by omega)
      have g2 := hat 2 (by omega)
      have g3 := hat 3 (by omega)
      have g4 := hat 4 (by omega)
      have g5 := hat 5 (by omega)
      have g6 := hat 6 (by omega)
      have g7 := hat 7 (by omega)
      have e : (a.add (i * 8)).add 0 = a.add (i * 8) := by rw [add_twice, Nat.add_zero]
      rw [e] at g0
      exact ⟨y, LA, lc, IA, ic, cell_lt g0, g0, g1, g2, g3, g4, g5, g6, g7, hok, h1, h2, h3, h4, h5, h6⟩
    obtain ⟨X, hlen, hrow⟩ := pick_list key
    refine ⟨some a, n0, c0, X, rfl, hl, hm, hlen, fun k hk => ?_⟩
    obtain ⟨LA, lc, IA, ic, hr⟩ := hrow k hk
    exact ⟨a, LA, lc, IA, ic, rfl, hr⟩
end
end Go.Proofs.Ytgbdgpacnpeahaa
