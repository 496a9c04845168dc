/-
  Lists of batches and of Booleans that came in.
-/
import Derived.Test.YtapnhhoegoakiaaLiftB
import Derived.Test.YtapnhhoegoakiaaRecMl
namespace Go.Proofs.Ytapnhhoegoakiaa
open Go.ChangeShapes Go.WideShapes Go.ChangeAt Go.RowKit Go.Deep
set_option linter.unusedVariables false
section
variable {H : Type} {enc : TypeId × Value → H} {W W' : World} {base : Nat} {spare : Nat → Bool} {held : Bool}
set_option maxRecDepth 100000 in
theorem bat_cells {fuel : Nat} {cs : List Value} {x : DataW H × List MemPlace} (h : DataW.trod enc Try.prog W base spare held fuel 26 cs = some x) : ∃ y : BA, cs = y.cells ∧ Rcs W W.heap.size y.A y.b.L.length y.b.L ∧ y.b.L.length ≤ y.c ∧ y.c ≤ maxLen := by
  obtain ⟨hl, m, hf⟩ := each_field Try.underlying26 (by kernel_rfl) (by kernel_rfl) h
  match cs, hl with
  | [v0, v1, v2, v3, v4, v5, v6], _ =>
    obtain ⟨_, _, e0, t0⟩ := hf 0 _ rfl
    obtain ⟨_, _, e1, t1⟩ := hf 1 _ rfl
    obtain ⟨_, _, e2, t2⟩ := hf 2 _ rfl
    obtain ⟨_, _, e3, t3⟩ := hf 3 _ rfl
    obtain ⟨_, _, e4, t4⟩ := hf 4 _ rfl
    obtain ⟨_, _, e5, t5⟩ := hf 5 _ rfl
    obtain ⟨_, _, e6, t6⟩ := hf 6 _ rfl
    simp only [List.getElem?_cons_zero, List.getElem?_cons_succ, Option.some.injEq] at e0 e1 e2 e3 e4 e5 e6
    subst e0 e1 e2 e3 e4 e5 e6
    obtain ⟨n0, q0, _, _⟩ := DataW.trod_int Try.underlying2 t0
    obtain ⟨n1, q1, _, _⟩ := DataW.trod_int Try.underlying2 t1
    obtain ⟨n2, q2, _, _⟩ := DataW.trod_int Try.underlying3 t2
    obtain ⟨n3, q3, _, _⟩ := DataW.trod_int Try.underlying3 t3
    obtain ⟨n4, q4, _, _⟩ := DataW.trod_int Try.underlying3 t4
    obtain ⟨n5, q5, _, _⟩ := DataW.trod_int Try.underlying2 t5
    obtain ⟨A6, n6, c6, L6, rfl, h1, h2, h3⟩ := recs_cell t6
    simp at q0 q1 q2 q3 q4 q5
    subst q0 q1 q2 q3 q4 q5
    obtain rfl := h3.len
    exact ⟨⟨⟨n0, n1, n2, n3, n4, n5, L6⟩, A6, c6⟩, rfl, h3, h1, h2⟩
set_option maxRecDepth 100000 in
theorem bats_in {base0 : Nat} {v : Value} {d : DataW H} {p : List MemPlace} (hv : Value.okWide Try.prog W .any base0 22 v) (h : DataW.Trod enc Try.prog W 0 (fun _ => true) true 22 v d p) :
    ∃ A n c X, v = .slice A n c ∧ n ≤ c ∧ c ≤ maxLen ∧ Bai W W.heap.size A n X := by
  obtain ⟨A0, n0, c0, rfl⟩ := okWide_slice Try.underlying22 hv
  obtain ⟨fuel, hf⟩ := h
  have hC : Try.prog.cellsOf 26 = 7 := by kernel_rfl
  rcases Go.Deep.open_slice Try.underlying22 hf with ⟨hcs, _⟩ | ⟨a, len, cap, m, n, D, Pl, hcs, _, hl, hm, hmm, _, hi⟩
  · simp [Value.cells] at hcs
    obtain ⟨rfl, rfl, rfl⟩ := hcs
    exact ⟨none, 0, 0, [], rfl, by omega, by simp [maxLen], rfl, Lies.empty, fun k hk => absurd hk (by omega)⟩
  · simp [Value.cells] at hcs
    obtain ⟨rfl, rfl, rfl⟩ := hcs
    have hmc : m = c0 := by simpa using hmm
    have key : ∀ i, i < n0 → ∃ y : BA, (Rcs W W.heap.size y.A y.b.L.length y.b.L ∧ y.b.L.length ≤ y.c ∧ y.c ≤ maxLen) ∧ ∀ j u, y.cells[j]? = some u → W.cell? (a.add (i * 7 + j)) = some u := by
      intro i hin
      obtain ⟨cs', hc, ht⟩ := hi i (by omega)
      rw [hC] at hc
      obtain ⟨_, hcl, hat⟩ := World.cells?_some hc
      obtain ⟨y, rfl, hok⟩ := bat_cells ht
      refine ⟨y, hok, fun j u hj => ?_⟩
      have hj7 : j < 7 := by
        rcases Nat.lt_or_ge j 7 with g | g
        · exact g
        · rw [List.getElem?_eq_none (by show y.cells.length ≤ j; exact g)] at hj; cases hj
      rw [← add_twice, hat j hj7]
      exact hj
    obtain ⟨X, hlen, hrow⟩ := pick_list key
    refine ⟨some a, n0, c0, X, rfl, hl, hm, ⟨hlen, ⟨fun j u hj => ?_⟩, fun k hk => (hrow k hk).1⟩⟩
    have hjl : j < (bcells X).length := by
      rcases Nat.lt_or_ge j (bcells X).length with g | g
      · exact g
      · rw [List.getElem?_eq_none g] at hj; cases hj
    rw [bcells_length, hlen] at hjl
    have hk : j / 7 < n0 := by omega
    have e : j = j / 7 * 7 + j % 7 := by omega
    rw [e, bcells_get X (j / 7) (j % 7) (by omega) (by omega)] at hj
    have hc := (hrow (j / 7) hk).2 (j % 7) u hj
    rw [← e] at hc
    exact ⟨a, rfl, by have := cell_lt hc; rwa [add_block] at this, hc⟩
set_option maxRecDepth 100000 in
theorem bools_in {base0 : Nat} {v : Value} {d : DataW H} {p : List MemPlace} (hv : Value.okWide Try.prog W .any base0 23 v) (h : DataW.Trod enc Try.prog W 0 (fun _ => true) true 23 v d p) :
    ∃ A n c X, v = .slice A n c ∧ n ≤ c ∧ c ≤ maxLen ∧ Bbs W W.heap.size A n X := by
  obtain ⟨A0, n0, c0, rfl⟩ := okWide_slice Try.underlying23 hv
  obtain ⟨fuel, hf⟩ := h
  have hC : Try.prog.cellsOf 4 = 1 := by kernel_rfl
  rcases Go.Deep.open_slice Try.underlying23 hf with ⟨hcs, _⟩ | ⟨a, len, cap, m, n, D, Pl, hcs, _, hl, hm, hmm, _, hi⟩
  · simp [Value.cells] at hcs
    obtain ⟨rfl, rfl, rfl⟩ := hcs
    exact ⟨none, 0, 0, [], rfl, by omega, by simp [maxLen], rfl, fun k hk => absurd hk (by omega)⟩
  · simp [Value.cells] at hcs
    obtain ⟨rfl, rfl, rfl⟩ := hcs
    have hmc : m = c0 := by simpa using hmm
    have key : ∀ i, i < n0 → ∃ y : Bool, W.cell? (a.add i) = some (.bool y) := by
      intro i hin
      obtain ⟨cs', hc, ht⟩ := hi i (by omega)
      rw [hC] at hc
      obtain ⟨_, hcl, hat⟩ := World.cells?_some hc
      obtain ⟨y, q, _⟩ := DataW.trod_bool Try.underlying4 ht
      subst q
      have := hat 0 (by omega)
      rw [add_twice, Nat.mul_one, Nat.add_zero] at this
      exact ⟨y, this⟩
    obtain ⟨X, hlen, hrow⟩ := pick_list key
    exact ⟨some a, n0, c0, X, rfl, hl, hm, hlen, fun k hk => ⟨a, rfl, by have := cell_lt (hrow k hk); rwa [add_block] at this, hrow k hk⟩⟩
end
end Go.Proofs.Ytapnhhoegoakiaa
