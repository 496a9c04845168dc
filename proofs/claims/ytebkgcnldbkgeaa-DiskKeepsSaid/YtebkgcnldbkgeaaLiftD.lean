/-
  A slice of calls of law 4 that came in.
-/
import Derived.Test.YtebkgcnldbkgeaaLiftF
import Derived.Test.YtebkgcnldbkgeaaDpU
namespace Go.Proofs.Ytebkgcnldbkgeaa
open Go.ChangeShapes Go.WideShapes Go.ChangeAt Go.RowKit Go.Deep
set_option linter.unusedVariables false
section
variable {H : Type} {enc : TypeId × Value → H} {W W' : World} {base : Nat} {spare : Nat → Bool} {held : Bool}
set_option maxRecDepth 100000 in
theorem ints_cell {fuel : Nat} {v : Value} {x : DataW H × List MemPlace} (h : DataW.trod enc Try.prog W base spare held fuel 29 [v] = some x) :
    ∃ A n c l, v = .slice A n c ∧ n ≤ c ∧ c ≤ maxLen ∧ Isd W W.heap.size A n l := by
  rcases open_ints Try.underlying29 Try.underlying3 (by kernel_rfl) h with ⟨hcs, _⟩ | ⟨a, len, cap, zs, hcs, _, hl, hm, hz, _, hcell, hwz⟩
  · simp at hcs
    exact ⟨none, 0, 0, [], hcs, by omega, by simp [maxLen], ⟨rfl, fun k hk => absurd hk (by omega)⟩⟩
  · simp at hcs
    have hz' : len ≤ zs.length := by rw [hz]; split <;> omega
    refine ⟨some a, len, cap, zs.take len, hcs, hl, hm, ⟨by rw [List.length_take]; omega, fun k hk => ?_⟩⟩
    have hkz : k < zs.length := by omega
    have e : (zs.take len).getD k 0 = zs.getD k 0 := by
      rw [List.getD_eq_getElem?_getD, List.getD_eq_getElem?_getD, List.getElem?_take, if_pos hk]
    have hc := hcell k hkz
    have hb := bd_i64 (hwz (zs.getD k 0) (by rw [List.getD_eq_getElem?_getD, List.getElem?_eq_getElem hkz]; exact List.getElem_mem hkz))
    rw [e]
    exact ⟨a, rfl, by have := cell_lt hc; rwa [add_block] at this, hc, hb.1, hb.2⟩
set_option maxRecDepth 100000 in
theorem op4_cells {fuel : Nat} {cs : List Value} {x : DataW H × List MemPlace} (h : DataW.trod enc Try.prog W base spare held fuel 44 cs = some x) : ∃ y : O4, cs = y.cells ∧ y.In W := by
  obtain ⟨hl, m, hf⟩ := each_field Try.underlying44 (by kernel_rfl) (by kernel_rfl) h
  match cs, hl with
  | [v0, v1, v2, v3, v4, v5], _ =>
    obtain ⟨_, _, e0, t0⟩ := hf 0 _ rfl
    obtain ⟨_, _, e1, t1⟩ := hf 1 _ rfl
    obtain ⟨_, _, e2, t2⟩ := hf 2 _ rfl
    obtain ⟨_, _, e3, t3⟩ := hf 3 _ rfl
    obtain ⟨_, _, e4, t4⟩ := hf 4 _ rfl
    obtain ⟨_, _, e5, t5⟩ := hf 5 _ rfl
    simp only [List.getElem?_cons_zero, List.getElem?_cons_succ, Option.some.injEq] at e0 e1 e2 e3 e4 e5
    subst e0 e1 e2 e3 e4 e5
    obtain ⟨n0, q0, _, _⟩ := DataW.trod_int Try.underlying3 t0
    obtain ⟨s1, q1, _, w1⟩ := DataW.trod_string Try.underlying9 t1
    obtain ⟨s2, q2, _, w2⟩ := DataW.trod_string Try.underlying9 t2
    obtain ⟨s3, q3, _, w3⟩ := DataW.trod_string Try.underlying9 t3
    obtain ⟨n4, q4, _, w4⟩ := DataW.trod_int Try.underlying3 t4
    obtain ⟨A5, n5, c5, L5, rfl, h1, h2, h3⟩ := ints_cell t5
    simp at q0 q1 q2 q3 q4
    subst q0 q1 q2 q3 q4
    exact ⟨⟨n0, s1, s2, s3, n4, A5, n5, c5, L5⟩, rfl, h3, w1, w2, w3, (bd_i64 w4).1, (bd_i64 w4).2, h1, h2⟩
set_option maxRecDepth 100000 in
theorem ops4_in {base0 : Nat} {v : Value} {d : DataW H} {p : List MemPlace} (hv : Value.okWide Try.prog W .any base0 22 v) (h : DataW.Trod enc Try.prog W 0 (fun _ => true) true 22 v d p) :
    ∃ A n c X, v = .slice A n c ∧ n ≤ c ∧ c ≤ maxLen ∧ Ops4 W W.heap.size A n X := by
  obtain ⟨A0, n0, c0, rfl⟩ := okWide_slice Try.underlying22 hv
  obtain ⟨fuel, hf⟩ := h
  have hC : Try.prog.cellsOf 44 = 6 := by kernel_rfl
  rcases Go.Deep.open_slice Try.underlying22 hf with ⟨hcs, _⟩ | ⟨a, len, cap, m, n, D, Pl, hcs, _, hl, hm, hmm, _, hi⟩
  · simp [Value.cells] at hcs
    obtain ⟨rfl, rfl, rfl⟩ := hcs
    exact ⟨none, 0, 0, [], rfl, by omega, by simp [maxLen], ⟨rfl, Lies.empty⟩, fun k hk => absurd hk (by omega)⟩
  · simp [Value.cells] at hcs
    obtain ⟨rfl, rfl, rfl⟩ := hcs
    have hmc : m = c0 := by simpa using hmm
    have key : ∀ i, i < n0 → ∃ y : O4, y.In W ∧ ∀ j u, y.cells[j]? = some u → W.cell? (a.add (i * 6 + j)) = some u := by
      intro i hin
      obtain ⟨cs', hc, ht⟩ := hi i (by omega)
      rw [hC] at hc
      obtain ⟨_, hcl, hat⟩ := World.cells?_some hc
      obtain ⟨y, rfl, hy⟩ := op4_cells ht
      refine ⟨y, hy, fun j u hj => ?_⟩
      have hj6 : j < 6 := by
        rcases Nat.lt_or_ge j 6 with g | g
        · exact g
        · rw [List.getElem?_eq_none (by show y.cells.length ≤ j; exact g)] at hj; cases hj
      rw [← add_twice, hat j hj6]
      exact hj
    obtain ⟨X, hlen, hrow⟩ := pick_list key
    refine ⟨some a, n0, c0, X, rfl, hl, hm, ⟨hlen, ⟨fun j u hj => ?_⟩⟩, fun k hk => (hrow k hk).1⟩
    have hfl : (X.flatMap O4.cells).length = X.length * 6 := fl_length O4.cells 6 (fun _ => rfl) X
    have hjl : j < X.length * 6 := by
      rcases Nat.lt_or_ge j (X.flatMap O4.cells).length with g | g
      · omega
      · rw [List.getElem?_eq_none g] at hj; cases hj
    have hk : j / 6 < X.length := by omega
    have e : j = j / 6 * 6 + j % 6 := by omega
    rw [e, fl_get O4.cells 6 (fun _ => rfl) X (j / 6) (j % 6) hk (by omega)] at hj
    have hc := (hrow (j / 6) (by omega)).2 (j % 6) u hj
    rw [← e] at hc
    exact ⟨a, rfl, by have := cell_lt hc; rwa [add_block] at this, hc⟩
end
end Go.Proofs.Ytebkgcnldbkgeaa
