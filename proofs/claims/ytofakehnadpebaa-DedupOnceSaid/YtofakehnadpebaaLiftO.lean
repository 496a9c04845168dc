/-
  A slice of operations that came in.
-/
import Derived.Test.YtofakehnadpebaaLiftB
import Derived.Test.YtofakehnadpebaaLiftN
import Derived.Test.YtofakehnadpebaaDdV
namespace Go.Proofs.Ytofakehnadpebaa
open Go.ChangeShapes Go.WideShapes Go.ChangeAt Go.RowKit Go.Deep
set_option linter.unusedVariables false
section
variable {H : Type} {enc : TypeId × Value → H} {W W' : World} {base : Nat} {spare : Nat → Bool} {held : Bool}
set_option maxRecDepth 100000 in
theorem batch_cells {fuel : Nat} {cs : List Value} {x : DataW H × List MemPlace} (h : DataW.trod enc Try.prog W base spare held fuel 26 cs = some x) : ∃ y : TA, cs = y.cells ∧ Rcs W W.heap.size y.A y.b.L.length y.b.L ∧ y.b.L.length ≤ y.c ∧ y.c ≤ maxLen := by
  obtain ⟨hl, m, hf⟩ := each_field Try.underlying26 (by kernel_rfl) (by kernel_rfl) h
  match cs, hl with
  | [v0, v1, v2, v3, v4, v5, v6], _ =>
    obtain ⟨_, _, e0, t0⟩ := hf 0 _ rfl
    obtain ⟨_, _, e1, t1⟩ := hf 1 _ rfl
    obtain ⟨_, _, e2, t2⟩ := hf 2 _ rfl
    obtain ⟨_, _, e3, t3⟩ := hf 3 _ rfl
    obtain ⟨_, _, e4, t4⟩ := hf 4 _ rfl
    obtain ⟨_, _, e5, t5⟩ := hf 5 _ rfl
    obtain ⟨_, _, e6, t6⟩ := hf 6 _ rfl
    simp only [List.getElem?_cons_zero, List.getElem?_cons_succ, Option.some.injEq] at e0 e1 e2 e3 e4 e5 e6
    subst e0 e1 e2 e3 e4 e5 e6
    obtain ⟨n0, q0, _, _⟩ := DataW.trod_int Try.underlying2 t0
    obtain ⟨n1, q1, _, _⟩ := DataW.trod_int Try.underlying2 t1
    obtain ⟨n2, q2, _, _⟩ := DataW.trod_int Try.underlying3 t2
    obtain ⟨n3, q3, _, _⟩ := DataW.trod_int Try.underlying3 t3
    obtain ⟨n4, q4, _, _⟩ := DataW.trod_int Try.underlying3 t4
    obtain ⟨n5, q5, _, _⟩ := DataW.trod_int Try.underlying2 t5
    obtain ⟨A6, n6, c6, L6, rfl, h1, h2, h3⟩ := recs_cell t6
    simp at q0 q1 q2 q3 q4 q5
    subst q0 q1 q2 q3 q4 q5
    obtain rfl := h3.len
    exact ⟨⟨⟨n0, n1, n2, n3, n4, n5, L6⟩, A6, c6⟩, rfl, h3, h1, h2⟩
set_option maxRecDepth 100000 in
theorem op_cells {fuel : Nat} {cs : List Value} {x : DataW H × List MemPlace} (h : DataW.trod enc Try.prog W base spare held fuel 70 cs = some x) :
    ∃ y : Po, cs = (opC y.kd y.x.b y.x.A y.x.c y.near y.tm).toList ∧ Rcs W W.heap.size y.x.A y.x.b.L.length y.x.b.L ∧ y.x.b.L.length ≤ y.x.c ∧ y.x.c ≤ maxLen := by
  have hC : Try.prog.cellsOf 70 = 10 := by kernel_rfl
  obtain ⟨xs, m, _, _, hl, hxl, hf⟩ := DataW.trod_struct Try.underlying70 h
  rw [hC] at hl
  match cs, hl with
  | [v0, v1, v2, v3, v4, v5, v6, v7, v8, v9], _ =>
    have k0 : Try.prog.cellsOf 3 = 1 := by kernel_rfl
    have k1 : Try.prog.cellsOf 26 = 7 := by kernel_rfl
    have k2 : Try.prog.cellsOf 4 = 1 := by kernel_rfl
    have k3 : Try.prog.cellsOf 2 = 1 := by kernel_rfl
    have hx4 : xs.length = 4 := hxl
    have t0 : DataW.trod enc Try.prog W base spare held m 3 (List.take (Try.prog.cellsOf 3) (List.drop 0 [v0, v1, v2, v3, v4, v5, v6, v7, v8, v9])) = xs[0]? := hf 0 _ rfl
    rw [k0, List.getElem?_eq_getElem (by omega)] at t0
    have t1 : DataW.trod enc Try.prog W base spare held m 26 (List.take (Try.prog.cellsOf 26) (List.drop 1 [v0, v1, v2, v3, v4, v5, v6, v7, v8, v9])) = xs[1]? := hf 1 _ rfl
    rw [k1, List.getElem?_eq_getElem (by omega)] at t1
    have t2 : DataW.trod enc Try.prog W base spare held m 4 (List.take (Try.prog.cellsOf 4) (List.drop 8 [v0, v1, v2, v3, v4, v5, v6, v7, v8, v9])) = xs[2]? := hf 2 _ rfl
    rw [k2, List.getElem?_eq_getElem (by omega)] at t2
    have t3 : DataW.trod enc Try.prog W base spare held m 2 (List.take (Try.prog.cellsOf 2) (List.drop 9 [v0, v1, v2, v3, v4, v5, v6, v7, v8, v9])) = xs[3]? := hf 3 _ rfl
    rw [k3, List.getElem?_eq_getElem (by omega)] at t3
    simp only [List.drop_zero, List.drop_succ_cons, List.take_succ_cons, List.take_zero] at t0 t1 t2 t3
    obtain ⟨n0, q0, _, _⟩ := DataW.trod_int Try.underlying3 t0
    obtain ⟨y, q1, hr, h1, h2⟩ := batch_cells t1
    obtain ⟨b2, q2, _⟩ := DataW.trod_bool Try.underlying4 t2
    obtain ⟨n3, q3, _, _⟩ := DataW.trod_int Try.underlying2 t3
    obtain ⟨⟨c0, c1, c2, c3, c4, c5, cl⟩, cA, cc⟩ := y
    simp [TA.cells, Bat.cells] at q0 q1 q2 q3
    obtain ⟨rfl, rfl, rfl, rfl, rfl, rfl, rfl⟩ := q1
    subst q0 q2 q3
    exact ⟨⟨n0, ⟨⟨c0, c1, c2, c3, c4, c5, cl⟩, cA, cc⟩, b2, n3⟩, rfl, hr, h1, h2⟩
set_option maxRecDepth 100000 in
theorem ops_in {base0 : Nat} {v : Value} {d : DataW H} {p : List MemPlace} (hv : Value.okWide Try.prog W .any base0 64 v) (h : DataW.Trod enc Try.prog W 0 (fun _ => true) true 64 v d p) :
    ∃ A n c X, v = .slice A n c ∧ n ≤ c ∧ c ≤ maxLen ∧ Ops W W.heap.size A n X := by
  obtain ⟨A0, n0, c0, rfl⟩ := okWide_slice Try.underlying64 hv
  obtain ⟨fuel, hf⟩ := h
  have hC : Try.prog.cellsOf 70 = 10 := by kernel_rfl
  rcases Go.Deep.open_slice Try.underlying64 hf with ⟨hcs, _⟩ | ⟨a, len, cap, m, n, D, Pl, hcs, _, hl, hm, hmm, _, hi⟩
  · simp [Value.cells] at hcs
    obtain ⟨rfl, rfl, rfl⟩ := hcs
    exact ⟨none, 0, 0, [], rfl, by omega, by simp [maxLen], rfl, fun k hk => absurd hk (by omega), fun k hk => absurd hk (by omega)⟩
  · simp [Value.cells] at hcs
    obtain ⟨rfl, rfl, rfl⟩ := hcs
    have hmc : m = c0 := by simpa using hmm
    have key : ∀ i, i < n0 → ∃ y : Po, (a.block < W.heap.size ∧ ∀ j u, (opC y.kd y.x.b y.x.A y.x.c y.near y.tm)[j]? = some u → W.cell? ((a.add (i * 10)).add j) = some u) ∧ Rcs W W.heap.size y.x.A y.x.b.L.length y.x.b.L ∧ y.x.b.L.length ≤ y.x.c ∧ y.x.c ≤ maxLen := by
      intro i hin
      obtain ⟨cs', hc, ht⟩ := hi i (by omega)
      rw [hC] at hc
      obtain ⟨_, hcl, hat⟩ := World.cells?_some hc
      obtain ⟨y, rfl, h1, h2, h3⟩ := op_cells ht
      have g0 := hat 0 (by omega)
      refine ⟨y, ⟨by have := cell_lt g0; rwa [add_block, add_block] at this, fun j u hj => ?_⟩, h1, h2, h3⟩
      have hj10 : j < 10 := by
        rcases Nat.lt_or_ge j 10 with g | g
        · exact g
        · rw [Array.getElem?_eq_none (by simpa [opC] using g)] at hj; cases hj
      rw [hat j hj10]
      simpa using hj
    obtain ⟨X, hlen, hrow⟩ := pick_list key
    exact ⟨some a, n0, c0, X, rfl, hl, hm, hlen, fun k hk => ⟨a, rfl, (hrow k hk).1.1, (hrow k hk).1.2⟩, fun k hk => (hrow k hk).2⟩
end
end Go.Proofs.Ytofakehnadpebaa
