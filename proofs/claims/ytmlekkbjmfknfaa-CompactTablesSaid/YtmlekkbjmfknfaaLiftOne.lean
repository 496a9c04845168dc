/-
  Lists of law 9's Ones that came in.
-/
import Derived.Test.YtmlekkbjmfknfaaLiftF
import Derived.Test.YtmlekkbjmfknfaaCpO
namespace Go.Proofs.Ytmlekkbjmfknfaa
open Go.ChangeShapes Go.WideShapes Go.ChangeAt Go.RowKit Go.Deep
set_option linter.unusedVariables false
section
variable {H : Type} {enc : TypeId × Value → H} {W W' : World} {base : Nat} {spare : Nat → Bool} {held : Bool}
set_option maxRecDepth 100000 in
theorem rec9_cells {fuel : Nat} {cs : List Value} {x : DataW H × List MemPlace} (h : DataW.trod enc Try.prog W base spare held fuel 79 cs = some x) : ∃ (k v : ByteArray) (g : Bool) (t : Int), cs = [.string k, .string v, .bool g, .int .i64 t] ∧ k.size ≤ maxLen ∧ v.size ≤ maxLen ∧ (-9223372036854775808 ≤ t ∧ t ≤ 9223372036854775807) := by
  obtain ⟨hl, m, hf⟩ := each_field Try.underlying79 (by kernel_rfl) (by kernel_rfl) h
  match cs, hl with
  | [v0, v1, v2, v3], _ =>
    obtain ⟨_, _, e0, t0⟩ := hf 0 _ rfl
    obtain ⟨_, _, e1, t1⟩ := hf 1 _ rfl
    obtain ⟨_, _, e2, t2⟩ := hf 2 _ rfl
    obtain ⟨_, _, e3, t3⟩ := hf 3 _ rfl
    simp only [List.getElem?_cons_zero, List.getElem?_cons_succ, Option.some.injEq] at e0 e1 e2 e3
    subst e0 e1 e2 e3
    obtain ⟨s0, q0, _, z0⟩ := DataW.trod_string Try.underlying9 t0
    obtain ⟨s1, q1, _, z1⟩ := DataW.trod_string Try.underlying9 t1
    obtain ⟨b2, q2, _⟩ := DataW.trod_bool Try.underlying4 t2
    obtain ⟨n3, q3, _, w3⟩ := DataW.trod_int Try.underlying2 t3
    simp at q0 q1 q2 q3
    subst q0 q1 q2 q3
    exact ⟨s0, s1, b2, n3, rfl, z0, z1, bd_i64 w3⟩
set_option maxRecDepth 100000 in
theorem one_cells {fuel : Nat} {cs : List Value} {x : DataW H × List MemPlace} (h : DataW.trod enc Try.prog W base spare held fuel 123 cs = some x) : ∃ y : OneC, cs = y.cells ∧ y.ok := by
  have hC : Try.prog.cellsOf 123 = 6 := by kernel_rfl
  obtain ⟨xs, m, _, _, hl, hxl, hf⟩ := DataW.trod_struct Try.underlying123 h
  rw [hC] at hl
  match cs, hl with
  | [v0, v1, v2, v3, v4, v5], _ =>
    have k0 : Try.prog.cellsOf 2 = 1 := by kernel_rfl
    have k1 : Try.prog.cellsOf 4 = 1 := by kernel_rfl
    have k2 : Try.prog.cellsOf 79 = 4 := by kernel_rfl
    have hx4 : xs.length = 3 := hxl
    have t0 : DataW.trod enc Try.prog W base spare held m 2 (List.take (Try.prog.cellsOf 2) (List.drop 0 [v0, v1, v2, v3, v4, v5])) = xs[0]? := hf 0 _ rfl
    rw [k0, List.getElem?_eq_getElem (by omega)] at t0
    have t1 : DataW.trod enc Try.prog W base spare held m 4 (List.take (Try.prog.cellsOf 4) (List.drop 1 [v0, v1, v2, v3, v4, v5])) = xs[1]? := hf 1 _ rfl
    rw [k1, List.getElem?_eq_getElem (by omega)] at t1
    have t2 : DataW.trod enc Try.prog W base spare held m 79 (List.take (Try.prog.cellsOf 79) (List.drop 2 [v0, v1, v2, v3, v4, v5])) = xs[2]? := hf 2 _ rfl
    rw [k2, List.getElem?_eq_getElem (by omega)] at t2
    simp only [List.drop_zero, List.drop_succ_cons, List.take_succ_cons, List.take_zero] at t0 t1 t2
    obtain ⟨n0, q0, _, w0⟩ := DataW.trod_int Try.underlying2 t0
    obtain ⟨b1, q1, _⟩ := DataW.trod_bool Try.underlying4 t1
    obtain ⟨k, v, g, t, q2, z1, z2, z3⟩ := rec9_cells t2
    simp at q0 q1 q2
    obtain ⟨rfl, rfl, rfl, rfl⟩ := q2
    subst q0 q1
    have hb := bd_i64 w0
    exact ⟨⟨n0, b1, k, v, g, t⟩, rfl, hb.1, hb.2, z1, z2, z3.1, z3.2⟩
set_option maxRecDepth 100000 in
theorem ones_in {base0 : Nat} {v : Value} {d : DataW H} {p : List MemPlace} (hv : Value.okWide Try.prog W .any base0 30 v) (h : DataW.Trod enc Try.prog W 0 (fun _ => true) true 30 v d p) :
    ∃ A n c X, v = .slice A n c ∧ n ≤ c ∧ c ≤ maxLen ∧ Ocs W W.heap.size A n X := by
  obtain ⟨A0, n0, c0, rfl⟩ := okWide_slice Try.underlying30 hv
  obtain ⟨fuel, hf⟩ := h
  have hC : Try.prog.cellsOf 123 = 6 := by kernel_rfl
  rcases Go.Deep.open_slice Try.underlying30 hf with ⟨hcs, _⟩ | ⟨a, len, cap, m, n, D, Pl, hcs, _, hl, hm, hmm, _, hi⟩
  · simp [Value.cells] at hcs
    obtain ⟨rfl, rfl, rfl⟩ := hcs
    exact ⟨none, 0, 0, [], rfl, by omega, by simp [maxLen], rfl, Lies.empty, fun r h => by cases h⟩
  · simp [Value.cells] at hcs
    obtain ⟨rfl, rfl, rfl⟩ := hcs
    have hmc : m = c0 := by simpa using hmm
    have key : ∀ i, i < n0 → ∃ y : OneC, y.ok ∧ ∀ j u, y.cells[j]? = some u → W.cell? (a.add (i * 6 + j)) = some u := by
      intro i hin
      obtain ⟨cs', hc, ht⟩ := hi i (by omega)
      rw [hC] at hc
      obtain ⟨_, hcl, hat⟩ := World.cells?_some hc
      obtain ⟨y, rfl, hok⟩ := one_cells ht
      refine ⟨y, hok, fun j u hj => ?_⟩
      have hj6 : j < 6 := by
        rcases Nat.lt_or_ge j 6 with g | g
        · exact g
        · rw [List.getElem?_eq_none (by show y.cells.length ≤ j; exact g)] at hj; cases hj
      rw [← add_twice, hat j hj6]
      exact hj
    obtain ⟨X, hlen, hrow⟩ := pick_list key
    refine ⟨some a, n0, c0, X, rfl, hl, hm, ⟨hlen, ⟨fun j u hj => ?_⟩, fun r hr => ?_⟩⟩
    · have hcl : (ocells X).length = X.length * 6 := by
        clear hj hrow hlen
        induction X with
        | nil => rfl
        | cons r l ih => simp only [ocells, List.flatMap_cons, List.length_append, List.length_cons] at *; rw [ih]; simp only [OneC.cells, List.length_cons, List.length_nil]; omega
      have hjl : j < (ocells X).length := by
        rcases Nat.lt_or_ge j (ocells X).length with g | g
        · exact g
        · rw [List.getElem?_eq_none g] at hj; cases hj
      rw [hcl, hlen] at hjl
      have hk : j / 6 < n0 := by omega
      have e : j = j / 6 * 6 + j % 6 := by omega
      rw [e, ocells_get X (j / 6) (j % 6) (by omega) (by omega)] at hj
      have hc := (hrow (j / 6) hk).2 (j % 6) u hj
      rw [← e] at hc
      exact ⟨a, rfl, by have := cell_lt hc; rwa [add_block] at this, hc⟩
    · obtain ⟨k, hk, rfl⟩ := List.mem_iff_getElem.1 hr
      have := (hrow k (by omega)).1
      rwa [List.getD_eq_getElem?_getD, List.getElem?_eq_getElem hk] at this
end
end Go.Proofs.Ytmlekkbjmfknfaa
