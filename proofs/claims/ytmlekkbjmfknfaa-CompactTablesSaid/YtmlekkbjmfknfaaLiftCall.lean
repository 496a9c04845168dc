/-
  Lists of law 9's calls that came in.
-/
import Derived.Test.YtmlekkbjmfknfaaLiftOne
import Derived.Test.YtmlekkbjmfknfaaCtT
namespace Go.Proofs.Ytmlekkbjmfknfaa
open Go.ChangeShapes Go.WideShapes Go.ChangeAt Go.RowKit Go.Deep
set_option linter.unusedVariables false
section
variable {H : Type} {enc : TypeId × Value → H} {W W' : World} {base : Nat} {spare : Nat → Bool} {held : Bool}
set_option maxRecDepth 100000 in
theorem ones_cell {fuel : Nat} {v : Value} {x : DataW H × List MemPlace} (hf : DataW.trod enc Try.prog W base spare held fuel 30 [v] = some x) :
    ∃ A n c X, v = .slice A n c ∧ n ≤ c ∧ c ≤ maxLen ∧ Ocs W W.heap.size A n X := by
  have hC : Try.prog.cellsOf 123 = 6 := by kernel_rfl
  rcases Go.Deep.open_slice Try.underlying30 hf with ⟨hcs, _⟩ | ⟨a, len, cap, m, n, D, Pl, hcs, _, hl, hm, hmm, _, hi⟩
  · simp at hcs
    subst hcs
    exact ⟨none, 0, 0, [], rfl, by omega, by simp [maxLen], rfl, Lies.empty, fun r h => by cases h⟩
  · simp at hcs
    subst hcs
    have hmc : len ≤ m := by first | (simp at hmm; split at hmm <;> omega) | (split at hmm <;> omega) | omega
    have key : ∀ i, i < len → ∃ y : OneC, y.ok ∧ ∀ j u, y.cells[j]? = some u → W.cell? (a.add (i * 6 + j)) = some u := by
      intro i hin
      obtain ⟨cs', hc, ht⟩ := hi i (by omega)
      rw [hC] at hc
      obtain ⟨_, hcl, hat⟩ := World.cells?_some hc
      obtain ⟨y, rfl, hok⟩ := one_cells ht
      refine ⟨y, hok, fun j u hj => ?_⟩
      have hj6 : j < 6 := by
        rcases Nat.lt_or_ge j 6 with g | g
        · exact g
        · rw [List.getElem?_eq_none (by show y.cells.length ≤ j; exact g)] at hj; cases hj
      rw [← add_twice, hat j hj6]
      exact hj
    obtain ⟨X, hlen, hrow⟩ := pick_list key
    refine ⟨some a, len, cap, X, rfl, hl, hm, ⟨hlen, ⟨fun j u hj => ?_⟩, fun r hr => ?_⟩⟩
    · have hcl : (ocells X).length = X.length * 6 := by
        clear hj hrow hlen
        induction X with
        | nil => rfl
        | cons r l ih => simp only [ocells, List.flatMap_cons, List.length_append, List.length_cons] at *; rw [ih]; simp only [OneC.cells, List.length_cons, List.length_nil]; omega
      have hjl : j < (ocells X).length := by
        rcases Nat.lt_or_ge j (ocells X).length with g | g
        · exact g
        · rw [List.getElem?_eq_none g] at hj; cases hj
      rw [hcl, hlen] at hjl
      have hk : j / 6 < len := by omega
      have e : j = j / 6 * 6 + j % 6 := by omega
      rw [e, ocells_get X (j / 6) (j % 6) (by omega) (by omega)] at hj
      have hc := (hrow (j / 6) hk).2 (j % 6) u hj
      rw [← e] at hc
      exact ⟨a, rfl, by have := cell_lt hc; rwa [add_block] at this, hc⟩
    · obtain ⟨k, hk, rfl⟩ := List.mem_iff_getElem.1 hr
      have := (hrow k (by omega)).1
      rwa [List.getD_eq_getElem?_getD, List.getElem?_eq_getElem hk] at this
set_option maxRecDepth 100000 in
theorem call_cells {fuel : Nat} {cs : List Value} {x : DataW H × List MemPlace} (h : DataW.trod enc Try.prog W base spare held fuel 32 cs = some x) : ∃ y : CallC, cs = [.int .i64 y.kind, .slice y.A y.m y.c, .bool y.fr, .string y.key, .string y.to_, .int .i64 y.most] ∧ y.ok W W.heap.size := by
  obtain ⟨hl, m, hf⟩ := each_field Try.underlying32 (by kernel_rfl) (by kernel_rfl) h
  match cs, hl with
  | [v0, v1, v2, v3, v4, v5], _ =>
    obtain ⟨_, _, e0, t0⟩ := hf 0 _ rfl
    obtain ⟨_, _, e1, t1⟩ := hf 1 _ rfl
    obtain ⟨_, _, e2, t2⟩ := hf 2 _ rfl
    obtain ⟨_, _, e3, t3⟩ := hf 3 _ rfl
    obtain ⟨_, _, e4, t4⟩ := hf 4 _ rfl
    obtain ⟨_, _, e5, t5⟩ := hf 5 _ rfl
    simp only [List.getElem?_cons_zero, List.getElem?_cons_succ, Option.some.injEq] at e0 e1 e2 e3 e4 e5
    subst e0 e1 e2 e3 e4 e5
    obtain ⟨n0, q0, _, _⟩ := DataW.trod_int Try.underlying3 t0
    obtain ⟨A, n, c, X, rfl, h1, h2, h3⟩ := ones_cell t1
    obtain ⟨b2, q2, _⟩ := DataW.trod_bool Try.underlying4 t2
    obtain ⟨s3, q3, _, _⟩ := DataW.trod_string Try.underlying9 t3
    obtain ⟨s4, q4, _, _⟩ := DataW.trod_string Try.underlying9 t4
    obtain ⟨n5, q5, _, w5⟩ := DataW.trod_int Try.underlying3 t5
    simp at q0 q2 q3 q4 q5
    subst q0 q2 q3 q4 q5
    exact ⟨⟨n0, A, n, c, X, b2, s3, s4, n5⟩, rfl, h3, Nat.le_trans h1 h2, bd_i64 w5⟩
set_option maxRecDepth 100000 in
theorem calls_in {base0 : Nat} {v : Value} {d : DataW H} {p : List MemPlace} (hv : Value.okWide Try.prog W .any base0 22 v) (h : DataW.Trod enc Try.prog W 0 (fun _ => true) true 22 v d p) :
    ∃ A n c X, v = .slice A n c ∧ n ≤ c ∧ c ≤ maxLen ∧ Cls W W.heap.size A n X := by
  obtain ⟨A0, n0, c0, rfl⟩ := okWide_slice Try.underlying22 hv
  obtain ⟨fuel, hf⟩ := h
  have hC : Try.prog.cellsOf 32 = 6 := by kernel_rfl
  rcases Go.Deep.open_slice Try.underlying22 hf with ⟨hcs, _⟩ | ⟨a, len, cap, m, n, D, Pl, hcs, _, hl, hm, hmm, _, hi⟩
  · simp [Value.cells] at hcs
    obtain ⟨rfl, rfl, rfl⟩ := hcs
    exact ⟨none, 0, 0, [], rfl, by omega, by simp [maxLen], ⟨fun k hk => absurd hk (by omega)⟩⟩
  · simp [Value.cells] at hcs
    obtain ⟨rfl, rfl, rfl⟩ := hcs
    have hmc : m = c0 := by simpa using hmm
    have key : ∀ i, i < n0 → ∃ y : CallC, y.ok W W.heap.size ∧ ∀ j u, [Value.int .i64 y.kind, .slice y.A y.m y.c, .bool y.fr, .string y.key, .string y.to_, .int .i64 y.most][j]? = some u → W.cell? (a.add (i * 6 + j)) = some u := by
      intro i hin
      obtain ⟨cs', hc, ht⟩ := hi i (by omega)
      rw [hC] at hc
      obtain ⟨_, hcl, hat⟩ := World.cells?_some hc
      obtain ⟨y, rfl, hok⟩ := call_cells ht
      refine ⟨y, hok, fun j u hj => ?_⟩
      have hj6 : j < 6 := by
        rcases Nat.lt_or_ge j 6 with g | g
        · exact g
        · rw [List.getElem?_eq_none (by simpa using g)] at hj; cases hj
      rw [← add_twice, hat j hj6]
      exact hj
    obtain ⟨X, hlen, hrow⟩ := pick_list key
    refine ⟨some a, n0, c0, X, rfl, hl, hm, ⟨fun k hk => ?_⟩⟩
    obtain ⟨hok, hc⟩ := hrow k hk
    have c0 := hc 0 _ rfl
    have g' : ∀ j u, 0 < j → [Value.int .i64 (X.getD k default).kind, .slice (X.getD k default).A (X.getD k default).m (X.getD k default).c, .bool (X.getD k default).fr, .string (X.getD k default).key, .string (X.getD k default).to_, .int .i64 (X.getD k default).most][j]? = some u → W.cell? ⟨(a.add (k * 6)).block, (a.add (k * 6)).off + j, none⟩ = some u := fun j u h0 hu => by
      rw [← add_pos5 _ j h0, add_twice]; exact hc j u hu
    exact ⟨a, rfl, by have := cell_lt c0; rwa [add_block] at this, c0, g' 1 _ (by omega) rfl, g' 2 _ (by omega) rfl, g' 3 _ (by omega) rfl, g' 4 _ (by omega) rfl, g' 5 _ (by omega) rfl, hok⟩
end
end Go.Proofs.Ytmlekkbjmfknfaa
