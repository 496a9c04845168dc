/-
  From what a row's reading says of arguments to the words of the walks.
  Structs as a row reads them: down to cells.
  Records and batches that came in.
-/
import Derived.Test.YtniopekkfnkipaaChecked
import Derived.Test.YtniopekkfnkipaaWords
import Derived.WalkKit
import Derived.ProofKit
import Derived.OpenShut
import Derived.ChangeOld
import Derived.Carry
import Derived.Deep.Slices
import Derived.Deep.Fields
import Derived.SliceStrings
import Derived.Test.YtniopekkfnkipaaRecA
namespace Go.Proofs.Ytniopekkfnkipaa
open Go.ChangeShapes Go.WideShapes Go.ChangeAt Go.RowKit
set_option linter.unusedVariables false

theorem own : ownKnob Try.prog.godebug = none := by kernel_rfl
theorem laidOut : laidOutB Try.prog = true := by kernel_rfl

theorem bd_i64 {a : Int} (w : (Lit.int .i64 a).wf = true) : -9223372036854775808 ≤ a ∧ a ≤ 9223372036854775807 := by
  simpa [Lit.wf, IntKind.min, IntKind.max, IntKind.signed, IntKind.bits] using w
theorem bd_u32 {a : Int} (w : (Lit.int .u32 a).wf = true) : ∃ b : Nat, a = (b : Int) ∧ b < 4294967296 := by
  have h : 0 ≤ a ∧ a ≤ 4294967295 := by simpa [Lit.wf, IntKind.min, IntKind.max, IntKind.signed, IntKind.bits] using w
  exact ⟨a.toNat, by omega, by omega⟩
theorem bd_u8 {a : Int} (w : (Lit.int .u8 a).wf = true) : ∃ b : UInt8, a = (b.toNat : Int) := by
  have h : 0 ≤ a ∧ a ≤ 255 := by simpa [Lit.wf, IntKind.min, IntKind.max, IntKind.signed, IntKind.bits] using w
  refine ⟨UInt8.ofNat a.toNat, ?_⟩
  rw [UInt8.toNat_ofNat']
  omega
theorem bd_u64 {a : Int} (w : (Lit.int .u64 a).wf = true) : ∃ b : Nat, a = (b : Int) ∧ b < 18446744073709551616 := by
  have h : 0 ≤ a ∧ a ≤ 18446744073709551615 := by simpa [Lit.wf, IntKind.min, IntKind.max, IntKind.signed, IntKind.bits] using w
  exact ⟨a.toNat, by omega, by omega⟩

section
variable {H : Type} {enc : TypeId × Value → H} {W W' : World}
theorem trod_below {t : TypeId} {v : Value} {d : DataW H} {p : List MemPlace} (h : DataW.Trod enc Try.prog W 0 (fun _ => true) true t v d p) : ∀ x ∈ p, x.block < W.heap.size := by
  obtain ⟨m, hm⟩ := h
  exact DataW.trod_lt m _ _ _ hm
theorem again {t : TypeId} (hr : Try.prog.readableRec t = true) (hrow : t < Try.prog.types.size) {v : Value} {d : DataW H} {p : List MemPlace} (h : DataW.Trod enc Try.prog W 0 (fun _ => true) true t v d p)
    (hb : Below W.heap.size W W') (hlt : ∀ x ∈ p, x.block < W.heap.size) : DataW.Trod enc Try.prog W' 0 (fun b => decide (b < W.heap.size)) true t v d p :=
  Below.trod laidOut hr hrow h hb hlt

/-- numbers that fit a byte are bytes -/
theorem bytes_of (zs : List Int) (h : ∀ n ∈ zs, (Lit.int .u8 n).wf = true) : ∃ l : List UInt8, zs = l.map (fun b => (b.toNat : Int)) := by
  induction zs with
  | nil => exact ⟨[], rfl⟩
  | cons z zs ih =>
    obtain ⟨l, rfl⟩ := ih (fun n hn => h n (List.mem_cons_of_mem _ hn))
    obtain ⟨b, rfl⟩ := bd_u8 (h z List.mem_cons_self)
    exact ⟨b :: l, rfl⟩

theorem cell_lt {w : World} {p : Addr} {u : Value} (h : w.cell? p = some u) : p.block < w.heap.size := World.block_lt_of_cell? w p h

/-- cells of a slice of bytes that came in -/
theorem bytes_cells {fuel : Nat} {cs : List Value} {x : DataW H × List MemPlace} {base : Nat} {spare : Nat → Bool} {held : Bool} (h : DataW.trod enc Try.prog W base spare held fuel 25 cs = some x) :
    ∃ A n c l, cs = [.slice A n c] ∧ n ≤ c ∧ c ≤ maxLen ∧ Bs W W.heap.size A n l := by
  rcases open_ints Try.underlying25 Try.underlying5 (by kernel_rfl) h with ⟨hcs, _⟩ | ⟨a, len, cap, zs, hcs, _, hl, hm, hz, _, hcell, hwz⟩
  · exact ⟨none, 0, 0, [], hcs, by omega, by simp [maxLen], Bs.nil_⟩
  · obtain ⟨l, rfl⟩ := bytes_of zs hwz
    have hz' : len ≤ l.length := by
      have := hz
      simp at this
      split at this <;> omega
    refine ⟨some a, len, cap, l.take len, hcs, hl, hm, ⟨by simp; omega, ⟨fun j u hj => ?_⟩⟩⟩
    have hjl : j < (bvs (l.take len)).length := by
      rcases Nat.lt_or_ge j (bvs (l.take len)).length with g | g
      · exact g
      · rw [List.getElem?_eq_none g] at hj; cases hj
    rw [bvs_length] at hjl
    have hj2 : j < len ∧ j < l.length := by simp at hjl; omega
    have hc := hcell j (by simp; omega)
    have hu : u = .int .u8 ((l.map (fun b => (b.toNat : Int))).getD j 0) := by
      rw [bvs, List.getElem?_map, List.getElem?_take, if_pos hj2.1, List.getElem?_eq_getElem hj2.2] at hj
      simp only [Option.map_some, Option.some.injEq] at hj
      rw [← hj, List.getD_eq_getElem?_getD, List.getElem?_map, List.getElem?_eq_getElem hj2.2]
      rfl
    rw [← hu] at hc
    exact ⟨a, rfl, by have := cell_lt hc; rwa [add_block] at this, hc⟩

set_option maxRecDepth 100000 in
/-- a slice of bytes that came in -/
theorem bytes_in {base0 : Nat} {v : Value} {d : DataW H} {p : List MemPlace} (hv : Value.okWide Try.prog W .any base0 25 v) (h : DataW.Trod enc Try.prog W 0 (fun _ => true) true 25 v d p) :
    ∃ A n c l, v = .slice A n c ∧ n ≤ c ∧ c ≤ maxLen ∧ Bs W W.heap.size A n l := by
  obtain ⟨A0, n0, c0, rfl⟩ := okWide_slice Try.underlying25 hv
  obtain ⟨fuel, hf⟩ := h
  obtain ⟨A, n, c, l, hcs, h1, h2, h3⟩ := bytes_cells hf
  simp [Value.cells] at hcs
  obtain ⟨rfl, rfl, rfl⟩ := hcs
  exact ⟨_, _, _, l, rfl, h1, h2, h3⟩
theorem list_of {n : Nat} {Q : Nat → List UInt8 → Prop} (h : ∀ i, i < n → ∃ l, Q i l) : ∃ L : List (List UInt8), L.length = n ∧ ∀ i, i < n → Q i (L.getD i []) := by
  have h2 : ∀ i, ∃ l, i < n → Q i l := fun i => by
    by_cases hi : i < n
    · obtain ⟨l, hl⟩ := h i hi
      exact ⟨l, fun _ => hl⟩
    · exact ⟨[], fun h => absurd h hi⟩
  refine ⟨(List.range n).map (fun i => Classical.choose (h2 i)), by simp, fun i hi => ?_⟩
  have e : ((List.range n).map (fun i => Classical.choose (h2 i))).getD i [] = Classical.choose (h2 i) := by
    rw [List.getD_eq_getElem?_getD, List.getElem?_map, List.getElem?_range hi]
    rfl
  rw [e]
  exact Classical.choose_spec (h2 i) hi

set_option maxRecDepth 100000 in
/-- a slice of slices of bytes that came in -/
theorem rows_in {base0 : Nat} {v : Value} {d : DataW H} {p : List MemPlace} (hv : Value.okWide Try.prog W .any base0 58 v) (h : DataW.Trod enc Try.prog W 0 (fun _ => true) true 58 v d p) :
    ∃ A n c L, v = .slice A n c ∧ n ≤ c ∧ c ≤ maxLen ∧ Rs W W.heap.size A n L := by
  obtain ⟨A0, n0, c0, rfl⟩ := okWide_slice Try.underlying58 hv
  obtain ⟨fuel, hf⟩ := h
  have hC : Try.prog.cellsOf 25 = 1 := by kernel_rfl
  rcases Go.Deep.open_slice Try.underlying58 hf with ⟨hcs, _⟩ | ⟨a, len, cap, m, n, D, Pl, hcs, _, hl, hm, hmm, _, hi⟩
  · simp [Value.cells] at hcs
    obtain ⟨rfl, rfl, rfl⟩ := hcs
    exact ⟨none, 0, 0, [], rfl, by omega, by simp [maxLen], Rs.nil_⟩
  · simp [Value.cells] at hcs
    obtain ⟨rfl, rfl, rfl⟩ := hcs
    have hmc : m = c0 := by simpa using hmm
    have key : ∀ i, i < n0 → ∃ l : List UInt8, ∃ A' c', W.cell? (a.add i) = some (.slice A' l.length c') ∧ l.length ≤ c' ∧ c' ≤ maxLen ∧ Bs W W.heap.size A' l.length l := by
      intro i hin
      obtain ⟨cs', hc, ht⟩ := hi i (by omega)
      rw [hC, Nat.mul_one] at hc
      obtain ⟨_, hcl, hat⟩ := World.cells?_some hc
      obtain ⟨A', n', c', l, rfl, h1, h2, h3⟩ := bytes_cells ht
      have h4 := h3.len
      subst h4
      have h5 := hat 0 (by omega)
      have e : (a.add i).add 0 = a.add i := by rw [add_twice, Nat.add_zero]
      rw [e] at h5
      exact ⟨l, A', c', h5, h1, h2, h3⟩
    obtain ⟨L, hlen, hrow⟩ := list_of key
    refine ⟨some a, n0, c0, L, rfl, hl, hm, hlen, fun k hk => ?_⟩
    obtain ⟨A', c', h1, h2, h3, h4⟩ := hrow k hk
    exact ⟨a, A', c', rfl, by have := cell_lt h1; rwa [add_block] at this, h1, h2, h3, h4⟩
end
end Go.Proofs.Ytniopekkfnkipaa
namespace Go.Proofs.Ytniopekkfnkipaa
open Go.ChangeShapes Go.WideShapes Go.ChangeAt Go.RowKit Go.Deep
set_option linter.unusedVariables false
section
variable {H : Type} {enc : TypeId × Value → H} {W W' : World} {base : Nat} {spare : Nat → Bool} {held : Bool}
/-- a struct whose fields take one cell each: what each cell reads as -/
theorem each_field {t : TypeId} {fs : Array Field} {fuel : Nat} {cs : List Value} {x : DataW H × List MemPlace} (hs : Try.prog.underlying t = some (.struct fs)) (hone : oneCellFields Try.prog fs = true) (hC : Try.prog.cellsOf t = fs.size)
    (h : DataW.trod enc Try.prog W base spare held fuel t cs = some x) :
    cs.length = fs.size ∧ ∃ m, ∀ (j : Nat) (f : Field), fs[j]? = some f → ∃ v y, cs[j]? = some v ∧ DataW.trod enc Try.prog W base spare held m f.type [v] = some y := by
  obtain ⟨xs, m, _, _, hl, hxl, hf⟩ := DataW.trod_struct hs h
  rw [hC] at hl
  refine ⟨hl, m, fun j f hj => ?_⟩
  have hjl : j < fs.size := (Array.getElem?_eq_some_iff.1 hj).1
  obtain ⟨ho, hk⟩ := hone_of hone j f hj
  have h1 := hf j f hj
  rw [ho, hk, List.drop_eq_getElem_cons (by omega), List.take_succ_cons, List.take_zero, List.getElem?_eq_getElem (by omega)] at h1
  exact ⟨_, _, List.getElem?_eq_getElem (by omega), h1⟩
theorem pick_list {α : Type} [Inhabited α] {n : Nat} {Q : Nat → α → Prop} (h : ∀ i, i < n → ∃ l, Q i l) : ∃ L : List α, L.length = n ∧ ∀ i, i < n → Q i (L.getD i default) := by
  have h2 : ∀ i, ∃ l, i < n → Q i l := fun i => by
    by_cases hi : i < n
    · obtain ⟨l, hl⟩ := h i hi
      exact ⟨l, fun _ => hl⟩
    · exact ⟨default, fun h => absurd h hi⟩
  refine ⟨(List.range n).map (fun i => Classical.choose (h2 i)), by simp, fun i hi => ?_⟩
  have e : ((List.range n).map (fun i => Classical.choose (h2 i))).getD i default = Classical.choose (h2 i) := by
    rw [List.getD_eq_getElem?_getD, List.getElem?_map, List.getElem?_range hi]
    rfl
  rw [e]
  exact Classical.choose_spec (h2 i) hi
end
end Go.Proofs.Ytniopekkfnkipaa
namespace Go.Proofs.Ytniopekkfnkipaa
open Go.ChangeShapes Go.WideShapes Go.ChangeAt Go.RowKit Go.Deep
set_option linter.unusedVariables false
section
variable {H : Type} {enc : TypeId × Value → H} {W W' : World} {base : Nat} {spare : Nat → Bool} {held : Bool}
set_option maxRecDepth 100000 in
theorem rec_cells {fuel : Nat} {cs : List Value} {x : DataW H × List MemPlace} (h : DataW.trod enc Try.prog W base spare held fuel 40 cs = some x) : ∃ r : Rec, cs = r.cells ∧ i64_ r.time := by
  obtain ⟨hl, m, hf⟩ := each_field Try.underlying40 (by kernel_rfl) (by kernel_rfl) h
  match cs, hl with
  | [v0, v1, v2, v3], _ =>
    obtain ⟨_, _, e0, t0⟩ := hf 0 _ rfl
    obtain ⟨_, _, e1, t1⟩ := hf 1 _ rfl
    obtain ⟨_, _, e2, t2⟩ := hf 2 _ rfl
    obtain ⟨_, _, e3, t3⟩ := hf 3 _ rfl
    simp only [List.getElem?_cons_zero, List.getElem?_cons_succ, Option.some.injEq] at e0 e1 e2 e3
    subst e0 e1 e2 e3
    obtain ⟨s0, q0, _, _⟩ := DataW.trod_string Try.underlying9 t0
    obtain ⟨s1, q1, _, _⟩ := DataW.trod_string Try.underlying9 t1
    obtain ⟨b2, q2, _⟩ := DataW.trod_bool Try.underlying4 t2
    obtain ⟨n3, q3, _, w3⟩ := DataW.trod_int Try.underlying2 t3
    simp at q0 q1 q2 q3
    subst q0 q1 q2 q3
    exact ⟨⟨s0, s1, b2, n3⟩, rfl, bd_i64 w3⟩
set_option maxRecDepth 100000 in
theorem recs_cell {fuel : Nat} {v : Value} {x : DataW H × List MemPlace} (h : DataW.trod enc Try.prog W base spare held fuel 22 [v] = some x) :
    ∃ A n c, ∃ L : List Rec, v = .slice A n c ∧ n ≤ c ∧ c ≤ maxLen ∧ Rcs W W.heap.size A n L := by
  have hC : Try.prog.cellsOf 40 = 4 := by kernel_rfl
  rcases Go.Deep.open_slice Try.underlying22 h with ⟨hcs, _⟩ | ⟨a, len, cap, m, n, D, Pl, hcs, _, hl, hm, hmm, _, hi⟩
  · simp at hcs
    exact ⟨none, 0, 0, [], hcs, by omega, by simp [maxLen], Rcs.nil_⟩
  · simp at hcs
    have hmc : len ≤ m := by rw [hmm]; split <;> omega
    have key : ∀ i, i < len → ∃ r : Rec, i64_ r.time ∧ ∀ j u, r.cells[j]? = some u → W.cell? (a.add (i * 4 + j)) = some u := by
      intro i hin
      obtain ⟨cs', hc, ht⟩ := hi i (by omega)
      rw [hC] at hc
      obtain ⟨_, hcl, hat⟩ := World.cells?_some hc
      obtain ⟨r, rfl, hok⟩ := rec_cells ht
      refine ⟨r, hok, fun j u hj => ?_⟩
      have hj4 : j < 4 := by
        rcases Nat.lt_or_ge j 4 with g | g
        · exact g
        · rw [List.getElem?_eq_none (by show r.cells.length ≤ j; exact g)] at hj; cases hj
      rw [← add_twice, hat j hj4]
      exact hj
    obtain ⟨L, hlen, hrow⟩ := pick_list key
    refine ⟨some a, len, cap, L, hcs, hl, hm, ⟨hlen, ⟨fun j u hj => ?_⟩, fun r hr => ?_⟩⟩
    · have hjl : j < (rcells L).length := by
        rcases Nat.lt_or_ge j (rcells L).length with g | g
        · exact g
        · rw [List.getElem?_eq_none g] at hj; cases hj
      rw [rcells_length, hlen] at hjl
      have hk : j / 4 < len := by omega
      have e : j = j / 4 * 4 + j % 4 := by omega
      rw [e, rcells_get L (j / 4) (j % 4) (by omega) (by omega)] at hj
      have hc := (hrow (j / 4) hk).2 (j % 4) u hj
      rw [← e] at hc
      exact ⟨a, rfl, by have := cell_lt hc; rwa [add_block] at this, hc⟩
    · obtain ⟨k, hk, rfl⟩ := List.mem_iff_getElem.1 hr
      have := (hrow k (by omega)).1
      rwa [List.getD_eq_getElem?_getD, List.getElem?_eq_getElem hk] at this
set_option maxRecDepth 100000 in
theorem batch_in {base0 : Nat} {v : Value} {d : DataW H} {p : List MemPlace} (hv : Value.okWide Try.prog W .any base0 24 v) (h : DataW.Trod enc Try.prog W 0 (fun _ => true) true 24 v d p) :
    ∃ (A : Option Addr) (n c : Nat) (b : Bat), v = .agg (b.cells A c) ∧ n ≤ c ∧ c ≤ maxLen ∧ b.ok ∧ b.L.length = n ∧ Rcs W W.heap.size A n b.L := by
  obtain ⟨cs, rfl, hsz⟩ := okWide_struct Try.underlying24 hv
  obtain ⟨l⟩ := cs
  obtain ⟨fuel, hf0⟩ := h
  have hf1 : DataW.trod enc Try.prog W 0 (fun _ => true) true fuel 24 l = some (d, p) := hf0
  obtain ⟨hl, m, hf⟩ := each_field Try.underlying24 (by kernel_rfl) (by kernel_rfl) hf1
  match l, hl with
  | [v0, v1, v2, v3, v4, v5, v6], _ =>
    obtain ⟨_, _, e0, t0⟩ := hf 0 _ rfl
    obtain ⟨_, _, e1, t1⟩ := hf 1 _ rfl
    obtain ⟨_, _, e2, t2⟩ := hf 2 _ rfl
    obtain ⟨_, _, e3, t3⟩ := hf 3 _ rfl
    obtain ⟨_, _, e4, t4⟩ := hf 4 _ rfl
    obtain ⟨_, _, e5, t5⟩ := hf 5 _ rfl
    obtain ⟨_, _, e6, t6⟩ := hf 6 _ rfl
    simp only [List.getElem?_cons_zero, List.getElem?_cons_succ, Option.some.injEq] at e0 e1 e2 e3 e4 e5 e6
    subst e0 e1 e2 e3 e4 e5 e6
    obtain ⟨n0, q0, _, w0⟩ := DataW.trod_int Try.underlying2 t0
    obtain ⟨n1, q1, _, w1⟩ := DataW.trod_int Try.underlying2 t1
    obtain ⟨n2, q2, _, w2⟩ := DataW.trod_int Try.underlying3 t2
    obtain ⟨n3, q3, _, w3⟩ := DataW.trod_int Try.underlying3 t3
    obtain ⟨n4, q4, _, w4⟩ := DataW.trod_int Try.underlying3 t4
    obtain ⟨n5, q5, _, w5⟩ := DataW.trod_int Try.underlying2 t5
    obtain ⟨A6, m6, c6, L6, rfl, h61, h62, h63⟩ := recs_cell t6
    simp at q0 q1 q2 q3 q4 q5
    subst q0 q1 q2 q3 q4 q5
    have hl6 := h63.len
    subst hl6
    exact ⟨A6, L6.length, c6, ⟨n0, n1, n2, n3, n4, n5, L6⟩, rfl, h61, h62, ⟨bd_i64 w0, bd_i64 w1, bd_i64 w2, bd_i64 w3, bd_i64 w4, bd_i64 w5⟩, rfl, h63⟩
end
end Go.Proofs.Ytniopekkfnkipaa
