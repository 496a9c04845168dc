/-
  From what a row's reading says of arguments to the words of the walks.
-/
import Derived.Test.YtebkgcnldbkgeaaChecked
import Derived.Test.YtebkgcnldbkgeaaWords
import Derived.WalkKit
import Derived.ProofKit
import Derived.OpenShut
import Derived.ChangeOld
import Derived.Carry
import Derived.Deep.Slices
namespace Go.Proofs.Ytebkgcnldbkgeaa
open Go.ChangeShapes Go.WideShapes Go.ChangeAt Go.RowKit
set_option linter.unusedVariables false

theorem own : ownKnob Try.prog.godebug = none := by kernel_rfl
theorem laidOut : laidOutB Try.prog = true := by kernel_rfl

theorem bd_i64 {a : Int} (w : (Lit.int .i64 a).wf = true) : -9223372036854775808 ≤ a ∧ a ≤ 9223372036854775807 := by
  simpa [Lit.wf, IntKind.min, IntKind.max, IntKind.signed, IntKind.bits] using w
theorem bd_u32 {a : Int} (w : (Lit.int .u32 a).wf = true) : ∃ b : Nat, a = (b : Int) ∧ b < 4294967296 := by
  have h : 0 ≤ a ∧ a ≤ 4294967295 := by simpa [Lit.wf, IntKind.min, IntKind.max, IntKind.signed, IntKind.bits] using w
  exact ⟨a.toNat, by omega, by omega⟩
theorem bd_u8 {a : Int} (w : (Lit.int .u8 a).wf = true) : ∃ b : UInt8, a = (b.toNat : Int) := by
  have h : 0 ≤ a ∧ a ≤ 255 := by simpa [Lit.wf, IntKind.min, IntKind.max, IntKind.signed, IntKind.bits] using w
  refine ⟨UInt8.ofNat a.toNat, ?_⟩
  rw [UInt8.toNat_ofNat']
  omega
theorem bd_u64 {a : Int} (w : (Lit.int .u64 a).wf = true) : ∃ b : Nat, a = (b : Int) ∧ b < 18446744073709551616 := by
  have h : 0 ≤ a ∧ a ≤ 18446744073709551615 := by simpa [Lit.wf, IntKind.min, IntKind.max, IntKind.signed, IntKind.bits] using w
  exact ⟨a.toNat, by omega, by omega⟩

section
variable {H : Type} {enc : TypeId × Value → H} {W W' : World}
theorem trod_below {t : TypeId} {v : Value} {d : DataW H} {p : List MemPlace} (h : DataW.Trod enc Try.prog W 0 (fun _ => true) true t v d p) : ∀ x ∈ p, x.block < W.heap.size := by
  obtain ⟨m, hm⟩ := h
  exact DataW.trod_lt m _ _ _ hm
theorem again {t : TypeId} (hr : Try.prog.readableRec t = true) (hrow : t < Try.prog.types.size) {v : Value} {d : DataW H} {p : List MemPlace} (h : DataW.Trod enc Try.prog W 0 (fun _ => true) true t v d p)
    (hb : Below W.heap.size W W') (hlt : ∀ x ∈ p, x.block < W.heap.size) : DataW.Trod enc Try.prog W' 0 (fun b => decide (b < W.heap.size)) true t v d p :=
  Below.trod laidOut hr hrow h hb hlt

/-- numbers that fit a byte are bytes -/
theorem bytes_of (zs : List Int) (h : ∀ n ∈ zs, (Lit.int .u8 n).wf = true) : ∃ l : List UInt8, zs = l.map (fun b => (b.toNat : Int)) := by
  induction zs with
  | nil => exact ⟨[], rfl⟩
  | cons z zs ih =>
    obtain ⟨l, rfl⟩ := ih (fun n hn => h n (List.mem_cons_of_mem _ hn))
    obtain ⟨b, rfl⟩ := bd_u8 (h z List.mem_cons_self)
    exact ⟨b :: l, rfl⟩

theorem cell_lt {w : World} {p : Addr} {u : Value} (h : w.cell? p = some u) : p.block < w.heap.size := World.block_lt_of_cell? w p h

/-- cells of a slice of bytes that came in -/
theorem bytes_cells {fuel : Nat} {cs : List Value} {x : DataW H × List MemPlace} {base : Nat} {spare : Nat → Bool} {held : Bool} (h : DataW.trod enc Try.prog W base spare held fuel 33 cs = some x) :
    ∃ A n c l, cs = [.slice A n c] ∧ n ≤ c ∧ c ≤ maxLen ∧ Bs W W.heap.size A n l := by
  rcases open_ints Try.underlying33 Try.underlying5 (by kernel_rfl) h with ⟨hcs, _⟩ | ⟨a, len, cap, zs, hcs, _, hl, hm, hz, _, hcell, hwz⟩
  · exact ⟨none, 0, 0, [], hcs, by omega, by simp [maxLen], Bs.nil_⟩
  · obtain ⟨l, rfl⟩ := bytes_of zs hwz
    have hz' : len ≤ l.length := by
      have := hz
      simp at this
      split at this <;> omega
    refine ⟨some a, len, cap, l.take len, hcs, hl, hm, ⟨by simp; omega, ⟨fun j u hj => ?_⟩⟩⟩
    have hjl : j < (bvs (l.take len)).length := by
      rcases Nat.lt_or_ge j (bvs (l.take len)).length with g | g
      · exact g
      · rw [List.getElem?_eq_none g] at hj; cases hj
    rw [bvs_length] at hjl
    have hj2 : j < len ∧ j < l.length := by simp at hjl; omega
    have hc := hcell j (by simp; omega)
    have hu : u = .int .u8 ((l.map (fun b => (b.toNat : Int))).getD j 0) := by
      rw [bvs, List.getElem?_map, List.getElem?_take, if_pos hj2.1, List.getElem?_eq_getElem hj2.2] at hj
      simp only [Option.map_some, Option.some.injEq] at hj
      rw [← hj, List.getD_eq_getElem?_getD, List.getElem?_map, List.getElem?_eq_getElem hj2.2]
      rfl
    rw [← hu] at hc
    exact ⟨a, rfl, by have := cell_lt hc; rwa [add_block] at this, hc⟩

set_option maxRecDepth 100000 in
/-- a slice of bytes that came in -/
theorem bytes_in {base0 : Nat} {v : Value} {d : DataW H} {p : List MemPlace} (hv : Value.okWide Try.prog W .any base0 33 v) (h : DataW.Trod enc Try.prog W 0 (fun _ => true) true 33 v d p) :
    ∃ A n c l, v = .slice A n c ∧ n ≤ c ∧ c ≤ maxLen ∧ Bs W W.heap.size A n l := by
  obtain ⟨A0, n0, c0, rfl⟩ := okWide_slice Try.underlying33 hv
  obtain ⟨fuel, hf⟩ := h
  obtain ⟨A, n, c, l, hcs, h1, h2, h3⟩ := bytes_cells hf
  simp [Value.cells] at hcs
  obtain ⟨rfl, rfl, rfl⟩ := hcs
  exact ⟨_, _, _, l, rfl, h1, h2, h3⟩
theorem list_of {n : Nat} {Q : Nat → List UInt8 → Prop} (h : ∀ i, i < n → ∃ l, Q i l) : ∃ L : List (List UInt8), L.length = n ∧ ∀ i, i < n → Q i (L.getD i []) := by
  have h2 : ∀ i, ∃ l, i < n → Q i l := fun i => by
    by_cases hi : i < n
    · obtain ⟨l, hl⟩ := h i hi
      exact ⟨l, fun _ => hl⟩
    · exact ⟨[], fun h => absurd h hi⟩
  refine ⟨(List.range n).map (fun i => Classical.choose (h2 i)), by simp, fun i hi => ?_⟩
  have e : ((List.range n).map (fun i => Classical.choose (h2 i))).getD i [] = Classical.choose (h2 i) := by
    rw [List.getD_eq_getElem?_getD, List.getElem?_map, List.getElem?_range hi]
    rfl
  rw [e]
  exact Classical.choose_spec (h2 i) hi

set_option maxRecDepth 100000 in
/-- a slice of slices of bytes that came in -/
theorem rows_in {base0 : Nat} {v : Value} {d : DataW H} {p : List MemPlace} (hv : Value.okWide Try.prog W .any base0 85 v) (h : DataW.Trod enc Try.prog W 0 (fun _ => true) true 85 v d p) :
    ∃ A n c L, v = .slice A n c ∧ n ≤ c ∧ c ≤ maxLen ∧ Rs W W.heap.size A n L := by
  obtain ⟨A0, n0, c0, rfl⟩ := okWide_slice Try.underlying85 hv
  obtain ⟨fuel, hf⟩ := h
  have hC : Try.prog.cellsOf 33 = 1 := by kernel_rfl
  rcases Go.Deep.open_slice Try.underlying85 hf with ⟨hcs, _⟩ | ⟨a, len, cap, m, n, D, Pl, hcs, _, hl, hm, hmm, _, hi⟩
  · simp [Value.cells] at hcs
    obtain ⟨rfl, rfl, rfl⟩ := hcs
    exact ⟨none, 0, 0, [], rfl, by omega, by simp [maxLen], Rs.nil_⟩
  · simp [Value.cells] at hcs
    obtain ⟨rfl, rfl, rfl⟩ := hcs
    have hmc : m = c0 := by simpa using hmm
    have key : ∀ i, i < n0 → ∃ l : List UInt8, ∃ A' c', W.cell? (a.add i) = some (.slice A' l.length c') ∧ l.length ≤ c' ∧ c' ≤ maxLen ∧ Bs W W.heap.size A' l.length l := by
      intro i hin
      obtain ⟨cs', hc, ht⟩ := hi i (by omega)
      rw [hC, Nat.mul_one] at hc
      obtain ⟨_, hcl, hat⟩ := World.cells?_some hc
      obtain ⟨A', n', c', l, rfl, h1, h2, h3⟩ := bytes_cells ht
      have h4 := h3.len
      subst h4
      have h5 := hat 0 (by omega)
      have e : (a.add i).add 0 = a.add i := by rw [add_twice, Nat.add_zero]
      rw [e] at h5
      exact ⟨l, A', c', h5, h1, h2, h3⟩
    obtain ⟨L, hlen, hrow⟩ := list_of key
    refine ⟨some a, n0, c0, L, rfl, hl, hm, hlen, fun k hk => ?_⟩
    obtain ⟨A', c', h1, h2, h3, h4⟩ := hrow k hk
    exact ⟨a, A', c', rfl, by have := cell_lt h1; rwa [add_block] at this, h1, h2, h3, h4⟩
end
end Go.Proofs.Ytebkgcnldbkgeaa
