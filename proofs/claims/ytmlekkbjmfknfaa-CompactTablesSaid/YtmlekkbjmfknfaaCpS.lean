/-
  Two records that are the same, compared; an append of a list of records, whichever.
-/
import Derived.Test.YtmlekkbjmfknfaaCpR
namespace Go.Proofs.Ytmlekkbjmfknfaa
open Go.RowKit Go.Lib Go.Sort
set_option linter.unusedVariables false
set_option linter.unusedSimpArgs false

set_option maxRecDepth 100000 in
theorem eqRec9 (k v : ByteArray) (g : Bool) (t : Int) (w : World) : (Op.equalIn 9999 79 (.agg #[.string k, .string v, .bool g, .int .i64 t]) (.agg #[.string k, .string v, .bool g, .int .i64 t])).run Try.prog w = .ok true w := by
  have u3 := Try.underlying9
  have u2 := Try.underlying2
  have u1 := Try.underlying4
  have a3 := Try.isAgg9
  have z3 := Try.sizeOf9
  have a2 := Try.isAgg2
  have z2 := Try.sizeOf2
  have a1 := Try.isAgg4
  have z1 := Try.sizeOf4
  have hS : Try.prog.underlying 79 = some (.struct (Try.prog.fieldsOf 79)) := by kernel_rfl
  have hp : Try.prog.stoodInHeld 79 = false := by kernel_rfl
  rw [show (9999 : Nat) = 9998 + 1 from rfl, run_equalIn_agg w 9998 79 _ _ hS hp]
  simp only [Program.fieldsOf, Try.underlying79]
  go_simp
set_option maxRecDepth 100000 in
theorem neAt9 (o : Int) (k v : ByteArray) (g : Bool) (t : Int) (w : World) : (binOp .neq 81 (.agg #[.int .i64 o, .string k, .string v, .bool g, .int .i64 t]) (.agg #[.int .i64 o, .string k, .string v, .bool g, .int .i64 t])).run Try.prog w = .ok (.bool false) w := by
  have u2 := Try.underlying2
  have a2 := Try.isAgg2
  have z2 := Try.sizeOf2
  have hS : Try.prog.underlying 81 = some (.struct (Try.prog.fieldsOf 81)) := by kernel_rfl
  have hp : Try.prog.stoodInHeld 81 = false := by kernel_rfl
  have hR := eqRec9 k v g t
  rw [run_neq_struct, show (10000 : Nat) = 9999 + 1 from rfl, run_equalIn_agg w 9999 81 _ _ hS hp]
  simp only [Program.fieldsOf, Try.underlying81]
  have p2 : ∀ w, (part 2 #[.int .i64 o, .string k, .string v, .bool g, .int .i64 t] 0).run Try.prog w = .ok (.int .i64 o) w := fun w => by kernel_rfl
  have p46 : ∀ w, (part 79 #[.int .i64 o, .string k, .string v, .bool g, .int .i64 t] 1).run Try.prog w = .ok (.agg #[.string k, .string v, .bool g, .int .i64 t]) w := fun w => by kernel_rfl
  have e2 : ∀ w, (Op.equalIn 9999 2 (.int .i64 o) (.int .i64 o)).run Try.prog w = .ok true w := fun w => by
    clear p2 p46 hR
    go_simp
  simp [Op.eqFields, p2, p46, e2, hR]

theorem row_none {w : World} {base sz n c : Nat} {e : TypeId} {A : Option Addr} {xs : List Value} (h : w.ownsRow base e sz (.slice A n c) n xs) : A = none → n = 0 ∧ c = 0 := fun hA => by
  subst hA
  rcases h.2 with ⟨h1, _⟩ | ⟨b, cap, cur, h1, _⟩
  · injection h1 with _ h1 h2; exact ⟨h1, h2⟩
  · injection h1 with h1; cases h1
set_option maxRecDepth 100000 in
set_option maxRecDepth 100000 in
set_option maxRecDepth 100000 in
set_option maxRecDepth 100000 in
set_option maxRecDepth 100000 in
/-- append of a list of records to a row of the call's own, an empty one too -/
theorem run_append_acs (base : Nat) (ty : TypeId) (v : Value) (L M : List AtC) (A : Option Addr) (m c : Nat) (w : World) (hown : w.ownsRow base 81 5 v L.length (ccells L)) (hM : Acs w w.heap.size A m M) (hl : L.length + m ≤ 1000) (hb : base ≤ w.heap.size) (hmc : A = none → m = 0 ∧ c = 0) :
    ∃ v' w', (Builtin.append_ #[68, 68] ty #[v, .slice A m c]).run Try.prog w = .ok v' w' ∧ w'.ownsRow base 81 5 v' (L ++ M).length (ccells (L ++ M)) ∧ w.grownBy w' v.ownBlock := by
  obtain ⟨j0, qj0, qy0, qy1, qy2⟩ := info_parts zero_at
  have hlen := hM.len
  cases A with
  | none =>
    obtain ⟨rfl, rfl⟩ := hmc rfl
    have : M = [] := List.length_eq_zero_iff.1 hlen
    subst this
    obtain ⟨A0, c0, rfl, h1, h2⟩ := row_any hown
    refine ⟨.slice A0 L.length c0, w, ?_, by simpa using hown, World.grownBy.refl _ _⟩
    exact run_append_owned_none (P := Try.prog) w base 68 ty 81 j0 5 Try.underlying68 qj0 _ L.length (ccells L) hown
  | some ad =>
    obtain ⟨v', w', h1, h2, h3, _⟩ := run_append_own (P := Try.prog) w base 68 ty 81 j0 _ 5 56 Try.underlying68 qj0 qy0 qy1 qy2 rfl (by decide) v L.length (ccells L) hown ad m c (ccells M) (by rw [ccells_length, hlen]) (fun j u hj => by
      obtain ⟨p, e, _, hc⟩ := hM.lies.get j u hj
      injection e with e
      subst e
      exact hc) (ccells_one M) (by unfold maxLen; omega) (by omega) hb
    exact ⟨v', w', h1, by rw [ccells_append, List.length_append, hlen]; exact h2, h3⟩
end Go.Proofs.Ytmlekkbjmfknfaa
