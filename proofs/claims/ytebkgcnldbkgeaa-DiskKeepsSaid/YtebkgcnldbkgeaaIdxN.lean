/-
  A slice of numbers (int) in memory.
-/
import Derived.Test.YtebkgcnldbkgeaaWords
namespace Go.Proofs.Ytebkgcnldbkgeaa
open Go.RowKit
set_option linter.unusedVariables false

structure Ins (w : World) (B : Nat) (A : Option Addr) (n : Nat) (L : List Int) : Prop where
  len : L.length = n
  row : ∀ k, k < n → ∃ p, A = some p ∧ p.block < B ∧ w.cell? (p.add k) = some (.int .i64 (L.getD k 0)) ∧ -9223372036854775808 ≤ L.getD k 0 ∧ L.getD k 0 ≤ 9223372036854775807
theorem Ins.below {w w' : World} {B n : Nat} {A : Option Addr} {L : List Int} (h : Ins w B A n L) (hb : Below B w w') : Ins w' B A n L :=
  ⟨h.len, fun k hk => by
    obtain ⟨p, e, hp, hc, h1, h2⟩ := h.row k hk
    exact ⟨p, e, hp, (hb.cell (by rw [add_block]; exact hp)).trans hc, h1, h2⟩⟩
theorem Ins.nil_ {w : World} {B : Nat} {A : Option Addr} : Ins w B A 0 [] := ⟨rfl, fun k hk => absurd hk (by omega)⟩
end Go.Proofs.Ytebkgcnldbkgeaa
