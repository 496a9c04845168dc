/-
  Items of chapter 1's law, in memory.
-/
import Derived.Test.YtgbdgpacnpeahaaItemA
namespace Go.Proofs.Ytgbdgpacnpeahaa
open Go.RowKit
set_option linter.unusedVariables false
set_option linter.unusedSimpArgs false

theorem add_pos (p : Addr) (j : Nat) (h : 0 < j) : p.add j = ⟨p.block, p.off + j, none⟩ := by
  unfold Addr.add
  rw [if_neg (by omega)]

instance : Inhabited Item := ⟨⟨0, 0, 0, 0, ⟨#[]⟩, false, [], []⟩⟩
/-- the k-th item lies at p -/
structure ItAt (w : World) (B : Nat) (p : Addr) (x : Item) (LA : Option Addr) (lc : Nat) (IA : Option Addr) (ic : Nat) : Prop where
  blk : p.block < B
  c0 : w.cell? p = some (.int .i64 x.kind)
  c1 : w.cell? (p.add 1) = some (.int .u64 (x.u : Int))
  c2 : w.cell? (p.add 2) = some (.int .i64 x.n)
  c3 : w.cell? (p.add 3) = some (.int .i64 x.m)
  c4 : w.cell? (p.add 4) = some (.string x.s)
  c5 : w.cell? (p.add 5) = some (.bool x.on)
  c6 : w.cell? (p.add 6) = some (.slice LA x.L.length lc)
  c7 : w.cell? (p.add 7) = some (.slice IA x.I.length ic)
  ok : x.ok
  l : Lies w B LA (x.L.map .string)
  l1 : x.L.length ≤ lc
  l2 : lc ≤ maxLen
  i : Is w B IA x.I.length x.I
  i1 : x.I.length ≤ ic
  i2 : ic ≤ maxLen
structure Its (w : World) (B : Nat) (A : Option Addr) (n : Nat) (X : List Item) : Prop where
  len : X.length = n
  row : ∀ k, k < n → ∃ p LA lc IA ic, A = some p ∧ ItAt w B (p.add (k * 8)) (X.getD k default) LA lc IA ic
section
variable {w w' : World} {B n lc ic : Nat} {A LA IA : Option Addr} {p : Addr} {x : Item} {X : List Item}
theorem ItAt.below (h : ItAt w B p x LA lc IA ic) (hb : Below B w w') : ItAt w' B p x LA lc IA ic := by
  have hk : ∀ j, w'.cell? (p.add j) = w.cell? (p.add j) := fun j => hb.cell (by rw [add_block]; exact h.blk)
  exact ⟨h.blk, (hb.cell h.blk).trans h.c0, (hk 1).trans h.c1, (hk 2).trans h.c2, (hk 3).trans h.c3, (hk 4).trans h.c4, (hk 5).trans h.c5, (hk 6).trans h.c6, (hk 7).trans h.c7, h.ok, h.l.keep fun _ hp => hb.cell hp, h.l1, h.l2, h.i.below hb, h.i1, h.i2⟩
theorem Its.below (h : Its w B A n X) (hb : Below B w w') : Its w' B A n X :=
  ⟨h.len, fun k hk => by
    obtain ⟨p, LA, lc, IA, ic, e, hr⟩ := h.row k hk
    exact ⟨p, LA, lc, IA, ic, e, hr.below hb⟩⟩
theorem Is.below' {m : Nat} {L : List Int} (h : Is w B IA m L) (hb : Below B w w') : Is w' B IA m L := h.below hb
end

end Go.Proofs.Ytgbdgpacnpeahaa
