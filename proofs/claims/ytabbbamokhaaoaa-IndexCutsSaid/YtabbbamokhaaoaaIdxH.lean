/-
  What an index's All does (slices.Clone of entries).
-/
import Derived.Test.YtabbbamokhaaoaaIdxG
import Derived.Lib.SliceRun
namespace Go.Proofs.Ytabbbamokhaaoaa
open Go.RowKit
set_option linter.unusedVariables false
set_option linter.unusedSimpArgs false

theorem row3_below {w w' : World} {base n : Nat} {e : TypeId} {v : Value} {xs : List Value} (h : w.ownsRow base e 3 v n xs) (hg : w.grownBy w' v.ownBlock) (hb : base ≤ w.heap.size) : Below base w w' :=
  (Below.refl _ _).grown hg hb (fun k hk => (World.ownsRow.lt h k hk).1)
set_option maxRecDepth 100000 in
set_option maxHeartbeats 1000000 in
theorem cloneE_any (base : Nat) (v : Value) (L : List Ent) (w : World) (h : w.ownsRow base 28 3 v L.length (ecells L)) (hn : L.length ≤ 1000000) :
    Calls Try.prog 56 #[v] w fun e w' => ∃ v', e = .returned v' ∧ w'.ownsRow w.heap.size 28 3 v' L.length (ecells L) ∧ Below w.heap.size w w' := by
  obtain ⟨j0, qj0, qy0, qy1, qy2⟩ := info_parts zero_ent
  have h0 := h
  rcases h.2 with ⟨rfl, hz⟩ | ⟨b, cap, cur, rfl, hb, hh, hnc, hm, _⟩
  · have : L = [] := List.length_eq_zero_iff.1 hz
    subst this
    clear h h0
    have hnil : ∀ W : World, (binOp .eql 40 (.slice none 0 0) (.slice none 0 0)).run Try.prog W = .ok (.bool true) W := fun W : World => Lib.run_eql_slice_nil (P := Try.prog) W 40 28 none 0 0 0 0 Try.underlying40
    go_enter Try.func56, Try.ntmps56
    go_wp2_with fail
    go_ret
    exact ⟨_, rfl, World.ownsRow_nil _ _ _ _, Below.refl _ _⟩
  · have hbl : b < w.heap.size := (Array.getElem?_eq_some_iff.1 hh).1
    have HB := Lib.hid ((Below.refl w.heap.size w).alloc (Nat.le_refl _) (.cells #[] 28))
    have hcs : ∀ j u, (ecells L)[j]? = some u → (w.alloc (.cells #[] 28)).cell? ((⟨b, 0, none⟩ : Addr).add j) = some u := fun j u hj => by
      rw [World.cell?_alloc_lt _ _ _ (by rw [add_block]; exact hbl)]
      exact h0.cells (g := b) rfl j u hj
    have ho : (w.alloc (.cells #[] 28)).ownsRow w.heap.size 28 3 (.slice (some ⟨w.heap.size, 0, none⟩) 0 0) 0 [] :=
      ⟨rfl, .inr ⟨w.heap.size, 0, #[], rfl, Nat.le_refl _, heap_alloc_new w _, by simp, by unfold maxLen; omega, rfl, rfl⟩⟩
    clear h h0 hh
    have hnil : ∀ W : World, (binOp .eql 40 (.slice (some ⟨b, 0, none⟩) L.length cap) (.slice none 0 0)).run Try.prog W = .ok (.bool false) W := fun W : World => Lib.run_eql_slice_nil (P := Try.prog) W 40 28 (some ⟨b, 0, none⟩) L.length cap 0 0 Try.underlying40
    go_enter Try.func56, Try.ntmps56
    go_wp2_with (at_builtin; refine wpList_append_own_at _ rfl (.tmp 5) (.tmp 6) 40 rfl w.heap.size 28 j0 _ 3 24 Try.underlying40 qj0 qy0 qy1 qy2 rfl (by decide) _ 0 [] rfl ho ⟨b, 0, none⟩ L.length cap (ecells L) rfl (ecells_length L) hcs (ecells_one L) (by unfold maxLen; omega) (by omega) (by simp) ?_)
    intro v2 w2 ho2 hg2 _ _
    have hb2 := HB.out.trans (row3_below ho hg2 (by simp))
    have R : w2.ownsRow w.heap.size 28 3 v2 L.length (ecells L) := by simpa using ho2
    clear ho2 hg2 ho hcs
    go_wp2_with fail
    go_ret
    exact ⟨_, rfl, R, hb2⟩

set_option maxRecDepth 100000 in
set_option maxHeartbeats 1000000 in
theorem all_any (base g : Nat) (v : Value) (x : Idx) (w : World) (h : Ix w base g v x) (hn : x.L.length ≤ 1000000) :
    Calls Try.prog 22 #[.pointer (some ⟨g, 0, none⟩)] w fun e w' => ∃ v', e = .returned v' ∧ w'.ownsRow w.heap.size 28 3 v' x.L.length (ecells x.L) ∧ Below w.heap.size w w' := by
  have HC := Lib.hid (cloneE_any base v x.L w h.own hn)
  have c1 := h.c1
  clear h
  go_enter Try.func22, Try.ntmps22
  go_wp2_with fail
  refine HC.out.mono ?_
  rintro e w1 ⟨v1, rfl, ho1, hb1⟩
  go_wp2_with fail
  go_ret
  exact ⟨_, rfl, ho1, hb1⟩
end Go.Proofs.Ytabbbamokhaaoaa
