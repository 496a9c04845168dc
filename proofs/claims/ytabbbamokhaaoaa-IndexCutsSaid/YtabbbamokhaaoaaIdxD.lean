/-
  What an index's Find and After do.
-/
import Derived.Test.YtabbbamokhaaoaaIdxC
namespace Go.Proofs.Ytabbbamokhaaoaa
open Go.RowKit
set_option linter.unusedVariables false
set_option linter.unusedSimpArgs false

set_option maxRecDepth 100000 in
set_option maxHeartbeats 2000000 in
theorem find_any (base g : Nat) (v : Value) (x : Idx) (o : Int) (w : World) (hx : Ix w base g v x) (hL : x.L.length ≤ 1000000) (hs : Srt x) :
    Calls Try.prog 17 #[.pointer (some ⟨g, 0, none⟩), .int .i64 o] w fun e w' => ∃ r : Nat, e = .returned (.tuple #[.agg (lastE x.L r).cells.toArray, .bool (decide (0 < r))]) ∧ Upto (atMost o) x.L r ∧ Below w.heap.size w w' := by
  obtain ⟨W0, hW0⟩ : ∃ W0, (w.alloc (.cells #[.int .i64 o] 2)).alloc (.cells #[.int .i64 0, .int .i64 0, .int .i64 0] 28) = W0 := ⟨_, rfl⟩
  have hal : Below w.heap.size w W0 := by rw [← hW0]; exact ((Below.refl _ _).alloc (Nat.le_refl _) _).alloc (by simp) _
  have hz0 : W0.heap.size = w.heap.size + 1 + 1 := by rw [← hW0]; simp
  have k0 : W0.cell? ⟨w.heap.size, 0, none⟩ = some (.int .i64 o) := by
    rw [← hW0]
    have h1 := heap_alloc_new w (.cells #[.int .i64 o] 2)
    exact cell_of_row _ _ 0 _ _ _ ((((Below.refl (w.heap.size + 1) (w.alloc (.cells #[.int .i64 o] 2))).alloc (by simp) _).block w.heap.size (by omega)).trans h1)
  have hN : W0.heap[w.heap.size + 1]? = some (.cells #[.int .i64 0, .int .i64 0, .int .i64 0] 28 (0, 0)) := by
    have h2 := heap_alloc_new (w.alloc (.cells #[.int .i64 o] 2)) (.cells #[.int .i64 0, .int .i64 0, .int .i64 0] 28)
    rw [show (w.alloc (.cells #[.int .i64 o] 2)).heap.size = w.heap.size + 1 from by simp] at h2
    rw [← hW0]; exact h2
  have hx1 := hx.below hal (Nat.le_refl _)
  have eg : ∀ args w, (callFunc 54 args).run Try.prog w = .ok (.enter 54 args) w := enters_of Try.func54 (by kernel_rfl) rfl
  have HC := Lib.hid (last_any base g 54 #[.pointer (some ⟨w.heap.size, 0, none⟩)] v x (atMost o) W0 hx1 eg (find1_any w.heap.size o W0 (by omega) k0) hL (fun a b h1 h2 h3 => hs.atMost o a b h1 h2 h3))
  have HN := Lib.hid hN
  have HA := Lib.hid hal
  clear hx hal hx1 eg hs k0 hN
  go_enter Try.func17, Try.ntmps17
  go_wp2_with fail
  refine HC.out.mono ?_
  rintro e w2 ⟨r, rfl, hU, hb⟩
  have hN := (hb.block (w.heap.size + 1) (by omega)).trans HN.out
  have HB2 := Lib.hid (HA.out.trans (hb.mono (by omega)))
  have HU := Lib.hid hU
  have d0 : w2.cell? ⟨w.heap.size + 1, 0, none⟩ = some (.int .i64 0) := cell_of_row _ _ 0 _ _ _ hN
  have f0 : w2.frozen? ⟨w.heap.size + 1, 0, none⟩ = false := frozen_of_row _ _ 0 _ _ hN
  have d1 : w2.cell? ⟨w.heap.size + 1, 1, none⟩ = some (.int .i64 0) := cell_of_row _ _ 1 _ _ _ hN
  have f1 : w2.frozen? ⟨w.heap.size + 1, 1, none⟩ = false := frozen_of_row _ _ 1 _ _ hN
  have d2 : w2.cell? ⟨w.heap.size + 1, 2, none⟩ = some (.int .i64 0) := cell_of_row _ _ 2 _ _ _ hN
  have f2 : w2.frozen? ⟨w.heap.size + 1, 2, none⟩ = false := frozen_of_row _ _ 2 _ _ hN
  obtain ⟨en, hen⟩ : ∃ en, lastE x.L r = en := ⟨_, rfl⟩
  obtain ⟨ok, hok⟩ : ∃ ok, decide (0 < r) = ok := ⟨_, rfl⟩
  rw [hen, hok]
  have HEN := Lib.hid hen
  have HOK := Lib.hid hok
  obtain ⟨eo, ep, eb⟩ := en
  simp only [Ent.cells]
  clear hN hU hb HC HN HA hen hok hW0
  go_wp2_with fail
  refine bodyPost_ret (v := .tuple #[.agg #[.int .i64 eo, .int .i64 ep, .int .i64 eb], .bool ok]) (by simp [results, Try.results17, go_sem, d0, d1, d2]) rfl ?_
  refine ⟨r, by rw [HEN.out, HOK.out]; rfl, HU.out, ?_⟩
  repeat refine Below.setCell ?_ (by simp) _
  exact HB2.out

set_option maxRecDepth 100000 in
set_option maxHeartbeats 2000000 in
theorem after_any (base g : Nat) (v : Value) (x : Idx) (o : Int) (w : World) (hx : Ix w base g v x) (hL : x.L.length ≤ 1000000) (hs : Srt x) :
    Calls Try.prog 21 #[.pointer (some ⟨g, 0, none⟩), .int .i64 o] w fun e w' => ∃ r : Nat, e = .returned (.tuple #[.agg (lastE x.L r).cells.toArray, .bool (decide (0 < r))]) ∧ Upto (ahead_ o) x.L r ∧ Below w.heap.size w w' := by
  obtain ⟨W0, hW0⟩ : ∃ W0, (w.alloc (.cells #[.int .i64 o] 2)).alloc (.cells #[.int .i64 0, .int .i64 0, .int .i64 0] 28) = W0 := ⟨_, rfl⟩
  have hal : Below w.heap.size w W0 := by rw [← hW0]; exact ((Below.refl _ _).alloc (Nat.le_refl _) _).alloc (by simp) _
  have hz0 : W0.heap.size = w.heap.size + 1 + 1 := by rw [← hW0]; simp
  have k0 : W0.cell? ⟨w.heap.size, 0, none⟩ = some (.int .i64 o) := by
    rw [← hW0]
    have h1 := heap_alloc_new w (.cells #[.int .i64 o] 2)
    exact cell_of_row _ _ 0 _ _ _ ((((Below.refl (w.heap.size + 1) (w.alloc (.cells #[.int .i64 o] 2))).alloc (by simp) _).block w.heap.size (by omega)).trans h1)
  have hN : W0.heap[w.heap.size + 1]? = some (.cells #[.int .i64 0, .int .i64 0, .int .i64 0] 28 (0, 0)) := by
    have h2 := heap_alloc_new (w.alloc (.cells #[.int .i64 o] 2)) (.cells #[.int .i64 0, .int .i64 0, .int .i64 0] 28)
    rw [show (w.alloc (.cells #[.int .i64 o] 2)).heap.size = w.heap.size + 1 from by simp] at h2
    rw [← hW0]; exact h2
  have hx1 := hx.below hal (Nat.le_refl _)
  have eg : ∀ args w, (callFunc 55 args).run Try.prog w = .ok (.enter 55 args) w := enters_of Try.func55 (by kernel_rfl) rfl
  have HC := Lib.hid (last_any base g 55 #[.pointer (some ⟨w.heap.size, 0, none⟩)] v x (ahead_ o) W0 hx1 eg (after1_any w.heap.size o W0 (by omega) k0) hL (fun a b h1 h2 h3 => hs.ahead_ o a b h1 h2 h3))
  have HN := Lib.hid hN
  have HA := Lib.hid hal
  clear hx hal hx1 eg hs k0 hN
  go_enter Try.func21, Try.ntmps21
  go_wp2_with fail
  refine HC.out.mono ?_
  rintro e w2 ⟨r, rfl, hU, hb⟩
  have hN := (hb.block (w.heap.size + 1) (by omega)).trans HN.out
  have HB2 := Lib.hid (HA.out.trans (hb.mono (by omega)))
  have HU := Lib.hid hU
  have d0 : w2.cell? ⟨w.heap.size + 1, 0, none⟩ = some (.int .i64 0) := cell_of_row _ _ 0 _ _ _ hN
  have f0 : w2.frozen? ⟨w.heap.size + 1, 0, none⟩ = false := frozen_of_row _ _ 0 _ _ hN
  have d1 : w2.cell? ⟨w.heap.size + 1, 1, none⟩ = some (.int .i64 0) := cell_of_row _ _ 1 _ _ _ hN
  have f1 : w2.frozen? ⟨w.heap.size + 1, 1, none⟩ = false := frozen_of_row _ _ 1 _ _ hN
  have d2 : w2.cell? ⟨w.heap.size + 1, 2, none⟩ = some (.int .i64 0) := cell_of_row _ _ 2 _ _ _ hN
  have f2 : w2.frozen? ⟨w.heap.size + 1, 2, none⟩ = false := frozen_of_row _ _ 2 _ _ hN
  obtain ⟨en, hen⟩ : ∃ en, lastE x.L r = en := ⟨_, rfl⟩
  obtain ⟨ok, hok⟩ : ∃ ok, decide (0 < r) = ok := ⟨_, rfl⟩
  rw [hen, hok]
  have HEN := Lib.hid hen
  have HOK := Lib.hid hok
  obtain ⟨eo, ep, eb⟩ := en
  simp only [Ent.cells]
  clear hN hU hb HC HN HA hen hok hW0
  go_wp2_with fail
  refine bodyPost_ret (v := .tuple #[.agg #[.int .i64 eo, .int .i64 ep, .int .i64 eb], .bool ok]) (by simp [results, Try.results21, go_sem, d0, d1, d2]) rfl ?_
  refine ⟨r, by rw [HEN.out, HOK.out]; rfl, HU.out, ?_⟩
  repeat refine Below.setCell ?_ (by simp) _
  exact HB2.out
end Go.Proofs.Ytabbbamokhaaoaa
