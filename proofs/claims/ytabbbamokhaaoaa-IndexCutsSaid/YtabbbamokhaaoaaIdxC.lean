/-
  What an index's count, last, Find and After do.
-/
import Derived.Test.YtabbbamokhaaoaaIdxB
namespace Go.Proofs.Ytabbbamokhaaoaa
open Go.RowKit
set_option linter.unusedVariables false
set_option linter.unusedSimpArgs false

theorem two_cells (w : World) (u1 u2 : Value) (t1 t2 : TypeId) : ((w.alloc (.cells #[u1] t1)).alloc (.cells #[u2] t2)).cell? ⟨w.heap.size, 0, none⟩ = some u1 ∧ ((w.alloc (.cells #[u1] t1)).alloc (.cells #[u2] t2)).cell? ⟨w.heap.size + 1, 0, none⟩ = some u2 := by
  have h1 := heap_alloc_new w (.cells #[u1] t1)
  have h2 := heap_alloc_new (w.alloc (.cells #[u1] t1)) (.cells #[u2] t2)
  rw [show (w.alloc (.cells #[u1] t1)).heap.size = w.heap.size + 1 from by simp] at h2
  have h3 := ((Below.refl (w.heap.size + 1) (w.alloc (.cells #[u1] t1))).alloc (by simp) (.cells #[u2] t2)).block w.heap.size (by omega)
  exact ⟨cell_of_row _ _ 0 _ _ _ (h3.trans h1), cell_of_row _ _ 0 _ _ _ h2⟩

set_option maxRecDepth 100000 in
set_option maxHeartbeats 2000000 in
theorem count_any (base g fg : Nat) (cb : Array Value) (v : Value) (x : Idx) (p : Ent → Bool) (w : World) (hx : Ix w base g v x) (eg : ∀ args w, (callFunc fg args).run Try.prog w = .ok (.enter fg args) w) (hp : PredE fg cb p w) (hL : x.L.length ≤ 1000000)
    (hm : ∀ a b, a ≤ b → b < x.L.length → p (x.L.getD b default) = true → p (x.L.getD a default) = true) :
    Calls Try.prog 58 #[.pointer (some ⟨g, 0, none⟩), .func (.func fg) #[] cb] w fun e w' => ∃ r : Nat, e = .returned (.int .i64 r) ∧ Upto p x.L r ∧ Below w.heap.size w w' := by
  obtain ⟨A, c, hv, hc, hm2, _, _⟩ := own_form hx.own
  obtain ⟨W0, hW0⟩ : ∃ W0, (w.alloc (.cells #[.pointer (some ⟨g, 0, none⟩)] 22)).alloc (.cells #[.func (.func fg) #[] cb] 103) = W0 := ⟨_, rfl⟩
  have hB0 : Below w.heap.size w W0 := by rw [← hW0]; exact ((Below.refl _ _).alloc (Nat.le_refl _) _).alloc (by simp) _
  have hz0 : W0.heap.size = w.heap.size + 2 := by rw [← hW0]; simp
  obtain ⟨k1, k2⟩ := two_cells w (.pointer (some ⟨g, 0, none⟩)) (.func (.func fg) #[] cb) 22 103
  rw [hW0] at k1 k2
  have hx0 := hx.below hB0 (Nat.le_refl _)
  have ec : ∀ args w, (callFunc 109 args).run Try.prog w = .ok (.enter 109 args) w := enters_of Try.func109 (by kernel_rfl) rfl
  have HS := Lib.hid (search_any 109 #[.pointer (some ⟨w.heap.size + 1, 0, none⟩), .pointer (some ⟨w.heap.size, 0, none⟩)] x.L.length (fun i => !p (x.L.getD i default)) W0 ec (by omega)
    (fun W i hB hi => count1_any (w.heap.size + 1) w.heap.size base g i fg cb v x p W hi (hx0.below hB (Nat.le_refl _)) ((hB.cell (p := ⟨w.heap.size + 1, 0, none⟩) (by show w.heap.size + 1 < _; omega)).trans k2) ((hB.cell (p := ⟨w.heap.size, 0, none⟩) (by show w.heap.size < _; omega)).trans k1) eg
      (fun W' e hB' => hp W' e (hB0.trans ((hB.mono (by omega)).trans (hB'.mono (by have := hB.size; omega))))))
    (fun a b hab hb h => by
      simp only [Bool.not_eq_true'] at h ⊢
      cases q : p (x.L.getD b default) with
      | false => rfl
      | true => rw [hm a b hab hb q] at h; cases h))
  have HC1 := Lib.hid hx0.c1
  have c1 := hx.c1
  subst hv
  have hgl := hx.lt
  have hg0 : W0.cell? ⟨g, 1, none⟩ = some (.slice A x.L.length c) := HC1.out
  have HB0 := Lib.hid hB0
  clear hx hx0 hp hm k2 hB0 HC1 c1
  go_enter Try.func58, Try.ntmps58
  go_wp2_with (go_at_call 108; refine HS.out.mono ?_; rintro e w' ⟨r, rfl, h1, h2, h3, hb⟩)
  go_ret
  refine ⟨r, rfl, ⟨h1, fun t ht => by have := h2 t ht; simpa using this, fun t h4 h5 => by have := h3 t h4 h5; simpa using this⟩, HB0.out.trans (hb.mono (by omega))⟩
theorem PredE.mono {g : Nat} {cb : Array Value} {p : Ent → Bool} {w w' : World} (h : PredE g cb p w) (hb : Below w.heap.size w w') : PredE g cb p w' := fun W e hB => h W e (hb.trans (hB.mono hb.size))

set_option maxRecDepth 100000 in
set_option maxHeartbeats 2000000 in
theorem last_any (base g fg : Nat) (cb : Array Value) (v : Value) (x : Idx) (p : Ent → Bool) (w : World) (hx : Ix w base g v x) (eg : ∀ args w, (callFunc fg args).run Try.prog w = .ok (.enter fg args) w) (hp : PredE fg cb p w) (hL : x.L.length ≤ 1000000)
    (hm : ∀ a b, a ≤ b → b < x.L.length → p (x.L.getD b default) = true → p (x.L.getD a default) = true) :
    Calls Try.prog 53 #[.pointer (some ⟨g, 0, none⟩), .func (.func fg) #[] cb] w fun e w' => ∃ r : Nat, e = .returned (.tuple #[.agg (lastE x.L r).cells.toArray, .bool (decide (0 < r))]) ∧ Upto p x.L r ∧ Below w.heap.size w w' := by
  have hal := (Below.refl w.heap.size w).alloc (Nat.le_refl _) (.cells #[.int .i64 0, .int .i64 0, .int .i64 0] 28)
  have HN := Lib.hid (heap_alloc_new w (.cells #[.int .i64 0, .int .i64 0, .int .i64 0] 28))
  have hx1 := hx.below hal (Nat.le_refl _)
  have HC := Lib.hid (count_any base g fg cb v x p _ hx1 eg (hp.mono hal) hL hm)
  have HA := Lib.hid hal
  have HX := Lib.hid hx1
  clear hx hp hm hal hx1
  go_enter Try.func53, Try.ntmps53
  go_wp2_with fail
  refine HC.out.mono ?_
  rintro e w2 ⟨r, rfl, hU, hb⟩
  have hN := (hb.block w.heap.size (by simp)).trans HN.out
  have hB2 := HA.out.trans (hb.mono (by simp))
  have hx2 := HX.out.below hb (Nat.le_refl _)
  have HU := Lib.hid hU
  have HB2 := Lib.hid hB2
  have hz : w.heap.size < w2.heap.size := by have := hb.size; simp at this; omega
  have d0 : w2.cell? ⟨w.heap.size, 0, none⟩ = some (.int .i64 0) := cell_of_row _ _ 0 _ _ _ hN
  have f0 : w2.frozen? ⟨w.heap.size, 0, none⟩ = false := frozen_of_row _ _ 0 _ _ hN
  have d1 : w2.cell? ⟨w.heap.size, 1, none⟩ = some (.int .i64 0) := cell_of_row _ _ 1 _ _ _ hN
  have f1 : w2.frozen? ⟨w.heap.size, 1, none⟩ = false := frozen_of_row _ _ 1 _ _ hN
  have d2 : w2.cell? ⟨w.heap.size, 2, none⟩ = some (.int .i64 0) := cell_of_row _ _ 2 _ _ _ hN
  have f2 : w2.frozen? ⟨w.heap.size, 2, none⟩ = false := frozen_of_row _ _ 2 _ _ hN
  have hle := hU.le
  clear hN hB2 hU hb HC HN HA HX
  rcases Nat.eq_zero_or_pos r with h0 | h0
  · subst h0
    clear hx2
    go_wp2_with fail
    refine bodyPost_ret (v := .tuple #[.agg #[.int .i64 0, .int .i64 0, .int .i64 0], .bool false]) (by simp [results, Try.results53, go_sem, d0, d1, d2]) rfl ?_
    refine ⟨0, rfl, HU.out, ?_⟩
    repeat refine Below.setCell ?_ (by simp) _
    exact HB2.out
  · obtain ⟨b, c, rfl, hbl, hlc, r0, r1, r2⟩ := hx2.row (k := r - 1) (by omega)
    have c1 := hx2.c1
    have e0 : ((r : Int) == 0) = false := by rw [beq_eq_false_iff_ne]; omega
    have HE : Hid (lastE x.L r = x.L.getD (r - 1) default) := by show _ = _; unfold lastE; rw [if_neg (by omega)]
    have HD : Hid (decide (0 < r) = true) := decide_eq_true h0
    obtain ⟨k, rfl⟩ : ∃ k, r = k + 1 := ⟨r - 1, by omega⟩
    simp only [Nat.add_sub_cancel] at r0 r1 r2 HE
    have hk : (k : Int) < (x.L.length : Int) := by omega
    clear hx2
    generalize x.L.getD k default = e at *
    obtain ⟨eo, ep, eb⟩ := e
    simp only at r0 r1 r2
    go_wp2_with fail
    refine bodyPost_ret (v := .tuple #[.agg #[.int .i64 eo, .int .i64 ep, .int .i64 eb], .bool true]) (by simp [results, Try.results53, go_sem, d0, d1, d2]) rfl ?_
    refine ⟨k + 1, by rw [HE.out, HD.out]; rfl, HU.out, ?_⟩
    repeat refine Below.setCell ?_ (by simp) _
    exact HB2.out
end Go.Proofs.Ytabbbamokhaaoaa
