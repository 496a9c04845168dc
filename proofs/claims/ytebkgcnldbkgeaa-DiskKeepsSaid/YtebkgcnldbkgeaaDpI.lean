/-
  What the document's Remove, Fuse and Cut do.
-/
import Derived.Test.YtebkgcnldbkgeaaDpH
namespace Go.Proofs.Ytebkgcnldbkgeaa
open Go.RowKit Go.Lib Go.Sort Go.Maps
set_option linter.unusedVariables false
set_option linter.unusedSimpArgs false

set_option maxRecDepth 100000 in
set_option maxHeartbeats 8000000 in
theorem rremove_any (base r : Nat) (v : Value) (p : PD) (s : ByteArray) (w : World) (h : Rk w base r v p) (hp : p.Ok) (hb : base ≤ w.heap.size) :
    Calls Try.prog 48 #[.pointer (some ⟨r, 0, none⟩), .string s] w (RAns base r w v (p.remove s)) := by
  obtain ⟨X, hX⟩ : ∃ X : Ending → World → Prop, RAns base r w v (p.remove s) = X := ⟨_, rfl⟩
  have HX9 : Hid (p.burnt = true → X (.returned (.int .i64 9)) w) := fun h9 => by rw [← hX]; unfold RAns PD.remove; rw [chg_gone h9]; exact ⟨rfl, v, RT.refl h⟩
  have HXE : Hid (p.burnt = false → getT Fl.key p.F s.data.toList = none → X (.returned (.int .i64 3)) w) := fun h9 hg => by
    rw [← hX]; unfold RAns PD.remove; rw [hg]; rw [chg_err h9 (by decide)]; exact ⟨rfl, v, RT.refl h⟩
  have HXY : Hid (p.burnt = false → ∀ f, getT Fl.key p.F s.data.toList = some f → ∀ v' w', RT base r w w' v v' (PD.burn { p with F := delF s p.F }) → X (.returned (.int .i64 0)) w') := fun h9 f hg v' w' h1 => by
    rw [← hX]; unfold RAns PD.remove; rw [hg]; rw [show (if (some f).isSome = true then 0 else 3) = 0 from rfl, chg_ok h9]; exact ⟨rfl, v', h1⟩
  rw [hX]
  clear hX
  have c3 := h.c3
  cases hbu : p.burnt with
  | true =>
    have HE := Lib.hid (HX9.out hbu)
    rw [hbu] at c3
    clear HXE HXY hbu
    go_enter Try.func48, Try.ntmps48
    go_wp2_with fail
    first
      | exact HE.out
      | (go_ret; exact HE.out)
  | false =>
    have HXE := Lib.hid (HXE.out hbu)
    have HXY := Lib.hid (HXY.out hbu)
    rw [hbu] at c3
    have HAT := Lib.hid (rat_any base r v p s w h hp)
    cases hg : getT Fl.key p.F s.data.toList with
    | none =>
      have HATN : Hid (Calls Try.prog 62 #[.pointer (some ⟨r, 0, none⟩), .string s] w fun e w' => e = .returned (.int .i64 (-1)) ∧ w' = w) := HAT.out.mono fun e w' hh => by
        obtain ⟨x, he, hx, hw⟩ := hh
        unfold AtP at hx
        rw [hg] at hx
        exact ⟨by rw [he, hx], hw⟩
      have HE := Lib.hid (HXE.out hg)
      clear HXE HXY HX9 hbu hg h hp HAT
      go_enter Try.func48, Try.ntmps48
      go_wp2_with (go_at_call 62; (with_reducible refine HATN.out.mono ?_); rintro e w1 ⟨rfl, hw1⟩; have hw1' := hw1.symm; subst hw1')
      first
        | exact HE.out
        | (go_ret; exact HE.out)
    | some f =>
      have HATN : Hid (Calls Try.prog 62 #[.pointer (some ⟨r, 0, none⟩), .string s] w fun e w' => ∃ i : Nat, i < p.F.length ∧ e = .returned (.int .i64 (i : Int)) ∧ w' = w) := HAT.out.mono fun e w' hh => by
        obtain ⟨x, he, hx, hw⟩ := hh
        unfold AtP at hx
        rw [hg] at hx
        obtain ⟨i, h1, h2, h3⟩ := hx
        exact ⟨i, h1, by rw [he, h3], hw⟩
      have HE := Lib.hid (HXY.out f hg)
      have hl := hp.len
      have HWI := Lib.hid (rwithout_any base r v p s w h (by omega) hb)
      have HDN : Hid (∀ W v', RT base r w W v v' { p with F := delF s p.F } → Calls Try.prog 64 #[.pointer (some ⟨r, 0, none⟩)] W fun e w' => e = .returned (.int .i64 0) ∧ RT base r w w' v v' (PD.burn { p with F := delF s p.F })) := fun W v' ht =>
        (rdone_any base r v' _ W ht.rk hp.l1 hp.l2 hbu).mono fun e w' hh => ⟨hh.1, ht.trans hh.2⟩
      generalize (PD.burn { p with F := delF s p.F }) = p2 at *
      generalize ({ p with F := delF s p.F } : PD) = p1 at *
      generalize p.F.length = n at *
      clear HXE HXY HX9 hbu hg h hp HAT
      go_enter Try.func48, Try.ntmps48
      go_wp2_with (first
        | (go_at_call 62; (with_reducible refine HATN.out.mono ?_); rintro e w1 ⟨i, hi, rfl, hw1⟩; have hw1' := hw1.symm; subst hw1'; have d3 : decide ((i : Int) < 0) = false := (by rw [decide_eq_false_iff_not]; omega))
        | (go_at_call 67; (with_reducible refine HWI.out.mono ?_); rintro e w3 ⟨rfl, v3, ht3⟩)
        | (go_at_call 64; (with_reducible refine (HDN.out _ _ ht3).mono ?_); rintro e w4 ⟨rfl, ht4⟩))
      first
        | exact HE.out _ _ ht4
        | (go_ret; exact HE.out _ _ ht4)
set_option maxRecDepth 100000 in
set_option maxHeartbeats 4000000 in
theorem rfuse_any (base r : Nat) (v : Value) (p : PD) (n : Int) (w : World) (h : Rk w base r v p) :
    Calls Try.prog 49 #[.pointer (some ⟨r, 0, none⟩), .int .i64 n] w fun e w' => e = .returned (.tuple #[]) ∧ RT base r w w' v v (p.fuse n) := by
  have c2 := h.c2
  have c3 := h.c3
  have f2 := h.free 2
  have f3 := h.free 3
  have HK := Lib.hid h
  have hblk := h.blk
  cases hbu : p.burnt with
  | true =>
    have HP : Hid (p.fuse n = p) := by show _ = _; unfold PD.fuse; rw [if_pos hbu]
    rw [hbu] at c3
    clear hblk h hbu c2
    go_enter Try.func49, Try.ntmps49
    go_wp2_with fail
    refine bodyPost_ret (results_none rfl _ _ _) rfl ?_
    exact ⟨rfl, by rw [HP.out]; exact RT.refl HK.out⟩
  | false =>
    have HP : Hid (p.fuse n = { p with set := decide (0 ≤ n), left := if n < 0 then 0 else n }) := by show _ = _; unfold PD.fuse; rw [if_neg (by rw [hbu]; decide)]
    rw [hbu] at c3 hblk
    have hb2 : ∀ y, (w.setCell ⟨r, 2, none⟩ y).heap[r]? = some (.cells #[.int .i64 p.room, v, y, .bool false] 78 (0, 0)) := fun y => by rw [heap_setCell_same w r 2 _ _ _ hblk]; rfl
    have hb22 : ∀ y z, ((w.setCell ⟨r, 2, none⟩ y).setCell ⟨r, 2, none⟩ z).heap[r]? = some (.cells #[.int .i64 p.room, v, z, .bool false] 78 (0, 0)) := fun y z => by rw [heap_setCell_same _ r 2 _ _ _ (hb2 y)]; rfl
    have hb3 : ∀ y, ((w.setCell ⟨r, 2, none⟩ y).setCell ⟨r, 3, none⟩ (.bool true)).heap[r]? = some (.cells #[.int .i64 p.room, v, y, .bool true] 78 (0, 0)) := fun y => by rw [heap_setCell_same _ r 3 _ _ _ (hb2 y)]; rfl
    by_cases h1 : n < 0
    · have d1 : decide (n < 0) = true := decide_eq_true h1
      have d2 : (n == 0) = false := by rw [beq_eq_false_iff_ne]; omega
      have d3 : decide (0 ≤ n) = false := by rw [decide_eq_false_iff_not]; omega
      have HR : Hid (RT base r w ((w.setCell ⟨r, 2, none⟩ (.int .i64 n)).setCell ⟨r, 2, none⟩ (.int .i64 (-1))) v v (p.fuse n)) := by
        rw [HP.out]
        exact Rk.own HK.out (by rw [hb22]; unfold PD.lf PD.burnt; simp [d3]) rfl rfl rfl rfl (by simp) (fun k hk hne => (Below.heap_setCell _ _ _ k (fun e => hne e)).trans (Below.heap_setCell _ _ _ k (fun e => hne e)))
      clear hblk h hbu hb2 hb22 hb3 d3 h1 HP
      go_enter Try.func49, Try.ntmps49
      go_wp2_with fail
      go_end0
      exact ⟨rfl, HR.out⟩
    · have d1 : decide (n < 0) = false := decide_eq_false h1
      have d3 : decide (0 ≤ n) = true := by rw [decide_eq_true_iff]; omega
      by_cases h2 : n = 0
      · subst h2
        have HR : Hid (RT base r w ((w.setCell ⟨r, 2, none⟩ (.int .i64 0)).setCell ⟨r, 3, none⟩ (.bool true)) v v (p.fuse 0)) := by
          rw [HP.out]
          exact Rk.own HK.out (by rw [hb3]; unfold PD.lf PD.burnt; simp) rfl rfl rfl rfl (by simp) (fun k hk hne => (Below.heap_setCell _ _ _ k (fun e => hne e)).trans (Below.heap_setCell _ _ _ k (fun e => hne e)))
        clear hblk h hbu hb2 hb22 hb3 d3 h1 HP
        go_enter Try.func49, Try.ntmps49
        go_wp2_with fail
        go_end0
        exact ⟨rfl, HR.out⟩
      · have d2 : (n == 0) = false := by rw [beq_eq_false_iff_ne]; exact h2
        have HR : Hid (RT base r w (w.setCell ⟨r, 2, none⟩ (.int .i64 n)) v v (p.fuse n)) := by
          rw [HP.out]
          exact Rk.own HK.out (by rw [hb2]; unfold PD.lf PD.burnt; simp [d3, d2, h1]) rfl rfl rfl rfl (by simp) (fun k hk hne => Below.heap_setCell _ _ _ k (fun e => hne e))
        clear hblk h hbu hb2 hb22 hb3 d3 h1 h2 HP
        go_enter Try.func49, Try.ntmps49
        go_wp2_with fail
        go_end0
        exact ⟨rfl, HR.out⟩
end Go.Proofs.Ytebkgcnldbkgeaa
