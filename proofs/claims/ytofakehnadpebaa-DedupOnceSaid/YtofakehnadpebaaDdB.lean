/-
  What (*dedup.Table).known, (dedup.Row).place and (dedup.Row).after do.
-/
import Derived.Test.YtofakehnadpebaaDdA
import Derived.Lib.MinMax
namespace Go.Proofs.Ytofakehnadpebaa
open Go.RowKit Go.Maps
set_option linter.unusedVariables false
set_option linter.unusedSimpArgs false

theorem two_alloc (w : World) (X Y : Obj) : ((w.alloc X).alloc Y).heap[w.heap.size]? = some X := by
  have h := heap_alloc_new w X
  exact ((((Below.refl (w.alloc X).heap.size (w.alloc X)).alloc (Nat.le_refl _) Y).block w.heap.size (by simp))).trans h
/-- the seven cells of a block -/
theorem seven {w : World} {g : Nat} {x0 x1 x2 x3 x4 x5 x6 : Value} {t : TypeId} (h : w.heap[g]? = some (.cells #[x0, x1, x2, x3, x4, x5, x6] t (0, 0))) :
    (w.cell? ⟨g, 0, none⟩ = some x0 ∧ w.cell? ⟨g, 1, none⟩ = some x1 ∧ w.cell? ⟨g, 2, none⟩ = some x2 ∧ w.cell? ⟨g, 3, none⟩ = some x3 ∧ w.cell? ⟨g, 4, none⟩ = some x4 ∧ w.cell? ⟨g, 5, none⟩ = some x5 ∧ w.cell? ⟨g, 6, none⟩ = some x6) ∧
    (w.frozen? ⟨g, 0, none⟩ = false ∧ w.frozen? ⟨g, 1, none⟩ = false ∧ w.frozen? ⟨g, 2, none⟩ = false ∧ w.frozen? ⟨g, 3, none⟩ = false ∧ w.frozen? ⟨g, 4, none⟩ = false ∧ w.frozen? ⟨g, 5, none⟩ = false ∧ w.frozen? ⟨g, 6, none⟩ = false) :=
  ⟨⟨cell_of_row w g 0 _ _ _ h, cell_of_row w g 1 _ _ _ h, cell_of_row w g 2 _ _ _ h, cell_of_row w g 3 _ _ _ h, cell_of_row w g 4 _ _ _ h, cell_of_row w g 5 _ _ _ h, cell_of_row w g 6 _ _ _ h⟩,
    frozen_of_row w g 0 _ _ h, frozen_of_row w g 1 _ _ h, frozen_of_row w g 2 _ _ h, frozen_of_row w g 3 _ _ h, frozen_of_row w g 4 _ _ h, frozen_of_row w g 5 _ _ h, frozen_of_row w g 6 _ _ h⟩

set_option maxRecDepth 100000 in
set_option maxHeartbeats 2000000 in
theorem known_any (g m : Nat) (most next pid : Int) (L : List Rw) (w : World) (hT : Tb w g m most next L) (h1 : -9223372036854775808 ≤ pid) (h2 : pid ≤ 9223372036854775807) :
    Calls Try.prog 61 #[.pointer (some ⟨g, 0, none⟩), .int .i64 pid] w fun e w' => e = .returned (.tuple #[(knownR L pid).val, .bool (getL Rw.pid L pid).isSome]) ∧ Below w.heap.size w w' := by
  have hlt := hT.lg
  have HM := Lib.hid ((hT.alloc (.cells #[.int .i64 0, .int .i64 0, .int .i64 0, .int .i64 0, .int .i64 0, .int .i64 0, .int .i64 0] 52)).mi)
  have c2 : w.cell? ⟨g, 2, none⟩ = some (.map (some m)) := cell_of_row w g 2 _ _ _ hT.t
  have HB := Lib.hid (begun_any pid (-1) 0)
  have hwf := wf64 h1 h2
  clear hT
  unfold knownR
  cases hg : getL Rw.pid L pid with
  | some r =>
    have HG := Lib.hid hg
    clear hg
    obtain ⟨rp, re, rs, rc, rb, rf, rt⟩ := r
    simp only [Option.getD_some, Option.isSome_some, Rw.val, Rw.cells]
    go_enter Try.func61, Try.ntmps61
    go_wp2_with (first
      | (at_lookup; refine wpList_look_some _ rfl _ _ 89 rfl 2 52 law64 Try.underlying89 Try.underlying2 (zero_row _) m L rfl HM.out pid rfl hwf _ HG.out (.agg #[.int .i64 rp, .int .i64 re, .int .i64 rs, .int .i64 rc, .int .i64 rb, .int .i64 rf, .int .i64 rt]) rfl ?_)
      | go_in)
    refine bodyPost_ret (v := .tuple #[.agg #[.int .i64 rp, .int .i64 re, .int .i64 rs, .int .i64 rc, .int .i64 rb, .int .i64 rf, .int .i64 rt], .bool true]) (by simp [results, Try.results61, go_sem]) rfl ⟨rfl, ?_⟩
    repeat refine Below.setCell ?_ (by simp) _
    refine Below.alloc ?_ (by simp) _
    exact (Below.refl _ _).alloc (Nat.le_refl _) _
  | none =>
    have HG := Lib.hid hg
    clear hg
    simp only [Option.getD_none, Option.isSome_none]
    unfold Rw.val Rw.cells begunR at *
    simp only at *
    go_enter Try.func61, Try.ntmps61
    go_wp2_with (first
      | (at_lookup; refine wpList_look_none _ rfl _ _ 89 rfl 2 52 law64 Try.underlying89 Try.underlying2 (zero_row _) m L rfl HM.out pid rfl hwf HG.out ?_)
      | (go_at_call 106; refine (HB.out _).mono ?_; rintro e w1 ⟨rfl, hb⟩; obtain ⟨⟨d0, d1, d2, d3, d4, d5, d6⟩, ⟨f0, f1, f2, f3, f4, f5, f6⟩⟩ := seven ((hb.block w.heap.size (by simp; omega)).trans (two_alloc w _ _)))
      | go_in)
    refine bodyPost_ret (v := .tuple #[.agg #[.int .i64 pid, .int .i64 (-1), .int .i64 0, .int .i64 0, .int .i64 0, .int .i64 (-1), .int .i64 0], .bool false]) (by simp [results, Try.results61, go_sem, d0, d1, d2, d3, d4, d5, d6]) rfl ⟨rfl, ?_⟩
    repeat refine Below.setCell ?_ (by simp) _
    refine Below.trans ?_ (hb.mono (by simp; omega))
    repeat refine Below.setCell ?_ (by simp) _
    refine Below.alloc ?_ (by simp) _
    exact (Below.refl _ _).alloc (Nat.le_refl _) _

set_option maxRecDepth 100000 in
set_option maxHeartbeats 2000000 in
theorem place_any (r : Rw) (b : Bat) (A : Option Addr) (c : Nat) (w : World) :
    Calls Try.prog 65 #[r.val, .agg (b.cells A c)] w fun e w' => e = .returned (.int .i64 (placeR r b)) ∧ Below w.heap.size w w' := by
  unfold placeR
  obtain ⟨rp, re, rs, rc, rb, rf, rt⟩ := r
  obtain ⟨base, pid, epoch, seq, kind, time, L⟩ := b
  unfold Rw.val Rw.cells Bat.cells
  simp only
  by_cases h1 : seq = rs
  · have e1 : (seq == rs) = true := by simp [h1]
    by_cases h2 : (L.length : Int) = rc
    · have e2 : ((L.length : Int) == rc) = true := by simp [h2]
      rw [if_pos ⟨h1, h2⟩]
      clear h1 h2
      go_enter Try.func65, Try.ntmps65
      go_wp2
      go_ret
      exact ⟨rfl, ((Below.refl _ _).alloc (Nat.le_refl _) _).alloc (by simp) _⟩
    · have e2 : ((L.length : Int) == rc) = false := by simp [h2]
      rw [if_neg (by simp [h2])]
      clear h1 h2
      go_enter Try.func65, Try.ntmps65
      go_wp2
      go_ret
      exact ⟨rfl, ((Below.refl _ _).alloc (Nat.le_refl _) _).alloc (by simp) _⟩
  · have e1 : (seq == rs) = false := by simp [h1]
    rw [if_neg (by simp [h1])]
    clear h1
    go_enter Try.func65, Try.ntmps65
    go_wp2
    go_ret
    exact ⟨rfl, ((Below.refl _ _).alloc (Nat.le_refl _) _).alloc (by simp) _⟩

set_option maxRecDepth 100000 in
set_option maxHeartbeats 4000000 in
theorem after_any (r : Rw) (b : Bat) (A : Option Addr) (c : Nat) (w : World) (he1 : -1 ≤ b.epoch) (he2 : b.epoch ≤ 40000) :
    Calls Try.prog 67 #[r.val, .agg (b.cells A c)] w fun e w' => e = .returned (afterR r b).val ∧ Below w.heap.size w w' := by
  have HM : Hid (∀ W, Calls Try.prog 63 #[.agg (b.cells A c)] W fun e w' => e = .returned (.bool (markB b)) ∧ Below W.heap.size W w') := fun W => dmark_any b A c W
  have HO : Hid (∀ W, Calls Try.prog 66 #[r.val] W fun e w' => e = .returned (.bool (openR r)) ∧ Below W.heap.size W w') := fun W => open_any r W
  have HB : Hid (∀ W t, Calls Try.prog 106 #[.int .i64 b.pid, .int .i64 (b.epoch + 1), .int .i64 t] W fun e w' => e = .returned (begunR b.pid (b.epoch + 1) t).val ∧ Below W.heap.size W w') := fun W t => begun_any _ _ _ W
  unfold afterR fromR
  obtain ⟨rp, re, rs, rc, rb, rf, rt⟩ := r
  obtain ⟨base, pid, epoch, seq, kind, time, L⟩ := b
  simp only at he1 he2
  generalize hmk : markB _ = mk at *
  generalize hop : openR _ = op at *
  clear hmk hop
  unfold Rw.val Rw.cells Bat.cells begunR at *
  simp only at *
  have HR : Hid (∀ (W : World) (x0 x1 x2 x3 x4 x5 x6 y0 y1 y2 y3 y4 y5 y6 : Value), ((((W.alloc (.cells #[x0, x1, x2, x3, x4, x5, x6] 52)).alloc (.cells #[y0, y1, y2, y3, y4, y5, y6] 26)).alloc (.cells #[.int .i64 0, .int .i64 0, .int .i64 0, .int .i64 0, .int .i64 0, .int .i64 0, .int .i64 0] 52)).heap[W.heap.size + 1 + 1]? = some (.cells #[.int .i64 0, .int .i64 0, .int .i64 0, .int .i64 0, .int .i64 0, .int .i64 0, .int .i64 0] 52))) := fun W x0 x1 x2 x3 x4 x5 x6 y0 y1 y2 y3 y4 y5 y6 => by
    have h := heap_alloc_new ((W.alloc (.cells #[x0, x1, x2, x3, x4, x5, x6] 52)).alloc (.cells #[y0, y1, y2, y3, y4, y5, y6] 26)) (.cells #[.int .i64 0, .int .i64 0, .int .i64 0, .int .i64 0, .int .i64 0, .int .i64 0, .int .i64 0] 52)
    simpa only [World.size_alloc] using h
  have hz0 : w.heap.size < w.heap.size + 1 + 1 + 1 := by omega
  have hz1 : w.heap.size + 1 < w.heap.size + 1 + 1 + 1 := by omega
  have hz2 : w.heap.size + 1 + 1 < w.heap.size + 1 + 1 + 1 := by omega
  cases mk with
  | true =>
    simp only [if_true]
    go_enter Try.func67, Try.ntmps67
    go_wp2_with (first | (go_at_call 63; refine (HM.out _).mono ?_; rintro e w1 ⟨rfl, hb⟩; obtain ⟨hc, hf⟩ := bcell hb; have hk := (hb.block (w.heap.size + 1 + 1) (by simp)).trans (HR.out w _ _ _ _ _ _ _ _ _ _ _ _ _ _); have hs := hb.size; simp only [World.size_alloc] at hs hc hf; obtain ⟨⟨d0, d1, d2, d3, d4, d5, d6⟩, ⟨f0, f1, f2, f3, f4, f5, f6⟩⟩ := seven hk) | (go_at_call 106; refine (HB.out _ _).mono ?_; rintro e w2 ⟨rfl, hb2⟩; have hk2 := (hb2.block (w.heap.size + 1 + 1) (by omega)).trans hk; clear hk d0 d1 d2 d3 d4 d5 d6 f0 f1 f2 f3 f4 f5 f6; obtain ⟨⟨d0, d1, d2, d3, d4, d5, d6⟩, ⟨f0, f1, f2, f3, f4, f5, f6⟩⟩ := seven hk2))
    refine bodyPost_ret (v := .agg #[.int .i64 pid, .int .i64 (epoch + 1), .int .i64 0, .int .i64 0, .int .i64 0, .int .i64 (-1), .int .i64 (max rt time)]) (by simp [results, Try.results67, go_sem, d0, d1, d2, d3, d4, d5, d6]) rfl ⟨rfl, ?_⟩
    repeat refine Below.setCell ?_ (by simp; first | done | omega) _
    refine Below.trans ?_ (hb2.mono (by omega))
    exact ((((Below.refl _ _).alloc (Nat.le_refl _) _).alloc (by simp) _).alloc (by simp; omega) _).trans (hb.mono (by simp; omega))
  | false =>
    simp only [Bool.false_eq_true, if_false]
    by_cases hk : kind = 1
    · subst hk
      cases op with
      | true =>
        simp only [Bool.true_eq_false, and_false, if_false]
        go_enter Try.func67, Try.ntmps67
        go_wp2_with (first | (go_at_call 63; refine (HM.out _).mono ?_; rintro e w1 ⟨rfl, hb⟩; obtain ⟨hc, hf⟩ := bcell hb; have hk := (hb.block (w.heap.size + 1 + 1) (by simp)).trans (HR.out w _ _ _ _ _ _ _ _ _ _ _ _ _ _); have hs := hb.size; simp only [World.size_alloc] at hs hc hf; obtain ⟨⟨d0, d1, d2, d3, d4, d5, d6⟩, ⟨f0, f1, f2, f3, f4, f5, f6⟩⟩ := seven hk) | (go_at_call 66; refine (HO.out _).mono ?_; rintro e w2 ⟨rfl, hb2⟩; obtain ⟨hc2, hf2⟩ := bcell hb2; have hk2 := (hb2.block (w.heap.size + 1 + 1) (by omega)).trans hk; have hq0 : w.heap.size < w1.heap.size := (by omega); have hq1 : w.heap.size + 1 < w1.heap.size := (by omega); clear hk d0 d1 d2 d3 d4 d5 d6 f0 f1 f2 f3 f4 f5 f6; obtain ⟨⟨d0, d1, d2, d3, d4, d5, d6⟩, ⟨f0, f1, f2, f3, f4, f5, f6⟩⟩ := seven hk2))
        refine bodyPost_ret (v := .agg #[.int .i64 pid, .int .i64 epoch, .int .i64 seq, .int .i64 L.length, .int .i64 base, .int .i64 rf, .int .i64 (max rt time)]) (by simp [results, Try.results67, go_sem, d0, d1, d2, d3, d4, d5, d6]) rfl ⟨rfl, ?_⟩
        repeat refine Below.setCell ?_ (by simp; first | done | omega) _
        refine Below.trans ?_ (hb2.mono (by omega))
        exact ((((Below.refl _ _).alloc (Nat.le_refl _) _).alloc (by simp) _).alloc (by simp; omega) _).trans (hb.mono (by simp; omega))
      | false =>
        simp only [and_self, if_true]
        go_enter Try.func67, Try.ntmps67
        go_wp2_with (first | (go_at_call 63; refine (HM.out _).mono ?_; rintro e w1 ⟨rfl, hb⟩; obtain ⟨hc, hf⟩ := bcell hb; have hk := (hb.block (w.heap.size + 1 + 1) (by simp)).trans (HR.out w _ _ _ _ _ _ _ _ _ _ _ _ _ _); have hs := hb.size; simp only [World.size_alloc] at hs hc hf; obtain ⟨⟨d0, d1, d2, d3, d4, d5, d6⟩, ⟨f0, f1, f2, f3, f4, f5, f6⟩⟩ := seven hk) | (go_at_call 66; refine (HO.out _).mono ?_; rintro e w2 ⟨rfl, hb2⟩; obtain ⟨hc2, hf2⟩ := bcell hb2; have hk2 := (hb2.block (w.heap.size + 1 + 1) (by omega)).trans hk; have hq0 : w.heap.size < w1.heap.size := (by omega); have hq1 : w.heap.size + 1 < w1.heap.size := (by omega); clear hk d0 d1 d2 d3 d4 d5 d6 f0 f1 f2 f3 f4 f5 f6; obtain ⟨⟨d0, d1, d2, d3, d4, d5, d6⟩, ⟨f0, f1, f2, f3, f4, f5, f6⟩⟩ := seven hk2))
        refine bodyPost_ret (v := .agg #[.int .i64 pid, .int .i64 epoch, .int .i64 seq, .int .i64 L.length, .int .i64 base, .int .i64 base, .int .i64 (max rt time)]) (by simp [results, Try.results67, go_sem, d0, d1, d2, d3, d4, d5, d6]) rfl ⟨rfl, ?_⟩
        repeat refine Below.setCell ?_ (by simp; first | done | omega) _
        refine Below.trans ?_ (hb2.mono (by omega))
        exact ((((Below.refl _ _).alloc (Nat.le_refl _) _).alloc (by simp) _).alloc (by simp; omega) _).trans (hb.mono (by simp; omega))
    · have hk' : (kind == 1) = false := by simp [hk]
      simp only [hk, false_and, if_false]
      clear hk
      go_enter Try.func67, Try.ntmps67
      go_wp2_with (first | (go_at_call 63; refine (HM.out _).mono ?_; rintro e w1 ⟨rfl, hb⟩; obtain ⟨hc, hf⟩ := bcell hb; have hk := (hb.block (w.heap.size + 1 + 1) (by simp)).trans (HR.out w _ _ _ _ _ _ _ _ _ _ _ _ _ _); have hs := hb.size; simp only [World.size_alloc] at hs hc hf; obtain ⟨⟨d0, d1, d2, d3, d4, d5, d6⟩, ⟨f0, f1, f2, f3, f4, f5, f6⟩⟩ := seven hk))
      refine bodyPost_ret (v := .agg #[.int .i64 pid, .int .i64 epoch, .int .i64 seq, .int .i64 L.length, .int .i64 base, .int .i64 rf, .int .i64 (max rt time)]) (by simp [results, Try.results67, go_sem, d0, d1, d2, d3, d4, d5, d6]) rfl ⟨rfl, ?_⟩
      repeat refine Below.setCell ?_ (by simp; first | done | omega) _
      exact ((((Below.refl _ _).alloc (Nat.le_refl _) _).alloc (by simp) _).alloc (by simp; omega) _).trans (hb.mono (by simp; omega))
end Go.Proofs.Ytofakehnadpebaa
