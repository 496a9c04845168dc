/-
  What the reader's Within, Bytes, Rest, End and Left do.
-/
import Derived.Test.YtgbdgpacnpeahaaWrI
namespace Go.Proofs.Ytgbdgpacnpeahaa
open Go.RowKit Go.Lib Go.Sort
set_option linter.unusedVariables false
set_option linter.unusedSimpArgs false

theorem box4a (w : World) (u : Value) (t : TypeId) (b d e : Obj) : ((((w.alloc (.cells #[u] t)).alloc b).alloc d).alloc e).cell? ⟨w.heap.size, 0, none⟩ = some u := by
  rw [World.cell?_alloc_lt _ _ _ (by first | (simp; done) | (simp; omega))]; exact box_a w u t b d
theorem box4b (w : World) (u : Value) (t : TypeId) (a d e : Obj) : ((((w.alloc a).alloc (.cells #[u] t)).alloc d).alloc e).cell? ⟨w.heap.size + 1, 0, none⟩ = some u := by
  rw [World.cell?_alloc_lt _ _ _ (by first | (simp; done) | (simp; omega))]; exact box_b w u t a d
theorem box4c (w : World) (u : Value) (t : TypeId) (a b e : Obj) : ((((w.alloc a).alloc b).alloc (.cells #[u] t)).alloc e).cell? ⟨w.heap.size + 2, 0, none⟩ = some u := by
  have q : w.heap.size + 2 = ((w.alloc a).alloc b).heap.size := by simp
  rw [World.cell?_alloc_lt _ _ _ (by simp), q]
  exact box_new _ u t
theorem four_blk (w : World) (a b d : Obj) (cs : Array Value) (ty : TypeId) : ((((w.alloc a).alloc b).alloc d).alloc (.cells cs ty)).heap[w.heap.size + 3]? = some (.cells cs ty (0, 0)) := by
  have e : w.heap.size + 3 = (((w.alloc a).alloc b).alloc d).heap.size := by simp
  rw [e]
  exact Array.getElem?_push_size
theorem grown_four (w : World) (a b d e : Obj) (row : Option Nat) : w.grownBy ((((w.alloc a).alloc b).alloc d).alloc e) row :=
  grown_of_below (((((Below.refl _ _).alloc (Nat.le_refl _) a).alloc (by simp) b).alloc (by simp; omega) d).alloc (by simp; omega) e) row

set_option maxHeartbeats 1000000 in
theorem within_d (g c p err : Nat) (A : Option Addr) (l : List UInt8) (lo hi : Int) (w : World) (h : Rd w g A c l p err) :
    Calls Try.prog 137 #[.pointer (some ⟨g, 0, none⟩), .int .i64 lo, .int .i64 hi] w (DPost w g c err A l (dWithin l p lo hi)) := by
  have HU := Lib.hid (signed_d g c p err A l w h)
  unfold dInt at HU
  unfold dWithin
  generalize Wn.num (l.drop p) = r at *
  clear h
  cases r with
  | none =>
    go_enter Try.func137, Try.ntmps137
    go_wp2_with fail
    refine HU.out.mono ?_
    rintro e w1 ⟨y, q, rfl, _, hr, hg⟩
    have HR := Lib.hid hr
    clear hr HU
    go_wp2_with fail
    go_ret2
    exact ⟨_, q, rfl, by omega, HR.out, hg⟩
  | some x =>
    obtain ⟨x, k⟩ := x
    simp only at HU ⊢
    generalize Wn.zag x = v at *
    by_cases hb : v < lo ∨ hi < v
    · rw [if_pos hb]
      rcases hb with hb | hb
      · have d1 : decide (v < lo) = true := decide_eq_true hb
        go_enter Try.func137, Try.ntmps137
        go_wp2_with fail
        refine HU.out.mono ?_
        rintro e w1 ⟨rfl, hr, hg⟩
        have HR := Lib.hid hr
        clear hr HU
        go_wp2_with fail
        go_ret2
        exact ⟨_, _, rfl, by omega, HR.out, hg⟩
      · have d2 : decide (hi < v) = true := decide_eq_true hb
        cases d1 : decide (v < lo)
        all_goals
          go_enter Try.func137, Try.ntmps137
          go_wp2_with fail
          refine HU.out.mono ?_
          rintro e w1 ⟨rfl, hr, hg⟩
          have HR := Lib.hid hr
          clear hr HU
          go_wp2_with fail
          go_ret2
          exact ⟨_, _, rfl, by omega, HR.out, hg⟩
    · rw [if_neg hb]
      have d1 : decide (v < lo) = false := decide_eq_false (fun q => hb (.inl q))
      have d2 : decide (hi < v) = false := decide_eq_false (fun q => hb (.inr q))
      clear hb
      go_enter Try.func137, Try.ntmps137
      go_wp2_with fail
      refine HU.out.mono ?_
      rintro e w1 ⟨rfl, hr, hg⟩
      have HR := Lib.hid hr
      clear hr HU
      go_wp2_with fail
      go_ret2
      exact ⟨rfl, HR.out, hg⟩
set_option maxHeartbeats 2000000 in
theorem cWithin_any (bx by_ bz g c p err : Nat) (A : Option Addr) (l : List UInt8) (lo hi : Int) (w : World) (h : Rd w g A c l p err) (hbx : w.cell? ⟨bx, 0, none⟩ = some (.pointer (some ⟨g, 0, none⟩))) (hby : w.cell? ⟨by_, 0, none⟩ = some (.int .i64 lo)) (hbz : w.cell? ⟨bz, 0, none⟩ = some (.int .i64 hi)) :
    Calls Try.prog 136 #[.pointer (some ⟨bx, 0, none⟩), .pointer (some ⟨by_, 0, none⟩), .pointer (some ⟨bz, 0, none⟩)] w (DPost w g c err A l (dWithin l p lo hi)) := by
  have HU := Lib.hid (within_d g c p err A l lo hi w.drew h.drew)
  have HGD := Lib.hid (grown_of_below ((Below.refl w.heap.size w).drew) (some g))
  generalize dWithin l p lo hi = r at *
  clear h
  cases r with
  | ok x q =>
    go_enter Try.func136, Try.ntmps136
    go_wp2_with fail
    go_region_with ((go_at_call 137; refine HU.out.mono ?_; rintro e w1 ⟨rfl, hr, hg⟩; have HR := Lib.hid hr; have HG := Lib.hid hg; clear hr hg))
    all_goals
      go_wp2_with fail
      go_ret2
      exact ⟨rfl, HR.out, grown_trans HGD.out HG.out⟩
  | bad er =>
    go_enter Try.func136, Try.ntmps136
    go_wp2_with fail
    go_region_with ((go_at_call 137; refine HU.out.mono ?_; rintro e w1 ⟨y, q, rfl, her, hr, hg⟩; have HR := Lib.hid hr; have HG := Lib.hid hg; clear hr hg))
    all_goals
      go_wp2_with fail
      go_ret2
      exact ⟨_, _, rfl, her, HR.out, grown_trans HGD.out HG.out⟩
set_option maxRecDepth 100000 in
set_option maxHeartbeats 2000000 in
theorem rWithin_any (g c p : Nat) (A : Option Addr) (l : List UInt8) (lo hi : Int) (w : World) (h : Rd w g A c l p 0) :
    Calls Try.prog 64 #[.pointer (some ⟨g, 0, none⟩), .int .i64 lo, .int .i64 hi] w (RPost w g c A l p (.int .i64 0) (dWithin l p lo hi)) := by
  have c2 := h.c2
  have c0 := h.c0
  have c1 := h.c1
  have hlt := h.lt
  have HRD := Lib.hid h
  have HD : Hid (∀ W bx by_ bz, Rd W g A c l p 0 → W.cell? ⟨bx, 0, none⟩ = some (.pointer (some ⟨g, 0, none⟩)) → W.cell? ⟨by_, 0, none⟩ = some (.int .i64 lo) → W.cell? ⟨bz, 0, none⟩ = some (.int .i64 hi) → Calls Try.prog 136 #[.pointer (some ⟨bx, 0, none⟩), .pointer (some ⟨by_, 0, none⟩), .pointer (some ⟨bz, 0, none⟩)] W (DPost W g c 0 A l (dWithin l p lo hi))) := fun W bx by_ bz h hb hy hz => cWithin_any bx by_ bz g c p 0 A l lo hi W h hb hy hz
  clear h
  generalize dWithin l p lo hi = r at *
  have c3 : ∀ a b d : Obj, (((w.alloc a).alloc b).alloc d).cell? ⟨g, 0, none⟩ = some (.slice A l.length c) := fun a b d => by rw [World.cell?_alloc_lt _ _ _ (by simp; omega), World.cell?_alloc_lt _ _ _ (by simp; omega), World.cell?_alloc_lt _ _ _ hlt]; exact c0
  have c4 : ∀ a b d : Obj, (((w.alloc a).alloc b).alloc d).cell? ⟨g, 1, none⟩ = some (.int .i64 (p : Int)) := fun a b d => by rw [World.cell?_alloc_lt _ _ _ (by simp; omega), World.cell?_alloc_lt _ _ _ (by simp; omega), World.cell?_alloc_lt _ _ _ hlt]; exact c1
  have c5 : ∀ a b d : Obj, (((w.alloc a).alloc b).alloc d).cell? ⟨g, 2, none⟩ = some (.int .i64 (((0 : Nat)) : Int)) := fun a b d => by rw [World.cell?_alloc_lt _ _ _ (by simp; omega), World.cell?_alloc_lt _ _ _ (by simp; omega), World.cell?_alloc_lt _ _ _ hlt]; exact c2
  go_enter Try.func64, Try.ntmps64
  go_wp2_with (first | (go_at_call 136; refine (HD.out _ _ _ _ (HRD.out.alloc _ |>.alloc _ |>.alloc _ |>.alloc _) (box4a _ _ _ _ _ _) (box4b _ _ _ _ _ _) (box4c _ _ _ _ _ _)).mono ?_) | go_in)
  intro e w1 hp
  cases r with
  | ok x q =>
    obtain ⟨rfl, hr, hg⟩ := hp
    have HR := Lib.hid hr
    have HG := Lib.hid hg
    clear hr hg c3 c4 c5
    go_wp2_with fail
    go_ret
    exact ⟨rfl, HR.out, grown_trans (grown_four _ _ _ _ _ _) HG.out⟩
  | bad er =>
    obtain ⟨y, q, rfl, her, hr, hg⟩ := hp
    have hb : w1.heap[w.heap.size + 3]? = _ := (hg.block (w.heap.size + 3) (by simp) (by intro e; injection e with e; omega)).trans (four_blk _ _ _ _ _ _)
    have s0 : w1.cell? ⟨w.heap.size + 3, 0, none⟩ = some (.slice A l.length c) := cell_of_row w1 _ 0 _ _ _ hb
    have s1 : w1.cell? ⟨w.heap.size + 3, 1, none⟩ = some (.int .i64 (p : Int)) := cell_of_row w1 _ 1 _ _ _ hb
    have hne : ((er : Int) != 0) = true := by rw [bne_iff_ne]; omega
    have f0 := hr.free 0
    have f1 := hr.free 1
    have f2 := hr.free 2
    have d0 := hr.c0
    have d1 := hr.c1
    have d2 := hr.c2
    have HR := Lib.hid (hr.back HRD.out.pos er)
    have HG := Lib.hid hg
    clear hr hg hb HD HRD c0 c1 c2 c3 c4 c5
    go_wp2_with fail
    go_ret
    exact ⟨rfl, HR.out, grown_trans (grown_trans (grown_four _ _ _ _ _ _) HG.out) (grown_back _ _ _ _)⟩
set_option maxHeartbeats 1000000 in
theorem pEnd_any (g c p err : Nat) (A : Option Addr) (l : List UInt8) (w : World) (h : Rd w g A c l p err) :
    Calls Try.prog 15 #[.pointer (some ⟨g, 0, none⟩)] w fun e w' => e = .returned (.int .i64 (endE l p err : Int)) ∧ Rd w' g A c l p (endE l p err) ∧ w.grownBy w' (some g) := by
  have HL := Lib.hid (left_any g c p err A l w h)
  have HRD := Lib.hid h
  have c2 := h.c2
  have f2 := h.free 2
  have hp := h.pos
  clear h
  by_cases he : err = 0
  · subst he
    by_cases hl : p < l.length
    · have hee : endE l p 0 = 6 := if_pos ⟨rfl, hl⟩
      have d1 : decide ((0 : Int) < ((l.length - p : Nat) : Int)) = true := by rw [decide_eq_true_iff]; omega
      have d2 : decide (0 < l.length - p) = true := by rw [decide_eq_true_iff]; omega
      rw [hee]
      generalize l.length - p = m at *
      clear hl hee
      go_enter Try.func15, Try.ntmps15
      go_wp2_with (first | (go_at_call 55; refine HL.out.mono ?_; rintro e w1 ⟨rfl, k, rfl⟩) | go_in)
      go_ret
      exact ⟨rfl, (HRD.out.drewN _).set2 6, grown_trans (grown_draws _ _ _) (grown_set _ _ _ _)⟩
    · have hee : endE l p 0 = 0 := if_neg (fun q => hl q.2)
      have hm : l.length - p = 0 := by omega
      rw [hee]
      rw [hm] at HL
      clear hl hee hm
      go_enter Try.func15, Try.ntmps15
      go_wp2_with (first | (go_at_call 55; refine HL.out.mono ?_; rintro e w1 ⟨rfl, k, rfl⟩) | go_in)
      go_ret
      exact ⟨rfl, HRD.out.drewN _, grown_draws _ _ _⟩
  · have hee : endE l p err = err := if_neg (fun q => he q.1)
    have z1 : ((err : Int) == 0) = false := by rw [beq_eq_false_iff_ne]; omega
    have HG0 : Hid (w.grownBy w (some g)) := World.grownBy.refl _ _
    rw [hee]
    clear hee he HL
    go_enter Try.func15, Try.ntmps15
    go_wp2_with go_in
    go_ret
    exact ⟨rfl, HRD.out, HG0.out⟩
set_option maxHeartbeats 1000000 in
theorem pLeft_any (g c p err : Nat) (A : Option Addr) (l : List UInt8) (w : World) (h : Rd w g A c l p err) :
    Calls Try.prog 13 #[.pointer (some ⟨g, 0, none⟩)] w fun e w' => e = .returned (.int .i64 ((l.length - p : Nat) : Int)) ∧ ∃ k, w' = w.drewN k := by
  have HL := Lib.hid (left_any g c p err A l w h)
  clear h
  go_enter Try.func13, Try.ntmps13
  go_wp2_with (go_at_call 55; refine HL.out.mono ?_; rintro e w1 ⟨rfl, k, rfl⟩)
  go_ret
  exact ⟨rfl, _, rfl⟩
end Go.Proofs.Ytgbdgpacnpeahaa
