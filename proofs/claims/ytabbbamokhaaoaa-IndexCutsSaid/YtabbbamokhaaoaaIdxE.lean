/-
  What an index's Note does.
-/
import Derived.Test.YtabbbamokhaaoaaIdxD
import Derived.BigRegion
import Derived.Deep.RegionLaw
import Derived.Deep.AppendLies
namespace Go.Proofs.Ytabbbamokhaaoaa
open Go.RowKit
set_option linter.unusedVariables false
set_option linter.unusedSimpArgs false

theorem own_slice3 {w : World} {base s n : Nat} {e : TypeId} {v : Value} {xs : List Value} (h : w.ownsRow base e s v n xs) : ∃ A c, v = .slice A n c := by
  rcases h.2 with ⟨rfl, rfl⟩ | ⟨g, cap, cur, rfl, _⟩
  · exact ⟨none, 0, rfl⟩
  · exact ⟨_, cap, rfl⟩
theorem new_cells1 (w : World) (cs : List Value) (e : TypeId) : ∀ j u, cs[j]? = some u → (w.alloc (.cells cs.toArray e)).cell? ((⟨w.heap.size, 0, none⟩ : Addr).add j) = some u := fun j u hj => by
  obtain ⟨q, hq, _, hc⟩ := (Lies.of_new w cs.toArray e).get j u (by simpa using hj)
  injection hq with hq
  subst hq
  exact hc

theorem set_cell {w : World} {g i : Nat} {cs : Array Value} {ty : TypeId} (u : Value) (h : w.heap[g]? = some (.cells cs ty (0, 0))) : (w.setCell ⟨g, i, none⟩ u).heap[g]? = some (.cells (cs.setIfInBounds i u) ty (0, 0)) := heap_setCell_same w g i cs ty u h
/-- an index whose last numbers are set -/
theorem Ix.three {w : World} {base g : Nat} {v : Value} {x : Idx} (h : Ix w base g v x) (o p l : Int) : Ix (((w.setCell ⟨g, 2, none⟩ (.int .i64 o)).setCell ⟨g, 3, none⟩ (.int .i64 p)).setCell ⟨g, 4, none⟩ (.int .i64 l)) base g v ⟨x.gap, x.L, o, p, l⟩ :=
  ⟨set_cell _ (set_cell _ (set_cell _ h.blk)), ((But.set (g := g) (k := none) _ 4 _).row ((But.set (g := g) (k := none) _ 3 _).row ((But.set (g := g) (k := none) w 2 _).row h.own h.ne (by cases hv : v.ownBlock <;> simp)) h.ne (by cases hv : v.ownBlock <;> simp)) h.ne (by cases hv : v.ownBlock <;> simp)), h.ne, h.lo⟩
theorem But.three (g : Nat) (k : Option Nat) (w : World) (o p l : Value) : But g k w (((w.setCell ⟨g, 2, none⟩ o).setCell ⟨g, 3, none⟩ p).setCell ⟨g, 4, none⟩ l) :=
  ((But.set w 2 o).trans (But.set _ 3 p) (Newer.refl _ _)).trans (But.set _ 4 l) (Newer.refl _ _)
theorem Ix.heap {w W : World} {base g : Nat} {v : Value} {x : Idx} (h : Ix w base g v x) (e : W.heap = w.heap) : Ix W base g v x :=
  ⟨by rw [e]; exact h.blk, by unfold World.ownsRow; rw [e]; exact h.own, h.ne, h.lo⟩
/-- behind an append of one entry -/
theorem Ix.grow {w w1 : World} {base g gg cap : Nat} {v : Value} {x : Idx} {e : Ent} (h : Ix w base g v x) (hg : w.grownBy w1 v.ownBlock) (hat : v.ownBlock = some gg ∨ gg = w.heap.size)
    (ho : w1.ownsRow base 28 3 (.slice (some ⟨gg, 0, none⟩) (x.L.length + 1) cap) (x.L.length + 1) (ecells x.L ++ e.cells)) :
    Ix (w1.setCell ⟨g, 1, none⟩ (.slice (some ⟨gg, 0, none⟩) (x.L.length + 1) cap)) base g (.slice (some ⟨gg, 0, none⟩) (x.L.length + 1) cap) ⟨x.gap, x.L ++ [e], x.off, x.pl, x.lat⟩ := by
  have hl := h.lt
  have hne : gg ≠ g := fun e => by
    rcases hat with r | r
    · exact h.ne (by rw [r, e])
    · omega
  refine ⟨set_cell _ ((hg.block g hl (fun e => h.ne e.symm)).trans h.blk), (But.set (g := g) (k := none) w1 1 _).row ?_ (by simp [Value.ownBlock]; exact hne) (by simp [Value.ownBlock]), by simp [Value.ownBlock]; exact hne, h.lo⟩
  have e2 : ecells (x.L ++ [e]) = ecells x.L ++ e.cells := by rw [ecells_append]; simp [ecells]
  have e3 : (x.L ++ [e]).length = x.L.length + 1 := by simp
  show w1.ownsRow base _ 3 _ (x.L ++ [e]).length (ecells (x.L ++ [e]))
  rw [e2, e3]
  exact ho

set_option maxRecDepth 100000 in
set_option maxHeartbeats 4000000 in
theorem note_ok (base g : Nat) (v : Value) (x : Idx) (o p t : Int) (w : World) (hx : Ix w base g v x) (hb : base ≤ w.heap.size) (hL : x.L.length ≤ 1000000) (h1 : 0 ≤ o) (h2 : o ≤ 1099511627776) (h3 : 0 ≤ p) (h4 : p ≤ 4194304) (h5 : 0 ≤ t) (h6 : t ≤ 1099511627776) (h7 : x.off < o) (h8 : x.pl < p)
    (hq : ∀ a, a < x.L.length → 0 ≤ (x.L.getD a default).pl ∧ (x.L.getD a default).pl ≤ 4194304) :
    Calls Try.prog 24 #[.pointer (some ⟨g, 0, none⟩), .int .i64 o, .int .i64 p, .int .i64 t] w fun e w' => e = .returned (.int .i64 0) ∧ ∃ v', Ix w' base g v' (x.note o p t) ∧ But g v.ownBlock w w' ∧ Newer w v.ownBlock v'.ownBlock := by
  obtain ⟨j0, qj0, qy0, qy1, qy2⟩ := info_parts zero_ent
  have z1 : ifz 1099511627776 o = true := (ifz_iff _ _).2 ⟨h1, h2⟩
  have z2 : ifz 4194304 p = true := (ifz_iff _ _).2 ⟨h3, h4⟩
  have z3 : ifz 1099511627776 t = true := (ifz_iff _ _).2 ⟨h5, h6⟩
  have HZ : Hid (∀ m n, ifz m n = true → ∀ W, Calls Try.prog 57 #[.int .i64 m, .int .i64 n] W fun e w' => e = .returned (.bool true) ∧ W = w') := fun m n h W => by
    have := ifrom0_any m n W
    rw [h] at this
    exact this
  have e7 : decide (o ≤ x.off) = false := by simp; omega
  have e8 : decide (p ≤ x.pl) = false := by simp; omega
  have c0 := hx.c0
  have c1 := hx.c1
  have c2 := hx.c2
  have c3 := hx.c3
  have c4 := hx.c4
  have f1 := hx.free 1
  have f2 := hx.free 2
  have f3 := hx.free 3
  have f4 := hx.free 4
  have hgl := hx.lt
  have HX := Lib.hid hx
  have HXA : Hid (∀ W : World, W.heap = w.heap → Ix (W.alloc (.cells #[.int .i64 o, .int .i64 p, .int .i64 x.lat] 28)) base g v x) := fun W e => (hx.heap e).below ((Below.refl _ _).alloc (Nat.le_refl _) _) (Nat.le_refl _)
  have HBA : Hid (∀ (W : World) (o : Obj), W.heap = w.heap → W.os = w.os → W.tape = w.tape → W.output = w.output → Below w.heap.size w (W.alloc o)) := fun W o e1 e2 e3 e4 => ((⟨e2, e3, e4, by rw [e1]; exact Nat.le_refl _, fun i _ => by rw [e1]⟩ : Below w.heap.size w W)).alloc (by rw [e1]; exact Nat.le_refl _) o
  obtain ⟨A, c, hv, hc, hm, _, _⟩ := own_form hx.own
  subst hv
  have hne : some g ≠ (Value.slice A x.L.length c).ownBlock := fun e => hx.ne e.symm
  have hLz : (x.L.length : Int) ≤ 1000000 := by omega
  have ng : ∀ (W : World) cs, W.heap = w.heap → (W.alloc (.cells cs 28)).cell? ⟨g, 1, none⟩ = some (.slice A x.L.length c) := fun W cs e => ((HX.out.heap e).below ((Below.refl _ _).alloc (Nat.le_refl _) _) (Nat.le_refl _)).c1
  have ng1 : ∀ k cs, ((w.drewN k).alloc (.cells cs 28)).cell? ⟨g, 1, none⟩ = some (.slice A x.L.length c) := fun k cs => ng _ cs rfl
  clear ng
  have HQ := Lib.hid hq
  clear hx hq
  rcases Nat.eq_zero_or_pos x.L.length with hl0 | hl0
  · have el : ((x.L.length : Int) == 0) = true := by rw [beq_iff_eq]; omega
    have HN : Hid (x.note o p t = ⟨x.gap, x.L ++ [⟨o, p, x.lat⟩], o, p, max x.lat t⟩) := by show _ = _; unfold Idx.note; rw [if_pos (.inl hl0)]
    generalize x.note o p t = xn at *
    clear hl0
    go_enter Try.func24, Try.ntmps24
    go_wp2_with (go_at_call 57; refine (HZ.out _ _ (by assumption) _).mono ?_; rintro e w1 ⟨rfl, rfl⟩)
    go_quiet (fail)
    go_wp2_with fail
    go_cut [80] (fun s80 wx => ∃ gg cap, s80 = .slice (some ⟨gg, 0, none⟩) (x.L.length + 1) cap ∧ Ix wx base g (.slice (some ⟨gg, 0, none⟩) (x.L.length + 1) cap) ⟨x.gap, x.L ++ [⟨o, p, x.lat⟩], x.off, x.pl, x.lat⟩ ∧ But g (Value.slice A x.L.length c).ownBlock w wx ∧ Newer w (Value.slice A x.L.length c).ownBlock (some gg))
    case first =>
      go_region_law (refine step_append_lies _ (by rfl) (.tmp 71) (.tmp 79) 40 (by rfl) base 28 j0 _ 3 24 Try.underlying40 qj0 qy0 qy1 qy2 (by rfl) (by decide) (.slice A x.L.length c) x.L.length (ecells x.L) (by rfl) (HXA.out _ (by rfl)).own ⟨w.heap.size, 0, none⟩ 1 1 [.int .i64 o, .int .i64 p, .int .i64 x.lat] (by rfl) (by rfl) (new_cells1 _ [.int .i64 o, .int .i64 p, .int .i64 x.lat] _) (by simp [Value.oneCell']) (by omega) (by unfold maxLen; omega) (by omega) (by simp; omega) (w.heap.size + 1) (by simp) ?_; intro gg cap w1 hown1 hgrow hat hlt; have HX1 := Lib.hid ((HXA.out _ (by rfl)).grow (e := ⟨o, p, x.lat⟩) hgrow (by simpa using hat) hown1); have y1 := (hgrow.cell_far ⟨g, 1, none⟩ (HXA.out _ (by rfl)).lt hne).trans (HXA.out _ (by rfl)).c1; have f1' := (hgrow.frozen_far ⟨g, 1, none⟩ (HXA.out _ (by rfl)).lt hne).trans ((HXA.out _ (by rfl)).free 1); have HG1 := Lib.hid (((But.of_below (HBA.out _ _ (by rfl) (by rfl) (by rfl) (by rfl))).trans (But.of_grown (g := g) hgrow) (Newer.refl _ _)).trans (But.set w1 1 (.slice (some ⟨gg, 0, none⟩) (x.L.length + 1) cap)) (Newer.refl _ _)); clear hgrow hown1)
      all_goals (go_wp2_with fail; go_meet; exact ⟨gg, cap, rfl, HX1.out, HG1.out, hat.elim (fun r => .inl r.symm) (fun r => .inr ⟨gg, rfl, by omega⟩)⟩)
    case rest =>
      obtain ⟨gg, cap, rfl, hx2, hbt, hnw⟩ := hcut
      have y2 := hx2.c2
      have y3 := hx2.c3
      have y4 := hx2.c4
      have g2 := hx2.free 2
      have g3 := hx2.free 3
      have g4 := hx2.free 4
      have HX2 := Lib.hid (hx2.three o p (max x.lat t))
      have HBT := Lib.hid (hbt.trans (But.three g _ _ (.int .i64 o) (.int .i64 p) (.int .i64 (max x.lat t))) (Newer.refl _ _))
      have HNW := Lib.hid hnw
      clear hx2 hbt hnw
      rcases Int.lt_or_le x.lat t with hlt | hlt
      · have em : max x.lat t = t := by omega
        have m1 : decide (x.lat < t) = true := by simp; omega
        have m2 : decide (t < x.lat) = false := by simp; omega
        rw [em] at HX2 HBT HN
        clear em
        go_wp2_with fail
        go_ret
        exact ⟨rfl, .slice (some ⟨gg, 0, none⟩) (x.L.length + 1) cap, by rw [HN.out]; exact HX2.out, HBT.out, HNW.out⟩
      · have em : max x.lat t = x.lat := by omega
        have m1 : decide (x.lat < t) = false := by simp; omega
        rw [em] at HX2 HBT HN
        clear em
        go_wp2_with fail
        go_ret
        exact ⟨rfl, .slice (some ⟨gg, 0, none⟩) (x.L.length + 1) cap, by rw [HN.out]; exact HX2.out, HBT.out, HNW.out⟩
  · have el : ((x.L.length : Int) == 0) = false := by rw [beq_eq_false_iff_ne]; omega
    obtain ⟨m, hml⟩ : ∃ m, x.L.length = m + 1 := ⟨x.L.length - 1, by omega⟩
    obtain ⟨b, c2', hv2, hbl, hlc, r0, r1, r2⟩ := HX.out.row (k := m) (by omega)
    have hq := HQ.out m (by omega)
    have hk : (m : Int) < (x.L.length : Int) := by omega
    have hsub : (x.L.length : Int) - 1 = (m : Int) := by omega
    injection hv2 with hv2 hv3 hv4
    subst hv2 hv4
    have HN0 : Hid (x.note o p t = if x.gap ≤ p - (x.L.getD m default).pl then ⟨x.gap, x.L ++ [⟨o, p, x.lat⟩], o, p, max x.lat t⟩ else ⟨x.gap, x.L, o, p, max x.lat t⟩) := by
      show _ = _
      unfold Idx.note
      rw [show x.L.length - 1 = m by omega]
      by_cases hgp : x.gap ≤ p - (x.L.getD m default).pl
      · rw [if_pos (.inr hgp), if_pos hgp]
      · rw [if_neg (by omega), if_neg hgp]
    have hg1 : x.L.getD m default = x.L.getD m default := rfl
    generalize x.L.getD m default = en at *
    obtain ⟨eo, ep, eb⟩ := en
    simp only at r0 r1 r2 hq HN0
    clear hl0 hg1 hml
    generalize x.note o p t = xn at *
    by_cases hgp : x.gap ≤ p - ep
    · have eg : decide (x.gap ≤ p - ep) = true := by simpa using hgp
      have HN : Hid (xn = ⟨x.gap, x.L ++ [⟨o, p, x.lat⟩], o, p, max x.lat t⟩) := by show _ = _; rw [HN0.out, if_pos hgp]
      clear HN0 hgp
      go_enter Try.func24, Try.ntmps24
      go_wp2_with (go_at_call 57; refine (HZ.out _ _ (by assumption) _).mono ?_; rintro e w1 ⟨rfl, rfl⟩)
      go_quiet (fail)
      go_wp2_with fail
      go_cut [80] (fun s80 wx => ∃ gg cap, s80 = .slice (some ⟨gg, 0, none⟩) (x.L.length + 1) cap ∧ Ix wx base g (.slice (some ⟨gg, 0, none⟩) (x.L.length + 1) cap) ⟨x.gap, x.L ++ [⟨o, p, x.lat⟩], x.off, x.pl, x.lat⟩ ∧ But g (Value.slice (some ⟨b, 0, none⟩) x.L.length c).ownBlock w wx ∧ Newer w (Value.slice (some ⟨b, 0, none⟩) x.L.length c).ownBlock (some gg))
      case first =>
        go_region_law (refine step_append_lies _ (by rfl) (.tmp 71) (.tmp 79) 40 (by rfl) base 28 j0 _ 3 24 Try.underlying40 qj0 qy0 qy1 qy2 (by rfl) (by decide) (.slice (some ⟨b, 0, none⟩) x.L.length c) x.L.length (ecells x.L) (by rfl) (HXA.out _ (by rfl)).own ⟨w.heap.size, 0, none⟩ 1 1 [.int .i64 o, .int .i64 p, .int .i64 x.lat] (by rfl) (by rfl) (new_cells1 _ [.int .i64 o, .int .i64 p, .int .i64 x.lat] _) (by simp [Value.oneCell']) (by omega) (by unfold maxLen; omega) (by omega) (by simp; omega) (w.heap.size + 1) (by simp) ?_; intro gg cap w1 hown1 hgrow hat hlt; have HX1 := Lib.hid ((HXA.out _ (by rfl)).grow (e := ⟨o, p, x.lat⟩) hgrow (by simpa using hat) hown1); have y1 := (hgrow.cell_far ⟨g, 1, none⟩ (HXA.out _ (by rfl)).lt hne).trans (HXA.out _ (by rfl)).c1; have f1' := (hgrow.frozen_far ⟨g, 1, none⟩ (HXA.out _ (by rfl)).lt hne).trans ((HXA.out _ (by rfl)).free 1); have HG1 := Lib.hid (((But.of_below (HBA.out _ _ (by rfl) (by rfl) (by rfl) (by rfl))).trans (But.of_grown (g := g) hgrow) (Newer.refl _ _)).trans (But.set w1 1 (.slice (some ⟨gg, 0, none⟩) (x.L.length + 1) cap)) (Newer.refl _ _)); clear hgrow hown1)
        all_goals (go_wp2_with fail; go_meet; exact ⟨gg, cap, rfl, HX1.out, HG1.out, hat.elim (fun r => .inl r.symm) (fun r => .inr ⟨gg, rfl, by omega⟩)⟩)
      case rest =>
        obtain ⟨gg, cap, rfl, hx2, hbt, hnw⟩ := hcut
        have y2 := hx2.c2
        have y3 := hx2.c3
        have y4 := hx2.c4
        have g2 := hx2.free 2
        have g3 := hx2.free 3
        have g4 := hx2.free 4
        have HX2 := Lib.hid (hx2.three o p (max x.lat t))
        have HBT := Lib.hid (hbt.trans (But.three g _ _ (.int .i64 o) (.int .i64 p) (.int .i64 (max x.lat t))) (Newer.refl _ _))
        have HNW := Lib.hid hnw
        clear hx2 hbt hnw
        rcases Int.lt_or_le x.lat t with hlt | hlt
        · have em : max x.lat t = t := by omega
          have m1 : decide (x.lat < t) = true := by simp; omega
          have m2 : decide (t < x.lat) = false := by simp; omega
          rw [em] at HX2 HBT HN
          clear em
          go_wp2_with fail
          go_ret
          exact ⟨rfl, .slice (some ⟨gg, 0, none⟩) (x.L.length + 1) cap, by rw [HN.out]; exact HX2.out, HBT.out, HNW.out⟩
        · have em : max x.lat t = x.lat := by omega
          have m1 : decide (x.lat < t) = false := by simp; omega
          rw [em] at HX2 HBT HN
          clear em
          go_wp2_with fail
          go_ret
          exact ⟨rfl, .slice (some ⟨gg, 0, none⟩) (x.L.length + 1) cap, by rw [HN.out]; exact HX2.out, HBT.out, HNW.out⟩
    · have eg : decide (x.gap ≤ p - ep) = false := by simpa using hgp
      have HN : Hid (xn = ⟨x.gap, x.L, o, p, max x.lat t⟩) := by show _ = _; rw [HN0.out, if_neg hgp]
      have HX2 := Lib.hid (fun k => ((HX.out.heap (W := w.drewN k) rfl).three o p (max x.lat t)))
      have HBT := Lib.hid (fun k => (But.of_below (g := g) (k := (Value.slice (some ⟨b, 0, none⟩) x.L.length c).ownBlock) (below_draws (Below.refl w.heap.size w) k)).trans (But.three g _ (w.drewN k) (.int .i64 o) (.int .i64 p) (.int .i64 (max x.lat t))) (Newer.refl _ _))
      clear HN0 hgp
      rcases Int.lt_or_le x.lat t with hlt | hlt
      · have em : max x.lat t = t := by omega
        have m1 : decide (x.lat < t) = true := by simp; omega
        have m2 : decide (t < x.lat) = false := by simp; omega
        rw [em] at HX2 HBT HN
        clear em
        go_enter Try.func24, Try.ntmps24
        go_wp2_with (go_at_call 57; refine (HZ.out _ _ (by assumption) _).mono ?_; rintro e w1 ⟨rfl, rfl⟩)
        go_quiet (fail)
        go_wp2_with fail
        go_ret
        exact ⟨rfl, .slice (some ⟨b, 0, none⟩) x.L.length c, by rw [HN.out]; exact HX2.out _, HBT.out _, Newer.refl _ _⟩
      · have em : max x.lat t = x.lat := by omega
        have m1 : decide (x.lat < t) = false := by simp; omega
        rw [em] at HX2 HBT HN
        clear em
        go_enter Try.func24, Try.ntmps24
        go_wp2_with (go_at_call 57; refine (HZ.out _ _ (by assumption) _).mono ?_; rintro e w1 ⟨rfl, rfl⟩)
        go_quiet (fail)
        go_wp2_with fail
        go_ret
        exact ⟨rfl, .slice (some ⟨b, 0, none⟩) x.L.length c, by rw [HN.out]; exact HX2.out _, HBT.out _, Newer.refl _ _⟩
end Go.Proofs.Ytabbbamokhaaoaa
