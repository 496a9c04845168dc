/-
  The walk through RecMerges.
-/
import Derived.Test.YtapnhhoegoakiaaRecMl
import Derived.Test.YtapnhhoegoakiaaRecV
import Derived.Test.YtapnhhoegoakiaaRecAw
namespace Go.Proofs.Ytapnhhoegoakiaa
open Go.RowKit
set_option linter.unusedVariables false
set_option linter.unusedSimpArgs false

theorem zero_bat : (Try.prog.info? 26).map (fun i => (i.zero, i.size, i.bytes)) = some (some (.agg #[.int .i64 0, .int .i64 0, .int .i64 0, .int .i64 0, .int .i64 0, .int .i64 0, .slice none 0 0]), 7, 72) := by kernel_rfl
theorem new_cellsB (w : World) (cs : List Value) (e : TypeId) : ∀ j u, cs[j]? = some u → (w.alloc (.cells cs.toArray e)).cell? ((⟨w.heap.size, 0, none⟩ : Addr).add j) = some u := fun j u hj => by
  obtain ⟨q, hq, _, hc⟩ := (Lies.of_new w cs.toArray e).get j u (by simpa using hj)
  injection hq with hq
  subst hq
  exact hc
theorem setC {W : World} {g : Nat} {cs : Array Value} {T : TypeId} (i : Nat) (u : Value) (h : W.heap[g]? = some (.cells cs T (0, 0))) : (W.setCell ⟨g, i, none⟩ u).heap[g]? = some (.cells (cs.setIfInBounds i u) T (0, 0)) := by rw [heap_setCell_same _ g i _ _ _ h]
theorem belowDrew {B : Nat} {a w : World} (h : Below B a w) : Below B a w.drew := ⟨h.os, h.tape, h.output, h.size, h.block⟩
theorem drewC {W : World} {g : Nat} {o : Obj} (h : W.heap[g]? = some o) : W.drew.heap[g]? = some o := h
theorem chain6 {W : World} {g : Nat} {T : TypeId} {x0 x1 x2 x3 x4 x5 x6 : Value} (y0 y1 y2 y3 y4 y5 : Value) (h : W.heap[g]? = some (.cells #[x0, x1, x2, x3, x4, x5, x6] T (0, 0))) :
    ((((((W.setCell ⟨g, 4, none⟩ y4).setCell ⟨g, 1, none⟩ y1).setCell ⟨g, 2, none⟩ y2).setCell ⟨g, 5, none⟩ y5).setCell ⟨g, 0, none⟩ y0).setCell ⟨g, 3, none⟩ y3).heap[g]? = some (.cells #[y0, y1, y2, y3, y4, y5, x6] T (0, 0)) := by
  have h1 : (W.setCell ⟨g, 4, none⟩ y4).heap[g]? = some (.cells #[x0, x1, x2, x3, y4, x5, x6] T (0, 0)) := by rw [heap_setCell_same _ g 4 _ _ _ h]; rfl
  have h2 : ((W.setCell ⟨g, 4, none⟩ y4).setCell ⟨g, 1, none⟩ y1).heap[g]? = some (.cells #[x0, y1, x2, x3, y4, x5, x6] T (0, 0)) := by rw [heap_setCell_same _ g 1 _ _ _ h1]; rfl
  have h3 : (((W.setCell ⟨g, 4, none⟩ y4).setCell ⟨g, 1, none⟩ y1).setCell ⟨g, 2, none⟩ y2).heap[g]? = some (.cells #[x0, y1, y2, x3, y4, x5, x6] T (0, 0)) := by rw [heap_setCell_same _ g 2 _ _ _ h2]; rfl
  have h4 : ((((W.setCell ⟨g, 4, none⟩ y4).setCell ⟨g, 1, none⟩ y1).setCell ⟨g, 2, none⟩ y2).setCell ⟨g, 5, none⟩ y5).heap[g]? = some (.cells #[x0, y1, y2, x3, y4, y5, x6] T (0, 0)) := by rw [heap_setCell_same _ g 5 _ _ _ h3]; rfl
  have h5 : (((((W.setCell ⟨g, 4, none⟩ y4).setCell ⟨g, 1, none⟩ y1).setCell ⟨g, 2, none⟩ y2).setCell ⟨g, 5, none⟩ y5).setCell ⟨g, 0, none⟩ y0).heap[g]? = some (.cells #[y0, y1, y2, x3, y4, y5, x6] T (0, 0)) := by rw [heap_setCell_same _ g 0 _ _ _ h4]; rfl
  rw [heap_setCell_same _ g 3 _ _ _ h5]; rfl
theorem chain7 {W : World} {g : Nat} {T : TypeId} {x0 x1 x2 x3 x4 x5 x6 : Value} (y : Value) (h : W.heap[g]? = some (.cells #[x0, x1, x2, x3, x4, x5, x6] T (0, 0))) : (W.setCell ⟨g, 3, none⟩ y).heap[g]? = some (.cells #[x0, x1, x2, y, x4, x5, x6] T (0, 0)) := by rw [heap_setCell_same _ g 3 _ _ _ h]; rfl
theorem chainB6 {B g : Nat} {a W : World} (y0 y1 y2 y3 y4 y5 : Value) (h : Below B a W) (hB : B ≤ g) :
    Below B a ((((((W.setCell ⟨g, 4, none⟩ y4).setCell ⟨g, 1, none⟩ y1).setCell ⟨g, 2, none⟩ y2).setCell ⟨g, 5, none⟩ y5).setCell ⟨g, 0, none⟩ y0).setCell ⟨g, 3, none⟩ y3) :=
  (((((h.setCell hB _).setCell hB _).setCell hB _).setCell hB _).setCell hB _).setCell hB _
set_option maxRecDepth 100000 in
set_option maxHeartbeats 4000000 in
theorem merges_any (A : Option Addr) (n c : Nat) (M0 : List BA) (GA : Option Addr) (gn gc : Nat) (GL : List Bool) (w : World) (h : Bai w w.heap.size A n M0) (hn : n ≤ maxLen) (hg : Bbs w w.heap.size GA gn GL) (hgn : gn ≤ maxLen)
    (hRM : ∀ (M : List BA) (A : Option Addr) (c B n : Nat) (w : World), Bas w B A n M → B ≤ w.heap.size → n ≤ 80 → n ≤ c → c ≤ maxLen → Calls Try.prog 11 #[.slice A n c] w fun e w' => MergeP (M.map BA.b) w e w') :
    Calls Try.prog 3 #[.slice A n c, .slice GA gn gc] w fun e w' => e = .returned (.bool true) ∧ Below w.heap.size w w' := by
  unfold maxLen at hn hgn
  obtain ⟨j0, qj0, qy0, qy1, qy2⟩ := info_parts zero_bat
  have HIN := Lib.hid h
  have HGO := Lib.hid hg
  clear h hg
  go_enter Try.func3, Try.ntmps3
  go_wp2_with fail
  go_loopw [5, 16] (fun v i wr => ∃ k : Nat, k ≤ n ∧ k ≤ 6 ∧ i = .int .i64 k ∧ ∃ M : List BA, M.length = k ∧ Hid (Ml w wr v M)) (fun _ i _ => n - (intOf i).toNat)
  case atStart => exact ⟨0, by omega, by omega, rfl, [], rfl, Ml.nil_ w⟩
  case round =>
    obtain ⟨k, hk, hk6, rfl, M, hMk, HML⟩ := hrel
    have HMk := Lib.hid hMk
    clear hMk
    obtain ⟨mA, mc, rfl, hmc, hmm, _⟩ := HML.out.bas
    by_cases hlt : k < n ∧ k < 6
    · obtain ⟨hlt, hlt6⟩ := hlt
      obtain ⟨p, rfl, hp, s0, s1, s2, s3, s4, s5, s6⟩ := (HIN.out.below HML.out.bel).row hlt
      obtain ⟨hx1, hx2, hx3⟩ := (HIN.out.below HML.out.bel).each k hlt
      generalize M0.getD k default = y at *
      obtain ⟨⟨bb, bp, be, bs, bk, bt, bL⟩, bA, bc⟩ := y
      simp only at s0 s1 s2 s3 s4 s5 s6 hx1 hx2 hx3
      have hkz : (k : Int) < (n : Int) := by omega
      have d6 : decide ((6 : Int) ≤ (k : Int)) = false := by rw [decide_eq_false_iff_not]; omega
      have hal := (Below.refl wr.heap.size wr).alloc (Nat.le_refl _) (.cells #[.int .i64 bb, .int .i64 bp, .int .i64 be, .int .i64 bs, .int .i64 bk, .int .i64 bt, .slice bA bL.length bc] 26)
      have hN := heap_alloc_new wr (.cells #[.int .i64 bb, .int .i64 bp, .int .i64 be, .int .i64 bs, .int .i64 bk, .int .i64 bt, .slice bA bL.length bc] 26)
      obtain ⟨w3, hw3⟩ : ∃ w3, wr.alloc (.cells #[.int .i64 bb, .int .i64 bp, .int .i64 be, .int .i64 bs, .int .i64 bk, .int .i64 bt, .slice bA bL.length bc] 26) = w3 := ⟨_, rfl⟩
      rw [hw3] at hal hN
      have HM3 := Lib.hid (HML.out.below hal)
      have HCUT : Hid (∃ CL : List Rec, CL.length ≤ 80 ∧ Calls Try.prog 9 #[.agg #[.int .i64 bb, .int .i64 bp, .int .i64 be, .int .i64 bs, .int .i64 bk, .int .i64 bt, .slice bA bL.length bc]] w3 fun e w' => ∃ A' c', e = .returned (.agg #[.int .i64 bb, .int .i64 bp, .int .i64 be, .int .i64 bs, .int .i64 bk, .int .i64 bt, .slice A' CL.length c']) ∧ CL.length ≤ c' ∧ c' ≤ maxLen ∧ Rcs w' w'.heap.size A' CL.length CL ∧ (∀ p, A' = some p → w3.heap.size ≤ p.block) ∧ Below w3.heap.size w3 w') :=
        ⟨(cutB ⟨bb, bp, be, bs, bk, bt, bL⟩).L, by unfold cutB; simp; omega, cutB_any ⟨bb, bp, be, bs, bk, bt, bL⟩ bA bc w.heap.size w3 (hx1.below (hal.mono HML.out.bel.size)) (Nat.le_trans HML.out.bel.size hal.size) (Nat.le_trans hx2 hx3)⟩
      obtain ⟨CL, hCL, hCU⟩ := HCUT.out
      have HCU := Lib.hid hCU
      have HW3 := Lib.hid hw3
      clear hw3 HCUT hCU hx1 hx2 hx3 HML hal
      go_upto_region 6 with fail
      rw [HW3.out]
      have n0 := cell_of_row _ _ 0 _ _ _ hN
      have n1 := cell_of_row _ _ 1 _ _ _ hN
      have n2 := cell_of_row _ _ 2 _ _ _ hN
      have n3 := cell_of_row _ _ 3 _ _ _ hN
      have n4 := cell_of_row _ _ 4 _ _ _ hN
      have n5 := cell_of_row _ _ 5 _ _ _ hN
      have n6 := cell_of_row _ _ 6 _ _ _ hN
      clear s0 s1 s2 s3 s4 s5 s6
      go_upto_region 7 with (go_at_call 9; (with_reducible refine HCU.out.mono ?_); rintro e w4 ⟨A', c', rfl, hc1, hc2, hr4, hlo4, hb4⟩)
      have HM4 := Lib.hid (HM3.out.below hb4)
      have hN5 := heap_alloc_new w4 (.cells #[.int .i64 bb, .int .i64 bp, .int .i64 be, .int .i64 bs, .int .i64 bk, .int .i64 bt, .slice A' CL.length c'] 26)
      have hal5 := (Below.refl w4.heap.size w4).alloc (Nat.le_refl _) (.cells #[.int .i64 bb, .int .i64 bp, .int .i64 be, .int .i64 bs, .int .i64 bk, .int .i64 bt, .slice A' CL.length c'] 26)
      obtain ⟨w5, hw5⟩ : ∃ w5, w4.alloc (.cells #[.int .i64 bb, .int .i64 bp, .int .i64 be, .int .i64 bs, .int .i64 bk, .int .i64 bt, .slice A' CL.length c'] 26) = w5 := ⟨_, rfl⟩
      rw [hw5] at hN5 hal5 ⊢
      have HM5 := Lib.hid (HM4.out.below hal5)
      have HR4 := Lib.hid hr4
      have HB5 := Lib.hid hal5
      have HF5 : Hid (CL ≠ [] → ∀ p, A' = some p → (Value.slice mA M.length mc).ownBlock ≠ some p.block) := fun _ p hp e => by have h1 := hlo4 p hp; have h2 := (World.ownsRow.lt HM3.out.own _ e).2; omega
      have hz5 : w4.heap.size < w5.heap.size := (Array.getElem?_eq_some_iff.1 hN5).1
      have HN5 := Lib.hid hN5
      have HX5 : Hid (∀ b, (Value.slice mA M.length mc).ownBlock = some b → b < w4.heap.size) := fun b hb => (World.ownsRow.lt HM4.out.own b hb).2
      clear hw5 hr4 hlo4 hb4 hal5 n0 n1 n2 n3 n4 n5 n6 HCU HW3 hN
      go_cut [38] (fun s38 wx => ∃ gb : Bool, s38 = .bool gb ∧ (gb = true → 0 < k) ∧ wx = w5)
      case first =>
        by_cases hk0 : 0 < k
        · have e0 : decide ((0 : Int) < (k : Int)) = true := by simpa using hk0
          by_cases hkg : k < gn
          · have e1 : decide ((k : Int) < (gn : Int)) = true := by simp; omega
            have hkgz : (k : Int) < (gn : Int) := by omega
            obtain ⟨gp, rfl, hgp, gcell⟩ := (HGO.out.below HM5.out.bel).row k hkg
            go_wp2_with fail
            go_meet
            exact ⟨_, rfl, fun _ => hk0, rfl⟩
          · have e1 : decide ((k : Int) < (gn : Int)) = false := by simp; omega
            go_wp2_with fail
            go_meet
            exact ⟨false, rfl, fun h => (by cases h), rfl⟩
        · have e0 : decide ((0 : Int) < (k : Int)) = false := by simp; omega
          go_wp2_with fail
          go_meet
          exact ⟨false, rfl, fun h => (by cases h), rfl⟩
      case rest =>
        obtain ⟨gb, rfl, hgb, hwc⟩ := hcut
        have hwc := hwc.symm
        subst hwc
        go_upto_if 38 with fail
        go_cut [38] (fun s38 wx => ∃ x0 x1 x2 x3 x4 x5, Hid (wx.heap[w4.heap.size]? = some (.cells #[.int .i64 x0, .int .i64 x1, .int .i64 x2, .int .i64 x3, .int .i64 x4, .int .i64 x5, .slice A' CL.length c'] 26 (0, 0)) ∧ Below w4.heap.size w4 wx))
        case first =>
          cases gb with
          | false =>
            go_wp2_with fail
            go_meet
            exact ⟨bb, bp, be, bs, bk, bt, HN5.out, HB5.out⟩
          | true =>
            have hk0 := hgb rfl
            obtain ⟨k', rfl⟩ : ∃ k', k = k' + 1 := ⟨k - 1, by omega⟩
            obtain ⟨mA', mc', hv', _, _, hbas⟩ := HM5.out.bas
            injection hv' with hv1 _ hv3
            subst hv1 hv3
            obtain ⟨p2, rfl, hp2, a0, a1, a2, a3, a4, a5, a6⟩ := hbas.row (k := k') (by have := HMk.out; omega)
            have hkz1 : (k' : Int) < (M.length : Int) := by have := HMk.out; omega
            have hkn1 : k' < M.length := by have := HMk.out; omega
            have hM80 : M.length ≤ 80 := by have := HMk.out; omega
            clear hbas
            generalize M.getD k' default = ya at *
            obtain ⟨⟨ab, ap, ae, as_, ak, at_, aL⟩, aA, ac⟩ := ya
            simp only at a0 a1 a2 a3 a4 a5 a6
            have hal6 := (Below.refl w5.heap.size w5).alloc (Nat.le_refl _) (.cells #[.int .i64 ab, .int .i64 ap, .int .i64 ae, .int .i64 as_, .int .i64 ak, .int .i64 at_, .slice aA aL.length ac] 26)
            have hN6 := heap_alloc_new w5 (.cells #[.int .i64 ab, .int .i64 ap, .int .i64 ae, .int .i64 as_, .int .i64 ak, .int .i64 at_, .slice aA aL.length ac] 26)
            obtain ⟨w6, hw6⟩ : ∃ w6, w5.alloc (.cells #[.int .i64 ab, .int .i64 ap, .int .i64 ae, .int .i64 as_, .int .i64 ak, .int .i64 at_, .slice aA aL.length ac] 26) = w6 := ⟨_, rfl⟩
            rw [hw6] at hal6 hN6
            have HW6 := Lib.hid hw6
            have HB6 := Lib.hid (HB5.out.trans (hal6.mono (Nat.le_of_lt hz5)))
            have hX6 := (hal6.block _ hz5).trans HN5.out
            have HX6 := Lib.hid hX6
            clear hw6 hal6
            go_upto_region 9 with fail
            rw [HW6.out]
            have b0 := cell_of_row _ _ 0 _ _ _ hN6
            have b1 := cell_of_row _ _ 1 _ _ _ hN6
            have b2 := cell_of_row _ _ 2 _ _ _ hN6
            have b3 := cell_of_row _ _ 3 _ _ _ hN6
            have b4 := cell_of_row _ _ 4 _ _ _ hN6
            have b5 := cell_of_row _ _ 5 _ _ _ hN6
            have b6 := cell_of_row _ _ 6 _ _ _ hN6
            have x0 := cell_of_row _ _ 0 _ _ _ hX6
            have x1 := cell_of_row _ _ 1 _ _ _ hX6
            have x2 := cell_of_row _ _ 2 _ _ _ hX6
            have x3 := cell_of_row _ _ 3 _ _ _ hX6
            have x4 := cell_of_row _ _ 4 _ _ _ hX6
            have x5 := cell_of_row _ _ 5 _ _ _ hX6
            have f0 := frozen_of_row _ w4.heap.size 0 _ _ hX6
            have f1 := frozen_of_row _ w4.heap.size 1 _ _ hX6
            have f2 := frozen_of_row _ w4.heap.size 2 _ _ hX6
            have f3 := frozen_of_row _ w4.heap.size 3 _ _ hX6
            have f4 := frozen_of_row _ w4.heap.size 4 _ _ hX6
            have f5 := frozen_of_row _ w4.heap.size 5 _ _ hX6
            have hne : ¬ w5.heap.size = w4.heap.size := by omega
            have hne' : ¬ w4.heap.size = w5.heap.size := by omega
            clear a0 a1 a2 a3 a4 a5 a6 hN6 hX6
            go_region
            by_cases hap : 0 < ap
            · have e : decide (0 < ap) = true := by simpa using hap
              go_wp2_with fail
              go_meet
              refine ⟨wrap64 (ab + (aL.length : Int)), ap, ae, wrap64 (as_ + (aL.length : Int)), ak, at_, ?_, ?_⟩
              · first
                  | (with_reducible exact chain7 _ (drewC (chain6 _ _ _ _ _ _ HX6.out)))
                  | (with_reducible exact drewC (chain7 _ (chain6 _ _ _ _ _ _ HX6.out)))
              · first
                  | (with_reducible exact (belowDrew (chainB6 _ _ _ _ _ _ HB6.out (Nat.le_refl _))).setCell (Nat.le_refl _) _)
                  | (with_reducible exact belowDrew ((chainB6 _ _ _ _ _ _ HB6.out (Nat.le_refl _)).setCell (Nat.le_refl _) _))
            · have e : decide (0 < ap) = false := by simp; omega
              go_wp2_with fail
              go_meet
              refine ⟨wrap64 (ab + (aL.length : Int)), ap, ae, 0, ak, at_, ?_, ?_⟩
              · with_reducible exact drewC (chain6 _ _ _ _ _ _ HX6.out)
              · with_reducible exact belowDrew (chainB6 _ _ _ _ _ _ HB6.out (Nat.le_refl _))
        case rest =>
          obtain ⟨x0, x1, x2, x3, x4, x5, HXX⟩ := hcut
          have hX := HXX.out.1
          have HMz := Lib.hid (HM4.out.below HXX.out.2)
          have HRz := Lib.hid ((HR4.out.below HXX.out.2).wider HXX.out.2.size)
          have n0 := cell_of_row _ _ 0 _ _ _ hX
          have n1 := cell_of_row _ _ 1 _ _ _ hX
          have n2 := cell_of_row _ _ 2 _ _ _ hX
          have n3 := cell_of_row _ _ 3 _ _ _ hX
          have n4 := cell_of_row _ _ 4 _ _ _ hX
          have n5 := cell_of_row _ _ 5 _ _ _ hX
          have n6 := cell_of_row _ _ 6 _ _ _ hX
          have hzw : w.heap.size ≤ wc.heap.size := HMz.out.bel.size
          have hM80 : M.length ≤ 80 := by have := HMk.out; omega
          have hown8 := HMz.out.own.alloc (.cells #[.int .i64 x0, .int .i64 x1, .int .i64 x2, .int .i64 x3, .int .i64 x4, .int .i64 x5, .slice A' CL.length c'] 26)
          clear hX
          go_wp2_with (at_builtin; go_loud (refine wpList_append_own_at _ rfl (.tmp 74) (.tmp 76) 22 rfl w.heap.size 26 j0 _ 7 72 Try.underlying22 qj0 qy0 qy1 qy2 rfl (by decide) _ M.length (bcells M) rfl hown8 ⟨wc.heap.size, 0, none⟩ 1 1 [.int .i64 x0, .int .i64 x1, .int .i64 x2, .int .i64 x3, .int .i64 x4, .int .i64 x5, .slice A' CL.length c'] rfl rfl (new_cellsB wc [.int .i64 x0, .int .i64 x1, .int .i64 x2, .int .i64 x3, .int .i64 x4, .int .i64 x5, .slice A' CL.length c'] _) ?g1 ?g2 ?g3 ?g4 ?_))
          case g1 => first | exact ⟨rfl, rfl, rfl, rfl, rfl, rfl, rfl⟩ | (intro u hu; simp at hu; rcases hu with rfl | rfl | rfl | rfl | rfl | rfl | rfl <;> rfl)
          case g2 => unfold maxLen; omega
          case g3 => omega
          case g4 => first | omega | (simp; omega)
          intro va w7 hown7 hg7 _ hat7
          have hala := (Below.refl wc.heap.size wc).alloc (Nat.le_refl _) (.cells #[.int .i64 x0, .int .i64 x1, .int .i64 x2, .int .i64 x3, .int .i64 x4, .int .i64 x5, .slice A' CL.length c'] 26)
          have HPU := Lib.hid ((HMz.out.below hala).push (x := ⟨⟨x0, x1, x2, x3, x4, x5, CL⟩, A', c'⟩) ⟨(HRz.out.below hala).wider hala.size, hCL, hc1, hc2⟩ HF5.out hown7 hg7 (by simpa using hat7))
          clear hown7 hg7 hat7 hown8 hala n0 n1 n2 n3 n4 n5 n6
          go_wp2_with fail
          go_roundw
          case rel => exact ⟨k + 1, by omega, by omega, by go_num, M ++ [⟨⟨x0, x1, x2, x3, x4, x5, CL⟩, A', c'⟩], by simp [HMk.out], HPU⟩
          case measure => simp [intOf]; omega
    · have hM80 : M.length ≤ 80 := by have := HMk.out; omega
      have HLQ : Hid ((mergeB (M.map BA.b)).L.length ≤ 1000) := by
        show _ ≤ _
        have h1 : (catL (M.map BA.b)).length ≤ 480 := by
          have h2 : ∀ l : List BA, (∀ x ∈ l, x.b.L.length ≤ 80) → (catL (l.map BA.b)).length ≤ l.length * 80 := fun l => by
            induction l with
            | nil => intro _; simp [catL]
            | cons a l ih =>
              intro hx
              have h3 := ih fun x hx' => hx x (by simp [hx'])
              have h4 := hx a (by simp)
              simp only [List.map_cons, catL, List.flatMap_cons, List.length_append, List.length_cons] at *
              omega
          have := h2 M fun x hx => (HML.out.each x hx).2.1
          have := HMk.out
          omega
        unfold mergeB
        split
        · show (catL (M.map BA.b)).length ≤ 1000; omega
        · simp [zB]
      have HMGA : Hid (∀ W, Ml w W (.slice mA M.length mc) M → Calls Try.prog 10 #[.slice mA M.length mc] W fun e w' => MergeP (M.map BA.b) W e w') := fun W hW => by
        obtain ⟨A1, c1, hv, q1, q2, hb⟩ := hW.bas
        injection hv with e1 _ e2
        subst e1 e2
        exact merge_any M mA mc W.heap.size M.length W hb (Nat.le_refl _) hM80 q1 q2
      have HRMA : Hid (∀ W, Ml w W (.slice mA M.length mc) M → Calls Try.prog 11 #[.slice mA M.length mc] W fun e w' => MergeP (M.map BA.b) W e w') := fun W hW => by
        obtain ⟨A1, c1, hv, q1, q2, hb⟩ := hW.bas
        injection hv with e1 _ e2
        subst e1 e2
        exact hRM M mA mc W.heap.size M.length W hb (Nat.le_refl _) hM80 q1 q2
      unfold MergeP at HMGA HRMA
      generalize mergeE (M.map BA.b) = me at *
      generalize mergeB (M.map BA.b) = mb at *
      obtain ⟨q0, q1, q2, q3, q4, q5, qL⟩ := mb
      have HSM : Hid (∀ W A1 A2 c1 c2, Rcs W W.heap.size A1 qL.length qL → Rcs W W.heap.size A2 qL.length qL → Calls Try.prog 12 #[.agg #[.int .i64 q0, .int .i64 q1, .int .i64 q2, .int .i64 q3, .int .i64 q4, .int .i64 q5, .slice A1 qL.length c1], .agg #[.int .i64 q0, .int .i64 q1, .int .i64 q2, .int .i64 q3, .int .i64 q4, .int .i64 q5, .slice A2 qL.length c2]] W fun e w' => e = .returned (.bool true) ∧ Below W.heap.size W w') := fun W A1 A2 c1 c2 h1 h2 => rsame_yes ⟨q0, q1, q2, q3, q4, q5, qL⟩ A1 A2 c1 c2 W.heap.size W h1 h2 (Nat.le_refl _) (Nat.le_trans (show qL.length ≤ 1000 from HLQ.out) (by unfold maxLen; omega))
      have HAW : Hid (∀ W, Calls Try.prog 13 #[] W fun e w' => e = .returned (.bool true) ∧ Below W.heap.size W w') := awake3_any
      simp only [Bat.cells] at HMGA HRMA
      clear hRM
      by_cases h1 : k < n
      · have d6 : decide ((6 : Int) ≤ (k : Int)) = true := by rw [decide_eq_true_iff]; omega
        obtain ⟨p, rfl, hp, s0, s1, s2, s3, s4, s5, s6⟩ := (HIN.out.below HML.out.bel).row h1
        generalize M0.getD k default = y at *
        obtain ⟨⟨bb, bp, be, bs, bk, bt, bL⟩, bA, bc⟩ := y
        simp only at s0 s1 s2 s3 s4 s5 s6
        have hkz : (k : Int) < (n : Int) := by omega
        have hal := (Below.refl wr.heap.size wr).alloc (Nat.le_refl _) (.cells #[.int .i64 bb, .int .i64 bp, .int .i64 be, .int .i64 bs, .int .i64 bk, .int .i64 bt, .slice bA bL.length bc] 26)
        obtain ⟨w3, hw3⟩ : ∃ w3, wr.alloc (.cells #[.int .i64 bb, .int .i64 bp, .int .i64 be, .int .i64 bs, .int .i64 bk, .int .i64 bt, .slice bA bL.length bc] 26) = w3 := ⟨_, rfl⟩
        rw [hw3] at hal
        have HM3 := Lib.hid (HML.out.below hal)
        have HW3 := Lib.hid hw3
        clear hw3 hal
        go_upto_region 14 with fail
        rw [HW3.out]
        clear s0 s1 s2 s3 s4 s5 s6
        generalize w3 = w0 at *
        go_upto_region 15 with (go_at_call 10; (with_reducible refine (HMGA.out _ HM3.out).mono ?_); rintro e wa ⟨Aa, ca, rfl, hra, hba⟩)
        have hNa := heap_alloc_new wa (.cells #[.int .i64 q0, .int .i64 q1, .int .i64 q2, .int .i64 q3, .int .i64 q4, .int .i64 q5, .slice Aa qL.length ca] 26)
        have hala := (Below.refl wa.heap.size wa).alloc (Nat.le_refl _) (.cells #[.int .i64 q0, .int .i64 q1, .int .i64 q2, .int .i64 q3, .int .i64 q4, .int .i64 q5, .slice Aa qL.length ca] 26)
        obtain ⟨wA, hwA⟩ : ∃ wA, wa.alloc (.cells #[.int .i64 q0, .int .i64 q1, .int .i64 q2, .int .i64 q3, .int .i64 q4, .int .i64 q5, .slice Aa qL.length ca] 26) = wA := ⟨_, rfl⟩
        rw [hwA] at hNa hala ⊢
        have HMa := Lib.hid ((HM3.out.below hba).below hala)
        have HRa := Lib.hid ((hra.below hala).wider hala.size)
        have HNa := Lib.hid hNa
        have hza : wa.heap.size < wA.heap.size := (Array.getElem?_eq_some_iff.1 hNa).1
        clear hra hba hNa hala hwA
        go_upto_region 16 with (go_at_call 11; (with_reducible refine (HRMA.out _ HMa.out).mono ?_); rintro e wb ⟨Ab, cb, rfl, hrb, hbb⟩)
        have hNb := heap_alloc_new wb (.cells #[.int .i64 q0, .int .i64 q1, .int .i64 q2, .int .i64 q3, .int .i64 q4, .int .i64 q5, .slice Ab qL.length cb] 26)
        have halb := (Below.refl wb.heap.size wb).alloc (Nat.le_refl _) (.cells #[.int .i64 q0, .int .i64 q1, .int .i64 q2, .int .i64 q3, .int .i64 q4, .int .i64 q5, .slice Ab qL.length cb] 26)
        obtain ⟨wB, hwB⟩ : ∃ wB, wb.alloc (.cells #[.int .i64 q0, .int .i64 q1, .int .i64 q2, .int .i64 q3, .int .i64 q4, .int .i64 q5, .slice Ab qL.length cb] 26) = wB := ⟨_, rfl⟩
        rw [hwB] at hNb halb ⊢
        have HMb := Lib.hid ((HMa.out.below hbb).below halb)
        have HRb := Lib.hid ((hrb.below halb).wider halb.size)
        have HRc := Lib.hid ((((HRa.out.below hbb).wider hbb.size).below halb).wider halb.size)
        have hNc := (halb.block _ (Nat.lt_of_lt_of_le hza hbb.size)).trans ((hbb.block _ hza).trans HNa.out)
        have b0 := cell_of_row _ _ 0 _ _ _ hNb
        have a0 := cell_of_row _ _ 0 _ _ _ hNc
        have b1 := cell_of_row _ _ 1 _ _ _ hNb
        have a1 := cell_of_row _ _ 1 _ _ _ hNc
        have b2 := cell_of_row _ _ 2 _ _ _ hNb
        have a2 := cell_of_row _ _ 2 _ _ _ hNc
        have b3 := cell_of_row _ _ 3 _ _ _ hNb
        have a3 := cell_of_row _ _ 3 _ _ _ hNc
        have b4 := cell_of_row _ _ 4 _ _ _ hNb
        have a4 := cell_of_row _ _ 4 _ _ _ hNc
        have b5 := cell_of_row _ _ 5 _ _ _ hNb
        have a5 := cell_of_row _ _ 5 _ _ _ hNc
        have b6 := cell_of_row _ _ 6 _ _ _ hNb
        have a6 := cell_of_row _ _ 6 _ _ _ hNc
        clear hNb hNc hrb hbb halb hwB
        have HBw := Lib.hid HMb.out.bel
        go_wp2_with (first
          | (go_at_call 12; (with_reducible refine (HSM.out _ _ _ _ _ HRc.out HRb.out).mono ?_); rintro e wc ⟨rfl, hbc⟩)
          | (go_at_call 13; (with_reducible refine (HAW.out _).mono ?_); rintro e wd ⟨rfl, hbd⟩))
        go_ret
        exact ⟨rfl, (HBw.out.trans (hbc.mono HBw.out.size)).trans (hbd.mono (Nat.le_trans HBw.out.size hbc.size))⟩
      · have d8 : decide ((k : Int) < (n : Int)) = false := by rw [decide_eq_false_iff_not]; omega
        have HM3 := HML
        go_upto_region 14 with fail
        generalize wr = w0 at *
        go_upto_region 15 with (go_at_call 10; (with_reducible refine (HMGA.out _ HM3.out).mono ?_); rintro e wa ⟨Aa, ca, rfl, hra, hba⟩)
        have hNa := heap_alloc_new wa (.cells #[.int .i64 q0, .int .i64 q1, .int .i64 q2, .int .i64 q3, .int .i64 q4, .int .i64 q5, .slice Aa qL.length ca] 26)
        have hala := (Below.refl wa.heap.size wa).alloc (Nat.le_refl _) (.cells #[.int .i64 q0, .int .i64 q1, .int .i64 q2, .int .i64 q3, .int .i64 q4, .int .i64 q5, .slice Aa qL.length ca] 26)
        obtain ⟨wA, hwA⟩ : ∃ wA, wa.alloc (.cells #[.int .i64 q0, .int .i64 q1, .int .i64 q2, .int .i64 q3, .int .i64 q4, .int .i64 q5, .slice Aa qL.length ca] 26) = wA := ⟨_, rfl⟩
        rw [hwA] at hNa hala ⊢
        have HMa := Lib.hid ((HM3.out.below hba).below hala)
        have HRa := Lib.hid ((hra.below hala).wider hala.size)
        have HNa := Lib.hid hNa
        have hza : wa.heap.size < wA.heap.size := (Array.getElem?_eq_some_iff.1 hNa).1
        clear hra hba hNa hala hwA
        go_upto_region 16 with (go_at_call 11; (with_reducible refine (HRMA.out _ HMa.out).mono ?_); rintro e wb ⟨Ab, cb, rfl, hrb, hbb⟩)
        have hNb := heap_alloc_new wb (.cells #[.int .i64 q0, .int .i64 q1, .int .i64 q2, .int .i64 q3, .int .i64 q4, .int .i64 q5, .slice Ab qL.length cb] 26)
        have halb := (Below.refl wb.heap.size wb).alloc (Nat.le_refl _) (.cells #[.int .i64 q0, .int .i64 q1, .int .i64 q2, .int .i64 q3, .int .i64 q4, .int .i64 q5, .slice Ab qL.length cb] 26)
        obtain ⟨wB, hwB⟩ : ∃ wB, wb.alloc (.cells #[.int .i64 q0, .int .i64 q1, .int .i64 q2, .int .i64 q3, .int .i64 q4, .int .i64 q5, .slice Ab qL.length cb] 26) = wB := ⟨_, rfl⟩
        rw [hwB] at hNb halb ⊢
        have HMb := Lib.hid ((HMa.out.below hbb).below halb)
        have HRb := Lib.hid ((hrb.below halb).wider halb.size)
        have HRc := Lib.hid ((((HRa.out.below hbb).wider hbb.size).below halb).wider halb.size)
        have hNc := (halb.block _ (Nat.lt_of_lt_of_le hza hbb.size)).trans ((hbb.block _ hza).trans HNa.out)
        have b0 := cell_of_row _ _ 0 _ _ _ hNb
        have a0 := cell_of_row _ _ 0 _ _ _ hNc
        have b1 := cell_of_row _ _ 1 _ _ _ hNb
        have a1 := cell_of_row _ _ 1 _ _ _ hNc
        have b2 := cell_of_row _ _ 2 _ _ _ hNb
        have a2 := cell_of_row _ _ 2 _ _ _ hNc
        have b3 := cell_of_row _ _ 3 _ _ _ hNb
        have a3 := cell_of_row _ _ 3 _ _ _ hNc
        have b4 := cell_of_row _ _ 4 _ _ _ hNb
        have a4 := cell_of_row _ _ 4 _ _ _ hNc
        have b5 := cell_of_row _ _ 5 _ _ _ hNb
        have a5 := cell_of_row _ _ 5 _ _ _ hNc
        have b6 := cell_of_row _ _ 6 _ _ _ hNb
        have a6 := cell_of_row _ _ 6 _ _ _ hNc
        clear hNb hNc hrb hbb halb hwB
        have HBw := Lib.hid HMb.out.bel
        go_wp2_with (first
          | (go_at_call 12; (with_reducible refine (HSM.out _ _ _ _ _ HRc.out HRb.out).mono ?_); rintro e wc ⟨rfl, hbc⟩)
          | (go_at_call 13; (with_reducible refine (HAW.out _).mono ?_); rintro e wd ⟨rfl, hbd⟩))
        go_ret
        exact ⟨rfl, (HBw.out.trans (hbc.mono HBw.out.size)).trans (hbd.mono (Nat.le_trans HBw.out.size hbc.size))⟩
end Go.Proofs.Ytapnhhoegoakiaa
