/-
  What rec.Merge does.
-/
import Derived.Test.YtkdpfajoeajenaaGc
import Derived.Deep.RegionWith
namespace Go.Proofs.Ytkdpfajoeajenaa
open Go.RowKit
set_option linter.unusedVariables false
set_option linter.unusedSimpArgs false

theorem getB (M : List BA) (k : Nat) : (M.map BA.b).getD k zB = (M.getD k default).b := by
  simp only [List.getD_eq_getElem?_getD, List.getElem?_map]
  cases M[k]? <;> rfl
theorem add_zero_ (p : Addr) : p.add (0 * 7) = p := by simp [Addr.add]
theorem add7_ (p : Addr) (j : Nat) : p.add ((j + 1) * 7) = ⟨p.block, p.off + 7 + j * 7, none⟩ := by
  rw [add_pos' _ _ (by omega), show p.off + (j + 1) * 7 = p.off + 7 + j * 7 by omega]
/-- what Merge answers -/
def MergeP (l : List Bat) (w : World) (e : Ending) (w' : World) : Prop := ∃ A' c', e = .returned (.tuple #[.agg ((mergeB l).cells A' c'), .int .i64 (mergeE l)]) ∧ Rcs w' w'.heap.size A' (mergeB l).L.length (mergeB l).L ∧ Below w.heap.size w w'
/-- what rec.Merge answers: in memory of its own -/
def MergeF (l : List Bat) (w : World) (e : Ending) (w' : World) : Prop := ∃ A' c', e = .returned (.tuple #[.agg ((mergeB l).cells A' c'), .int .i64 (mergeE l)]) ∧ Rcs w' w'.heap.size A' (mergeB l).L.length (mergeB l).L ∧ (∀ p, A' = some p → w.heap.size ≤ p.block) ∧ Below w.heap.size w w'
theorem MergeF.p {l : List Bat} {w w' : World} {e : Ending} (h : MergeF l w e w') : MergeP l w e w' := by
  obtain ⟨A', c', h1, h2, _, h3⟩ := h
  exact ⟨A', c', h1, h2, h3⟩
theorem mergeF_none (l : List Bat) (w w' : World) (V : Int) (h : mergeE l = V) (hV : V ≠ 0) (hb : Below w.heap.size w w') : MergeF l w (.returned (.tuple #[.agg #[.int .i64 0, .int .i64 0, .int .i64 0, .int .i64 0, .int .i64 0, .int .i64 0, .slice none 0 0], .int .i64 V])) w' := by
  have e : mergeB l = zB := by unfold mergeB; rw [if_neg (by rw [h]; exact hV)]
  exact ⟨none, 0, by rw [e, h]; rfl, by rw [e]; exact Rcs.nil_, (fun p h => by cases h), hb⟩
theorem merge_none (l : List Bat) (w w' : World) (V : Int) (h : mergeE l = V) (hV : V ≠ 0) (hb : Below w.heap.size w w') : MergeP l w (.returned (.tuple #[.agg #[.int .i64 0, .int .i64 0, .int .i64 0, .int .i64 0, .int .i64 0, .int .i64 0, .slice none 0 0], .int .i64 V])) w' := by
  have e : mergeB l = zB := by unfold mergeB; rw [if_neg (by rw [h]; exact hV)]
  exact ⟨none, 0, by rw [e, h]; rfl, by rw [e]; exact Rcs.nil_, hb⟩
/-- the batch that grows -/
structure Mg (w1 wx : World) (base g7 : Nat) (xc : Value → Array Value) (v : Value) (L : List Rec) : Prop where
  x : wx.heap[g7]? = some (.cells (xc v) 24 (0, 0))
  own : wx.ownsRow base 38 4 v L.length (rcells L)
  ne : v.ownBlock ≠ some g7
  lo : w1.heap.size ≤ g7 ∧ w1.heap.size ≤ base
  hi : base ≤ wx.heap.size
  below : Below w1.heap.size w1 wx
section
variable {w1 wx wa wb : World} {base g7 : Nat} {xc : Value → Array Value} {v v' : Value} {L : List Rec}
theorem Mg.below_ (h : Mg w1 wx base g7 xc v L) (hb : Below wx.heap.size wx wa) : Mg w1 wa base g7 xc v L := by
  refine ⟨(hb.block g7 (Array.getElem?_eq_some_iff.1 h.x).1).trans h.x, ?_, h.ne, h.lo, Nat.le_trans h.hi hb.size, h.below.trans (hb.mono h.below.size)⟩
  refine ⟨h.own.1, ?_⟩
  rcases h.own.2 with h2 | ⟨b, cap, cur, hv, hb', hh, r⟩
  · exact .inl h2
  · exact .inr ⟨b, cap, cur, hv, hb', (hb.block b (Array.getElem?_eq_some_iff.1 hh).1).trans hh, r⟩
theorem Mg.step {N : List Rec} (h : Mg w1 wa base g7 xc v L) (hx : ∀ a u, (xc a).setIfInBounds 6 u = xc u) (ho : wb.ownsRow base 38 4 v' (L.length + N.length) (rcells L ++ rcells N)) (hg : wa.grownBy wb v.ownBlock) (hat : v'.ownBlock = v.ownBlock ∨ v'.ownBlock = some wa.heap.size) : Mg w1 (wb.setCell ⟨g7, 6, none⟩ v') base g7 xc v' (L ++ N) := by
  have l1 := (Array.getElem?_eq_some_iff.1 h.x).1
  have hv := World.ownsRow.lt h.own
  have s1 := hg.block _ l1 (fun e => h.ne e.symm)
  have hn : v'.ownBlock ≠ some g7 := by
    rcases hat with e | e
    · rw [e]; exact h.ne
    · rw [e]; intro e2; injection e2 with e2; omega
  refine ⟨by rw [heap_setCell_same wb _ 6 _ _ v' (s1.trans h.x), hx], row_set ?_ hn, hn, h.lo, by simpa [World.setCell] using Nat.le_trans h.hi hg.size, ?_⟩
  · rw [rcells_append, List.length_append]; exact ho
  · exact (h.below.trans ⟨hg.os, hg.tape, hg.output, hg.size, fun i hi => hg.block i (by have := h.below.size; omega) (fun e => by have := (hv i e.symm).1; have := h.lo; omega)⟩).setCell (by show w1.heap.size ≤ g7; exact h.lo.1) v'
end
set_option maxRecDepth 100000 in
set_option maxHeartbeats 8000000 in
theorem merge_fresh (M : List BA) (A : Option Addr) (c B n : Nat) (w : World) (hM : Bas w B A n M) (hB : B ≤ w.heap.size) (hn : n ≤ 80) (hnc : n ≤ c) (hcm : c ≤ maxLen) :
    Calls Try.prog 12 #[.slice A n c] w fun e w' => MergeF (M.map BA.b) w e w' := by
  obtain ⟨j0, qj0, qy0, qy1, qy2⟩ := info_parts zero_rec
  have HP := Lib.hid (mergeF_none (M.map BA.b) w)
  have HOKA : Hid (∀ r ∈ catL (M.map BA.b), i64_ r.time) := fun r hr => by
    unfold catL at hr
    obtain ⟨b, hb, hr2⟩ := List.mem_flatMap.1 hr
    obtain ⟨x, hx, rfl⟩ := List.mem_map.1 hb
    obtain ⟨k, hk, he⟩ := List.getElem_of_mem hx
    have h1 := (hM.each k (by have := hM.len; omega)).1.ok
    rw [List.getD_eq_getElem?_getD, List.getElem?_eq_getElem hk, Option.getD_some, he] at h1
    exact h1 r hr2
  have HCL : Hid (∀ k, k ≤ n → (catL ((M.map BA.b).take k)).length ≤ 80 * k) := fun k hk => by
    induction k with
    | zero => simp [catL]
    | succ k ih =>
      have h1 := (hM.each k (by omega)).2.1
      rw [catL_take _ _ (by rw [List.length_map, hM.len]; omega), List.length_append, getB]
      have := ih (by omega)
      omega
  have HME : Hid (mergeE (M.map BA.b) = if (M.map BA.b).length = 0 then 3 else if badE (M.map BA.b) ≠ 0 then badE (M.map BA.b) else if chainB (M.map BA.b) = false then 2 else if 64 < (catL (M.map BA.b)).length then 7 else 0) := rfl
  have HBA := Lib.hid (badE_at (M.map BA.b))
  have HBL := Lib.hid (badE_all (M.map BA.b))
  have HCN := Lib.hid (chain_no (M.map BA.b))
  have HCY := Lib.hid (chain_yes (M.map BA.b))
  have HCT := Lib.hid (catL_take (M.map BA.b))
  have hlen : (M.map BA.b).length = n := by rw [List.length_map]; exact hM.len
  have HLN := Lib.hid hlen
  have HMM := Lib.hid hM
  have hk := heap_alloc_new w (.cells #[.int .i64 0, .int .i64 0, .int .i64 0, .int .i64 0, .int .i64 0, .int .i64 0, .slice none 0 0] 24)
  have hal := (Below.refl w.heap.size w).alloc (Nat.le_refl _) (.cells #[.int .i64 0, .int .i64 0, .int .i64 0, .int .i64 0, .int .i64 0, .int .i64 0, .slice none 0 0] 24)
  have hz1 : (w.alloc (.cells #[.int .i64 0, .int .i64 0, .int .i64 0, .int .i64 0, .int .i64 0, .int .i64 0, .slice none 0 0] 24)).heap.size = w.heap.size + 1 := by simp
  generalize hw1 : w.alloc (.cells #[.int .i64 0, .int .i64 0, .int .i64 0, .int .i64 0, .int .i64 0, .int .i64 0, .slice none 0 0] 24) = w1 at *
  have HW1 := Lib.hid hw1
  have HK := Lib.hid hk
  have HB1 := Lib.hid hal
  have HZ1 := Lib.hid hz1
  clear hM hk hal hw1 hz1 hlen
  go_enter Try.func12, Try.ntmps12
  go_upto_region 1 with fail
  rw [HW1.out]
  by_cases hn0 : n = 0
  · subst hn0
    have hme : mergeE (M.map BA.b) = 3 := by rw [HME.out, if_pos HLN.out]
    have HM3 := Lib.hid hme
    have d0 := cell_of_row _ _ 0 _ _ _ HK.out
    have g0 := frozen_of_row _ _ 0 _ _ HK.out
    have d1 := cell_of_row _ _ 1 _ _ _ HK.out
    have g1 := frozen_of_row _ _ 1 _ _ HK.out
    have d2 := cell_of_row _ _ 2 _ _ _ HK.out
    have g2 := frozen_of_row _ _ 2 _ _ HK.out
    have d3 := cell_of_row _ _ 3 _ _ _ HK.out
    have g3 := frozen_of_row _ _ 3 _ _ HK.out
    have d4 := cell_of_row _ _ 4 _ _ _ HK.out
    have g4 := frozen_of_row _ _ 4 _ _ HK.out
    have d5 := cell_of_row _ _ 5 _ _ _ HK.out
    have g5 := frozen_of_row _ _ 5 _ _ HK.out
    have d6 := cell_of_row _ _ 6 _ _ _ HK.out
    have g6 := frozen_of_row _ _ 6 _ _ HK.out
    clear hme
    go_wp2_with fail
    refine bodyPost_ret (v := .tuple #[.agg #[.int .i64 0, .int .i64 0, .int .i64 0, .int .i64 0, .int .i64 0, .int .i64 0, .slice none 0 0], .int .i64 3]) (by simp [results, Try.results12, go_sem, d0, d1, d2, d3, d4, d5, d6]) rfl ?_
    refine HP.out _ 3 HM3.out (by decide) ?_
    repeat refine Below.setCell ?_ (by simp) _
    exact HB1.out
  · have hn1 : ((n : Int) == 0) = false := by rw [beq_eq_false_iff_ne]; omega
    go_wp2_with fail
    go_loopw [16] (fun i wr => ∃ k : Nat, k ≤ n ∧ i = .int .i64 k ∧ Hid (∀ j, j < k → validE ((M.map BA.b).getD j zB) = 0) ∧ Hid (Below w1.heap.size w1 wr)) (fun i _ => n - (intOf i).toNat)
    case atStart => exact ⟨0, by omega, rfl, (fun j hj => absurd hj (by omega) : ∀ j, j < 0 → validE ((M.map BA.b).getD j zB) = 0), Below.refl _ _⟩
    case round =>
      obtain ⟨k, hk, rfl, HV, HR⟩ := hrel
      have HRW := Lib.hid (HB1.out.trans (HR.out.mono (by have := HZ1.out; omega)))
      by_cases hlt : k < n
      · obtain ⟨p, rfl, hp, r0, r1, r2, r3, r4, r5, r6⟩ := (HMM.out.below (HRW.out.mono hB)).row hlt
        obtain ⟨hx1, hx2, hx3, hx4⟩ := (HMM.out.below (HRW.out.mono hB)).each k hlt
        have hgb := getB M k
        have hkz : (k : Int) < (n : Int) := by omega
        generalize M.getD k default = x at *
        have HVA : Hid (∀ W, Below wr.heap.size wr W → Calls Try.prog 10 #[.agg (x.b.cells x.A x.c)] W fun e w' => e = .returned (.int .i64 (validE x.b)) ∧ Below W.heap.size W w') := fun W h => valid_any x.b x.A x.c W.heap.size W (((hx1.wider (Nat.le_trans hB HRW.out.size)).below h).wider h.size) (Nat.le_refl _) (by unfold maxLen; omega)
        obtain ⟨V, hVe⟩ : ∃ V, validE x.b = V := ⟨_, rfl⟩
        rw [hVe] at HVA
        rw [← hgb] at hVe
        have HVE := Lib.hid hVe
        clear hVe hgb hx1
        obtain ⟨⟨xb, xp, xe, xs, xk, xt, xL⟩, xA, xc⟩ := x
        simp only [Bat.cells] at *
        have hal := (Below.refl wr.heap.size wr).alloc (Nat.le_refl _) (.cells #[.int .i64 xb, .int .i64 xp, .int .i64 xe, .int .i64 xs, .int .i64 xk, .int .i64 xt, .slice xA xL.length xc] 24)
        have hN := heap_alloc_new wr (.cells #[.int .i64 xb, .int .i64 xp, .int .i64 xe, .int .i64 xs, .int .i64 xk, .int .i64 xt, .slice xA xL.length xc] 24)
        have hz2 : (wr.alloc (.cells #[.int .i64 xb, .int .i64 xp, .int .i64 xe, .int .i64 xs, .int .i64 xk, .int .i64 xt, .slice xA xL.length xc] 24)).heap.size = wr.heap.size + 1 := by simp
        generalize hw2 : wr.alloc (.cells #[.int .i64 xb, .int .i64 xp, .int .i64 xe, .int .i64 xs, .int .i64 xk, .int .i64 xt, .slice xA xL.length xc] 24) = w2 at *
        have HW2 := Lib.hid hw2
        have HAL := Lib.hid hal
        have HVW := Lib.hid (HVA.out w2 hal)
        have HN := Lib.hid hN
        clear hw2 hal hN HVA hz2
        go_upto_region 6 with fail
        rw [HW2.out]
        have y0 := cell_of_row _ _ 0 _ _ _ HN.out
        have y1 := cell_of_row _ _ 1 _ _ _ HN.out
        have y2 := cell_of_row _ _ 2 _ _ _ HN.out
        have y3 := cell_of_row _ _ 3 _ _ _ HN.out
        have y4 := cell_of_row _ _ 4 _ _ _ HN.out
        have y5 := cell_of_row _ _ 5 _ _ _ HN.out
        have y6 := cell_of_row _ _ 6 _ _ _ HN.out
        go_wp2_with fail
        refine HVW.out.mono ?_
        rintro e w3 ⟨rfl, hb3⟩
        have HR3 := Lib.hid (HR.out.trans ((HAL.out.trans (hb3.mono HAL.out.size)).mono HR.out.size))
        have HRW3 := Lib.hid (HB1.out.trans (HR3.out.mono (by have := HZ1.out; omega)))
        clear hb3 y0 y1 y2 y3 y4 y5 y6
        by_cases hV0 : V = 0
        · subst hV0
          have HV2 : Hid (∀ j, j < k + 1 → validE ((M.map BA.b).getD j zB) = 0) := fun j hj => by
            by_cases e : j = k
            · rw [e]; exact HVE.out
            · exact HV.out j (by omega)
          go_wp2_with fail
          go_roundw
          case rel => exact ⟨k + 1, by omega, by go_num, HV2, HR3⟩
          case measure => simp [intOf]; omega
        · have hne : (V != 0) = true := by simpa using hV0
          have hbad := HBA.out k (by rw [HLN.out]; exact hlt) HV.out (by rw [HVE.out]; exact hV0)
          rw [HVE.out] at hbad
          have hme : mergeE (M.map BA.b) = V := by rw [HME.out, if_neg (by rw [HLN.out]; omega), if_pos (by rw [hbad]; exact hV0), hbad]
          have HM3 := Lib.hid hme
          have HV0 := Lib.hid hV0
          have hkk := (HR3.out.block w.heap.size (by have := HZ1.out; omega)).trans HK.out
          have d0 := cell_of_row _ _ 0 _ _ _ hkk
          have g0 := frozen_of_row _ _ 0 _ _ hkk
          have d1 := cell_of_row _ _ 1 _ _ _ hkk
          have g1 := frozen_of_row _ _ 1 _ _ hkk
          have d2 := cell_of_row _ _ 2 _ _ _ hkk
          have g2 := frozen_of_row _ _ 2 _ _ hkk
          have d3 := cell_of_row _ _ 3 _ _ _ hkk
          have g3 := frozen_of_row _ _ 3 _ _ hkk
          have d4 := cell_of_row _ _ 4 _ _ _ hkk
          have g4 := frozen_of_row _ _ 4 _ _ hkk
          have d5 := cell_of_row _ _ 5 _ _ _ hkk
          have g5 := frozen_of_row _ _ 5 _ _ hkk
          have d6 := cell_of_row _ _ 6 _ _ _ hkk
          have g6 := frozen_of_row _ _ 6 _ _ hkk
          clear hme hbad hV0 hkk
          go_wp2_with fail
          refine bodyPost_ret (v := .tuple #[.agg #[.int .i64 0, .int .i64 0, .int .i64 0, .int .i64 0, .int .i64 0, .int .i64 0, .slice none 0 0], .int .i64 V]) (by simp [results, Try.results12, go_sem, d0, d1, d2, d3, d4, d5, d6]) rfl ?_
          refine HP.out _ V HM3.out HV0.out ?_
          repeat refine Below.setCell ?_ (by simp) _
          exact HRW3.out
      · obtain rfl : k = n := by omega
        have d8 : decide ((k : Int) < (k : Int)) = false := by simp
        have d9 : decide (k < k) = false := by simp
        have HBZ := Lib.hid (HBL.out (fun j hj => HV.out j (by rw [HLN.out] at hj; exact hj)))
        obtain ⟨p, rfl, hp, r0, r1, r2, r3, r4, r5, r6⟩ := (HMM.out.below (HRW.out.mono hB)).row (k := 0) (by omega)
        rw [add_zero_] at r0 r1 r2 r3 r4 r5 r6
        obtain ⟨hx1, hx2, hx3, hx4⟩ := (HMM.out.below (HRW.out.mono hB)).each 0 (by omega)
        have hgb := getB M 0
        have HX0 : Hid ((M.map BA.b).getD 0 zB = (M.getD 0 default).b) := hgb
        generalize M.getD 0 default = x at *
        have HCO := Lib.hid (copy_any x.b x.A x.c wr.heap.size wr (hx1.wider (Nat.le_trans hB HRW.out.size)) (Nat.le_refl _) (by omega))
        have HXK := Lib.hid hx1.ok
        clear hgb hx1
        obtain ⟨⟨xb, xp, xe, xs, xk, xt, xL⟩, xA, xc⟩ := x
        simp only [Bat.cells] at *
        obtain ⟨m, rfl⟩ : ∃ m, k = m + 1 := ⟨k - 1, by omega⟩
        have HT1 : Hid (catL ((M.map BA.b).take 1) = xL) := by
          have := HCT.out 0 (by rw [HLN.out]; omega)
          rw [HX0.out] at this
          show _ = _
          simpa [catL] using this
        clear hn1
        go_wp2_with fail
        refine HCO.out.mono ?_
        rintro e w2 ⟨A2, c2, rfl, ho2, hA2, hb2⟩
        have hal := (Below.refl w2.heap.size w2).alloc (Nat.le_refl _) (.cells #[.int .i64 xb, .int .i64 xp, .int .i64 xe, .int .i64 xs, .int .i64 xk, .int .i64 xt, .slice A2 xL.length c2] 24)
        have hN := heap_alloc_new w2 (.cells #[.int .i64 xb, .int .i64 xp, .int .i64 xe, .int .i64 xs, .int .i64 xk, .int .i64 xt, .slice A2 xL.length c2] 24)
        have hlt2 := World.ownsRow.lt ho2
        have hMg : Mg w1 (w2.alloc (.cells #[.int .i64 xb, .int .i64 xp, .int .i64 xe, .int .i64 xs, .int .i64 xk, .int .i64 xt, .slice A2 xL.length c2] 24)) wr.heap.size w2.heap.size (fun u => #[.int .i64 xb, .int .i64 xp, .int .i64 xe, .int .i64 xs, .int .i64 xk, .int .i64 xt, u]) (.slice A2 xL.length c2) xL :=
          ⟨hN, by
            refine ⟨ho2.1, ?_⟩
            rcases ho2.2 with h2 | ⟨b, cap, cur, hv, hb', hh, r⟩
            · exact .inl h2
            · exact .inr ⟨b, cap, cur, hv, hb', (hal.block b (Array.getElem?_eq_some_iff.1 hh).1).trans hh, r⟩, fun e => by have := (hlt2 _ e).2; omega, ⟨Nat.le_trans HR.out.size hb2.size, HR.out.size⟩, Nat.le_trans hb2.size hal.size, HR.out.trans ((hb2.trans (hal.mono hb2.size)).mono HR.out.size)⟩
        generalize hw3 : w2.alloc (.cells #[.int .i64 xb, .int .i64 xp, .int .i64 xe, .int .i64 xs, .int .i64 xk, .int .i64 xt, .slice A2 xL.length c2] 24) = w3 at *
        obtain ⟨g7, hg7⟩ : ∃ g, w2.heap.size = g := ⟨_, rfl⟩
        rw [hg7] at hMg
        have HMG := Lib.hid hMg
        have HG7 := Lib.hid hg7
        have HW3 := Lib.hid hw3
        clear hMg hg7 hw3 hal hN hlt2 ho2 hA2 hb2 HCO r0 r1 r2 r3 r4 r5 r6
        go_upto_region 11 with fail
        rw [HW3.out, HG7.out]
        have hm80 : m ≤ 80 := by omega
        unfold maxLen at hcm
        obtain ⟨bs, hbs⟩ : ∃ b, wr.heap.size = b := ⟨_, rfl⟩
        rw [hbs] at HMG
        clear hbs
        have HFI : Hid (∀ j, j < m + 1 → Fine ((M.map BA.b).getD j zB)) := fun j hj => (fine_iff _).1 (HV.out j hj)
        go_cut [32, 33, 34] (fun s32 s33 s34 wx => ∃ S c3, s32 = .slice S m c3 ∧ (0 < m → S = some ⟨p.block, p.off + 7, none⟩) ∧ s33 = .int .i64 m ∧ s34 = .int .i64 0 ∧ wx = w3)
        case first =>
          by_cases hc1 : c = 1
          · subst hc1
            obtain rfl : m = 0 := by omega
            go_wp2_with fail
            go_meet
            exact ⟨_, _, rfl, fun h => absurd h (by omega), rfl, rfl, rfl⟩
          · have hcz : ¬ ((c : Int) = 1) := by omega
            go_wp2_with fail
            go_meet
            exact ⟨_, _, by first | rfl | simp [hc1], fun _ => rfl, by first | rfl | simp, rfl, rfl⟩
        case rest =>
          obtain ⟨S, c3, rfl, hS, rfl, rfl, rfl⟩ := hcut
          have HS := Lib.hid hS
          clear hS d8 d9
          go_wp2_with fail
          go_loopw [34] (fun i ws => ∃ j : Nat, j ≤ m ∧ i = .int .i64 j ∧ Hid (∀ t, t < j → folB ((M.map BA.b).getD t zB) ((M.map BA.b).getD (t + 1) zB) = true) ∧ ∃ v, Hid (Mg w1 ws bs g7 (fun u => #[.int .i64 xb, .int .i64 xp, .int .i64 xe, .int .i64 xs, .int .i64 xk, .int .i64 xt, u]) v (catL ((M.map BA.b).take (j + 1))))) (fun i _ => m - (intOf i).toNat)
          case atStart => exact ⟨0, by omega, rfl, (fun t ht => absurd ht (by omega) : ∀ t, t < 0 → folB ((M.map BA.b).getD t zB) ((M.map BA.b).getD (t + 1) zB) = true), _, by rw [HT1.out]; exact HMG⟩
          case round =>
            obtain ⟨j, hj, rfl, HFO, v, HG⟩ := hrel
            have HGW := Lib.hid (HB1.out.trans (HG.out.below.mono (by have := HZ1.out; omega)))
            by_cases hlt : j < m
            · have hS := HS.out (by omega)
              subst hS
              obtain ⟨p', hpe, _, r0, r1, r2, r3, r4, r5, r6⟩ := (HMM.out.below (HGW.out.mono hB)).row (k := j) (by omega)
              injection hpe with hpe
              subst hpe
              obtain ⟨p', hpe, _, q0, q1, q2, q3, q4, q5, q6⟩ := (HMM.out.below (HGW.out.mono hB)).row (k := j + 1) (by omega)
              injection hpe with hpe
              subst hpe
              rw [add7_] at q0 q1 q2 q3 q4 q5 q6
              clear r0 r1 r2 r3 r4 r5 r6
              obtain ⟨hy1, hy2, hy3, hy4⟩ := (HMM.out.below (HGW.out.mono hB)).each (j + 1) (by omega)
              have hgx := getB M j
              have hgy := getB M (j + 1)
              have hFx := HFI.out j (by omega)
              have hFy := HFI.out (j + 1) (by omega)
              have HCJ := Lib.hid (HCT.out (j + 1) (by rw [HLN.out]; omega))
              obtain ⟨fo, hfo⟩ : ∃ fo, folB ((M.map BA.b).getD j zB) ((M.map BA.b).getD (j + 1) zB) = fo := ⟨_, rfl⟩
              have HFF := Lib.hid hfo
              rw [hgx] at hFx hfo
              rw [hgy] at hFy hfo HCJ
              have HMB := Lib.hid (HMM.out.below (HGW.out.mono hB))
              have HXE := Lib.hid ((HMM.out.below (HGW.out.mono hB)).each j (by omega)).1
              have HYR := Lib.hid hy1
              have hyp : fo = true → ∃ q, (M.getD (j + 1) default).A = some q := fun h => by
                rw [h] at hfo
                unfold folB at hfo
                simp only [Bool.and_eq_true, Bool.not_eq_true', decide_eq_true_iff] at hfo
                have hmk : markB (M.getD (j + 1) default).b = false := by
                  have h1 := hfo.1.1.1
                  have h2 := hfo.1.1.2.1
                  unfold markB at h1 ⊢
                  rw [← h2]; exact h1
                obtain ⟨q, hq, _⟩ := hy1.row (k := 0) (fine_long hFy hmk)
                exact ⟨q, hq⟩
              have HYP := Lib.hid hyp
              have HFL : Hid (∀ W, Below wr.heap.size wr W → Calls Try.prog 42 #[.agg ((M.getD j default).b.cells (M.getD j default).A (M.getD j default).c), .agg ((M.getD (j + 1) default).b.cells (M.getD (j + 1) default).A (M.getD (j + 1) default).c)] W fun e w' => e = .returned (.bool fo) ∧ Below W.heap.size W w') := fun W h => by
                have := follows_any (M.getD j default).b (M.getD (j + 1) default).b (M.getD j default).A (M.getD (j + 1) default).A (M.getD j default).c (M.getD (j + 1) default).c W.heap.size W (((HXE.out.wider (Nat.le_trans hB HGW.out.size)).below h).wider h.size) (Nat.le_refl _) hFx
                rw [hfo] at this
                exact this
              have HRX : Hid (∀ W, Below wr.heap.size wr W → ∃ p', some p = some p' ∧ _) := fun W h => (HMB.out.below (h.mono (Nat.le_trans hB HGW.out.size))).row (k := j) (by omega)
              clear hyp hfo hFx hFy hgx hgy hy1
              generalize M.getD j default = x at *
              generalize M.getD (j + 1) default = y at *
              obtain ⟨⟨ub, up, ue, us, uk, ut, uL⟩, uA, uc⟩ := x
              obtain ⟨⟨yb, yp, ye, ys, yk, yt, yL⟩, yA, yc⟩ := y
              simp only [Bat.cells] at *
              have hjz : (j : Int) < (m : Int) := by omega
              have hal := (Below.refl wr.heap.size wr).alloc (Nat.le_refl _) (.cells #[.int .i64 yb, .int .i64 yp, .int .i64 ye, .int .i64 ys, .int .i64 yk, .int .i64 yt, .slice yA yL.length yc] 24)
              have hN := heap_alloc_new wr (.cells #[.int .i64 yb, .int .i64 yp, .int .i64 ye, .int .i64 ys, .int .i64 yk, .int .i64 yt, .slice yA yL.length yc] 24)
              generalize hw4 : wr.alloc (.cells #[.int .i64 yb, .int .i64 yp, .int .i64 ye, .int .i64 ys, .int .i64 yk, .int .i64 yt, .slice yA yL.length yc] 24) = w4 at *
              obtain ⟨g9, hg9⟩ : ∃ g, wr.heap.size = g := ⟨_, rfl⟩
              rw [hg9] at hN
              have HG9 := Lib.hid hg9
              have HW4 := Lib.hid hw4
              have HAL := Lib.hid hal
              have HN4 := Lib.hid hN
              have HG4 := Lib.hid (HG.out.below_ hal)
              obtain ⟨p', hpe, _, r0, r1, r2, r3, r4, r5, r6⟩ := HRX.out w4 hal
              injection hpe with hpe
              subst hpe
              clear hal hN hw4 hg9 HRX
              go_upto_region 14 with fail
              rw [HW4.out, HG9.out]
              clear q0 q1 q2 q3 q4 q5 q6
              go_cut [45] (fun s45 wx => s45 = .bool (!fo) ∧ Hid (Below w4.heap.size w4 wx))
              case first =>
                have n0 := cell_of_row _ _ 0 _ _ _ HN4.out
                have gn0 := cell_regrown n0
                have gr0 := cell_regrown r0
                have n1 := cell_of_row _ _ 1 _ _ _ HN4.out
                have gn1 := cell_regrown n1
                have gr1 := cell_regrown r1
                have n2 := cell_of_row _ _ 2 _ _ _ HN4.out
                have gn2 := cell_regrown n2
                have gr2 := cell_regrown r2
                have n3 := cell_of_row _ _ 3 _ _ _ HN4.out
                have gn3 := cell_regrown n3
                have gr3 := cell_regrown r3
                have n4 := cell_of_row _ _ 4 _ _ _ HN4.out
                have gn4 := cell_regrown n4
                have gr4 := cell_regrown r4
                have n5 := cell_of_row _ _ 5 _ _ _ HN4.out
                have gn5 := cell_regrown n5
                have gr5 := cell_regrown r5
                have n6 := cell_of_row _ _ 6 _ _ _ HN4.out
                have gn6 := cell_regrown n6
                have gr6 := cell_regrown r6
                have HFQ : Hid (∀ d os, Calls Try.prog 42 #[.agg #[.int .i64 ub, .int .i64 up, .int .i64 ue, .int .i64 us, .int .i64 uk, .int .i64 ut, .slice uA uL.length uc], .agg #[.int .i64 yb, .int .i64 yp, .int .i64 ye, .int .i64 ys, .int .i64 yk, .int .i64 yt, .slice yA yL.length yc]] (Sort.grow (redrawn w4 d) os) fun e w'' => e = .returned (.bool fo) ∧ ∃ p : Regrown, w'' = Sort.grow (redrawn w4 p.d) p.os) := fun d os => Calls.regrown_of (HFL.out _ (HAL.out.trans ((below_regrown w4 d os).mono HAL.out.size)))
                go_wp2_with fail
                refine wp_region_quiet_below (by kernel_rfl) (by kernel_rfl) ?_
                repeat (go_big_quiet_step (exact HFQ.out _ _))
                refine wpQuiet_nil ?_
                intro _ hw'
                obtain ⟨⟨dq, osq⟩, hw''⟩ := hw'
                subst hw''
                go_wp2_with fail
                go_meet
                exact ⟨rfl, below_regrown w4 dq osq⟩
              case rest =>
                obtain ⟨rfl, HBc⟩ := hcut
                have HGC := Lib.hid (HG4.out.below_ HBc.out)
                have HGCW := Lib.hid (HB1.out.trans (HGC.out.below.mono (by have := HZ1.out; omega)))
                have HN5 := Lib.hid ((HBc.out.block g9 (Array.getElem?_eq_some_iff.1 HN4.out).1).trans HN4.out)
                clear r0 r1 r2 r3 r4 r5 r6
                cases fo with
                | false =>
                  have hme : mergeE (M.map BA.b) = 2 := by rw [HME.out, if_neg (by rw [HLN.out]; omega), if_neg (by rw [HBZ.out]; simp), if_pos (HCN.out j (by rw [HLN.out]; omega) HFF.out)]
                  have HM3 := Lib.hid hme
                  have hkk := (HGC.out.below.block w.heap.size (by have := HZ1.out; omega)).trans HK.out
                  have d0 := cell_of_row _ _ 0 _ _ _ hkk
                  have g0 := frozen_of_row _ _ 0 _ _ hkk
                  have d1 := cell_of_row _ _ 1 _ _ _ hkk
                  have g1 := frozen_of_row _ _ 1 _ _ hkk
                  have d2 := cell_of_row _ _ 2 _ _ _ hkk
                  have g2 := frozen_of_row _ _ 2 _ _ hkk
                  have d3 := cell_of_row _ _ 3 _ _ _ hkk
                  have g3 := frozen_of_row _ _ 3 _ _ hkk
                  have d4 := cell_of_row _ _ 4 _ _ _ hkk
                  have g4 := frozen_of_row _ _ 4 _ _ hkk
                  have d5 := cell_of_row _ _ 5 _ _ _ hkk
                  have g5 := frozen_of_row _ _ 5 _ _ hkk
                  have d6 := cell_of_row _ _ 6 _ _ _ hkk
                  have g6 := frozen_of_row _ _ 6 _ _ hkk
                  clear hme hkk
                  go_wp2_with fail
                  refine bodyPost_ret (v := .tuple #[.agg #[.int .i64 0, .int .i64 0, .int .i64 0, .int .i64 0, .int .i64 0, .int .i64 0, .slice none 0 0], .int .i64 2]) (by simp [results, Try.results12, go_sem, d0, d1, d2, d3, d4, d5, d6]) rfl ?_
                  refine HP.out _ 2 HM3.out (by decide) ?_
                  repeat refine Below.setCell ?_ (by simp) _
                  exact HGCW.out
                | true =>
                  obtain ⟨q, hq⟩ := HYP.out rfl
                  subst hq
                  have hyr := HYR.out.below ((HAL.out.trans (HBc.out.mono HAL.out.size)).mono (Nat.le_trans hB HGW.out.size))
                  have hcs : ∀ i u, (rcells yL)[i]? = some u → wc.cell? (q.add i) = some u := fun i u hi => by
                    obtain ⟨q', e, _, hc⟩ := hyr.lies.get i u hi
                    injection e with e
                    subst e
                    exact hc
                  have HF2 : Hid (∀ t, t < j + 1 → folB ((M.map BA.b).getD t zB) ((M.map BA.b).getD (t + 1) zB) = true) := fun t ht => by
                    by_cases e : t = j
                    · rw [e]; exact HFF.out
                    · exact HFO.out t (by omega)
                  have hcl := HCL.out (j + 1) (by omega)
                  have b6 := cell_of_row _ _ 6 _ _ _ HN5.out
                  have x6 := cell_of_row _ _ 6 _ _ _ HGC.out.x
                  have fx6 := frozen_of_row _ _ 6 _ _ HGC.out.x
                  have hown := HGC.out.own
                  have hsz : bs ≤ wc.heap.size := HGC.out.hi
                  have hg7l : g7 < wc.heap.size := (Array.getElem?_eq_some_iff.1 HGC.out.x).1
                  generalize catL ((M.map BA.b).take (j + 1)) = acc at *
                  obtain ⟨an, han⟩ : ∃ an, acc.length = an := ⟨_, rfl⟩
                  rw [han] at hown hcl
                  have HAN := Lib.hid han
                  obtain ⟨yn, hyn⟩ : ∃ yn, yL.length = yn := ⟨_, rfl⟩
                  have hrl : (rcells yL).length = yn * 4 := by rw [rcells_length, hyn]
                  rw [hyn] at b6 hy2
                  have HYN := Lib.hid hyn
                  clear han hyn
                  go_wp2_with (at_builtin; refine wpList_append_own_at _ rfl (.tmp 48) (.tmp 50) 22 rfl bs 38 j0 _ 4 48 Try.underlying22 qj0 qy0 qy1 qy2 rfl (by decide) _ an (rcells acc) rfl hown q yn yc (rcells yL) rfl hrl hcs (rcells_one yL) ?g2 ?g3 ?g4 ?_)
                  all_goals first | (unfold maxLen; omega) | omega | skip
                  intro v' w6 ho6 hg6 _ hat6
                  obtain ⟨Ax, cx, rfl, _, _⟩ := row_shape ho6
                  have y6 := (hg6.cell_far ⟨g7, 6, none⟩ hg7l (fun e => HGC.out.ne e.symm)).trans x6
                  have fy6 := (hg6.frozen_far ⟨g7, 6, none⟩ hg7l (fun e => HGC.out.ne e.symm)).trans fx6
                  have HST := Lib.hid (HGC.out.step (N := yL) (v' := .slice Ax (an + yn) cx) (fun _ _ => rfl) (by rw [HAN.out, HYN.out]; exact ho6) hg6 hat6)
                  clear ho6 hg6 hat6 hown hcs hyr x6 fx6 b6
                  go_wp2_with fail
                  go_roundw
                  case rel => exact ⟨j + 1, by omega, by go_num, HF2, .slice Ax (an + yn) cx, by rw [HCJ.out]; exact HST⟩
                  case measure => simp [intOf]; omega
            · obtain rfl : j = m := by omega
              have d8 : decide ((j : Int) < (j : Int)) = false := by simp
              have d9 : decide (j < j) = false := by simp
              have hch := HCY.out (fun t ht => HFO.out t (by rw [HLN.out] at ht; omega))
              have htk : (M.map BA.b).take (j + 1) = M.map BA.b := List.take_of_length_le (by rw [HLN.out]; exact Nat.le_refl _)
              rw [htk] at HG
              have hcl := HCL.out (j + 1) (Nat.le_refl _)
              rw [htk] at hcl
              obtain ⟨A9, c9, rfl, h91, h92⟩ := row_shape HG.out.own
              have hme0 : mergeE (M.map BA.b) = if 64 < (catL (M.map BA.b)).length then 7 else 0 := by rw [HME.out, if_neg (by rw [HLN.out]; omega), if_neg (by rw [HBZ.out]; simp), if_neg (by rw [hch]; simp)]
              have HMB : Hid (mergeB (M.map BA.b) = if mergeE (M.map BA.b) = 0 then { ((M.map BA.b).getD 0 zB) with L := catL (M.map BA.b) } else zB) := rfl
              have hkk := (HG.out.below.block w.heap.size (by have := HZ1.out; omega)).trans HK.out
              have d0 := cell_of_row _ _ 0 _ _ _ hkk
              have g0 := frozen_of_row _ _ 0 _ _ hkk
              have d1 := cell_of_row _ _ 1 _ _ _ hkk
              have g1 := frozen_of_row _ _ 1 _ _ hkk
              have d2 := cell_of_row _ _ 2 _ _ _ hkk
              have g2 := frozen_of_row _ _ 2 _ _ hkk
              have d3 := cell_of_row _ _ 3 _ _ _ hkk
              have g3 := frozen_of_row _ _ 3 _ _ hkk
              have d4 := cell_of_row _ _ 4 _ _ _ hkk
              have g4 := frozen_of_row _ _ 4 _ _ hkk
              have d5 := cell_of_row _ _ 5 _ _ _ hkk
              have g5 := frozen_of_row _ _ 5 _ _ hkk
              have d6 := cell_of_row _ _ 6 _ _ _ hkk
              have g6 := frozen_of_row _ _ 6 _ _ hkk
              have HN9 : Hid ((Value.slice A9 (catL (M.map BA.b)).length c9).ownBlock ≠ some w.heap.size) := fun e => by have := (World.ownsRow.lt HG.out.own _ e).1; have := HG.out.lo.2; have := HZ1.out; omega
              have x6 := cell_of_row _ _ 6 _ _ _ HG.out.x
              have HOWN := Lib.hid HG.out.own
              have HFR : Hid (∀ p, A9 = some p → w.heap.size ≤ p.block) := fun p hp => by
                have h1 := (World.ownsRow.lt HG.out.own p.block (by rw [hp]; rfl)).1
                have h2 := HG.out.lo.2
                have h3 := HZ1.out
                omega
              have x0 := cell_of_row _ _ 0 _ _ _ HG.out.x
              have x1 := cell_of_row _ _ 1 _ _ _ HG.out.x
              have x2 := cell_of_row _ _ 2 _ _ _ HG.out.x
              have x3 := cell_of_row _ _ 3 _ _ _ HG.out.x
              have x4 := cell_of_row _ _ 4 _ _ _ HG.out.x
              have x5 := cell_of_row _ _ 5 _ _ _ HG.out.x
              generalize hcn : (catL (M.map BA.b)).length = cn at *
              have HCN2 := Lib.hid hcn
              by_cases h64 : 64 < cn
              · have dd : decide ((64 : Int) < (cn : Int)) = true := decide_eq_true (by omega)
                have HM3 : Hid (mergeE (M.map BA.b) = 7) := by show _ = _; rw [hme0, if_pos h64]
                clear hme0 hkk hcn htk hch h64
                go_wp2_with fail
                refine bodyPost_ret (v := .tuple #[.agg #[.int .i64 0, .int .i64 0, .int .i64 0, .int .i64 0, .int .i64 0, .int .i64 0, .slice none 0 0], .int .i64 7]) (by simp [results, Try.results12, go_sem, d0, d1, d2, d3, d4, d5, d6]) rfl ?_
                refine HP.out _ 7 HM3.out (by decide) ?_
                repeat refine Below.setCell ?_ (by simp) _
                exact HGW.out
              · have dd : decide ((64 : Int) < (cn : Int)) = false := decide_eq_false (by omega)
                have HM3 : Hid (mergeE (M.map BA.b) = 0) := by show _ = _; rw [hme0, if_neg h64]
                have HMV : Hid (mergeB (M.map BA.b) = ⟨xb, xp, xe, xs, xk, xt, catL (M.map BA.b)⟩) := by show _ = _; rw [HMB.out, if_pos HM3.out, HX0.out]
                clear hme0 hkk hcn htk hch h64
                go_wp2_with fail
                refine bodyPost_ret (v := .tuple #[.agg #[.int .i64 xb, .int .i64 xp, .int .i64 xe, .int .i64 xs, .int .i64 xk, .int .i64 xt, .slice A9 cn c9], .int .i64 0]) (by simp [results, Try.results12, go_sem, d0, d1, d2, d3, d4, d5, d6]) rfl ?_
                refine ⟨A9, c9, by rw [HMV.out, HM3.out, ← HCN2.out]; rfl, ?_, HFR.out, ?_⟩
                · rw [HMV.out]
                  show Rcs _ _ A9 (catL (M.map BA.b)).length (catL (M.map BA.b))
                  refine Rcs.of_row (base := bs) (c := c9) ?_ rfl HOKA.out
                  rw [HCN2.out]
                  repeat refine row_set ?_ HN9.out
                  exact HOWN.out
                · repeat refine Below.setCell ?_ (by simp) _
                  exact HGW.out
theorem merge_any (M : List BA) (A : Option Addr) (c B n : Nat) (w : World) (hM : Bas w B A n M) (hB : B ≤ w.heap.size) (hn : n ≤ 80) (hnc : n ≤ c) (hcm : c ≤ maxLen) :
    Calls Try.prog 12 #[.slice A n c] w fun e w' => MergeP (M.map BA.b) w e w' :=
  (merge_fresh M A c B n w hM hB hn hnc hcm).mono fun e w' h => h.p
end Go.Proofs.Ytkdpfajoeajenaa
