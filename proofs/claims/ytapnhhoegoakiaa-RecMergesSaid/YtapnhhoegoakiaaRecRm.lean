/-
  What towpathref03.Merge does.
-/
import Derived.Test.YtapnhhoegoakiaaRecCh
import Derived.Test.YtapnhhoegoakiaaRecV
import Derived.Handy
import Derived.Deep.RegionHeld3
namespace Go.Proofs.Ytapnhhoegoakiaa
open Go.RowKit
set_option linter.unusedVariables false
set_option linter.unusedSimpArgs false

theorem blk_adR {W w3 : World} {o : Obj} (hb : Below (W.alloc o).drew.heap.size (W.alloc o).drew w3) : w3.heap[W.heap.size]? = some o := (hb.block W.heap.size (by simp)).trans (heap_alloc_new W o)
theorem cdR {W : World} {p : Addr} {v : Value} (hx : W.cell? p = some v) : W.drew.cell? p = some v := hx
theorem caR {W : World} {o : Obj} {p : Addr} {v : Value} (h : p.block < W.heap.size) (hx : W.cell? p = some v) : (W.alloc o).cell? p = some v := (World.cell?_alloc_lt W o p h).trans hx
theorem cadR {W : World} {o : Obj} {p : Addr} {v : Value} (h : p.block < W.heap.size) (hx : W.cell? p = some v) : (W.alloc o).drew.cell? p = some v := caR h hx
theorem cdaR {W : World} {o : Obj} {p : Addr} {v : Value} (h : p.block < W.heap.size) (hx : W.cell? p = some v) : (W.drew.alloc o).cell? p = some v := (World.cell?_alloc_lt W.drew o p h).trans hx
theorem set7_farR {W : World} {b : Nat} {p : Addr} {v y0 y1 y2 y3 y4 y5 y6 : Value} (h : p.block ≠ b) (hx : W.cell? p = some v) : (((((((W.setCell ⟨b, 0, none⟩ y0).setCell ⟨b, 1, none⟩ y1).setCell ⟨b, 2, none⟩ y2).setCell ⟨b, 3, none⟩ y3).setCell ⟨b, 4, none⟩ y4).setCell ⟨b, 5, none⟩ y5).setCell ⟨b, 6, none⟩ y6).cell? p = some v := by
  have n : ¬ b = p.block := fun e => h e.symm
  simp only [World.cell?_setCell_far, ne_eq, n, not_false_eq_true]
  exact hx
theorem set7_sameR {w : World} {g : Nat} {T : TypeId} {x0 x1 x2 x3 x4 x5 x6 : Value} (y0 y1 y2 y3 y4 y5 y6 : Value) (h : w.heap[g]? = some (.cells #[x0, x1, x2, x3, x4, x5, x6] T (0, 0))) :
    (((((((w.setCell ⟨g, 0, none⟩ y0).setCell ⟨g, 1, none⟩ y1).setCell ⟨g, 2, none⟩ y2).setCell ⟨g, 3, none⟩ y3).setCell ⟨g, 4, none⟩ y4).setCell ⟨g, 5, none⟩ y5).setCell ⟨g, 6, none⟩ y6).heap[g]? = some (.cells #[y0, y1, y2, y3, y4, y5, y6] T (0, 0)) := by
  have h0 : (w.setCell ⟨g, 0, none⟩ y0).heap[g]? = some (.cells #[y0, x1, x2, x3, x4, x5, x6] T (0, 0)) := by rw [heap_setCell_same _ g 0 _ _ _ h]; rfl
  have h1 : ((w.setCell ⟨g, 0, none⟩ y0).setCell ⟨g, 1, none⟩ y1).heap[g]? = some (.cells #[y0, y1, x2, x3, x4, x5, x6] T (0, 0)) := by rw [heap_setCell_same _ g 1 _ _ _ h0]; rfl
  have h2 : (((w.setCell ⟨g, 0, none⟩ y0).setCell ⟨g, 1, none⟩ y1).setCell ⟨g, 2, none⟩ y2).heap[g]? = some (.cells #[y0, y1, y2, x3, x4, x5, x6] T (0, 0)) := by rw [heap_setCell_same _ g 2 _ _ _ h1]; rfl
  have h3 : ((((w.setCell ⟨g, 0, none⟩ y0).setCell ⟨g, 1, none⟩ y1).setCell ⟨g, 2, none⟩ y2).setCell ⟨g, 3, none⟩ y3).heap[g]? = some (.cells #[y0, y1, y2, y3, x4, x5, x6] T (0, 0)) := by rw [heap_setCell_same _ g 3 _ _ _ h2]; rfl
  have h4 : (((((w.setCell ⟨g, 0, none⟩ y0).setCell ⟨g, 1, none⟩ y1).setCell ⟨g, 2, none⟩ y2).setCell ⟨g, 3, none⟩ y3).setCell ⟨g, 4, none⟩ y4).heap[g]? = some (.cells #[y0, y1, y2, y3, y4, x5, x6] T (0, 0)) := by rw [heap_setCell_same _ g 4 _ _ _ h3]; rfl
  have h5 : ((((((w.setCell ⟨g, 0, none⟩ y0).setCell ⟨g, 1, none⟩ y1).setCell ⟨g, 2, none⟩ y2).setCell ⟨g, 3, none⟩ y3).setCell ⟨g, 4, none⟩ y4).setCell ⟨g, 5, none⟩ y5).heap[g]? = some (.cells #[y0, y1, y2, y3, y4, y5, x6] T (0, 0)) := by rw [heap_setCell_same _ g 5 _ _ _ h4]; rfl
  rw [heap_setCell_same _ g 6 _ _ _ h5]; rfl
theorem lo_adR {W : World} {o : Obj} {n : Nat} (h : (W.alloc o).drew.heap.size ≤ n) : W.heap.size < n := by simp at h; omega
/-- the seven cells of a block -/
theorem sevenR {w : World} {g : Nat} {x0 x1 x2 x3 x4 x5 x6 : Value} {t : TypeId} (h : w.heap[g]? = some (.cells #[x0, x1, x2, x3, x4, x5, x6] t (0, 0))) :
    (w.cell? ⟨g, 0, none⟩ = some x0 ∧ w.cell? ⟨g, 1, none⟩ = some x1 ∧ w.cell? ⟨g, 2, none⟩ = some x2 ∧ w.cell? ⟨g, 3, none⟩ = some x3 ∧ w.cell? ⟨g, 4, none⟩ = some x4 ∧ w.cell? ⟨g, 5, none⟩ = some x5 ∧ w.cell? ⟨g, 6, none⟩ = some x6) ∧
    (w.frozen? ⟨g, 0, none⟩ = false ∧ w.frozen? ⟨g, 1, none⟩ = false ∧ w.frozen? ⟨g, 2, none⟩ = false ∧ w.frozen? ⟨g, 3, none⟩ = false ∧ w.frozen? ⟨g, 4, none⟩ = false ∧ w.frozen? ⟨g, 5, none⟩ = false ∧ w.frozen? ⟨g, 6, none⟩ = false) :=
  ⟨⟨cell_of_row w g 0 _ _ _ h, cell_of_row w g 1 _ _ _ h, cell_of_row w g 2 _ _ _ h, cell_of_row w g 3 _ _ _ h, cell_of_row w g 4 _ _ _ h, cell_of_row w g 5 _ _ _ h, cell_of_row w g 6 _ _ _ h⟩,
    frozen_of_row w g 0 _ _ h, frozen_of_row w g 1 _ _ h, frozen_of_row w g 2 _ _ h, frozen_of_row w g 3 _ _ h, frozen_of_row w g 4 _ _ h, frozen_of_row w g 5 _ _ h, frozen_of_row w g 6 _ _ h⟩

theorem mg_new {wr w3 : World} {xb xp xe xs xk xt v : Value} {L : List Rec} (ho : w3.ownsRow wr.heap.size 46 4 v L.length (rcells L)) (hb : Below wr.heap.size wr w3) : Mg wr (w3.alloc (.cells #[xb, xp, xe, xs, xk, xt, v] 26)) wr.heap.size w3.heap.size (fun v => #[xb, xp, xe, xs, xk, xt, v]) v L :=
  ⟨heap_alloc_new _ _, ho.alloc _, fun e => by have := (World.ownsRow.lt ho _ e).2; omega, ⟨hb.size, Nat.le_refl _⟩, by have := hb.size; simp; omega, hb.alloc hb.size _⟩
theorem mg_set {wr w3 : World} {xb xp xe xs xk xt v y0 y1 y2 y3 y4 y5 y6 : Value} {L : List Rec} (ho : w3.ownsRow wr.heap.size 46 4 v L.length (rcells L)) (hb : Below wr.heap.size wr w3) (hk : w3.heap[wr.heap.size]? = some (.cells #[y0, y1, y2, y3, y4, y5, y6] 26 (0, 0))) (hn : v.ownBlock ≠ some wr.heap.size) :
    Mg wr (((((((w3.setCell ⟨wr.heap.size, 0, none⟩ xb).setCell ⟨wr.heap.size, 1, none⟩ xp).setCell ⟨wr.heap.size, 2, none⟩ xe).setCell ⟨wr.heap.size, 3, none⟩ xs).setCell ⟨wr.heap.size, 4, none⟩ xk).setCell ⟨wr.heap.size, 5, none⟩ xt).setCell ⟨wr.heap.size, 6, none⟩ v) wr.heap.size wr.heap.size (fun v => #[xb, xp, xe, xs, xk, xt, v]) v L :=
  ⟨set7_sameR _ _ _ _ _ _ _ hk, row_set (row_set (row_set (row_set (row_set (row_set (row_set ho hn) hn) hn) hn) hn) hn) hn, hn, ⟨Nat.le_refl _, Nat.le_refl _⟩, by have := hb.size; simp; omega, ((((((hb.setCell (Nat.le_refl _) _).setCell (Nat.le_refl _) _).setCell (Nat.le_refl _) _).setCell (Nat.le_refl _) _).setCell (Nat.le_refl _) _).setCell (Nat.le_refl _) _).setCell (Nat.le_refl _) _⟩
set_option maxRecDepth 100000 in
set_option maxHeartbeats 8000000 in
theorem rmerge_any (M : List BA) (A : Option Addr) (c B n : Nat) (w : World) (hM : Bas w B A n M) (hB : B ≤ w.heap.size) (hn : n ≤ 80) (hnc : n ≤ c) (hcm : c ≤ maxLen) :
    Calls Try.prog 11 #[.slice A n c] w fun e w' => MergeP (M.map BA.b) w e w' := by
  obtain ⟨j0, qj0, qy0, qy1, qy2⟩ := info_parts zero_rec
  have HP := Lib.hid (merge_none (M.map BA.b) w)
  have HOKA : Hid (∀ r ∈ catL (M.map BA.b), i64_ r.time) := fun r hr => by
    unfold catL at hr
    obtain ⟨b, hb, hr2⟩ := List.mem_flatMap.1 hr
    obtain ⟨x, hx, rfl⟩ := List.mem_map.1 hb
    obtain ⟨k, hk, he⟩ := List.getElem_of_mem hx
    have h1 := (hM.each k (by have := hM.len; omega)).1.ok
    rw [List.getD_eq_getElem?_getD, List.getElem?_eq_getElem hk, Option.getD_some, he] at h1
    exact h1 r hr2
  have HCL : Hid (∀ k, k ≤ n → (catL ((M.map BA.b).take k)).length ≤ 80 * k) := fun k hk => by
    induction k with
    | zero => simp [catL]
    | succ k ih =>
      have h1 := (hM.each k (by omega)).2.1
      rw [catL_take _ _ (by rw [List.length_map, hM.len]; omega), List.length_append, getB]
      have := ih (by omega)
      omega
  have HME : Hid (mergeE (M.map BA.b) = if (M.map BA.b).length = 0 then 3 else if badE (M.map BA.b) ≠ 0 then badE (M.map BA.b) else if chainB (M.map BA.b) = false then 2 else if 64 < (catL (M.map BA.b)).length then 7 else 0) := rfl
  have HBA := Lib.hid (badE_at (M.map BA.b))
  have HBL := Lib.hid (badE_all (M.map BA.b))
  have HCN := Lib.hid (chain_no (M.map BA.b))
  have HCY := Lib.hid (chain_yes (M.map BA.b))
  have HCT := Lib.hid (catL_take (M.map BA.b))
  have hlen : (M.map BA.b).length = n := by rw [List.length_map]; exact hM.len
  have HLN := Lib.hid hlen
  have HMM := Lib.hid hM
  have hk := heap_alloc_new w (.cells #[.int .i64 0, .int .i64 0, .int .i64 0, .int .i64 0, .int .i64 0, .int .i64 0, .slice none 0 0] 26)
  have hal := (Below.refl w.heap.size w).alloc (Nat.le_refl _) (.cells #[.int .i64 0, .int .i64 0, .int .i64 0, .int .i64 0, .int .i64 0, .int .i64 0, .slice none 0 0] 26)
  have hz1 : (w.alloc (.cells #[.int .i64 0, .int .i64 0, .int .i64 0, .int .i64 0, .int .i64 0, .int .i64 0, .slice none 0 0] 26)).heap.size = w.heap.size + 1 := by simp
  generalize hw1 : w.alloc (.cells #[.int .i64 0, .int .i64 0, .int .i64 0, .int .i64 0, .int .i64 0, .int .i64 0, .slice none 0 0] 26) = w1 at *
  have HW1 := Lib.hid hw1
  have HK := Lib.hid hk
  have HB1 := Lib.hid hal
  have HZ1 := Lib.hid hz1
  clear hM hk hal hw1 hz1 hlen
  go_enter Try.func11, Try.ntmps11
  go_upto_region 1 with fail
  rw [HW1.out]
  by_cases hn0 : n = 0
  · subst hn0
    have hme : mergeE (M.map BA.b) = 3 := by rw [HME.out, if_pos HLN.out]
    have HM3 := Lib.hid hme
    have d0 := cell_of_row _ _ 0 _ _ _ HK.out
    have g0 := frozen_of_row _ _ 0 _ _ HK.out
    have d1 := cell_of_row _ _ 1 _ _ _ HK.out
    have g1 := frozen_of_row _ _ 1 _ _ HK.out
    have d2 := cell_of_row _ _ 2 _ _ _ HK.out
    have g2 := frozen_of_row _ _ 2 _ _ HK.out
    have d3 := cell_of_row _ _ 3 _ _ _ HK.out
    have g3 := frozen_of_row _ _ 3 _ _ HK.out
    have d4 := cell_of_row _ _ 4 _ _ _ HK.out
    have g4 := frozen_of_row _ _ 4 _ _ HK.out
    have d5 := cell_of_row _ _ 5 _ _ _ HK.out
    have g5 := frozen_of_row _ _ 5 _ _ HK.out
    have d6 := cell_of_row _ _ 6 _ _ _ HK.out
    have g6 := frozen_of_row _ _ 6 _ _ HK.out
    clear hme
    go_wp2_with fail
    refine bodyPost_ret (v := .tuple #[.agg #[.int .i64 0, .int .i64 0, .int .i64 0, .int .i64 0, .int .i64 0, .int .i64 0, .slice none 0 0], .int .i64 3]) (by simp [results, Try.results11, go_sem, d0, d1, d2, d3, d4, d5, d6]) rfl ?_
    refine HP.out _ 3 HM3.out (by decide) ?_
    repeat refine Below.setCell ?_ (by simp) _
    exact HB1.out
  · have hn1 : ((n : Int) == 0) = false := by rw [beq_eq_false_iff_ne]; omega
    go_wp2_with fail
    go_loopw [17] (fun i wr => ∃ k : Nat, k ≤ n ∧ i = .int .i64 k ∧ Hid (∀ j, j < k → validE ((M.map BA.b).getD j zB) = 0) ∧ Hid (Below w1.heap.size w1 wr)) (fun i _ => n - (intOf i).toNat)
    case atStart => exact ⟨0, by omega, rfl, (fun j hj => absurd hj (by omega) : ∀ j, j < 0 → validE ((M.map BA.b).getD j zB) = 0), Below.refl _ _⟩
    case round =>
      obtain ⟨k, hk, rfl, HV, HR⟩ := hrel
      have HRW := Lib.hid (HB1.out.trans (HR.out.mono (by have := HZ1.out; omega)))
      by_cases hlt : k < n
      · obtain ⟨p, rfl, hp, r0, r1, r2, r3, r4, r5, r6⟩ := (HMM.out.below (HRW.out.mono hB)).row hlt
        obtain ⟨hx1, hx2, hx3, hx4⟩ := (HMM.out.below (HRW.out.mono hB)).each k hlt
        have hgb := getB M k
        have hkz : (k : Int) < (n : Int) := by omega
        generalize M.getD k default = x at *
        have HVA : Hid (∀ W, Below wr.heap.size wr W → Calls Try.prog 32 #[.agg (x.b.cells x.A x.c)] W fun e w' => e = .returned (.int .i64 (validE x.b)) ∧ Below W.heap.size W w') := fun W h => rvalid_any x.b x.A x.c W.heap.size W (((hx1.wider (Nat.le_trans hB HRW.out.size)).below h).wider h.size) (Nat.le_refl _) (by unfold maxLen; omega)
        obtain ⟨V, hVe⟩ : ∃ V, validE x.b = V := ⟨_, rfl⟩
        rw [hVe] at HVA
        rw [← hgb] at hVe
        have HVE := Lib.hid hVe
        clear hVe hgb hx1
        obtain ⟨⟨xb, xp, xe, xs, xk, xt, xL⟩, xA, xc⟩ := x
        simp only [Bat.cells] at *
        have hal := (Below.refl wr.heap.size wr).alloc (Nat.le_refl _) (.cells #[.int .i64 xb, .int .i64 xp, .int .i64 xe, .int .i64 xs, .int .i64 xk, .int .i64 xt, .slice xA xL.length xc] 26)
        have hN := heap_alloc_new wr (.cells #[.int .i64 xb, .int .i64 xp, .int .i64 xe, .int .i64 xs, .int .i64 xk, .int .i64 xt, .slice xA xL.length xc] 26)
        have hz2 : (wr.alloc (.cells #[.int .i64 xb, .int .i64 xp, .int .i64 xe, .int .i64 xs, .int .i64 xk, .int .i64 xt, .slice xA xL.length xc] 26)).heap.size = wr.heap.size + 1 := by simp
        generalize hw2 : wr.alloc (.cells #[.int .i64 xb, .int .i64 xp, .int .i64 xe, .int .i64 xs, .int .i64 xk, .int .i64 xt, .slice xA xL.length xc] 26) = w2 at *
        have HW2 := Lib.hid hw2
        have HAL := Lib.hid hal
        have HVW := Lib.hid (HVA.out w2 hal)
        have HN := Lib.hid hN
        clear hw2 hal hN HVA hz2
        go_upto_region 6 with fail
        rw [HW2.out]
        have y0 := cell_of_row _ _ 0 _ _ _ HN.out
        have y1 := cell_of_row _ _ 1 _ _ _ HN.out
        have y2 := cell_of_row _ _ 2 _ _ _ HN.out
        have y3 := cell_of_row _ _ 3 _ _ _ HN.out
        have y4 := cell_of_row _ _ 4 _ _ _ HN.out
        have y5 := cell_of_row _ _ 5 _ _ _ HN.out
        have y6 := cell_of_row _ _ 6 _ _ _ HN.out
        go_wp2_with fail
        refine HVW.out.mono ?_
        rintro e w3 ⟨rfl, hb3⟩
        have HR3 := Lib.hid (HR.out.trans ((HAL.out.trans (hb3.mono HAL.out.size)).mono HR.out.size))
        have HRW3 := Lib.hid (HB1.out.trans (HR3.out.mono (by have := HZ1.out; omega)))
        clear hb3 y0 y1 y2 y3 y4 y5 y6
        by_cases hV0 : V = 0
        · subst hV0
          have HV2 : Hid (∀ j, j < k + 1 → validE ((M.map BA.b).getD j zB) = 0) := fun j hj => by
            by_cases e : j = k
            · rw [e]; exact HVE.out
            · exact HV.out j (by omega)
          go_wp2_with fail
          go_roundw
          case rel => exact ⟨k + 1, by omega, by go_num, HV2, HR3⟩
          case measure => simp [intOf]; omega
        · have hne : (V != 0) = true := by simpa using hV0
          have hbad := HBA.out k (by rw [HLN.out]; exact hlt) HV.out (by rw [HVE.out]; exact hV0)
          rw [HVE.out] at hbad
          have hme : mergeE (M.map BA.b) = V := by rw [HME.out, if_neg (by rw [HLN.out]; omega), if_pos (by rw [hbad]; exact hV0), hbad]
          have HM3 := Lib.hid hme
          have HV0 := Lib.hid hV0
          have hkk := (HR3.out.block w.heap.size (by have := HZ1.out; omega)).trans HK.out
          have d0 := cell_of_row _ _ 0 _ _ _ hkk
          have g0 := frozen_of_row _ _ 0 _ _ hkk
          have d1 := cell_of_row _ _ 1 _ _ _ hkk
          have g1 := frozen_of_row _ _ 1 _ _ hkk
          have d2 := cell_of_row _ _ 2 _ _ _ hkk
          have g2 := frozen_of_row _ _ 2 _ _ hkk
          have d3 := cell_of_row _ _ 3 _ _ _ hkk
          have g3 := frozen_of_row _ _ 3 _ _ hkk
          have d4 := cell_of_row _ _ 4 _ _ _ hkk
          have g4 := frozen_of_row _ _ 4 _ _ hkk
          have d5 := cell_of_row _ _ 5 _ _ _ hkk
          have g5 := frozen_of_row _ _ 5 _ _ hkk
          have d6 := cell_of_row _ _ 6 _ _ _ hkk
          have g6 := frozen_of_row _ _ 6 _ _ hkk
          clear hme hbad hV0 hkk
          go_wp2_with fail
          refine bodyPost_ret (v := .tuple #[.agg #[.int .i64 0, .int .i64 0, .int .i64 0, .int .i64 0, .int .i64 0, .int .i64 0, .slice none 0 0], .int .i64 V]) (by simp [results, Try.results11, go_sem, d0, d1, d2, d3, d4, d5, d6]) rfl ?_
          refine HP.out _ V HM3.out HV0.out ?_
          repeat refine Below.setCell ?_ (by simp) _
          exact HRW3.out
      · obtain rfl : k = n := by omega
        have d8 : decide ((k : Int) < (k : Int)) = false := by simp
        have d9 : decide (k < k) = false := by simp
        have HBZ := Lib.hid (HBL.out (fun j hj => HV.out j (by rw [HLN.out] at hj; exact hj)))
        by_cases hk1 : k = 1
        · subst hk1
          obtain ⟨p, rfl, hp, r0, r1, r2, r3, r4, r5, r6⟩ := (HMM.out.below (HRW.out.mono hB)).row (k := 0) (by omega)
          rw [add_zero_] at r0 r1 r2 r3 r4 r5 r6
          obtain ⟨hx1, hx2, hx3, hx4⟩ := (HMM.out.below (HRW.out.mono hB)).each 0 (by omega)
          have hone : M.map BA.b = [(M.getD 0 default).b] := by
            have hl := HMM.out.len
            match M, hl with
            | [x], _ => rfl
          have hv0 := HV.out 0 (by omega)
          rw [getB] at hv0
          have HF0 := Lib.hid ((fine_iff _).1 hv0)
          have HME0 : Hid (mergeE (M.map BA.b) = 0) := by
            show _ = _
            rw [HME.out, if_neg (by rw [HLN.out]; omega), if_neg (by rw [HBZ.out]; simp), hone, if_neg (by simp [chainB]), if_neg (by rw [show catL [(M.getD 0 default).b] = (M.getD 0 default).b.L from by simp [catL]]; have := HF0.out.len; omega)]
          have HMB0 : Hid (mergeB (M.map BA.b) = (M.getD 0 default).b) := by
            show _ = _
            unfold mergeB
            rw [if_pos HME0.out, hone]
            simp [catL]
          have HRR := Lib.hid hx1
          have hkk := (HR.out.block w.heap.size (by have := HZ1.out; omega)).trans HK.out
          have d0_ := cell_of_row _ _ 0 _ _ _ hkk
          have d1_ := cell_of_row _ _ 1 _ _ _ hkk
          have d2_ := cell_of_row _ _ 2 _ _ _ hkk
          have d3_ := cell_of_row _ _ 3 _ _ _ hkk
          have d4_ := cell_of_row _ _ 4 _ _ _ hkk
          have d5_ := cell_of_row _ _ 5 _ _ _ hkk
          have d6_ := cell_of_row _ _ 6 _ _ _ hkk
          have g0 := frozen_of_row _ _ 0 _ _ hkk
          have g1 := frozen_of_row _ _ 1 _ _ hkk
          have g2 := frozen_of_row _ _ 2 _ _ hkk
          have g3 := frozen_of_row _ _ 3 _ _ hkk
          have g4 := frozen_of_row _ _ 4 _ _ hkk
          have g5 := frozen_of_row _ _ 5 _ _ hkk
          have g6 := frozen_of_row _ _ 6 _ _ hkk
          clear hkk hone hv0 hx1
          generalize M.getD 0 default = x at *
          obtain ⟨⟨xb, xp, xe, xs, xk, xt, xL⟩, xA, xc⟩ := x
          simp only at r0 r1 r2 r3 r4 r5 r6 HMB0 HRR
          go_wp2_with fail
          refine bodyPost_ret (v := .tuple #[.agg #[.int .i64 xb, .int .i64 xp, .int .i64 xe, .int .i64 xs, .int .i64 xk, .int .i64 xt, .slice xA xL.length xc], .int .i64 0]) (by simp [results, Try.results11, go_sem, d0_, d1_, d2_, d3_, d4_, d5_, d6_]) rfl ?_
          refine ⟨xA, xc, by rw [HMB0.out, HME0.out]; rfl, ?_, ?_⟩
          · rw [HMB0.out]
            refine Rcs.wider (B := B) (HRR.out.below ?_) (by have := HRW.out.size; simp; omega)
            repeat refine Below.setCell ?_ hB _
            exact Below.refl _ _
          · repeat refine Below.setCell ?_ (by simp) _
            exact HRW.out
        · have hk2 : ((k : Int) == 1) = false := by rw [beq_eq_false_iff_ne]; omega
          obtain ⟨p, rfl, hp, r0, r1, r2, r3, r4, r5, r6⟩ := (HMM.out.below (HRW.out.mono hB)).row (k := 0) (by omega)
          rw [add_zero_] at r0 r1 r2 r3 r4 r5 r6
          obtain ⟨hx1, hx2, hx3, hx4⟩ := (HMM.out.below (HRW.out.mono hB)).each 0 (by omega)
          have hv0 := HV.out 0 (by omega)
          have HX0 : Hid ((M.map BA.b).getD 0 zB = (M.getD 0 default).b) := getB M 0
          rw [getB] at hv0
          have hF0 := (fine_iff _).1 hv0
          have hpb : p.block < wr.heap.size := by have := HRW.out.size; omega
          generalize M.getD 0 default = x at *
          have HPI : Hid (∀ W, Below wr.heap.size wr W → Calls Try.prog 33 #[.agg (x.b.cells x.A x.c), .int .i64 0, .int .i64 (x.b.L.length : Int)] W fun e w' => ∃ A' c', e = .returned (.agg (x.b.cells A' c')) ∧ w'.ownsRow wr.heap.size 46 4 (.slice A' x.b.L.length c') x.b.L.length (rcells x.b.L) ∧ (∀ q, A' = some q → W.heap.size ≤ q.block) ∧ Below wr.heap.size wr w' ∧ Below W.heap.size W w' ∧ (w'.cell? p = some (.int .i64 x.b.base) ∧ w'.cell? ⟨p.block, p.off + 1, none⟩ = some (.int .i64 x.b.pid) ∧ w'.cell? ⟨p.block, p.off + 2, none⟩ = some (.int .i64 x.b.epoch) ∧ w'.cell? ⟨p.block, p.off + 3, none⟩ = some (.int .i64 x.b.seq) ∧ w'.cell? ⟨p.block, p.off + 4, none⟩ = some (.int .i64 x.b.kind) ∧ w'.cell? ⟨p.block, p.off + 5, none⟩ = some (.int .i64 x.b.time) ∧ w'.cell? ⟨p.block, p.off + 6, none⟩ = some (.slice x.A x.b.L.length x.c))) := fun W h => by
            have hq := piece_any x.b x.A x.c wr.heap.size 0 x.b.L.length W (((hx1.wider (Nat.le_trans hB HRW.out.size)).below h)) h.size hF0.len (Nat.zero_le _) (Nat.le_refl _) hF0.b1 hF0.b2 hF0.s1 hF0.s2
            rw [piece_part hF0, part_zero] at hq
            refine Calls.mono hq ?_
            rintro e w' ⟨A', c', he, ho, hlo, hb⟩
            have hz := h.trans (hb.mono h.size)
            have g := fun (q : Addr) (hq : q.block = p.block) => hz.cell (p := q) (by rw [hq]; exact hpb)
            exact ⟨A', c', he, row_base ho h.size, hlo, hz, hb, (g p rfl).trans r0, (g ⟨p.block, p.off + 1, none⟩ rfl).trans r1, (g ⟨p.block, p.off + 2, none⟩ rfl).trans r2, (g ⟨p.block, p.off + 3, none⟩ rfl).trans r3, (g ⟨p.block, p.off + 4, none⟩ rfl).trans r4, (g ⟨p.block, p.off + 5, none⟩ rfl).trans r5, (g ⟨p.block, p.off + 6, none⟩ rfl).trans r6⟩
          have HF0 := Lib.hid hF0
          have HXK := Lib.hid hx1.ok
          clear hv0 hF0 hx1
          obtain ⟨⟨xb, xp, xe, xs, xk, xt, xL⟩, xA, xc⟩ := x
          simp only [Bat.cells] at *
          go_upto_region 12 with fail
          go_cut [7] (fun s7 wx => ∃ g7 v, s7 = .pointer (some ⟨g7, 0, none⟩) ∧ Hid (Mg wr wx wr.heap.size g7 (fun v => #[.int .i64 xb, .int .i64 xp, .int .i64 xe, .int .i64 xs, .int .i64 xk, .int .i64 xt, v]) v xL))
          case first =>
            clear HBA HBL HCN HCY HCT HLN HME HP HCL HOKA HBZ HX0 HF0 HXK
            have nWb : p.block ≠ wr.heap.size := by omega
            have hk0 : 0 < k := by omega
            have hk0i : (0 : Int) < (k : Int) := by omega
            have hk0d : decide (0 < k) = true := by simpa using hk0
            have hk0e : decide ((0 : Int) < (k : Int)) = true := by simpa using hk0
            go_region_held3 (fun w' => w'.cell? p = some (.int .i64 xb) ∧ w'.cell? ⟨p.block, p.off + 1, none⟩ = some (.int .i64 xp) ∧ w'.cell? ⟨p.block, p.off + 2, none⟩ = some (.int .i64 xe) ∧ w'.cell? ⟨p.block, p.off + 3, none⟩ = some (.int .i64 xs) ∧ w'.cell? ⟨p.block, p.off + 4, none⟩ = some (.int .i64 xk) ∧ w'.cell? ⟨p.block, p.off + 5, none⟩ = some (.int .i64 xt) ∧ w'.cell? ⟨p.block, p.off + 6, none⟩ = some (.slice xA xL.length xc))
              (first | (with_reducible exact ⟨r0, r1, r2, r3, r4, r5, r6⟩) | (with_reducible exact ⟨cdR r0, cdR r1, cdR r2, cdR r3, cdR r4, cdR r5, cdR r6⟩) | (with_reducible exact ⟨z0, z1, z2, z3, z4, z5, z6⟩) | (with_reducible exact ⟨cadR hpb r0, cadR hpb r1, cadR hpb r2, cadR hpb r3, cadR hpb r4, cadR hpb r5, cadR hpb r6⟩) | (with_reducible exact ⟨cdaR hpb r0, cdaR hpb r1, cdaR hpb r2, cdaR hpb r3, cdaR hpb r4, cdaR hpb r5, cdaR hpb r6⟩) | (with_reducible exact ⟨caR hpb r0, caR hpb r1, caR hpb r2, caR hpb r3, caR hpb r4, caR hpb r5, caR hpb r6⟩) | (with_reducible exact ⟨caR hp3 z0, caR hp3 z1, caR hp3 z2, caR hp3 z3, caR hp3 z4, caR hp3 z5, caR hp3 z6⟩) | (with_reducible exact ⟨set7_farR nWb z0, set7_farR nWb z1, set7_farR nWb z2, set7_farR nWb z3, set7_farR nWb z4, set7_farR nWb z5, set7_farR nWb z6⟩) | (with_reducible exact ⟨set7_farR nWc (caR hp3 z0), set7_farR nWc (caR hp3 z1), set7_farR nWc (caR hp3 z2), set7_farR nWc (caR hp3 z3), set7_farR nWc (caR hp3 z4), set7_farR nWc (caR hp3 z5), set7_farR nWc (caR hp3 z6)⟩) | go_keep)
              (first
                | (go_at_call 33; refine Calls.mono (HPI.out _ ?_) ?_ <;> first | (rintro e w3 ⟨A', c', rfl, ho', hlo', hB', hb', z0, z1, z2, z3, z4, z5, z6⟩; have HO := Lib.hid ho'; have HBX := Lib.hid hB'; have HLO := Lib.hid hlo'; have hp3 : p.block < w3.heap.size := Nat.lt_of_lt_of_le hpb hB'.size; have nWc : p.block ≠ w3.heap.size := (by omega); first | ((with_reducible have hk2 := blk_adR hb'); have HK2 := Lib.hid hk2; obtain ⟨⟨d0, d1, d2, d3, d4, d5, d6⟩, ⟨f0, f1, f2, f3, f4, f5, f6⟩⟩ := sevenR hk2; clear ho' hB' hlo' hb' hk2) | clear ho' hB' hlo' hb') | (go_grown; done)))
            all_goals
              go_wp2_with fail
              go_meet
              first
                | (refine ⟨w3.heap.size, .slice A' xL.length c', ?_, ?_⟩
                   · with_reducible rfl
                   · exact mg_new HO.out HBX.out)
                | (refine ⟨wr.heap.size, .slice A' xL.length c', ?_, ?_⟩
                   · with_reducible rfl
                   · have hn : (Value.slice A' xL.length c').ownBlock ≠ some wr.heap.size := fun e => by
                       cases A' with
                       | none => simp [Value.ownBlock] at e
                       | some q => have := lo_adR (HLO.out q rfl); simp [Value.ownBlock] at e; omega
                     exact mg_set HO.out HBX.out HK2.out hn)
          case rest =>
            obtain ⟨g7, v, rfl, HG⟩ := hcut
            have HVA : Hid (∀ j, j < (M.map BA.b).length → validE ((M.map BA.b).getD j zB) = 0) := fun j hj => HV.out j (by rw [HLN.out] at hj; exact hj)
            have HKK : Hid (∀ W, Below wr.heap.size wr W → W.heap[w.heap.size]? = some (.cells #[.int .i64 0, .int .i64 0, .int .i64 0, .int .i64 0, .int .i64 0, .int .i64 0, .slice none 0 0] 26 (0, 0))) := fun W h => (h.block w.heap.size (by have := HZ1.out; have := HR.out.size; omega)).trans ((HR.out.block w.heap.size (by have := HZ1.out; omega)).trans HK.out)
            have HWW : Hid (∀ W, Below wr.heap.size wr W → Below w.heap.size w W) := fun W h => HRW.out.trans (h.mono HRW.out.size)
            have HC1 : Hid (catL ((M.map BA.b).take 1) = xL) := by show _ = _; rw [catL_one _ (by rw [HLN.out]; omega), HX0.out]
            have HTWO : Hid (chainB (M.map BA.b) = false → mergeE (M.map BA.b) = 2) := fun h => by rw [HME.out, if_neg (by rw [HLN.out]; omega), if_neg (by rw [HBZ.out]; simp), if_pos h]
            have HMK : Hid (∀ W (b : Bat) (A : Option Addr) (c : Nat), Calls Try.prog 34 #[.agg (b.cells A c)] W fun e w' => e = .returned (.bool (markB b)) ∧ Below W.heap.size W w') := fun W b A c => rmark_any b A c W
            have hxF := HF0.out
            have hb1 := hxF.b1
            have hb2 := hxF.b2
            have hs1 := hxF.s1
            have hs2 := hxF.s2
            simp only at hb1 hb2 hs1 hs2
            clear hxF
            have hkn : 2 ≤ k := by omega
            have HLL := HLN
            clear HK HR HV HBL HBA HPI
            generalize hlq : M.map BA.b = l at *
            have HLQ := Lib.hid hlq
            clear hlq
            generalize wr = wq at *
            go_wp2_with fail
            go_loopw [45] (fun i wr3 => ∃ (q : Nat) (v : Value), q ≤ k ∧ i = .int .i64 q ∧ Hid (Chn l q) ∧ Hid (Mg wq wr3 wq.heap.size g7 (fun v => #[.int .i64 xb, .int .i64 xp, .int .i64 xe, .int .i64 xs, .int .i64 xk, .int .i64 xt, v]) v (catL (l.take (max q 1))))) (fun i _ => k - (intOf i).toNat)
            case atStart => exact ⟨0, v, by omega, rfl, ⟨fun j hj => absurd hj (by omega), fun j hj => absurd hj (by omega)⟩, by rw [show max 0 1 = 1 from rfl, HC1.out]; exact HG.out⟩
            case round =>
              obtain ⟨q, v, hq, rfl, HCH, HMG⟩ := hrel
              generalize wr = wr3 at *
              have HBQ := Lib.hid HMG.out.below
              obtain ⟨A7, c7, rfl⟩ := own_slice HMG.out.own
              by_cases hlt : q < k
              · obtain ⟨p2, he2, hp2, s0, s1, s2, s3, s4, s5, s6⟩ := (HMM.out.below ((HWW.out _ HBQ.out).mono hB)).row hlt
                injection he2 with he2
                subst he2
                obtain ⟨hx1, hx2, hx3, hx4⟩ := (HMM.out.below ((HWW.out _ HBQ.out).mono hB)).each q hlt
                have hgb := getB M q
                rw [HLQ.out] at hgb
                have HGB := Lib.hid hgb
                have HRX := Lib.hid hx1
                have HRXA := Lib.hid (fun W (h : Below wq.heap.size wq W) => ((HMM.out.below ((HWW.out W h).mono hB)).each q hlt).1)
                clear hgb hx1
                generalize M.getD q default = y at *
                obtain ⟨⟨bb, bp, be, bs, bk, bt, bL⟩, bA, bc⟩ := y
                simp only at s0 s1 s2 s3 s4 s5 s6 HGB hx2 hx3 hx4 HRX HRXA
                have HMA := Lib.hid (fun W => HMK.out W ⟨bb, bp, be, bs, bk, bt, bL⟩ bA bc)
                simp only [Bat.cells] at HMA
                have HMM2 : Hid (markB (l.getD q zB) = markB ⟨bb, bp, be, bs, bk, bt, bL⟩) := by show _ = _; rw [HGB.out]
                generalize markB ⟨bb, bp, be, bs, bk, bt, bL⟩ = mb at *
                have hqk : decide (q < k) = true := by simpa using hlt
                have HAL := Lib.hid ((Below.refl wr3.heap.size wr3).alloc (Nat.le_refl _) (.cells #[.int .i64 bb, .int .i64 bp, .int .i64 be, .int .i64 bs, .int .i64 bk, .int .i64 bt, .slice bA bL.length bc] 26))
                have HB5 := Lib.hid (HBQ.out.alloc HBQ.out.size (.cells #[.int .i64 bb, .int .i64 bp, .int .i64 be, .int .i64 bs, .int .i64 bk, .int .i64 bt, .slice bA bL.length bc] 26))
                have HN9 := Lib.hid (heap_alloc_new wr3 (.cells #[.int .i64 bb, .int .i64 bp, .int .i64 be, .int .i64 bs, .int .i64 bk, .int .i64 bt, .slice bA bL.length bc] 26))
                have HMG5 := Lib.hid (HMG.out.below_ HAL.out)
                cases mb with
                | true =>
                  have HT2 := Lib.hid (HTWO.out (mark_no l q (by rw [HLL.out]; exact hlt) (by rw [HLL.out]; exact hkn) HMM2.out HCH.out.mark))
                  go_wp2_with (go_at_call 34; (with_reducible refine (HMA.out _).mono ?_); rintro e w4 ⟨rfl, hb4⟩; have HB4 := Lib.hid (HB5.out.trans (hb4.mono HB5.out.size)); obtain ⟨⟨d0, d1, d2, d3, d4, d5, d6⟩, ⟨f0, f1, f2, f3, f4, f5, f6⟩⟩ := sevenR (HKK.out w4 HB4.out); clear hb4)
                  refine bodyPost_ret (v := .tuple #[.agg #[.int .i64 0, .int .i64 0, .int .i64 0, .int .i64 0, .int .i64 0, .int .i64 0, .slice none 0 0], .int .i64 2]) (by simp [results, Try.results11, go_sem, d0, d1, d2, d3, d4, d5, d6]) rfl ?_
                  rw [HLQ.out]
                  refine HP.out _ 2 HT2.out (by decide) ?_
                  repeat refine Below.setCell ?_ (by simp) _
                  exact HWW.out _ HB4.out
                | false =>
                  rcases Nat.eq_zero_or_pos q with hq0 | hq0
                  · subst hq0
                    have HCH1 : Hid (Chn l 1) := ⟨fun j hj => (by have e : j = 0 := (by omega); rw [e]; exact HMM2.out), fun j hj => absurd hj (by omega)⟩
                    have hz0 : (((0 : Nat) : Int) == 0) = true := by simp
                    rw [add_zero_] at s0 s1 s2 s3 s4 s5 s6
                    go_wp2_with (go_at_call 34; (with_reducible refine (HMA.out _).mono ?_); rintro e w4 ⟨rfl, hb4⟩; have HB4 := Lib.hid (HB5.out.trans (hb4.mono HB5.out.size)); have HMG4 := Lib.hid (HMG5.out.below_ hb4); have HN4 := Lib.hid ((hb4.block wr3.heap.size (by simp)).trans HN9.out); obtain ⟨⟨y0, y1, y2, y3, y4, y5, y6⟩, _⟩ := sevenR HN4.out; obtain ⟨⟨c0, c1, c2, c3, c4, c5, c6⟩, _, _, _, _, _, _, fx6⟩ := sevenR HMG4.out.x; clear hb4)
                    go_roundw
                    case rel => exact ⟨1, _, by omega, by go_num, HCH1, HMG4⟩
                    case measure => simp [intOf]; omega
                  · obtain ⟨q, rfl⟩ : ∃ q', q = q' + 1 := ⟨q - 1, by omega⟩
                    have hz0 : (((q + 1 : Nat) : Int) == 0) = false := by rw [beq_eq_false_iff_ne]; omega
                    have hz1 : ((q : Int) + 1 == 0) = false := by rw [beq_eq_false_iff_ne]; omega
                    have hmx : max (q + 1) 1 = q + 1 := by omega
                    rw [hmx] at HMG HMG5
                    have hcl := HCL.out (q + 1) (by omega)
                    have HFA := Lib.hid (fol_all l HVA.out q (by rw [HLL.out]; exact hlt) HCH.out)
                    rw [HX0.out, HGB.out] at HFA
                    have HCT2 := Lib.hid (HCT.out (q + 1) (by rw [HLL.out]; exact hlt))
                    rw [HGB.out] at HCT2
                    have HNOC := Lib.hid (fun h => HCN.out q (by rw [HLL.out]; exact hlt) h)
                    simp only at HFA HCT2
                    have hvq := HVA.out (q + 1) (by rw [HLL.out]; exact hlt)
                    have hFq := (fine_iff _).1 hvq
                    have hlong := fine_long hFq HMM2.out
                    rw [HGB.out] at hFq hlong
                    obtain ⟨q9, hq9, _⟩ := HRX.out.row (k := 0) hlong
                    subst hq9
                    have hfl := hFq.len
                    have hfp := hFq.p1
                    have hfb1 := hFq.b1
                    have hfb2 := hFq.b2
                    have hfs1 := hFq.s1
                    have hfs2 := hFq.s2
                    simp only at hfp hfb1 hfb2 hfs1 hfs2 hfl
                    clear hvq hFq hlong HRX hmx
                    generalize catL (l.take (q + 1)) = acc at *
                    go_upto_region 19 with (go_at_call 34; (with_reducible refine (HMA.out _).mono ?_); rintro e w4 ⟨rfl, hb4⟩; have HB4 := Lib.hid (HB5.out.trans (hb4.mono HB5.out.size)); have HMG4 := Lib.hid (HMG5.out.below_ hb4); have HN4 := Lib.hid ((hb4.block wr3.heap.size (by simp)).trans HN9.out); obtain ⟨⟨y0, y1, y2, y3, y4, y5, y6⟩, _⟩ := sevenR HN4.out; obtain ⟨⟨c0, c1, c2, c3, c4, c5, c6⟩, _, _, _, _, _, _, fx6⟩ := sevenR HMG4.out.x; clear hb4)
                    go_cut [107] (fun s107 wx => ∃ fb : Bool, s107 = .bool fb ∧ Hid (fb = false ↔ (bk = xk ∧ bp = xp ∧ be = xe ∧ bt = xt ∧ bb = xb + (acc.length : Int) ∧ (0 < bp → bs = xs + (acc.length : Int)))) ∧ wx = w4)
                    case first =>
                      by_cases k0 : bk = xk
                      rotate_left
                      · have e0 : (bk != xk) = true := by simp [k0]
                        have HK : Hid (¬ (bk = xk)) := k0
                        clear k0
                        go_wp2_with fail
                        go_meet
                        exact ⟨true, rfl, ⟨fun h => (by cases h), fun h => absurd h.1 HK.out⟩, rfl⟩
                      have e0 : (bk != xk) = false := by simp [k0]
                      have HK0 : Hid (bk = xk) := k0
                      clear k0
                      by_cases k1 : bp = xp
                      rotate_left
                      · have e1 : (bp != xp) = true := by simp [k1]
                        have HK : Hid (¬ (bp = xp)) := k1
                        clear k1
                        go_wp2_with fail
                        go_meet
                        exact ⟨true, rfl, ⟨fun h => (by cases h), fun h => absurd h.2.1 HK.out⟩, rfl⟩
                      have e1 : (bp != xp) = false := by simp [k1]
                      have HK1 : Hid (bp = xp) := k1
                      clear k1
                      by_cases k2 : be = xe
                      rotate_left
                      · have e2 : (be != xe) = true := by simp [k2]
                        have HK : Hid (¬ (be = xe)) := k2
                        clear k2
                        go_wp2_with fail
                        go_meet
                        exact ⟨true, rfl, ⟨fun h => (by cases h), fun h => absurd h.2.2.1 HK.out⟩, rfl⟩
                      have e2 : (be != xe) = false := by simp [k2]
                      have HK2 : Hid (be = xe) := k2
                      clear k2
                      by_cases k3 : bt = xt
                      rotate_left
                      · have e3 : (bt != xt) = true := by simp [k3]
                        have HK : Hid (¬ (bt = xt)) := k3
                        clear k3
                        go_wp2_with fail
                        go_meet
                        exact ⟨true, rfl, ⟨fun h => (by cases h), fun h => absurd h.2.2.2.1 HK.out⟩, rfl⟩
                      have e3 : (bt != xt) = false := by simp [k3]
                      have HK3 : Hid (bt = xt) := k3
                      clear k3
                      by_cases k4 : bb = xb + (acc.length : Int)
                      rotate_left
                      · have e4 : (bb != xb + (acc.length : Int)) = true := by simp [k4]
                        have HK : Hid (¬ (bb = xb + (acc.length : Int))) := k4
                        clear k4
                        go_wp2_with fail
                        go_meet
                        exact ⟨true, rfl, ⟨fun h => (by cases h), fun h => absurd h.2.2.2.2.1 HK.out⟩, rfl⟩
                      have e4 : (bb != xb + (acc.length : Int)) = false := by simp [k4]
                      have HK4 : Hid (bb = xb + (acc.length : Int)) := k4
                      clear k4
                      by_cases h6 : 0 < bp
                      · have e6 : decide (0 < bp) = true := by simpa using h6
                        by_cases h7 : bs = xs + (acc.length : Int)
                        · have e7 : (bs != xs + (acc.length : Int)) = false := by simp [h7]
                          have H7 : Hid (bs = xs + (acc.length : Int)) := h7
                          clear h7
                          go_wp2_with fail
                          go_meet
                          exact ⟨false, rfl, ⟨fun _ => ⟨HK0.out, HK1.out, HK2.out, HK3.out, HK4.out, fun _ => H7.out⟩, fun _ => rfl⟩, rfl⟩
                        · have e7 : (bs != xs + (acc.length : Int)) = true := by simp [h7]
                          have H7 : Hid (¬ bs = xs + (acc.length : Int)) := h7
                          clear h7
                          go_wp2_with fail
                          go_meet
                          exact ⟨true, rfl, ⟨fun h => (by cases h), fun h => absurd (h.2.2.2.2.2 h6) H7.out⟩, rfl⟩
                      · have e6 : decide (0 < bp) = false := by simp; omega
                        go_wp2_with fail
                        go_meet
                        exact ⟨false, rfl, ⟨fun _ => ⟨HK0.out, HK1.out, HK2.out, HK3.out, HK4.out, fun h => absurd h (by omega)⟩, fun _ => rfl⟩, rfl⟩
                    case rest =>
                      obtain ⟨fb, rfl, HFB, hwc⟩ := hcut
                      have hwc := hwc.symm
                      subst hwc
                      cases fb with
                      | true =>
                        have hff : folB (l.getD q zB) (l.getD (q + 1) zB) = false := by
                          cases hx : folB (l.getD q zB) (l.getD (q + 1) zB) with
                          | false => rfl
                          | true => have := HFB.out.2 (HFA.out.1 (by rw [HGB.out] at hx; exact hx)); cases this
                        have HT2 := Lib.hid (HTWO.out (HNOC.out hff))
                        clear hff
                        obtain ⟨⟨d0, d1, d2, d3, d4, d5, d6⟩, ⟨f0, f1, f2, f3, f4, f5, f6⟩⟩ := sevenR (HKK.out w4 HB4.out)
                        go_wp2_with fail
                        refine bodyPost_ret (v := .tuple #[.agg #[.int .i64 0, .int .i64 0, .int .i64 0, .int .i64 0, .int .i64 0, .int .i64 0, .slice none 0 0], .int .i64 2]) (by simp [results, Try.results11, go_sem, d0, d1, d2, d3, d4, d5, d6]) rfl ?_
                        rw [HLQ.out]
                        refine HP.out _ 2 HT2.out (by decide) ?_
                        repeat refine Below.setCell ?_ (by simp) _
                        exact HWW.out _ HB4.out
                      | false =>
                        have hft : folB (l.getD q zB) (l.getD (q + 1) zB) = true := by rw [HGB.out]; exact HFA.out.2 (HFB.out.1 rfl)
                        have HCH2 : Hid (Chn l (q + 1 + 1)) := by
                          refine ⟨fun j hj => ?_, fun j hj => ?_⟩
                          · rcases Nat.lt_or_ge j (q + 1) with h | h
                            · exact HCH.out.mark j h
                            · rw [show j = q + 1 by omega]; exact HMM2.out
                          · rcases Nat.lt_or_ge (j + 1) (q + 1) with h | h
                            · exact HCH.out.fol j h
                            · rw [show j = q by omega]; exact hft
                        have hown := HMG4.out.own
                        have hcs : ∀ j u, (rcells bL)[j]? = some u → w4.cell? (q9.add j) = some u := fun j u hj => by
                          obtain ⟨p', e, _, hc⟩ := (HRXA.out w4 HB4.out).lies.get j u hj
                          injection e with e
                          subst e
                          exact hc
                        have HGL : Hid (g7 < w4.heap.size) := (Array.getElem?_eq_some_iff.1 HMG4.out.x).1
                        have hbz : wq.heap.size ≤ w4.heap.size := HB4.out.size
                        clear hft HFB HFA
                        go_wp2_with (at_builtin; refine wpList_append_own_at _ rfl (.tmp 110) (.tmp 112) 24 rfl wq.heap.size 46 j0 _ 4 48 Try.underlying24 qj0 qy0 qy1 qy2 rfl (by decide) _ acc.length (rcells acc) rfl hown q9 bL.length bc (rcells bL) rfl (rcells_length bL) hcs (rcells_one bL) ?g2 ?g3 ?g4 ?_)
                        all_goals first | (unfold maxLen; omega) | omega | skip
                        intro v' w6 ho6 hg6 _ hat6
                        obtain ⟨Ax, cx, rfl, _, _⟩ := row_shape ho6
                        have z6 := (hg6.cell_far ⟨g7, 6, none⟩ HGL.out (fun e => HMG4.out.ne e.symm)).trans c6
                        have fz6 := (hg6.frozen_far ⟨g7, 6, none⟩ HGL.out (fun e => HMG4.out.ne e.symm)).trans fx6
                        have HST := Lib.hid (HMG4.out.step (N := bL) (v' := .slice Ax (acc.length + bL.length) cx) (fun _ _ => rfl) ho6 hg6 hat6)
                        clear ho6 hg6 hat6 hown hcs c0 c1 c2 c3 c4 c5 c6 fx6 y0 y1 y2 y3 y4 y5 y6
                        go_wp2_with fail
                        go_roundw
                        case rel => exact ⟨q + 1 + 1, .slice Ax (acc.length + bL.length) cx, by omega, by go_num, HCH2, by rw [show max (q + 1 + 1) 1 = q + 1 + 1 by omega, HCT2.out]; exact HST⟩
                        case measure => simp [intOf]; omega
              · have hqe : q = k := by omega
                subst hqe
                have d8 : decide ((q : Int) < (q : Int)) = false := by simp
                have d9 : decide (q < q) = false := by simp
                have hch := HCY.out (fun t ht => HCH.out.fol t (by rw [HLL.out] at ht; omega))
                have htk : l.take (max q 1) = l := List.take_of_length_le (by rw [HLL.out]; omega)
                rw [htk] at HMG
                have HGW := Lib.hid (HWW.out _ HMG.out.below)
                have hme0 : mergeE l = if 64 < (catL l).length then 7 else 0 := by rw [HME.out, if_neg (by rw [HLL.out]; omega), if_neg (by rw [HBZ.out]; simp), if_neg (by rw [hch]; simp)]
                have HMB : Hid (mergeB l = if mergeE l = 0 then { (l.getD 0 zB) with L := catL l } else zB) := rfl
                have hcl := HCL.out q (Nat.le_refl _)
                rw [List.take_of_length_le (by rw [HLL.out]; exact Nat.le_refl _)] at hcl
                obtain ⟨⟨d0, d1, d2, d3, d4, d5, d6⟩, ⟨g0, g1, g2, g3, g4, g5, g6⟩⟩ := sevenR (HKK.out wr3 HMG.out.below)
                have hwq : w.heap.size < wq.heap.size := (Array.getElem?_eq_some_iff.1 (HKK.out wq (Below.refl _ _))).1
                have HN9 : Hid ((Value.slice A7 (catL l).length c7).ownBlock ≠ some w.heap.size) := fun e => by have := (World.ownsRow.lt HMG.out.own _ e).1; omega
                obtain ⟨⟨x0, x1, x2, x3, x4, x5, x6⟩, _⟩ := sevenR HMG.out.x
                have HOWN := Lib.hid HMG.out.own
                generalize hcn : (catL l).length = cn at *
                have HCN2 := Lib.hid hcn
                by_cases h64 : 64 < cn
                · have dd : decide ((64 : Int) < (cn : Int)) = true := decide_eq_true (by omega)
                  have HM3 : Hid (mergeE l = 7) := by show _ = _; rw [hme0, if_pos h64]
                  clear hme0 hcn htk hch h64
                  go_wp2_with fail
                  refine bodyPost_ret (v := .tuple #[.agg #[.int .i64 0, .int .i64 0, .int .i64 0, .int .i64 0, .int .i64 0, .int .i64 0, .slice none 0 0], .int .i64 7]) (by simp [results, Try.results11, go_sem, d0, d1, d2, d3, d4, d5, d6]) rfl ?_
                  rw [HLQ.out]
                  refine HP.out _ 7 HM3.out (by decide) ?_
                  repeat refine Below.setCell ?_ (by simp) _
                  exact HGW.out
                · have dd : decide ((64 : Int) < (cn : Int)) = false := decide_eq_false (by omega)
                  have HM3 : Hid (mergeE l = 0) := by show _ = _; rw [hme0, if_neg h64]
                  have HMV : Hid (mergeB l = ⟨xb, xp, xe, xs, xk, xt, catL l⟩) := by show _ = _; rw [HMB.out, if_pos HM3.out, HX0.out]
                  clear hme0 hcn htk hch h64
                  go_wp2_with fail
                  refine bodyPost_ret (v := .tuple #[.agg #[.int .i64 xb, .int .i64 xp, .int .i64 xe, .int .i64 xs, .int .i64 xk, .int .i64 xt, .slice A7 cn c7], .int .i64 0]) (by simp [results, Try.results11, go_sem, d0, d1, d2, d3, d4, d5, d6]) rfl ?_
                  rw [HLQ.out]
                  refine ⟨A7, c7, by rw [HMV.out, HM3.out, ← HCN2.out]; rfl, ?_, ?_⟩
                  · rw [HMV.out]
                    show Rcs _ _ A7 (catL l).length (catL l)
                    refine Rcs.of_row (base := wq.heap.size) (c := c7) ?_ rfl HOKA.out
                    rw [HCN2.out]
                    repeat refine row_set ?_ HN9.out
                    exact HOWN.out
                  · repeat refine Below.setCell ?_ (by simp) _
                    exact HGW.out
end Go.Proofs.Ytapnhhoegoakiaa
