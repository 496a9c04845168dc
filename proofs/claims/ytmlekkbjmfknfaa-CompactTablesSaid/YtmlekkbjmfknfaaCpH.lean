/-
  What a table's apply does.
-/
import Derived.Test.YtmlekkbjmfknfaaCpG
namespace Go.Proofs.Ytmlekkbjmfknfaa
open Go.RowKit Go.Lib
set_option linter.unusedVariables false
set_option linter.unusedSimpArgs false

def appP (base g : Nat) (next : Int) (L' : List AtC) (w : World) (e : Ending) (w' : World) : Prop := ∃ v', e = .returned (.tuple #[]) ∧ Tbl w' base g next v' L' ∧ Tw base g w w'
theorem Tbl.put {w w2 : World} {base g : Nat} {next : Int} {v v2 : Value} {L L' : List AtC} (h : Tbl w base g next v L) (hg2 : w.grownBy w2 v.ownBlock) (hr : w2.ownsRow base 81 5 v2 L'.length (ccells L')) (ho : v2.ownBlock = v.ownBlock ∨ v2.ownBlock = some w.heap.size)
    (hs : Srt L') (hok : ∀ r ∈ L', r.ok) (hb : base ≤ w.heap.size) : Tbl (w2.setCell ⟨g, 1, none⟩ v2) base g next v2 L' ∧ Tw base g w (w2.setCell ⟨g, 1, none⟩ v2) := by
  have hbx : w2.heap[g]? = some (.cells #[.int .i64 next, v] 70 (0, 0)) := (hg2.block g h.lt (fun e => h.far e.symm)).trans h.box
  have hfar : v2.ownBlock ≠ some g := by
    rcases ho with e | e
    · rw [e]; exact h.far
    · rw [e]; intro e2; injection e2 with e2; have := h.lt; omega
  refine ⟨⟨set2b v2 hbx, row_set5 hr hfar, hfar, hs, hok⟩, (Tw.of_grown hg2 hb fun k hk => .inl (h.row.lt k hk).1).trans (Tw.set _ _ _)⟩

theorem Tbl.drew_ {w : World} {base g : Nat} {next : Int} {v : Value} {L : List AtC} (h : Tbl w base g next v L) : Tbl w.drew base g next v L := ⟨h.box, h.row, h.far, h.srt, h.ok⟩
theorem Tbl.drewN_ {w : World} {base g : Nat} {next : Int} {v : Value} {L : List AtC} (h : Tbl w base g next v L) (k : Nat) : Tbl (w.drewN k) base g next v L := ⟨h.box, h.row, h.far, h.srt, h.ok⟩
theorem Tw.drew_ {base g : Nat} {w w' : World} (h : Tw base g w w') : Tw base g w w'.drew := ⟨h.os, h.tape, h.output, h.size, h.block⟩
theorem Tw.drewN_ {base g : Nat} {w w' : World} (h : Tw base g w w') (k : Nat) : Tw base g w (w'.drewN k) := ⟨h.os, h.tape, h.output, h.size, h.block⟩

set_option maxRecDepth 100000 in
set_option maxHeartbeats 2000000 in
theorem apply_any (base g : Nat) (next : Int) (v : Value) (L : List AtC) (a : AtC) (w : World) (hT : Tbl w base g next v L) (hb : base ≤ w.heap.size) (hm : L.length ≤ 100000) (ha : a.ok) :
    Calls Try.prog 79 #[.pointer (some ⟨g, 0, none⟩), .agg a.cells.toArray] w fun e w' => appP base g next (applyL a L) w e w' := by
  obtain ⟨W0, hW0⟩ : ∃ W0, w.alloc (.cells a.cells.toArray 81) = W0 := ⟨_, rfl⟩
  have hB0 : Below w.heap.size w W0 := by rw [← hW0]; exact (Below.refl _ _).alloc (Nat.le_refl _) _
  have hN0 : W0.heap[w.heap.size]? = some (.cells a.cells.toArray 81 (0, 0)) := by rw [← hW0]; exact heap_alloc_new w _
  have hT0 := hT.below hB0
  have HF := Lib.hid (find_any base g a.key next v L W0 hT0 (by omega))
  have HT0 := Lib.hid hT0
  have HN0 := Lib.hid hN0
  have HB0 := Lib.hid hB0
  have hz0 : w.heap.size < W0.heap.size := (Array.getElem?_eq_some_iff.1 hN0).1
  have HW0 := Lib.hid hW0
  have HAL : Hid (a.cells.toArray = #[.int .i64 a.off, .string a.key, .string a.value, .bool a.gone, .int .i64 a.time]) := rfl
  have n1 : W0.cell? ⟨w.heap.size, 1, none⟩ = some (.string a.key) := cell_of_row _ _ 1 _ _ _ hN0
  have HA : Hid a.ok := ha
  clear hT hT0 hB0 hW0 hN0
  obtain ⟨X, hX⟩ : ∃ X : Ending → World → Prop, (fun e w' => appP base g next (applyL a L) w e w') = X := ⟨_, rfl⟩
  have HX : Hid (∀ e w', appP base g next (applyL a L) w e w' → X e w') := fun e w' h => by rw [← hX]; exact h
  rw [hX]
  clear hX
  rw [HAL.out] at HW0 ⊢
  have mixed : Try.prog.follows Departure.mixedOrders = true := by kernel_rfl
  go_enter Try.func79, Try.ntmps79
  go_upto_region 1 with fail
  rw [HW0.out]
  go_upto_region 3 with (go_at_call 81; refine HF.out.mono ?_; rintro e w1 ⟨r, rfl, hp, hb1⟩)
  have HP := Lib.hid hp
  have HT1 := Lib.hid (HT0.out.below hb1)
  have HN1 := Lib.hid ((hb1.block w.heap.size hz0).trans HN0.out)
  have HB1 := Lib.hid (HB0.out.trans (hb1.mono HB0.out.size))
  have n2 : w1.cell? ⟨w.heap.size, 3, none⟩ = some (.bool a.gone) := cell_of_row _ _ 3 _ _ _ HN1.out
  have c1 := HT1.out.c1
  have f1 := frozen_of_row _ g 1 _ _ HT1.out.box
  have hgl := HT1.out.lt
  have hb1z := HB1.out.size
  have hrn : r ≤ 100000 := by have := hp.1; omega
  have hw1 : IntKind.i64.wrap ((r : Int) + 1) = (r : Int) + 1 := by rw [IntKind.wrap_i64]; omega
  clear hp hb1 HF HT0 HN0 HB0 n1 HW0
  obtain ⟨th, hth⟩ : ∃ th, thereB L a.key r = th := ⟨_, rfl⟩
  obtain ⟨gn, hgn⟩ : ∃ gn, a.gone = gn := ⟨_, rfl⟩
  have HTH := Lib.hid hth
  have HGN := Lib.hid hgn
  rw [hth]
  rw [hgn] at n2 ⊢
  clear hth hgn
  cases gn with
  | true =>
    cases th with
    | true =>
      have HE := Lib.hid (apply_del HP.out HT1.out.srt HGN.out HTH.out)
      have HD := Lib.hid (delete_any base r v L w1 HT1.out.row (there_lt HTH.out))
      have HFR := Lib.hid HT1.out.far
      have HEN : Hid (∀ v2 w2, w2.ownsRow base 81 5 v2 (L.length - 1) (ccells (L.take r ++ L.drop (r + 1))) → v2.ownBlock = v.ownBlock → w1.grownBy w2 v.ownBlock → X (.returned (.tuple #[])) (w2.setCell ⟨g, 1, none⟩ v2)) := fun v2 w2 h1 h2 h3 => by
        have := HT1.out.put h3 (L' := L.take r ++ L.drop (r + 1)) (by rwa [show (L.take r ++ L.drop (r + 1)).length = L.length - 1 by have := there_lt HTH.out; simp; omega]) (.inl h2) (by rw [← HE.out]; exact apply_srt HT1.out.srt) (by rw [← HE.out]; exact apply_ok HA.out HT1.out.ok) (by omega)
        refine HX.out _ _ ?_
        rw [HE.out]
        exact ⟨v2, rfl, this.1, (Tw.of_below HB1.out hb).trans this.2⟩
      clear HX HE HP HT1 HA
      go_upto_region 4 with fail
      go_wp2_with (go_at_call 91; (with_reducible refine HD.out.mono ?_); rintro e w2 ⟨v2, rfl, hown2, hob2, hg2⟩; obtain ⟨A2, k2, rfl, _, _⟩ := row_any hown2; have c2 := (World.cell?_of_block (a := ⟨g, 1, none⟩) (hg2.block g hgl (fun e => HFR.out e.symm))).trans c1; have f2 := (World.frozen?_of_block (a := ⟨g, 1, none⟩) (hg2.block g hgl (fun e => HFR.out e.symm))).trans f1)
      go_end0
      exact HEN.out _ w2 hown2 hob2 hg2
    | false =>
      have HEN : Hid (X (.returned (.tuple #[])) w1) := by
        refine HX.out _ _ ?_
        rw [apply_none HP.out HT1.out.srt HGN.out HTH.out]
        exact ⟨v, rfl, HT1.out, Tw.of_below HB1.out hb⟩
      clear HX HP HT1 HA
      go_wp2_with fail
      go_end0
      exact HEN.out
  | false =>
    have n0 : w1.cell? ⟨w.heap.size, 0, none⟩ = some (.int .i64 a.off) := cell_of_row _ _ 0 _ _ _ HN1.out
    have n1 : w1.cell? ⟨w.heap.size, 1, none⟩ = some (.string a.key) := cell_of_row _ _ 1 _ _ _ HN1.out
    have n3 : w1.cell? ⟨w.heap.size, 2, none⟩ = some (.string a.value) := cell_of_row _ _ 2 _ _ _ HN1.out
    have n4 : w1.cell? ⟨w.heap.size, 4, none⟩ = some (.int .i64 a.time) := cell_of_row _ _ 4 _ _ _ HN1.out
    cases th with
    | true =>
      have hrl := there_lt HTH.out
      rcases HT1.out.row.2 with ⟨_, hz⟩ | ⟨b, cap, cur, rfl, hbb, hh, hnc, hmc, hsz, htk⟩
      · omega
      · have hcell : ∀ j u, ((L.getD r default).cells)[j]? = some u → j < 5 → w1.cell? ⟨b, r * 5 + j, none⟩ = some u := fun j u hu hj => by
          have := HT1.out.row.cells (g := b) rfl (r * 5 + j) u ((ccells_get L r j hrl hj).trans hu)
          rwa [add_lit5, Nat.zero_add] at this
        have k0 := hcell 0 _ rfl (by omega)
        have k1 := hcell 1 _ rfl (by omega)
        have k2 := hcell 2 _ rfl (by omega)
        have k3 := hcell 3 _ rfl (by omega)
        have k4 := hcell 4 _ rfl (by omega)
        rw [Nat.add_zero] at k0
        have q0 := frozen_of_row w1 b (r * 5) _ _ hh
        have q1 := frozen_of_row w1 b (r * 5 + 1) _ _ hh
        have q2 := frozen_of_row w1 b (r * 5 + 2) _ _ hh
        have q3 := frozen_of_row w1 b (r * 5 + 3) _ _ hh
        have q4 := frozen_of_row w1 b (r * 5 + 4) _ _ hh
        have HEN : Hid (X (.returned (.tuple #[])) (set5w w1 b (r * 5) (.int .i64 a.off) (.string a.key) (.string a.value) (.bool false) (.int .i64 a.time)).drew) := by
          refine HX.out _ _ ?_
          have e := apply_set HP.out HT1.out.srt HGN.out HTH.out
          have hrow := row_put HT1.out.row rfl hrl a
          rw [HGN.out] at hrow
          have hne : g ≠ b := fun h => HT1.out.far (by rw [h]; rfl)
          rw [e]
          have hl5 : (L.take r ++ a :: L.drop (r + 1)).length = L.length := by simp; omega
          have hT5 : Tbl (set5w w1 b (r * 5) (.int .i64 a.off) (.string a.key) (.string a.value) (.bool false) (.int .i64 a.time)) base g next (.slice (some ⟨b, 0, none⟩) L.length cap) (L.take r ++ a :: L.drop (r + 1)) := ⟨(set5w_block hne).trans HT1.out.box, by rw [hl5]; exact hrow, HT1.out.far, by rw [← e]; exact apply_srt HT1.out.srt, by rw [← e]; exact apply_ok HA.out HT1.out.ok⟩
          exact ⟨_, rfl, hT5.drew_, ((Tw.of_below HB1.out hb).trans (set5w_tw hbb)).drew_⟩
        have hrz : (r : Int) < (L.length : Int) := by omega
        clear HX HP HT1 HA hh hsz htk hcell hnc hmc HN1 HB1
        go_wp2_with fail
        go_region_law_o (fail)
        all_goals
          go_wp2_with fail
          go_end0
          exact HEN.out
    | false =>
      have hfar := HT1.out.far
      have HINS : Hid (∀ W, Below (w1.heap.size + 1) (w1.alloc (.cells #[.int .i64 a.off, .string a.key, .string a.value, .bool false, .int .i64 a.time] 81)) W → Calls Try.prog 92 #[v, .int .i64 r, .slice (some ⟨w1.heap.size, 0, none⟩) 1 1] W fun e w' => ∃ A2 k2, e = .returned (.slice A2 (L.length + 1) k2) ∧ w'.cell? ⟨g, 1, none⟩ = some v ∧ w'.frozen? ⟨g, 1, none⟩ = false ∧ X (.returned (.tuple #[])) (w'.setCell ⟨g, 1, none⟩ (.slice A2 (L.length + 1) k2))) := fun W hBW => by
        have hBa : Below w1.heap.size w1 W := ((Below.refl w1.heap.size w1).alloc (Nat.le_refl _) _).trans (hBW.mono (by omega))
        have hTa := HT1.out.below hBa
        have hNa : W.heap[w1.heap.size]? = some (.cells a.cells.toArray 81 (0, 0)) := by
          rw [hBW.block w1.heap.size (by omega), heap_alloc_new w1]; show _ = some (Obj.cells #[.int .i64 a.off, .string a.key, .string a.value, .bool a.gone, .int .i64 a.time] _ _); rw [HGN.out]
        refine (insert_any base r w1.heap.size v L a _ hTa.row (by have := hBa.size; omega) HP.out.1 (by omega) hNa (fun e => by have := (HT1.out.row.lt _ e).2; omega)).mono ?_
        rintro e w' ⟨v2, rfl, hown2, hob2, hg2⟩
        obtain ⟨A2, k2, rfl, _, _⟩ := row_any hown2
        have e := apply_ins HP.out HT1.out.srt HGN.out HTH.out
        have hgb := hg2.block g hTa.lt (fun e => hfar e.symm)
        have hput := hTa.put hg2 (L' := L.take r ++ a :: L.drop r) (by rwa [show (L.take r ++ a :: L.drop r).length = L.length + 1 by have := HP.out.1; simp; omega]) hob2 (by rw [← e]; exact apply_srt HT1.out.srt) (by rw [← e]; exact apply_ok HA.out HT1.out.ok) (by have := hBa.size; omega)
        refine ⟨A2, k2, rfl, (World.cell?_of_block (a := ⟨g, 1, none⟩) hgb).trans hTa.c1, (World.frozen?_of_block (a := ⟨g, 1, none⟩) hgb).trans (frozen_of_row _ g 1 _ _ hTa.box), HX.out _ _ ?_⟩
        rw [e]
        have t := (Tw.of_below (g := g) HB1.out hb).trans ((Tw.of_below hBa (by omega)).trans hput.2)
        exact ⟨_, rfl, hput.1, t⟩
      obtain ⟨A1, k1, rfl, _, _⟩ := row_any HT1.out.row
      clear HX HP HT1 HA HN1 HB1 hfar
      go_wp2_with fail
      go_region_with (go_at_call 92; (with_reducible refine Calls.mono (HINS.out _ ?_) ?_); (exact ⟨rfl, rfl, rfl, Nat.le_refl _, fun _ _ => rfl⟩); rintro e w2 ⟨A2, k2, rfl, c2, f2, HXX⟩; have HXH := Lib.hid HXX; clear HXX)
      all_goals
        go_wp2_with fail
        go_end0
        exact HXH.out
end Go.Proofs.Ytmlekkbjmfknfaa
