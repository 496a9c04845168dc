/-
  What compact.batch does.
-/
import Derived.Test.YtkdpfajoeajenaaPkA
import Derived.Test.YtkdpfajoeajenaaRecTw
import Derived.Test.YtkdpfajoeajenaaCpO
import Derived.RegionTactic
namespace Go.Proofs.Ytkdpfajoeajenaa
open Go.RowKit Go.Lib
set_option linter.unusedVariables false
set_option linter.unusedSimpArgs false

structure Pk (w wx : World) (g : Nat) (ro : Obj) (xc : Value → Array Value) (v : Value) (M : List Rec) : Prop where
  res : wx.heap[w.heap.size]? = some ro
  x : wx.heap[g]? = some (.cells (xc v) 24 (0, 0))
  own : wx.ownsRow (g + 1) 38 4 v M.length (rcells M)
  lo : w.heap.size < g
  below : Below w.heap.size w wx
section
variable {w wx wa w1 : World} {g : Nat} {ro : Obj} {xc : Value → Array Value} {v v' : Value} {n : Nat} {M : List Rec}
theorem Pk.below_ (h : Pk w wx g ro xc v M) (hb : Below wx.heap.size wx wa) : Pk w wa g ro xc v M := by
  have l2 := (Array.getElem?_eq_some_iff.1 h.res).1
  have l3 := (Array.getElem?_eq_some_iff.1 h.x).1
  exact ⟨(hb.block _ l2).trans h.res, (hb.block _ l3).trans h.x, rowb5 h.own hb, h.lo, h.below.trans (hb.mono h.below.size)⟩
/-- behind the append of a record -/
theorem Pk.step {r : Rec} (h : Pk w wa g ro xc v M) (hx : ∀ a u, (xc a).setIfInBounds 6 u = xc u) (ho : w1.ownsRow (g + 1) 38 4 v' (M.length + 1) (rcells M ++ r.cells)) (hg : wa.grownBy w1 v.ownBlock) (hat : v'.ownBlock = v.ownBlock ∨ v'.ownBlock = some wa.heap.size) :
    Pk w (w1.setCell ⟨g, 6, none⟩ v') g ro xc v' (M ++ [r]) := by
  have l2 := (Array.getElem?_eq_some_iff.1 h.res).1
  have l3 := (Array.getElem?_eq_some_iff.1 h.x).1
  have hv := World.ownsRow.lt h.own
  have hlo := h.lo
  have nb : ∀ k, k ≤ g → some k ≠ v.ownBlock := fun k hk e => by have := (hv k e.symm).1; omega
  have s2 := hg.block _ l2 (nb _ (by omega))
  have s3 := hg.block _ l3 (nb _ (by omega))
  have hn : v'.ownBlock ≠ some g := by
    rcases hat with e | e
    · rw [e]; exact fun e2 => nb _ (Nat.le_refl _) e2.symm
    · rw [e]; intro e2; injection e2 with e2; omega
  refine ⟨(Below.heap_setCell w1 _ v' _ (by simp <;> omega)).trans (s2.trans h.res), ?_, ?_, hlo, ?_⟩
  · rw [heap_setCell_same w1 _ 6 _ _ v' (s3.trans h.x), hx]
  · refine row_set5 ?_ hn
    rw [rcells_append, List.length_append]
    simpa [rcells] using ho
  · refine ((h.below.trans ⟨hg.os, hg.tape, hg.output, hg.size, fun i hi => hg.block i (by have := h.below.size; omega) (fun e => by have := (hv i e.symm).1; omega)⟩)).setCell (by show w.heap.size ≤ g; omega) v'
end
theorem map_take_r (L : List AtC) (k : Nat) (h : k < L.length) : (L.take (k + 1)).map AtC.r = (L.take k).map AtC.r ++ [(L.getD k default).r] := by
  rw [List.take_succ_eq_append_getElem h, List.map_append, List.getD_eq_getElem?_getD, List.getElem?_eq_getElem h]
  rfl
set_option maxRecDepth 100000 in
set_option maxHeartbeats 8000000 in
theorem batch_any (A : Option Addr) (n c : Nat) (L : List AtC) (w : World) (h : Acs w w.heap.size A n L) (hn : n ≤ 64) (h0 : 0 < n) :
    Calls Try.prog 46 #[.slice A n c] w fun e w' => ∃ A' c', e = .returned (.agg ((batchOf L).cells A' c')) ∧ w'.ownsRow w.heap.size 38 4 (.slice A' n c') n (rcells (batchOf L).L) ∧ (∀ p, A' = some p → w.heap.size ≤ p.block) ∧ Below w.heap.size w w' := by
  obtain ⟨j0, qj0, qy0, qy1, qy2⟩ := info_parts zero_rec
  have HL := Lib.hid h
  have hlen := h.len
  obtain ⟨p, rfl, hp, r0, r1, r2, r3, r4⟩ := h.row h0
  rw [Nat.zero_mul, show p.add 0 = p from by simp [Addr.add]] at r0 r1 r2 r3 r4
  have hbl : (batchOf L).L.length = n := by show (L.map AtC.r).length = n; rw [List.length_map, hlen]
  have HBC : Hid (∀ A' c', (batchOf L).cells A' c' = #[.int .i64 (L.getD 0 default).off, .int .i64 0, .int .i64 0, .int .i64 0, .int .i64 0, .int .i64 (L.getD 0 default).time, .slice A' n c']) := fun A' c' => by show _ = _; unfold Bat.cells; rw [hbl]; rfl
  have HBL : Hid ((batchOf L).L = L.map AtC.r) := rfl
  generalize batchOf L = BO at *
  generalize (L.getD 0 default).off = o0 at *
  generalize (L.getD 0 default).time = t0 at *
  have hal0 := (Below.refl w.heap.size w).alloc (Nat.le_refl _) (.cells #[.int .i64 0, .int .i64 0, .int .i64 0, .int .i64 0, .int .i64 0, .int .i64 0, .slice none 0 0] 24)
  have hN0 := heap_alloc_new w (.cells #[.int .i64 0, .int .i64 0, .int .i64 0, .int .i64 0, .int .i64 0, .int .i64 0, .slice none 0 0] 24)
  have hz0 : (w.alloc (.cells #[.int .i64 0, .int .i64 0, .int .i64 0, .int .i64 0, .int .i64 0, .int .i64 0, .slice none 0 0] 24)).heap.size = w.heap.size + 1 := by simp
  have s0 := (hal0.cell (p := p) hp).trans r0
  have s4 : _ = _ := (hal0.cell (p := ⟨p.block, p.off + 1 + 3, none⟩) hp).trans r4
  obtain ⟨W0, hW0⟩ : ∃ W0, w.alloc (.cells #[.int .i64 0, .int .i64 0, .int .i64 0, .int .i64 0, .int .i64 0, .int .i64 0, .slice none 0 0] 24) = W0 := ⟨_, rfl⟩
  rw [hW0] at hal0 hN0 hz0 s0 s4
  have HW0 := Lib.hid hW0
  have HAL := Lib.hid hal0
  have HN0 := Lib.hid hN0
  have HZ0 := Lib.hid hz0
  clear hW0 hal0 hN0 hz0 h r0 r1 r2 r3 r4 hbl
  have hpz : p.block < W0.heap.size := by have := HZ0.out; omega
  have q0 : ∀ o, (W0.alloc o).cell? p = some (.int .i64 o0) := fun o => (World.cell?_alloc_lt _ _ _ hpz).trans s0
  have q4 : ∀ o, (W0.alloc o).cell? ⟨p.block, p.off + 1 + 3, none⟩ = some (.int .i64 t0) := fun o => (World.cell?_alloc_lt _ _ ⟨p.block, p.off + 1 + 3, none⟩ hpz).trans s4
  have h0z : (0 : Int) < (n : Int) := by omega
  go_enter Try.func46, Try.ntmps46
  go_upto_region 1 with fail
  rw [HW0.out]
  go_region
  clear s0 s4 q0 q4
  have HP0 : Hid (Pk w (W0.alloc (.cells #[.int .i64 o0, .int .i64 0, .int .i64 0, .int .i64 0, .int .i64 0, .int .i64 t0, .slice none 0 0] 24)).drew W0.heap.size (.cells #[.int .i64 0, .int .i64 0, .int .i64 0, .int .i64 0, .int .i64 0, .int .i64 0, .slice none 0 0] 24 (0, 0)) (fun u => #[.int .i64 o0, .int .i64 0, .int .i64 0, .int .i64 0, .int .i64 0, .int .i64 t0, u]) (.slice none 0 0) []) := by
    have hal := ((Below.refl W0.heap.size W0).alloc (Nat.le_refl _) (.cells #[.int .i64 o0, .int .i64 0, .int .i64 0, .int .i64 0, .int .i64 0, .int .i64 t0, .slice none 0 0] 24)).drew
    have hz := HZ0.out
    exact ⟨(hal.block _ (by omega)).trans HN0.out, heap_alloc_new W0 _, World.ownsRow_nil _ _ _ _, by omega, HAL.out.trans (hal.mono (by omega))⟩
  generalize (W0.alloc (.cells #[.int .i64 o0, .int .i64 0, .int .i64 0, .int .i64 0, .int .i64 0, .int .i64 t0, .slice none 0 0] 24)).drew = W1 at *
  generalize W0.heap.size = g at *
  clear HZ0 HN0 HAL HW0
  go_wp2_with fail
  go_loopw [18] (fun kv wx => ∃ k : Nat, k ≤ n ∧ kv = .int .i64 k ∧ ∃ v, Hid (Pk w wx g (.cells #[.int .i64 0, .int .i64 0, .int .i64 0, .int .i64 0, .int .i64 0, .int .i64 0, .slice none 0 0] 24 (0, 0)) (fun u => #[.int .i64 o0, .int .i64 0, .int .i64 0, .int .i64 0, .int .i64 0, .int .i64 t0, u]) v ((L.take k).map AtC.r))) (fun kv _ => n - (RowKit.intOf kv).toNat)
  case atStart => exact ⟨0, by omega, rfl, .slice none 0 0, HP0⟩
  case round =>
    obtain ⟨k, hk, rfl, v, HP⟩ := hrel
    by_cases hlt : k < n
    · obtain ⟨p', hpp, hpb, r0, r1, r2, r3, r4⟩ := (HL.out.below HP.out.below).row hlt
      injection hpp with hpp
      subst hpp
      have HTS := Lib.hid (map_take_r L k (by rw [hlen]; exact hlt))
      have HML : Hid (((L.take k).map AtC.r).length = k) := by show _ = _; rw [List.length_map, List.length_take]; omega
      generalize (L.take k).map AtC.r = M at *
      generalize L.getD k default = re at *
      obtain ⟨off, key, value, gone, time⟩ := re
      simp only at r0 r1 r2 r3 r4
      have hkz : (k : Int) < (n : Int) := by omega
      have hal := (Below.refl wr.heap.size wr).alloc (Nat.le_refl _) (.cells #[.int .i64 off, .string key, .string value, .bool gone, .int .i64 time] 40)
      have hN5 := heap_alloc_new wr (.cells #[.int .i64 off, .string key, .string value, .bool gone, .int .i64 time] 40)
      obtain ⟨w5, hw5⟩ : ∃ w5, wr.alloc (.cells #[.int .i64 off, .string key, .string value, .bool gone, .int .i64 time] 40) = w5 := ⟨_, rfl⟩
      rw [hw5] at hal hN5
      have HW5 := Lib.hid hw5
      have HP5 := Lib.hid (HP.out.below_ hal)
      clear hw5 hal
      go_upto_region 5 with fail
      rw [HW5.out]
      have n1 := cell_of_row _ _ 1 _ _ _ hN5
      have n2 := cell_of_row _ _ 2 _ _ _ hN5
      have n3 := cell_of_row _ _ 3 _ _ _ hN5
      have n4 := cell_of_row _ _ 4 _ _ _ hN5
      have x6 := cell_of_row _ _ 6 _ _ _ HP5.out.x
      have hgl : g < w5.heap.size := (Array.getElem?_eq_some_iff.1 HP5.out.x).1
      have HP6 := Lib.hid (HP5.out.below_ ((Below.refl w5.heap.size w5).alloc (Nat.le_refl _) (.cells #[.string key, .string value, .bool gone, .int .i64 time] 38)))
      have hown8 := HP6.out.own
      have hMn : M.length ≤ 64 := by have := HML.out; omega
      have HGL := Lib.hid hgl
      clear r0 r1 r2 r3 r4 hN5
      go_wp2_with (at_builtin; go_loud (refine wpList_append_own_at _ rfl (.tmp 23) (.tmp 26) 22 rfl (g + 1) 38 j0 _ 4 48 Try.underlying22 qj0 qy0 qy1 qy2 rfl (by decide) _ M.length (rcells M) rfl hown8 ⟨w5.heap.size, 0, none⟩ 1 1 [.string key, .string value, .bool gone, .int .i64 time] rfl rfl (new_cells5 w5 [.string key, .string value, .bool gone, .int .i64 time] _) ?g1 ?g2 ?g3 ?g4 ?_))
      case g1 => first | exact ⟨rfl, rfl, rfl, rfl⟩ | (intro u hu; simp at hu; rcases hu with rfl | rfl | rfl | rfl <;> rfl)
      case g2 => unfold maxLen; omega
      case g3 => omega
      case g4 => have := HGL.out; simp; omega
      intro va w7 hown7 hg7 _ hat7
      obtain ⟨A7, c7, rfl, _, _⟩ := row_any hown7
      have hnv : some g ≠ v.ownBlock := fun e => by have := (World.ownsRow.lt hown8 _ e.symm).1; omega
      have hX7 := (hg7.block g (by have := HGL.out; simp; omega) hnv).trans HP6.out.x
      have y6 := cell_of_row _ _ 6 _ _ _ hX7
      have f6 := frozen_of_row _ _ 6 _ _ hX7
      have HP7 := Lib.hid (HP6.out.step (r := ⟨key, value, gone, time⟩) (fun _ _ => rfl) hown7 hg7 (by simpa using hat7))
      clear hown8 hown7 hg7 hat7 n1 n2 n3 n4 x6 hX7 hnv
      go_wp2_with fail
      go_roundw
      case rel => exact ⟨k + 1, by omega, by go_num, _, by rw [HTS.out]; exact HP7.out⟩
      case measure => simp [RowKit.intOf]; omega
    · obtain rfl : k = n := by omega
      have d8 : decide ((k : Int) < (k : Int)) = false := by simp
      have HTL : Hid ((L.take k).map AtC.r = L.map AtC.r) := by show _ = _; rw [List.take_of_length_le (by omega)]
      rw [HTL.out] at HP
      have HRL : Hid ((L.map AtC.r).length = k) := by show _ = _; rw [List.length_map]; exact hlen
      generalize L.map AtC.r = RL at *
      have x0 := cell_of_row _ _ 0 _ _ _ HP.out.x
      have x1 := cell_of_row _ _ 1 _ _ _ HP.out.x
      have x2 := cell_of_row _ _ 2 _ _ _ HP.out.x
      have x3 := cell_of_row _ _ 3 _ _ _ HP.out.x
      have x4 := cell_of_row _ _ 4 _ _ _ HP.out.x
      have x5 := cell_of_row _ _ 5 _ _ _ HP.out.x
      have x6 := cell_of_row _ _ 6 _ _ _ HP.out.x
      have d0 := cell_of_row _ _ 0 _ _ _ HP.out.res
      have g0 := frozen_of_row _ _ 0 _ _ HP.out.res
      have d1 := cell_of_row _ _ 1 _ _ _ HP.out.res
      have g1 := frozen_of_row _ _ 1 _ _ HP.out.res
      have d2 := cell_of_row _ _ 2 _ _ _ HP.out.res
      have g2 := frozen_of_row _ _ 2 _ _ HP.out.res
      have d3 := cell_of_row _ _ 3 _ _ _ HP.out.res
      have g3 := frozen_of_row _ _ 3 _ _ HP.out.res
      have d4 := cell_of_row _ _ 4 _ _ _ HP.out.res
      have g4 := frozen_of_row _ _ 4 _ _ HP.out.res
      have d5 := cell_of_row _ _ 5 _ _ _ HP.out.res
      have g5 := frozen_of_row _ _ 5 _ _ HP.out.res
      have d6 := cell_of_row _ _ 6 _ _ _ HP.out.res
      have g6 := frozen_of_row _ _ 6 _ _ HP.out.res
      obtain ⟨A2, c2, rfl, h21, h22⟩ := row_any HP.out.own
      have hlt2 := World.ownsRow.lt HP.out.own
      have HN2 : Hid ((Value.slice A2 RL.length c2).ownBlock ≠ some w.heap.size) := fun e => by have := (hlt2 _ e).1; have := HP.out.lo; omega
      have HO := Lib.hid (row_base5 HP.out.own (base' := w.heap.size) (by have := HP.out.lo; omega))
      have HA2 : Hid (∀ p, A2 = some p → w.heap.size ≤ p.block) := fun p e => by have := (hlt2 p.block (by rw [e]; rfl)).1; have := HP.out.lo; omega
      have HBW := Lib.hid HP.out.below
      rw [HRL.out] at x6 HO HN2
      clear hlt2 HP
      go_wp2_with fail
      refine bodyPost_ret (v := .agg #[.int .i64 o0, .int .i64 0, .int .i64 0, .int .i64 0, .int .i64 0, .int .i64 t0, .slice A2 k c2]) (by simp [results, Try.results46, go_sem, d0, d1, d2, d3, d4, d5, d6]) rfl ?_
      refine ⟨A2, c2, by rw [HBC.out], ?_, HA2.out, ?_⟩
      · rw [HBL.out]
        repeat refine row_set5 ?_ HN2.out
        exact HO.out
      · repeat refine Below.setCell ?_ (by simp) _
        exact HBW.out
end Go.Proofs.Ytkdpfajoeajenaa
