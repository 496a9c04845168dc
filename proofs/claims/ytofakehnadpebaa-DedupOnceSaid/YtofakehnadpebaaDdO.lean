/-
  What small of towpathlaw07 does.
-/
import Derived.Test.YtofakehnadpebaaRecCut
namespace Go.Proofs.Ytofakehnadpebaa
open Go.RowKit
set_option linter.unusedVariables false
set_option linter.unusedSimpArgs false

def cut8T (s : ByteArray) : ByteArray := if 8 < s.size then s.extract 0 8 else s
def cut8R (r : Rec) : Rec := { r with key := cut8T r.key, value := cut8T r.value }
theorem cut8R_succ (L : List Rec) (k : Nat) (h : k < L.length) : rcells ((L.take (k + 1)).map cut8R) = rcells ((L.take k).map cut8R) ++ (cut8R (L.getD k default)).cells := by
  rw [List.take_succ_eq_append_getElem h, List.map_append, rcells_append, List.getD_eq_getElem?_getD, List.getElem?_eq_getElem h]
  simp [rcells]
def nearI (base : Int) (near : Bool) (next : Int) : Int := if near then (if base.tmod 5 < 0 then 0 else base.tmod 5) + next else base
/-- an operation's cells -/
def opC (kd : Int) (b : Bat) (A : Option Addr) (c : Nat) (near : Bool) (tm : Int) : Array Value := #[.int .i64 kd, .int .i64 b.base, .int .i64 b.pid, .int .i64 b.epoch, .int .i64 b.seq, .int .i64 b.kind, .int .i64 b.time, .slice A b.L.length c, .bool near, .int .i64 tm]
theorem set3_cell {w : World} {b : Nat} {cs : Array Value} {t : TypeId} (h : w.heap[b]? = some (.cells cs t (0, 0))) (hl : 0 < cs.size) (x y z : Value) : (((w.setCell ⟨b, 0, none⟩ x).setCell ⟨b, 0, none⟩ y).setCell ⟨b, 0, none⟩ z).cell? ⟨b, 0, none⟩ = some z := by
  have h1 := heap_setCell_same w b 0 cs t x h
  have h2 := heap_setCell_same _ b 0 _ t y h1
  have h3 := heap_setCell_same _ b 0 _ t z h2
  rw [cell_of_row _ b 0 _ _ _ h3]
  simp [hl]
theorem tmod5 (n : Int) : -4 ≤ n.tmod 5 ∧ n.tmod 5 ≤ 4 := by
  rcases Int.le_total 0 n with h | h
  · rw [Int.tmod_eq_emod_of_nonneg h]; omega
  · have e : n.tmod 5 = -((-n).tmod 5) := by rw [Int.neg_tmod]; omega
    rw [e, Int.tmod_eq_emod_of_nonneg (by omega)]; omega
def small8 (b : Bat) (near : Bool) (next : Int) : Bat := { b with base := nearI b.base near next, L := (b.L.take 8).map cut8R }
set_option maxRecDepth 100000 in
set_option maxHeartbeats 8000000 in
theorem small8_any (kd tm next : Int) (b : Bat) (A : Option Addr) (c B : Nat) (near : Bool) (w : World) (hL : Rcs w B A b.L.length b.L) (hB : B ≤ w.heap.size) (hl : b.L.length ≤ maxLen) (hx1 : -4611686018427387904 ≤ next) (hx2 : next ≤ 4611686018427387904) :
    Calls Try.prog 32 #[.agg (opC kd b A c near tm), .int .i64 next] w fun e w' => ∃ A' c', e = .returned (.agg ((small8 b near next).cells A' c')) ∧ (small8 b near next).L.length ≤ c' ∧ c' ≤ maxLen ∧ Rcs w' w'.heap.size A' (small8 b near next).L.length (small8 b near next).L ∧ (∀ p, A' = some p → w.heap.size ≤ p.block) ∧ Below w.heap.size w w' := by
  obtain ⟨j0, qj0, qy0, qy1, qy2⟩ := info_parts zero_rec
  unfold maxLen at hl
  obtain ⟨base, pid, epoch, seq, kind, time, L⟩ := b
  simp only [Bat.cells, small8, opC] at *
  obtain ⟨M, hM⟩ : ∃ M, (L.take 8).map cut8R = M := ⟨_, rfl⟩
  rw [hM]
  have HMM := Lib.hid hM
  clear hM
  obtain ⟨W0, hW0⟩ : ∃ W0, ((w.alloc (.cells #[.int .i64 kd, .int .i64 base, .int .i64 pid, .int .i64 epoch, .int .i64 seq, .int .i64 kind, .int .i64 time, .slice A L.length c, .bool near, .int .i64 tm] 70)).alloc (.cells #[.int .i64 0, .int .i64 0, .int .i64 0, .int .i64 0, .int .i64 0, .int .i64 0, .slice none 0 0] 26)).alloc (.cells #[.int .i64 base, .int .i64 pid, .int .i64 epoch, .int .i64 seq, .int .i64 kind, .int .i64 time, .slice none 0 0] 26) = W0 := ⟨_, rfl⟩
  have hz0 : W0.heap.size = w.heap.size + 3 := by rw [← hW0]; simp
  have hB0 : Below w.heap.size w W0 := by rw [← hW0]; exact (((Below.refl _ _).alloc (Nat.le_refl _) _).alloc (by simp) _).alloc (by simp <;> omega) _
  have k1 : W0.heap[w.heap.size]? = some (.cells #[.int .i64 kd, .int .i64 base, .int .i64 pid, .int .i64 epoch, .int .i64 seq, .int .i64 kind, .int .i64 time, .slice A L.length c, .bool near, .int .i64 tm] 70 (0, 0)) := by
    rw [← hW0, ← heap_alloc_new w (.cells #[.int .i64 kd, .int .i64 base, .int .i64 pid, .int .i64 epoch, .int .i64 seq, .int .i64 kind, .int .i64 time, .slice A L.length c, .bool near, .int .i64 tm] 70)]
    exact ((((Below.refl (w.heap.size + 1) _).alloc (by simp) _).alloc (by simp <;> omega) _).block w.heap.size (by omega))
  have k2 : W0.heap[w.heap.size + 1]? = some (.cells #[.int .i64 0, .int .i64 0, .int .i64 0, .int .i64 0, .int .i64 0, .int .i64 0, .slice none 0 0] 26 (0, 0)) := by
    have h := heap_alloc_new (w.alloc (.cells #[.int .i64 kd, .int .i64 base, .int .i64 pid, .int .i64 epoch, .int .i64 seq, .int .i64 kind, .int .i64 time, .slice A L.length c, .bool near, .int .i64 tm] 70)) (.cells #[.int .i64 0, .int .i64 0, .int .i64 0, .int .i64 0, .int .i64 0, .int .i64 0, .slice none 0 0] 26)
    rw [show (w.alloc (.cells #[.int .i64 kd, .int .i64 base, .int .i64 pid, .int .i64 epoch, .int .i64 seq, .int .i64 kind, .int .i64 time, .slice A L.length c, .bool near, .int .i64 tm] 70)).heap.size = w.heap.size + 1 from by simp] at h
    rw [← hW0, ← h]
    exact (((Below.refl (w.heap.size + 2) _).alloc (by simp) _).block (w.heap.size + 1) (by omega))
  have k3 : W0.heap[w.heap.size + 1 + 1]? = some (.cells #[.int .i64 base, .int .i64 pid, .int .i64 epoch, .int .i64 seq, .int .i64 kind, .int .i64 time, .slice none 0 0] 26 (0, 0)) := by
    have h := heap_alloc_new ((w.alloc (.cells #[.int .i64 kd, .int .i64 base, .int .i64 pid, .int .i64 epoch, .int .i64 seq, .int .i64 kind, .int .i64 time, .slice A L.length c, .bool near, .int .i64 tm] 70)).alloc (.cells #[.int .i64 0, .int .i64 0, .int .i64 0, .int .i64 0, .int .i64 0, .int .i64 0, .slice none 0 0] 26)) (.cells #[.int .i64 base, .int .i64 pid, .int .i64 epoch, .int .i64 seq, .int .i64 kind, .int .i64 time, .slice none 0 0] 26)
    rw [show ((w.alloc (.cells #[.int .i64 kd, .int .i64 base, .int .i64 pid, .int .i64 epoch, .int .i64 seq, .int .i64 kind, .int .i64 time, .slice A L.length c, .bool near, .int .i64 tm] 70)).alloc (.cells #[.int .i64 0, .int .i64 0, .int .i64 0, .int .i64 0, .int .i64 0, .int .i64 0, .slice none 0 0] 26)).heap.size = w.heap.size + 1 + 1 from by simp] at h
    rw [← hW0]
    exact h
  have HW0 := Lib.hid hW0
  have HZ0 := Lib.hid hz0
  have HB0 := Lib.hid hB0
  have K1 := Lib.hid k1
  have K2 := Lib.hid k2
  have K3 := Lib.hid k3
  clear hW0 hz0 hB0 k1 k2 k3
  go_enter Try.func32, Try.ntmps32
  go_upto_region 3 with fail
  rw [HW0.out]
  have c6 : W0.cell? ⟨w.heap.size, 7, none⟩ = some (.slice A L.length c) := cell_of_row _ _ 7 _ _ _ K1.out
  go_wp2_with fail
  clear c6
  go_loopw [15] (fun i wr => ∃ k : Nat, k ≤ L.length ∧ k ≤ 8 ∧ i = .int .i64 k ∧ ∃ v, wr.heap[w.heap.size + 1 + 1]? = some (.cells #[.int .i64 base, .int .i64 pid, .int .i64 epoch, .int .i64 seq, .int .i64 kind, .int .i64 time, v] 26 (0, 0)) ∧ wr.ownsRow W0.heap.size 41 4 v k (rcells ((L.take k).map cut8R)) ∧ Two (w.heap.size + 1 + 1) (w.heap.size + 1 + 1) W0 wr) (fun i _ => L.length - (intOf i).toNat)
  case atStart => exact ⟨0, by omega, by omega, rfl, _, K3.out, World.ownsRow_nil _ _ _ _, Two.refl _ _ _⟩
  case round =>
    obtain ⟨k, hk, hkm, rfl, v, hx, hown, hT⟩ := hrel
    have zr := hT.size
    have hz0 := HZ0.out
    have zw : w.heap.size + 3 ≤ wr.heap.size := by omega
    clear hz0
    have hBr : Below w.heap.size w wr := HB0.out.trans (hT.below (by omega) (by omega) HB0.out.size)
    by_cases hlt : k < L.length ∧ k < 8
    · obtain ⟨hlt, hltm⟩ := hlt
      obtain ⟨p, rfl, hp, r0, r1, r2, r3⟩ := (hL.below (hBr.mono hB)).row hlt
      have HS := Lib.hid (cut8R_succ L k hlt)
      have HCT : Hid (∀ s : ByteArray, (8 < s.size → s.extract 0 8 = cut8T s) ∧ (s.size ≤ 8 → s = cut8T s)) := fun s => ⟨fun h => by unfold cut8T; rw [if_pos h], fun h => by unfold cut8T; rw [if_neg (by omega)]⟩
      obtain ⟨acc, hacc⟩ : ∃ acc, rcells ((L.take k).map cut8R) = acc := ⟨_, rfl⟩
      rw [hacc] at HS hown
      clear hacc
      generalize L.getD k default = r at *
      obtain ⟨key, value, gone, rt⟩ := r
      simp only [Rec.cells, cut8R] at r0 r1 r2 r3 HS
      have hm80 : decide ((8 : Int) ≤ (k : Int)) = false := by rw [decide_eq_false_iff_not]; omega
      have x6 : wr.cell? ⟨w.heap.size + 1 + 1, 6, none⟩ = some v := cell_of_row _ _ 6 _ _ _ hx
      have HOWN := Lib.hid hown
      have HX := Lib.hid hx
      have hltv := World.ownsRow.lt hown
      have HLTV := Lib.hid hltv
      clear hown hx hltv
      have key' : ∀ key1 value1 : ByteArray, key1 = cut8T key → value1 = cut8T value → True := fun _ _ _ _ => trivial
      clear key'
      rcases Nat.lt_or_ge 8 key.size with g1 | g1
      all_goals
        have e1 := Lib.hid (by first | exact (HCT.out key).1 g1 | exact (HCT.out key).2 g1)
        rcases Nat.lt_or_ge 8 value.size with g2 | g2
        all_goals
          have e2 := Lib.hid (by first | exact (HCT.out value).1 g2 | exact (HCT.out value).2 g2)
          have x6a : ∀ cs : Array Value, (wr.alloc (.cells cs 41)).cell? ⟨w.heap.size + 1 + 1, 6, none⟩ = some v := fun cs => (World.cell?_alloc_lt wr _ _ (by show w.heap.size + 1 + 1 < _; omega)).trans x6
          go_wp2_with (at_builtin; refine wpList_append_own_at _ rfl (.tmp 39) (.tmp 41) 24 rfl W0.heap.size 41 j0 _ 4 48 Try.underlying24 qj0 qy0 qy1 qy2 rfl (by decide) _ k acc rfl ((HOWN.out.alloc _).alloc _) ⟨wr.heap.size + 1, 0, none⟩ 1 1 [.string _, .string _, .bool gone, .int .i64 rt] rfl rfl (new_cells wr _ [.string _, .string _, .bool gone, .int .i64 rt] _) ?g1 ?g2 ?g3 ?g4 ?_)
          case g1 => intro u hu; simp at hu; rcases hu with rfl | rfl | rfl | rfl <;> rfl
          case g2 => unfold maxLen; omega
          case g3 => omega
          case g4 => simp; omega
          intro v4 w4 hown4 hg4 _ _
          rw [e1.out, e2.out] at hown4 hg4
          obtain ⟨A4, c4, rfl⟩ := own_slice hown4
          generalize hA1 : (wr.alloc (.cells #[.string (cut8T key), .string (cut8T value), .bool gone, .int .i64 rt] 41)).alloc (.cells [.string (cut8T key), .string (cut8T value), .bool gone, .int .i64 rt].toArray 41) = wa at *
          have hwa : Below wr.heap.size wr wa := by rw [← hA1]; exact ((Below.refl _ _).alloc (Nat.le_refl _) _).alloc (by simp) _
          have hx4 := ((hg4.block (w.heap.size + 1 + 1) (by have := hwa.size; omega) (fun e => by have := (HLTV.out _ e.symm).1; have := HZ0.out; omega)).trans (hwa.block _ (by omega))).trans HX.out
          have hT4 := (hT.trans (Two.of_below (g := w.heap.size + 1 + 1) (d := w.heap.size + 1 + 1) hwa)).grow hg4 (fun k hk => (HLTV.out k hk).1)
          have y6 : w4.cell? ⟨w.heap.size + 1 + 1, 6, none⟩ = some v := cell_of_row _ _ 6 _ _ _ hx4
          have f6 : w4.frozen? ⟨w.heap.size + 1 + 1, 6, none⟩ = false := frozen_of_row _ _ 6 _ _ hx4
          have hx5 : (w4.setCell ⟨w.heap.size + 1 + 1, 6, none⟩ (.slice A4 (k + 1) c4)).heap[w.heap.size + 1 + 1]? = some (.cells #[.int .i64 base, .int .i64 pid, .int .i64 epoch, .int .i64 seq, .int .i64 kind, .int .i64 time, .slice A4 (k + 1) c4] 26 (0, 0)) := by rw [heap_setCell_same w4 _ 6 _ _ _ hx4]; rfl
          have hT5 := hT4.trans (Two.set (g := w.heap.size + 1 + 1) (d := w.heap.size + 1 + 1) w4 6 (.slice A4 (k + 1) c4))
          have hown5 := row_two hown4 (Two.set (g := w.heap.size + 1 + 1) (d := w.heap.size + 1 + 1) w4 6 (.slice A4 (k + 1) c4)) (by have := HZ0.out; omega) (by have := HZ0.out; omega)
          have HX5 := Lib.hid hx5
          have HT5 := Lib.hid hT5
          have HOWN5 := Lib.hid hown5
          clear hown4 hg4 hx4 hT4 hx5 hT5 hown5 hwa hA1 x6 x6a HOWN HX
          go_wp2
          go_roundw
          case rel => exact ⟨k + 1, by omega, by omega, by go_num, _, HX5.out, by rw [HS.out]; exact HOWN5.out, HT5.out⟩
          case measure => simp [intOf]; omega
    · have hex : k = L.length ∨ (k < L.length ∧ k = 8) := by omega
      have HTK : Hid (M = (L.take k).map cut8R) := by
        show _ = _
        rw [← HMM.out]
        rcases hex with h | ⟨_, h⟩
        · rw [h, List.take_of_length_le (by omega), List.take_of_length_le (Nat.le_refl _)]
        · rw [h]
      have HTL : Hid (((L.take k).map cut8R).length = k) := by show _ = _; rw [List.length_map, List.length_take]; omega
      obtain ⟨A', c', rfl, hc1, hc2, hR3, hR4⟩ := Rcs.of_own hown HTL.out (fun r hr => by
        obtain ⟨r0, hr0, rfl⟩ := List.mem_map.1 hr
        exact hL.ok r0 (List.mem_of_mem_take hr0))
      have hr := (hT.block (w.heap.size + 1) (by have := HZ0.out; omega) (by omega) (by omega)).trans K2.out
      have HXX := Lib.hid (hL.below (hBr.mono hB))
      have HBF := Lib.hid hBr
      have HR3 := Lib.hid hR3
      have HR4 := Lib.hid hR4
      have ho := (hT.block w.heap.size (by have := HZ0.out; omega) (by omega) (by omega)).trans K1.out
      clear hown hR3 hR4 hT hBr hL
      rcases hex with hkl | ⟨hlt1, hk4⟩
      · clear HXX
        have hge0 : decide ((k : Int) < (L.length : Int)) = false := by rw [decide_eq_false_iff_not]; omega
        have hge1 : decide (k < L.length) = false := by rw [decide_eq_false_iff_not]; omega
        have hge2 : ¬ k < L.length := by omega
        clear hkl
        have HX := Lib.hid hx
        have HRR := Lib.hid hr
        have HO := Lib.hid ho
        clear hx hr ho
        go_upto_region 13 with fail
        generalize wr = wz at *
        have hx := HX.out
        have hr := HRR.out
        have ho := HO.out
        have m0 : wz.cell? ⟨w.heap.size + 1 + 1, 0, none⟩ = some (.int .i64 base) := cell_of_row _ _ 0 _ _ _ hx
        have d0 := cell_of_row _ _ 0 _ _ _ hr
        have h0 := frozen_of_row _ _ 0 _ _ hr
        have m1 : wz.cell? ⟨w.heap.size + 1 + 1, 1, none⟩ = some (.int .i64 pid) := cell_of_row _ _ 1 _ _ _ hx
        have d1 := cell_of_row _ _ 1 _ _ _ hr
        have h1 := frozen_of_row _ _ 1 _ _ hr
        have m2 : wz.cell? ⟨w.heap.size + 1 + 1, 2, none⟩ = some (.int .i64 epoch) := cell_of_row _ _ 2 _ _ _ hx
        have d2 := cell_of_row _ _ 2 _ _ _ hr
        have h2 := frozen_of_row _ _ 2 _ _ hr
        have m3 : wz.cell? ⟨w.heap.size + 1 + 1, 3, none⟩ = some (.int .i64 seq) := cell_of_row _ _ 3 _ _ _ hx
        have d3 := cell_of_row _ _ 3 _ _ _ hr
        have h3 := frozen_of_row _ _ 3 _ _ hr
        have m4 : wz.cell? ⟨w.heap.size + 1 + 1, 4, none⟩ = some (.int .i64 kind) := cell_of_row _ _ 4 _ _ _ hx
        have d4 := cell_of_row _ _ 4 _ _ _ hr
        have h4 := frozen_of_row _ _ 4 _ _ hr
        have m5 : wz.cell? ⟨w.heap.size + 1 + 1, 5, none⟩ = some (.int .i64 time) := cell_of_row _ _ 5 _ _ _ hx
        have d5 := cell_of_row _ _ 5 _ _ _ hr
        have h5 := frozen_of_row _ _ 5 _ _ hr
        have m6 : wz.cell? ⟨w.heap.size + 1 + 1, 6, none⟩ = some (.slice A' k c') := cell_of_row _ _ 6 _ _ _ hx
        have d6 := cell_of_row _ _ 6 _ _ _ hr
        have h6 := frozen_of_row _ _ 6 _ _ hr
        have n0 := frozen_of_row _ _ 0 _ _ hx
        have o8 := cell_of_row _ _ 8 _ _ _ ho
        clear hx hr ho
        cases near with
        | false =>
          go_wp2_with fail
          refine bodyPost_ret (v := .agg #[.int .i64 base, .int .i64 pid, .int .i64 epoch, .int .i64 seq, .int .i64 kind, .int .i64 time, .slice A' k c']) (by simp [results, Try.results32, go_sem, d0, d1, d2, d3, d4, d5, d6]) rfl ?_
          refine ⟨A', c', by rw [HTK.out, HTL.out]; simp [nearI], by rw [HTK.out, HTL.out]; exact hc1, hc2, ?_, fun p hp => by have := HR4.out p hp; have := HZ0.out; omega, ?_⟩
          · rw [HTK.out, HTL.out]
            refine Rcs.wider (B := wz.heap.size) ⟨HR3.out.len, HR3.out.lies.far_ fun p hp i => ?_, HR3.out.ok⟩ (by simp)
            have hpb := HR4.out p hp
            have hz := HZ0.out
            have hpi := add_block p i
            have n0 : ¬ w.heap.size + 1 = (p.add i).block := by rw [hpi]; omega
            have n1 : ¬ w.heap.size + 1 + 1 = (p.add i).block := by rw [hpi]; omega
            simp only [World.cell?_setCell_far, ne_eq, n0, n1, not_false_eq_true]
          · repeat refine Below.setCell ?_ (by simp <;> omega) _
            exact HBF.out
        | true =>
          have ht5 := tmod5 base
          by_cases hs : base.tmod 5 < 0
          · have hs' : decide (base.tmod 5 < 0) = true := by simpa using hs
            have HSN := Lib.hid hs
            have s3 : ∀ x y z, (((wz.setCell ⟨w.heap.size + 1 + 1, 0, none⟩ x).setCell ⟨w.heap.size + 1 + 1, 0, none⟩ y).setCell ⟨w.heap.size + 1 + 1, 0, none⟩ z).cell? ⟨w.heap.size + 1 + 1, 0, none⟩ = some z := fun x y z => set3_cell HX.out (by simp) x y z
            go_wp2_with fail
            refine bodyPost_ret (v := .agg #[.int .i64 (0 + next), .int .i64 pid, .int .i64 epoch, .int .i64 seq, .int .i64 kind, .int .i64 time, .slice A' k c']) (by simp [results, Try.results32, go_sem, d0, d1, d2, d3, d4, d5, d6]) rfl ?_
            refine ⟨A', c', by rw [HTK.out, HTL.out]; (unfold nearI; simp only [if_true]; first | rw [if_neg (by have := HSN.out; omega)] | rw [if_pos (by have := HSN.out; omega)]), by rw [HTK.out, HTL.out]; exact hc1, hc2, ?_, fun p hp => by have := HR4.out p hp; have := HZ0.out; omega, ?_⟩
            · rw [HTK.out, HTL.out]
              refine Rcs.wider (B := wz.heap.size) ⟨HR3.out.len, HR3.out.lies.far_ fun p hp i => ?_, HR3.out.ok⟩ (by simp)
              have hpb := HR4.out p hp
              have hz := HZ0.out
              have hpi := add_block p i
              have n0 : ¬ w.heap.size + 1 = (p.add i).block := by rw [hpi]; omega
              have n1 : ¬ w.heap.size + 1 + 1 = (p.add i).block := by rw [hpi]; omega
              simp only [World.cell?_setCell_far, ne_eq, n0, n1, not_false_eq_true]
            · repeat refine Below.setCell ?_ (by simp <;> omega) _
              exact HBF.out
          · have hs' : decide (base.tmod 5 < 0) = false := by simpa using hs
            have HSN := Lib.hid hs
            go_wp2_with fail
            refine bodyPost_ret (v := .agg #[.int .i64 (base.tmod 5 + next), .int .i64 pid, .int .i64 epoch, .int .i64 seq, .int .i64 kind, .int .i64 time, .slice A' k c']) (by simp [results, Try.results32, go_sem, d0, d1, d2, d3, d4, d5, d6]) rfl ?_
            refine ⟨A', c', by rw [HTK.out, HTL.out]; (unfold nearI; simp only [if_true]; first | rw [if_neg (by have := HSN.out; omega)] | rw [if_pos (by have := HSN.out; omega)]), by rw [HTK.out, HTL.out]; exact hc1, hc2, ?_, fun p hp => by have := HR4.out p hp; have := HZ0.out; omega, ?_⟩
            · rw [HTK.out, HTL.out]
              refine Rcs.wider (B := wz.heap.size) ⟨HR3.out.len, HR3.out.lies.far_ fun p hp i => ?_, HR3.out.ok⟩ (by simp)
              have hpb := HR4.out p hp
              have hz := HZ0.out
              have hpi := add_block p i
              have n0 : ¬ w.heap.size + 1 = (p.add i).block := by rw [hpi]; omega
              have n1 : ¬ w.heap.size + 1 + 1 = (p.add i).block := by rw [hpi]; omega
              simp only [World.cell?_setCell_far, ne_eq, n0, n1, not_false_eq_true]
            · repeat refine Below.setCell ?_ (by simp <;> omega) _
              exact HBF.out
      · obtain ⟨p, rfl, hp, r0, r1, r2, r3⟩ := HXX.out.row hlt1
        generalize L.getD k default = r at *
        obtain ⟨key, value, gone, rt⟩ := r
        simp only at r0 r1 r2 r3
        have hge : decide ((8 : Int) ≤ (k : Int)) = true := by rw [decide_eq_true_iff]; omega
        have hal := (Below.refl wr.heap.size wr).alloc (Nat.le_refl _) (.cells #[.string key, .string value, .bool gone, .int .i64 rt] 41)
        have HX := Lib.hid ((hal.block (w.heap.size + 1 + 1) (by omega)).trans hx)
        have HRR := Lib.hid ((hal.block (w.heap.size + 1) (by omega)).trans hr)
        have HO := Lib.hid ((hal.block w.heap.size (by omega)).trans ho)
        have HR3' := Lib.hid ((HR3.out.below hal).wider hal.size)
        have HBF' := Lib.hid (HBF.out.trans (hal.mono HBF.out.size))
        clear hk4 HXX hx hr ho HR3 HBF hal
        go_upto_region 13 with fail
        have HR3 := HR3'
        have HBF := HBF'
        clear HR3' HBF'
        generalize wr.alloc (.cells #[.string key, .string value, .bool gone, .int .i64 rt] 41) = wz at *
        have hx := HX.out
        have hr := HRR.out
        have ho := HO.out
        have m0 : wz.cell? ⟨w.heap.size + 1 + 1, 0, none⟩ = some (.int .i64 base) := cell_of_row _ _ 0 _ _ _ hx
        have d0 := cell_of_row _ _ 0 _ _ _ hr
        have h0 := frozen_of_row _ _ 0 _ _ hr
        have m1 : wz.cell? ⟨w.heap.size + 1 + 1, 1, none⟩ = some (.int .i64 pid) := cell_of_row _ _ 1 _ _ _ hx
        have d1 := cell_of_row _ _ 1 _ _ _ hr
        have h1 := frozen_of_row _ _ 1 _ _ hr
        have m2 : wz.cell? ⟨w.heap.size + 1 + 1, 2, none⟩ = some (.int .i64 epoch) := cell_of_row _ _ 2 _ _ _ hx
        have d2 := cell_of_row _ _ 2 _ _ _ hr
        have h2 := frozen_of_row _ _ 2 _ _ hr
        have m3 : wz.cell? ⟨w.heap.size + 1 + 1, 3, none⟩ = some (.int .i64 seq) := cell_of_row _ _ 3 _ _ _ hx
        have d3 := cell_of_row _ _ 3 _ _ _ hr
        have h3 := frozen_of_row _ _ 3 _ _ hr
        have m4 : wz.cell? ⟨w.heap.size + 1 + 1, 4, none⟩ = some (.int .i64 kind) := cell_of_row _ _ 4 _ _ _ hx
        have d4 := cell_of_row _ _ 4 _ _ _ hr
        have h4 := frozen_of_row _ _ 4 _ _ hr
        have m5 : wz.cell? ⟨w.heap.size + 1 + 1, 5, none⟩ = some (.int .i64 time) := cell_of_row _ _ 5 _ _ _ hx
        have d5 := cell_of_row _ _ 5 _ _ _ hr
        have h5 := frozen_of_row _ _ 5 _ _ hr
        have m6 : wz.cell? ⟨w.heap.size + 1 + 1, 6, none⟩ = some (.slice A' k c') := cell_of_row _ _ 6 _ _ _ hx
        have d6 := cell_of_row _ _ 6 _ _ _ hr
        have h6 := frozen_of_row _ _ 6 _ _ hr
        have n0 := frozen_of_row _ _ 0 _ _ hx
        have o8 := cell_of_row _ _ 8 _ _ _ ho
        clear hx hr ho
        cases near with
        | false =>
          go_wp2_with fail
          refine bodyPost_ret (v := .agg #[.int .i64 base, .int .i64 pid, .int .i64 epoch, .int .i64 seq, .int .i64 kind, .int .i64 time, .slice A' k c']) (by simp [results, Try.results32, go_sem, d0, d1, d2, d3, d4, d5, d6]) rfl ?_
          refine ⟨A', c', by rw [HTK.out, HTL.out]; simp [nearI], by rw [HTK.out, HTL.out]; exact hc1, hc2, ?_, fun p hp => by have := HR4.out p hp; have := HZ0.out; omega, ?_⟩
          · rw [HTK.out, HTL.out]
            refine Rcs.wider (B := wz.heap.size) ⟨HR3.out.len, HR3.out.lies.far_ fun p hp i => ?_, HR3.out.ok⟩ (by simp)
            have hpb := HR4.out p hp
            have hz := HZ0.out
            have hpi := add_block p i
            have n0 : ¬ w.heap.size + 1 = (p.add i).block := by rw [hpi]; omega
            have n1 : ¬ w.heap.size + 1 + 1 = (p.add i).block := by rw [hpi]; omega
            simp only [World.cell?_setCell_far, ne_eq, n0, n1, not_false_eq_true]
          · repeat refine Below.setCell ?_ (by simp <;> omega) _
            exact HBF.out
        | true =>
          have ht5 := tmod5 base
          by_cases hs : base.tmod 5 < 0
          · have hs' : decide (base.tmod 5 < 0) = true := by simpa using hs
            have HSN := Lib.hid hs
            have s3 : ∀ x y z, (((wz.setCell ⟨w.heap.size + 1 + 1, 0, none⟩ x).setCell ⟨w.heap.size + 1 + 1, 0, none⟩ y).setCell ⟨w.heap.size + 1 + 1, 0, none⟩ z).cell? ⟨w.heap.size + 1 + 1, 0, none⟩ = some z := fun x y z => set3_cell HX.out (by simp) x y z
            go_wp2_with fail
            refine bodyPost_ret (v := .agg #[.int .i64 (0 + next), .int .i64 pid, .int .i64 epoch, .int .i64 seq, .int .i64 kind, .int .i64 time, .slice A' k c']) (by simp [results, Try.results32, go_sem, d0, d1, d2, d3, d4, d5, d6]) rfl ?_
            refine ⟨A', c', by rw [HTK.out, HTL.out]; (unfold nearI; simp only [if_true]; first | rw [if_neg (by have := HSN.out; omega)] | rw [if_pos (by have := HSN.out; omega)]), by rw [HTK.out, HTL.out]; exact hc1, hc2, ?_, fun p hp => by have := HR4.out p hp; have := HZ0.out; omega, ?_⟩
            · rw [HTK.out, HTL.out]
              refine Rcs.wider (B := wz.heap.size) ⟨HR3.out.len, HR3.out.lies.far_ fun p hp i => ?_, HR3.out.ok⟩ (by simp)
              have hpb := HR4.out p hp
              have hz := HZ0.out
              have hpi := add_block p i
              have n0 : ¬ w.heap.size + 1 = (p.add i).block := by rw [hpi]; omega
              have n1 : ¬ w.heap.size + 1 + 1 = (p.add i).block := by rw [hpi]; omega
              simp only [World.cell?_setCell_far, ne_eq, n0, n1, not_false_eq_true]
            · repeat refine Below.setCell ?_ (by simp <;> omega) _
              exact HBF.out
          · have hs' : decide (base.tmod 5 < 0) = false := by simpa using hs
            have HSN := Lib.hid hs
            go_wp2_with fail
            refine bodyPost_ret (v := .agg #[.int .i64 (base.tmod 5 + next), .int .i64 pid, .int .i64 epoch, .int .i64 seq, .int .i64 kind, .int .i64 time, .slice A' k c']) (by simp [results, Try.results32, go_sem, d0, d1, d2, d3, d4, d5, d6]) rfl ?_
            refine ⟨A', c', by rw [HTK.out, HTL.out]; (unfold nearI; simp only [if_true]; first | rw [if_neg (by have := HSN.out; omega)] | rw [if_pos (by have := HSN.out; omega)]), by rw [HTK.out, HTL.out]; exact hc1, hc2, ?_, fun p hp => by have := HR4.out p hp; have := HZ0.out; omega, ?_⟩
            · rw [HTK.out, HTL.out]
              refine Rcs.wider (B := wz.heap.size) ⟨HR3.out.len, HR3.out.lies.far_ fun p hp i => ?_, HR3.out.ok⟩ (by simp)
              have hpb := HR4.out p hp
              have hz := HZ0.out
              have hpi := add_block p i
              have n0 : ¬ w.heap.size + 1 = (p.add i).block := by rw [hpi]; omega
              have n1 : ¬ w.heap.size + 1 + 1 = (p.add i).block := by rw [hpi]; omega
              simp only [World.cell?_setCell_far, ne_eq, n0, n1, not_false_eq_true]
            · repeat refine Below.setCell ?_ (by simp <;> omega) _
              exact HBF.out
end Go.Proofs.Ytofakehnadpebaa
