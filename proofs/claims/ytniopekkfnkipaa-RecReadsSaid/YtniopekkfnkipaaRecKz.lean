/-
  What towpathlaw03.Cut does.
  Helpers for the laws of chapter 3 that cut a batch.
-/
import Derived.Test.YtniopekkfnkipaaRecTw
namespace Go.Proofs.Ytniopekkfnkipaa
open Go.RowKit
set_option linter.unusedVariables false
set_option linter.unusedSimpArgs false

def cutT (s : ByteArray) : ByteArray := if 1100 < s.size then s.extract 0 1100 else s
theorem cutT_size (s : ByteArray) : (cutT s).size ≤ 1100 := by
  unfold cutT
  split
  · rw [ByteArray.size_extract]; omega
  · omega
def cutR (r : Rec) : Rec := { r with key := cutT r.key, value := cutT r.value }
def cutB (b : Bat) : Bat := { b with L := (b.L.take 80).map cutR }
theorem cutR_succ (L : List Rec) (k : Nat) (h : k < L.length) : rcells ((L.take (k + 1)).map cutR) = rcells ((L.take k).map cutR) ++ (cutR (L.getD k default)).cells := by
  rw [List.take_succ_eq_append_getElem h, List.map_append, rcells_append, List.getD_eq_getElem?_getD, List.getElem?_eq_getElem h]
  simp [rcells]

theorem own_slice {w : World} {base s n : Nat} {e : TypeId} {v : Value} {xs : List Value} (h : w.ownsRow base e s v n xs) : ∃ A c, v = .slice A n c := by
  rcases h.2 with ⟨rfl, rfl⟩ | ⟨g, cap, cur, rfl, _⟩
  · exact ⟨none, 0, rfl⟩
  · exact ⟨_, cap, rfl⟩
theorem new_cells (w : World) (o : Obj) (cs : List Value) (e : TypeId) : ∀ j u, cs[j]? = some u → ((w.alloc o).alloc (.cells cs.toArray e)).cell? ((⟨w.heap.size + 1, 0, none⟩ : Addr).add j) = some u := fun j u hj => by
  obtain ⟨q, hq, _, hc⟩ := (Lies.of_new (w.alloc o) cs.toArray e).get j u (by simpa using hj)
  injection hq with hq
  subst hq
  rw [show (w.alloc o).heap.size = w.heap.size + 1 from by simp] at hc
  exact hc

set_option maxRecDepth 100000 in
set_option maxHeartbeats 8000000 in
theorem cutB_any (b : Bat) (A : Option Addr) (c B : Nat) (w : World) (hL : Rcs w B A b.L.length b.L) (hB : B ≤ w.heap.size) (hl : b.L.length ≤ maxLen) :
    Calls Try.prog 5 #[.agg (b.cells A c)] w fun e w' => ∃ A' c', e = .returned (.agg ((cutB b).cells A' c')) ∧ (cutB b).L.length ≤ c' ∧ c' ≤ maxLen ∧ Rcs w' w'.heap.size A' (cutB b).L.length (cutB b).L ∧ (∀ p, A' = some p → w.heap.size ≤ p.block) ∧ Below w.heap.size w w' := by
  obtain ⟨j0, qj0, qy0, qy1, qy2⟩ := info_parts zero_rec
  unfold maxLen at hl
  obtain ⟨base, pid, epoch, seq, kind, time, L⟩ := b
  simp only [Bat.cells, cutB] at *
  obtain ⟨W0, hW0⟩ : ∃ W0, ((w.alloc (.cells #[.int .i64 base, .int .i64 pid, .int .i64 epoch, .int .i64 seq, .int .i64 kind, .int .i64 time, .slice A L.length c] 24)).alloc (.cells #[.int .i64 0, .int .i64 0, .int .i64 0, .int .i64 0, .int .i64 0, .int .i64 0, .slice none 0 0] 24)).alloc (.cells #[.int .i64 base, .int .i64 pid, .int .i64 epoch, .int .i64 seq, .int .i64 kind, .int .i64 time, .slice none 0 0] 24) = W0 := ⟨_, rfl⟩
  have hz0 : W0.heap.size = w.heap.size + 3 := by rw [← hW0]; simp
  have hB0 : Below w.heap.size w W0 := by rw [← hW0]; exact (((Below.refl _ _).alloc (Nat.le_refl _) _).alloc (by simp) _).alloc (by simp <;> omega) _
  have k1 : W0.heap[w.heap.size]? = some (.cells #[.int .i64 base, .int .i64 pid, .int .i64 epoch, .int .i64 seq, .int .i64 kind, .int .i64 time, .slice A L.length c] 24 (0, 0)) := by
    rw [← hW0, ← heap_alloc_new w (.cells #[.int .i64 base, .int .i64 pid, .int .i64 epoch, .int .i64 seq, .int .i64 kind, .int .i64 time, .slice A L.length c] 24)]
    exact ((((Below.refl (w.heap.size + 1) _).alloc (by simp) _).alloc (by simp <;> omega) _).block w.heap.size (by omega))
  have k2 : W0.heap[w.heap.size + 1]? = some (.cells #[.int .i64 0, .int .i64 0, .int .i64 0, .int .i64 0, .int .i64 0, .int .i64 0, .slice none 0 0] 24 (0, 0)) := by
    have h := heap_alloc_new (w.alloc (.cells #[.int .i64 base, .int .i64 pid, .int .i64 epoch, .int .i64 seq, .int .i64 kind, .int .i64 time, .slice A L.length c] 24)) (.cells #[.int .i64 0, .int .i64 0, .int .i64 0, .int .i64 0, .int .i64 0, .int .i64 0, .slice none 0 0] 24)
    rw [show (w.alloc (.cells #[.int .i64 base, .int .i64 pid, .int .i64 epoch, .int .i64 seq, .int .i64 kind, .int .i64 time, .slice A L.length c] 24)).heap.size = w.heap.size + 1 from by simp] at h
    rw [← hW0, ← h]
    exact (((Below.refl (w.heap.size + 2) _).alloc (by simp) _).block (w.heap.size + 1) (by omega))
  have k3 : W0.heap[w.heap.size + 1 + 1]? = some (.cells #[.int .i64 base, .int .i64 pid, .int .i64 epoch, .int .i64 seq, .int .i64 kind, .int .i64 time, .slice none 0 0] 24 (0, 0)) := by
    have h := heap_alloc_new ((w.alloc (.cells #[.int .i64 base, .int .i64 pid, .int .i64 epoch, .int .i64 seq, .int .i64 kind, .int .i64 time, .slice A L.length c] 24)).alloc (.cells #[.int .i64 0, .int .i64 0, .int .i64 0, .int .i64 0, .int .i64 0, .int .i64 0, .slice none 0 0] 24)) (.cells #[.int .i64 base, .int .i64 pid, .int .i64 epoch, .int .i64 seq, .int .i64 kind, .int .i64 time, .slice none 0 0] 24)
    rw [show ((w.alloc (.cells #[.int .i64 base, .int .i64 pid, .int .i64 epoch, .int .i64 seq, .int .i64 kind, .int .i64 time, .slice A L.length c] 24)).alloc (.cells #[.int .i64 0, .int .i64 0, .int .i64 0, .int .i64 0, .int .i64 0, .int .i64 0, .slice none 0 0] 24)).heap.size = w.heap.size + 1 + 1 from by simp] at h
    rw [← hW0]
    exact h
  have HW0 := Lib.hid hW0
  have HZ0 := Lib.hid hz0
  have HB0 := Lib.hid hB0
  have K1 := Lib.hid k1
  have K2 := Lib.hid k2
  have K3 := Lib.hid k3
  clear hW0 hz0 hB0 k1 k2 k3
  go_enter Try.func5, Try.ntmps5
  go_upto_region 3 with fail
  rw [HW0.out]
  have c6 : W0.cell? ⟨w.heap.size, 6, none⟩ = some (.slice A L.length c) := cell_of_row _ _ 6 _ _ _ K1.out
  go_wp2_with fail
  clear c6
  go_loopw [11] (fun i wr => ∃ k : Nat, k ≤ L.length ∧ k ≤ 80 ∧ i = .int .i64 k ∧ ∃ v, wr.heap[w.heap.size + 1 + 1]? = some (.cells #[.int .i64 base, .int .i64 pid, .int .i64 epoch, .int .i64 seq, .int .i64 kind, .int .i64 time, v] 24 (0, 0)) ∧ wr.ownsRow W0.heap.size 40 4 v k (rcells ((L.take k).map cutR)) ∧ Two (w.heap.size + 1 + 1) (w.heap.size + 1 + 1) W0 wr) (fun i _ => L.length - (intOf i).toNat)
  case atStart => exact ⟨0, by omega, by omega, rfl, _, K3.out, World.ownsRow_nil _ _ _ _, Two.refl _ _ _⟩
  case round =>
    obtain ⟨k, hk, hk80, rfl, v, hx, hown, hT⟩ := hrel
    have zr := hT.size
    have hz0 := HZ0.out
    have zw : w.heap.size + 3 ≤ wr.heap.size := by omega
    clear hz0
    have hBr : Below w.heap.size w wr := HB0.out.trans (hT.below (by omega) (by omega) HB0.out.size)
    by_cases hlt : k < L.length ∧ k < 80
    · obtain ⟨hlt, hlt8⟩ := hlt
      obtain ⟨p, rfl, hp, r0, r1, r2, r3⟩ := (hL.below (hBr.mono hB)).row hlt
      have HS := Lib.hid (cutR_succ L k hlt)
      have HCT : Hid (∀ s : ByteArray, (1100 < s.size → s.extract 0 1100 = cutT s) ∧ (s.size ≤ 1100 → s = cutT s)) := fun s => ⟨fun h => by unfold cutT; rw [if_pos h], fun h => by unfold cutT; rw [if_neg (by omega)]⟩
      obtain ⟨acc, hacc⟩ : ∃ acc, rcells ((L.take k).map cutR) = acc := ⟨_, rfl⟩
      rw [hacc] at HS hown
      clear hacc
      generalize L.getD k default = r at *
      obtain ⟨key, value, gone, rt⟩ := r
      simp only [Rec.cells, cutR] at r0 r1 r2 r3 HS
      have h80 : decide ((80 : Int) ≤ (k : Int)) = false := by rw [decide_eq_false_iff_not]; omega
      have x6 : wr.cell? ⟨w.heap.size + 1 + 1, 6, none⟩ = some v := cell_of_row _ _ 6 _ _ _ hx
      have HOWN := Lib.hid hown
      have HX := Lib.hid hx
      have hltv := World.ownsRow.lt hown
      have HLTV := Lib.hid hltv
      clear hown hx hltv
      have key' : ∀ key1 value1 : ByteArray, key1 = cutT key → value1 = cutT value → True := fun _ _ _ _ => trivial
      clear key'
      rcases Nat.lt_or_ge 1100 key.size with g1 | g1
      all_goals
        have e1 := Lib.hid (by first | exact (HCT.out key).1 g1 | exact (HCT.out key).2 g1)
        rcases Nat.lt_or_ge 1100 value.size with g2 | g2
        all_goals
          have e2 := Lib.hid (by first | exact (HCT.out value).1 g2 | exact (HCT.out value).2 g2)
          have x6a : ∀ cs : Array Value, (wr.alloc (.cells cs 40)).cell? ⟨w.heap.size + 1 + 1, 6, none⟩ = some v := fun cs => (World.cell?_alloc_lt wr _ _ (by show w.heap.size + 1 + 1 < _; omega)).trans x6
          go_wp2_with (at_builtin; refine wpList_append_own_at _ rfl (.tmp 35) (.tmp 37) 22 rfl W0.heap.size 40 j0 _ 4 48 Try.underlying22 qj0 qy0 qy1 qy2 rfl (by decide) _ k acc rfl ((HOWN.out.alloc _).alloc _) ⟨wr.heap.size + 1, 0, none⟩ 1 1 [.string _, .string _, .bool gone, .int .i64 rt] rfl rfl (new_cells wr _ [.string _, .string _, .bool gone, .int .i64 rt] _) ?g1 ?g2 ?g3 ?g4 ?_)
          case g1 => intro u hu; simp at hu; rcases hu with rfl | rfl | rfl | rfl <;> rfl
          case g2 => unfold maxLen; omega
          case g3 => omega
          case g4 => simp; omega
          intro v4 w4 hown4 hg4 _ _
          rw [e1.out, e2.out] at hown4 hg4
          obtain ⟨A4, c4, rfl⟩ := own_slice hown4
          generalize hA1 : (wr.alloc (.cells #[.string (cutT key), .string (cutT value), .bool gone, .int .i64 rt] 40)).alloc (.cells [.string (cutT key), .string (cutT value), .bool gone, .int .i64 rt].toArray 40) = wa at *
          have hwa : Below wr.heap.size wr wa := by rw [← hA1]; exact ((Below.refl _ _).alloc (Nat.le_refl _) _).alloc (by simp) _
          have hx4 := ((hg4.block (w.heap.size + 1 + 1) (by have := hwa.size; omega) (fun e => by have := (HLTV.out _ e.symm).1; have := HZ0.out; omega)).trans (hwa.block _ (by omega))).trans HX.out
          have hT4 := (hT.trans (Two.of_below (g := w.heap.size + 1 + 1) (d := w.heap.size + 1 + 1) hwa)).grow hg4 (fun k hk => (HLTV.out k hk).1)
          have y6 : w4.cell? ⟨w.heap.size + 1 + 1, 6, none⟩ = some v := cell_of_row _ _ 6 _ _ _ hx4
          have f6 : w4.frozen? ⟨w.heap.size + 1 + 1, 6, none⟩ = false := frozen_of_row _ _ 6 _ _ hx4
          have hx5 : (w4.setCell ⟨w.heap.size + 1 + 1, 6, none⟩ (.slice A4 (k + 1) c4)).heap[w.heap.size + 1 + 1]? = some (.cells #[.int .i64 base, .int .i64 pid, .int .i64 epoch, .int .i64 seq, .int .i64 kind, .int .i64 time, .slice A4 (k + 1) c4] 24 (0, 0)) := by rw [heap_setCell_same w4 _ 6 _ _ _ hx4]; rfl
          have hT5 := hT4.trans (Two.set (g := w.heap.size + 1 + 1) (d := w.heap.size + 1 + 1) w4 6 (.slice A4 (k + 1) c4))
          have hown5 := row_two hown4 (Two.set (g := w.heap.size + 1 + 1) (d := w.heap.size + 1 + 1) w4 6 (.slice A4 (k + 1) c4)) (by have := HZ0.out; omega) (by have := HZ0.out; omega)
          have HX5 := Lib.hid hx5
          have HT5 := Lib.hid hT5
          have HOWN5 := Lib.hid hown5
          clear hown4 hg4 hx4 hT4 hx5 hT5 hown5 hwa hA1 x6 x6a HOWN HX
          go_wp2
          go_roundw
          case rel => exact ⟨k + 1, by omega, by omega, by go_num, _, HX5.out, by rw [HS.out]; exact HOWN5.out, HT5.out⟩
          case measure => simp [intOf]; omega
    · have hex : k = L.length ∨ (k < L.length ∧ k = 80) := by omega
      have HTK : Hid ((L.take 80).map cutR = (L.take k).map cutR) := by
        show _ = _
        rcases hex with h | ⟨_, h⟩
        · rw [h, List.take_of_length_le (by omega), List.take_of_length_le (Nat.le_refl _)]
        · rw [h]
      have HTL : Hid (((L.take k).map cutR).length = k) := by show _ = _; rw [List.length_map, List.length_take]; omega
      obtain ⟨A', c', rfl, hc1, hc2, hR3, hR4⟩ := Rcs.of_own hown HTL.out (fun r hr => by
        obtain ⟨r0, hr0, rfl⟩ := List.mem_map.1 hr
        exact hL.ok r0 (List.mem_of_mem_take hr0))
      have hr := (hT.block (w.heap.size + 1) (by have := HZ0.out; omega) (by omega) (by omega)).trans K2.out
      have HXX := Lib.hid (hL.below (hBr.mono hB))
      have HBF := Lib.hid hBr
      have HR3 := Lib.hid hR3
      have HR4 := Lib.hid hR4
      clear hown hR3 hR4 hT hBr hL
      rcases hex with hkl | ⟨hlt1, hk4⟩
      · clear HXX
        have hge0 : decide ((k : Int) < (L.length : Int)) = false := by rw [decide_eq_false_iff_not]; omega
        have hge1 : decide (k < L.length) = false := by rw [decide_eq_false_iff_not]; omega
        have hge2 : ¬ k < L.length := by omega
        clear hkl
        have m0 : wr.cell? ⟨w.heap.size + 1 + 1, 0, none⟩ = some (.int .i64 base) := cell_of_row _ _ 0 _ _ _ hx
        have d0 : wr.cell? ⟨w.heap.size + 1, 0, none⟩ = some (.int .i64 0) := cell_of_row _ _ 0 _ _ _ hr
        have h0 : wr.frozen? ⟨w.heap.size + 1, 0, none⟩ = false := frozen_of_row _ _ 0 _ _ hr
        have m1 : wr.cell? ⟨w.heap.size + 1 + 1, 1, none⟩ = some (.int .i64 pid) := cell_of_row _ _ 1 _ _ _ hx
        have d1 : wr.cell? ⟨w.heap.size + 1, 1, none⟩ = some (.int .i64 0) := cell_of_row _ _ 1 _ _ _ hr
        have h1 : wr.frozen? ⟨w.heap.size + 1, 1, none⟩ = false := frozen_of_row _ _ 1 _ _ hr
        have m2 : wr.cell? ⟨w.heap.size + 1 + 1, 2, none⟩ = some (.int .i64 epoch) := cell_of_row _ _ 2 _ _ _ hx
        have d2 : wr.cell? ⟨w.heap.size + 1, 2, none⟩ = some (.int .i64 0) := cell_of_row _ _ 2 _ _ _ hr
        have h2 : wr.frozen? ⟨w.heap.size + 1, 2, none⟩ = false := frozen_of_row _ _ 2 _ _ hr
        have m3 : wr.cell? ⟨w.heap.size + 1 + 1, 3, none⟩ = some (.int .i64 seq) := cell_of_row _ _ 3 _ _ _ hx
        have d3 : wr.cell? ⟨w.heap.size + 1, 3, none⟩ = some (.int .i64 0) := cell_of_row _ _ 3 _ _ _ hr
        have h3 : wr.frozen? ⟨w.heap.size + 1, 3, none⟩ = false := frozen_of_row _ _ 3 _ _ hr
        have m4 : wr.cell? ⟨w.heap.size + 1 + 1, 4, none⟩ = some (.int .i64 kind) := cell_of_row _ _ 4 _ _ _ hx
        have d4 : wr.cell? ⟨w.heap.size + 1, 4, none⟩ = some (.int .i64 0) := cell_of_row _ _ 4 _ _ _ hr
        have h4 : wr.frozen? ⟨w.heap.size + 1, 4, none⟩ = false := frozen_of_row _ _ 4 _ _ hr
        have m5 : wr.cell? ⟨w.heap.size + 1 + 1, 5, none⟩ = some (.int .i64 time) := cell_of_row _ _ 5 _ _ _ hx
        have d5 : wr.cell? ⟨w.heap.size + 1, 5, none⟩ = some (.int .i64 0) := cell_of_row _ _ 5 _ _ _ hr
        have h5 : wr.frozen? ⟨w.heap.size + 1, 5, none⟩ = false := frozen_of_row _ _ 5 _ _ hr
        have m6 : wr.cell? ⟨w.heap.size + 1 + 1, 6, none⟩ = some (.slice A' k c') := cell_of_row _ _ 6 _ _ _ hx
        have d6 : wr.cell? ⟨w.heap.size + 1, 6, none⟩ = some (.slice none 0 0) := cell_of_row _ _ 6 _ _ _ hr
        have h6 : wr.frozen? ⟨w.heap.size + 1, 6, none⟩ = false := frozen_of_row _ _ 6 _ _ hr
        clear hx hr
        go_wp2_with fail
        refine bodyPost_ret (v := .agg #[.int .i64 base, .int .i64 pid, .int .i64 epoch, .int .i64 seq, .int .i64 kind, .int .i64 time, .slice A' k c']) (by simp [results, Try.results5, go_sem, d0, d1, d2, d3, d4, d5, d6]) rfl ?_
        refine ⟨A', c', by rw [HTK.out, HTL.out], by rw [HTK.out, HTL.out]; exact hc1, hc2, ?_, fun p hp => by have := HR4.out p hp; have := HZ0.out; omega, ?_⟩
        · rw [HTK.out, HTL.out]
          refine Rcs.wider (B := wr.heap.size) ⟨HR3.out.len, HR3.out.lies.far_ fun p hp i => ?_, HR3.out.ok⟩ (by simp)
          have hpb := HR4.out p hp
          have hz := HZ0.out
          have hpi := add_block p i
          have n0 : ¬ w.heap.size + 1 = (p.add i).block := by rw [hpi]; omega
          simp only [World.cell?_setCell_far, ne_eq, n0, not_false_eq_true]
        · repeat refine Below.setCell ?_ (by simp) _
          exact HBF.out
      · obtain ⟨p, rfl, hp, r0, r1, r2, r3⟩ := HXX.out.row hlt1
        generalize L.getD k default = r at *
        obtain ⟨key, value, gone, rt⟩ := r
        simp only at r0 r1 r2 r3
        have hge : decide ((80 : Int) ≤ (k : Int)) = true := by rw [decide_eq_true_iff]; omega
        have hal := (Below.refl wr.heap.size wr).alloc (Nat.le_refl _) (.cells #[.string key, .string value, .bool gone, .int .i64 rt] 40)
        have hx1 := (hal.block (w.heap.size + 1 + 1) (by omega)).trans hx
        have hr1 := (hal.block (w.heap.size + 1) (by omega)).trans hr
        have HR3' := Lib.hid ((HR3.out.below hal).wider hal.size)
        have HBF' := Lib.hid (HBF.out.trans (hal.mono HBF.out.size))
        clear hk4 HXX hx hr HR3 HBF hal
        have m0 : (wr.alloc (.cells #[.string key, .string value, .bool gone, .int .i64 rt] 40)).cell? ⟨w.heap.size + 1 + 1, 0, none⟩ = some (.int .i64 base) := cell_of_row _ _ 0 _ _ _ hx1
        have d0 : (wr.alloc (.cells #[.string key, .string value, .bool gone, .int .i64 rt] 40)).cell? ⟨w.heap.size + 1, 0, none⟩ = some (.int .i64 0) := cell_of_row _ _ 0 _ _ _ hr1
        have h0 : (wr.alloc (.cells #[.string key, .string value, .bool gone, .int .i64 rt] 40)).frozen? ⟨w.heap.size + 1, 0, none⟩ = false := frozen_of_row _ _ 0 _ _ hr1
        have m1 : (wr.alloc (.cells #[.string key, .string value, .bool gone, .int .i64 rt] 40)).cell? ⟨w.heap.size + 1 + 1, 1, none⟩ = some (.int .i64 pid) := cell_of_row _ _ 1 _ _ _ hx1
        have d1 : (wr.alloc (.cells #[.string key, .string value, .bool gone, .int .i64 rt] 40)).cell? ⟨w.heap.size + 1, 1, none⟩ = some (.int .i64 0) := cell_of_row _ _ 1 _ _ _ hr1
        have h1 : (wr.alloc (.cells #[.string key, .string value, .bool gone, .int .i64 rt] 40)).frozen? ⟨w.heap.size + 1, 1, none⟩ = false := frozen_of_row _ _ 1 _ _ hr1
        have m2 : (wr.alloc (.cells #[.string key, .string value, .bool gone, .int .i64 rt] 40)).cell? ⟨w.heap.size + 1 + 1, 2, none⟩ = some (.int .i64 epoch) := cell_of_row _ _ 2 _ _ _ hx1
        have d2 : (wr.alloc (.cells #[.string key, .string value, .bool gone, .int .i64 rt] 40)).cell? ⟨w.heap.size + 1, 2, none⟩ = some (.int .i64 0) := cell_of_row _ _ 2 _ _ _ hr1
        have h2 : (wr.alloc (.cells #[.string key, .string value, .bool gone, .int .i64 rt] 40)).frozen? ⟨w.heap.size + 1, 2, none⟩ = false := frozen_of_row _ _ 2 _ _ hr1
        have m3 : (wr.alloc (.cells #[.string key, .string value, .bool gone, .int .i64 rt] 40)).cell? ⟨w.heap.size + 1 + 1, 3, none⟩ = some (.int .i64 seq) := cell_of_row _ _ 3 _ _ _ hx1
        have d3 : (wr.alloc (.cells #[.string key, .string value, .bool gone, .int .i64 rt] 40)).cell? ⟨w.heap.size + 1, 3, none⟩ = some (.int .i64 0) := cell_of_row _ _ 3 _ _ _ hr1
        have h3 : (wr.alloc (.cells #[.string key, .string value, .bool gone, .int .i64 rt] 40)).frozen? ⟨w.heap.size + 1, 3, none⟩ = false := frozen_of_row _ _ 3 _ _ hr1
        have m4 : (wr.alloc (.cells #[.string key, .string value, .bool gone, .int .i64 rt] 40)).cell? ⟨w.heap.size + 1 + 1, 4, none⟩ = some (.int .i64 kind) := cell_of_row _ _ 4 _ _ _ hx1
        have d4 : (wr.alloc (.cells #[.string key, .string value, .bool gone, .int .i64 rt] 40)).cell? ⟨w.heap.size + 1, 4, none⟩ = some (.int .i64 0) := cell_of_row _ _ 4 _ _ _ hr1
        have h4 : (wr.alloc (.cells #[.string key, .string value, .bool gone, .int .i64 rt] 40)).frozen? ⟨w.heap.size + 1, 4, none⟩ = false := frozen_of_row _ _ 4 _ _ hr1
        have m5 : (wr.alloc (.cells #[.string key, .string value, .bool gone, .int .i64 rt] 40)).cell? ⟨w.heap.size + 1 + 1, 5, none⟩ = some (.int .i64 time) := cell_of_row _ _ 5 _ _ _ hx1
        have d5 : (wr.alloc (.cells #[.string key, .string value, .bool gone, .int .i64 rt] 40)).cell? ⟨w.heap.size + 1, 5, none⟩ = some (.int .i64 0) := cell_of_row _ _ 5 _ _ _ hr1
        have h5 : (wr.alloc (.cells #[.string key, .string value, .bool gone, .int .i64 rt] 40)).frozen? ⟨w.heap.size + 1, 5, none⟩ = false := frozen_of_row _ _ 5 _ _ hr1
        have m6 : (wr.alloc (.cells #[.string key, .string value, .bool gone, .int .i64 rt] 40)).cell? ⟨w.heap.size + 1 + 1, 6, none⟩ = some (.slice A' k c') := cell_of_row _ _ 6 _ _ _ hx1
        have d6 : (wr.alloc (.cells #[.string key, .string value, .bool gone, .int .i64 rt] 40)).cell? ⟨w.heap.size + 1, 6, none⟩ = some (.slice none 0 0) := cell_of_row _ _ 6 _ _ _ hr1
        have h6 : (wr.alloc (.cells #[.string key, .string value, .bool gone, .int .i64 rt] 40)).frozen? ⟨w.heap.size + 1, 6, none⟩ = false := frozen_of_row _ _ 6 _ _ hr1
        clear hx1 hr1
        go_wp2_with fail
        refine bodyPost_ret (v := .agg #[.int .i64 base, .int .i64 pid, .int .i64 epoch, .int .i64 seq, .int .i64 kind, .int .i64 time, .slice A' k c']) (by simp [results, Try.results5, go_sem, d0, d1, d2, d3, d4, d5, d6]) rfl ?_
        refine ⟨A', c', by rw [HTK.out, HTL.out], by rw [HTK.out, HTL.out]; exact hc1, hc2, ?_, fun p hp => by have := HR4.out p hp; have := HZ0.out; omega, ?_⟩
        · rw [HTK.out, HTL.out]
          refine Rcs.wider (B := (wr.alloc (.cells #[.string key, .string value, .bool gone, .int .i64 rt] 40)).heap.size) ⟨HR3'.out.len, HR3'.out.lies.far_ fun p hp i => ?_, HR3'.out.ok⟩ (by simp)
          have hpb := HR4.out p hp
          have hz := HZ0.out
          have hpi := add_block p i
          have n0 : ¬ w.heap.size + 1 = (p.add i).block := by rw [hpi]; omega
          simp only [World.cell?_setCell_far, ne_eq, n0, not_false_eq_true]
        · repeat refine Below.setCell ?_ (by simp) _
          exact HBF'.out
end Go.Proofs.Ytniopekkfnkipaa
namespace Go.Proofs.Ytniopekkfnkipaa
open Go.RowKit
set_option linter.unusedVariables false
set_option linter.unusedSimpArgs false
theorem Rcs.twoc {w w' : World} {g d n : Nat} {A : Option Addr} {L : List Rec} (h : Rcs w w.heap.size A n L) (hT : Two g d w w') (hA : ∀ p, A = some p → p.block ≠ g ∧ p.block ≠ d) : Rcs w' w'.heap.size A n L :=
  ⟨h.len, ⟨fun j u hj => by
    obtain ⟨p, e, hb, hc⟩ := h.lies.get j u hj
    obtain ⟨h1, h2⟩ := hA p e
    exact ⟨p, e, Nat.lt_of_lt_of_le hb hT.size, (World.cell?_of_block (hT.block _ (by rw [add_block]; exact hb) (by rw [add_block]; exact h1) (by rw [add_block]; exact h2))).trans hc⟩⟩, h.ok⟩
theorem set7c {w : World} {g : Nat} {T : TypeId} {x0 x1 x2 x3 x4 x5 x6 : Value} (y0 y1 y2 y3 y4 y5 y6 : Value) (h : w.heap[g]? = some (.cells #[x0, x1, x2, x3, x4, x5, x6] T (0, 0))) :
    (((((((w.setCell ⟨g, 0, none⟩ y0).setCell ⟨g, 1, none⟩ y1).setCell ⟨g, 2, none⟩ y2).setCell ⟨g, 3, none⟩ y3).setCell ⟨g, 4, none⟩ y4).setCell ⟨g, 5, none⟩ y5).setCell ⟨g, 6, none⟩ y6).heap[g]? = some (.cells #[y0, y1, y2, y3, y4, y5, y6] T (0, 0)) ∧
    Two g g w (((((((w.setCell ⟨g, 0, none⟩ y0).setCell ⟨g, 1, none⟩ y1).setCell ⟨g, 2, none⟩ y2).setCell ⟨g, 3, none⟩ y3).setCell ⟨g, 4, none⟩ y4).setCell ⟨g, 5, none⟩ y5).setCell ⟨g, 6, none⟩ y6) := by
  have h0 : (w.setCell ⟨g, 0, none⟩ y0).heap[g]? = some (.cells #[y0, x1, x2, x3, x4, x5, x6] T (0, 0)) := by rw [heap_setCell_same _ g 0 _ _ _ h]; rfl
  have h1 : ((w.setCell ⟨g, 0, none⟩ y0).setCell ⟨g, 1, none⟩ y1).heap[g]? = some (.cells #[y0, y1, x2, x3, x4, x5, x6] T (0, 0)) := by rw [heap_setCell_same _ g 1 _ _ _ h0]; rfl
  have h2 : (((w.setCell ⟨g, 0, none⟩ y0).setCell ⟨g, 1, none⟩ y1).setCell ⟨g, 2, none⟩ y2).heap[g]? = some (.cells #[y0, y1, y2, x3, x4, x5, x6] T (0, 0)) := by rw [heap_setCell_same _ g 2 _ _ _ h1]; rfl
  have h3 : ((((w.setCell ⟨g, 0, none⟩ y0).setCell ⟨g, 1, none⟩ y1).setCell ⟨g, 2, none⟩ y2).setCell ⟨g, 3, none⟩ y3).heap[g]? = some (.cells #[y0, y1, y2, y3, x4, x5, x6] T (0, 0)) := by rw [heap_setCell_same _ g 3 _ _ _ h2]; rfl
  have h4 : (((((w.setCell ⟨g, 0, none⟩ y0).setCell ⟨g, 1, none⟩ y1).setCell ⟨g, 2, none⟩ y2).setCell ⟨g, 3, none⟩ y3).setCell ⟨g, 4, none⟩ y4).heap[g]? = some (.cells #[y0, y1, y2, y3, y4, x5, x6] T (0, 0)) := by rw [heap_setCell_same _ g 4 _ _ _ h3]; rfl
  have h5 : ((((((w.setCell ⟨g, 0, none⟩ y0).setCell ⟨g, 1, none⟩ y1).setCell ⟨g, 2, none⟩ y2).setCell ⟨g, 3, none⟩ y3).setCell ⟨g, 4, none⟩ y4).setCell ⟨g, 5, none⟩ y5).heap[g]? = some (.cells #[y0, y1, y2, y3, y4, y5, x6] T (0, 0)) := by rw [heap_setCell_same _ g 5 _ _ _ h4]; rfl
  refine ⟨by rw [heap_setCell_same _ g 6 _ _ _ h5]; rfl, ?_⟩
  exact (((((((Two.set w 0 _).trans (Two.set _ 1 _)).trans (Two.set _ 2 _)).trans (Two.set _ 3 _)).trans (Two.set _ 4 _)).trans (Two.set _ 5 _)).trans (Two.set _ 6 _))
theorem cutB_ok (b : Bat) (h : b.ok) : (cutB b).ok := ⟨h.base, h.pid, h.epoch, h.seq, h.kind, h.time⟩
theorem beq_self_l (l : List UInt8) : (l == l) = true := by simp
end Go.Proofs.Ytniopekkfnkipaa
