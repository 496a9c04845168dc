/-
  What rec.From does.
-/
import Derived.Test.YtabbbamokhaaoaaRecP
import Derived.Test.YtabbbamokhaaoaaRecNx
namespace Go.Proofs.Ytabbbamokhaaoaa
open Go.RowKit
set_option linter.unusedVariables false
set_option linter.unusedSimpArgs false

def zB : Bat := ⟨0, 0, 0, 0, 0, 0, []⟩
def fromOk (b : Bat) (o : Int) : Bool := decide (validE b = 0) && decide (o < nextI b)
def fromB (b : Bat) (o : Int) : Bat := if fromOk b o = true then (if o ≤ b.base then b else partB b (o - b.base).toNat b.L.length) else zB
set_option maxRecDepth 100000 in
set_option maxHeartbeats 4000000 in
theorem from_any (b : Bat) (A : Option Addr) (c B : Nat) (o : Int) (w : World) (hL : Rcs w B A b.L.length b.L) (hB : B ≤ w.heap.size) (hl : b.L.length ≤ 80) (hc : b.L.length ≤ c) (hcm : c ≤ maxLen) :
    Calls Try.prog 49 #[.agg (b.cells A c), .int .i64 o] w fun e w' => ∃ A' c', e = .returned (.tuple #[.agg ((fromB b o).cells A' c'), .bool (fromOk b o)]) ∧ Rcs w' w'.heap.size A' (fromB b o).L.length (fromB b o).L ∧ Below w.heap.size w w' := by
  have HVA : Hid (∀ W, Below w.heap.size w W → Calls Try.prog 44 #[.agg (b.cells A c)] W fun e w' => e = .returned (.int .i64 (validE b)) ∧ Below W.heap.size W w') := fun W h => valid_any b A c B W (hL.below (h.mono hB)) (Nat.le_trans hB h.size) (by unfold maxLen; omega)
  have HNX : Hid (∀ W, Below w.heap.size w W → Calls Try.prog 47 #[.agg (b.cells A c)] W fun e w' => e = .returned (.int .i64 (nextI b)) ∧ Below W.heap.size W w') := fun W h => next_any b A c B W (hL.below (h.mono hB)) (Nat.le_trans hB h.size) (by unfold maxLen; omega)
  have HCP : Hid (∀ W, Below w.heap.size w W → Calls Try.prog 52 #[.agg (b.cells A c)] W fun e w' => ∃ A' c', e = .returned (.agg (b.cells A' c')) ∧ w'.ownsRow W.heap.size 84 4 (.slice A' b.L.length c') b.L.length (rcells b.L) ∧ (∀ p, A' = some p → W.heap.size ≤ p.block) ∧ Below W.heap.size W w') := fun W h => copy_any b A c B W (hL.below (h.mono hB)) (Nat.le_trans hB h.size) (by omega)
  have HPT : Hid (∀ (W : World) (i : Nat), Below w.heap.size w W → Fine b → i < b.L.length → Calls Try.prog 98 #[.agg (b.cells A c), .int .i64 i, .int .i64 (b.L.length : Nat)] W fun e w' => ∃ A' c', e = .returned (.agg ((partB b i b.L.length).cells A' c')) ∧ w'.ownsRow W.heap.size 84 4 (.slice A' (b.L.length - i) c') (b.L.length - i) (rcells (partB b i b.L.length).L) ∧ (∀ p, A' = some p → W.heap.size ≤ p.block) ∧ Below W.heap.size W w') := fun W i h hF hi =>
    part_any b A c B i b.L.length W (hL.below (h.mono hB)) (Nat.le_trans hB h.size) hF.len hc hcm (by omega) (Nat.le_refl _) hi hF.b1 hF.b2 hF.s1 hF.s2
  have HFI := Lib.hid (fine_iff b)
  have HFB : Hid (fromB b o = if fromOk b o = true then (if o ≤ b.base then b else partB b (o - b.base).toNat b.L.length) else zB) := rfl
  have HFO : Hid (fromOk b o = (decide (validE b = 0) && decide (o < nextI b))) := rfl
  have HNI : Hid (nextI b = if validE b = 0 then b.base + spanI b else 0) := rfl
  have HSP : Hid (spanI b = if markB b then 1 else (b.L.length : Int)) := rfl
  have HOK := Lib.hid hL.ok
  generalize fromB b o = FB at *
  generalize fromOk b o = FO at *
  have HPB : Hid (∀ i, (partB b i b.L.length) = ⟨b.base + (i : Int), b.pid, b.epoch, if b.pid = 0 then b.seq else b.seq + (i : Int), b.kind, b.time, (b.L.take b.L.length).drop i⟩) := fun i => rfl
  generalize validE b = V at *
  generalize nextI b = NX at *
  obtain ⟨base, pid, epoch, seq, kind, time, L⟩ := b
  simp only [Bat.cells] at *
  obtain ⟨W0, hW0⟩ : ∃ W0, (w.alloc (.cells #[.int .i64 base, .int .i64 pid, .int .i64 epoch, .int .i64 seq, .int .i64 kind, .int .i64 time, .slice A L.length c] 66)).alloc (.cells #[.int .i64 0, .int .i64 0, .int .i64 0, .int .i64 0, .int .i64 0, .int .i64 0, .slice none 0 0] 66) = W0 := ⟨_, rfl⟩
  have hz0 : W0.heap.size = w.heap.size + 1 + 1 := by rw [← hW0]; simp
  have hB0 : Below w.heap.size w W0 := by rw [← hW0]; exact ((Below.refl _ _).alloc (Nat.le_refl _) _).alloc (by simp) _
  have k1 : W0.heap[w.heap.size]? = some (.cells #[.int .i64 base, .int .i64 pid, .int .i64 epoch, .int .i64 seq, .int .i64 kind, .int .i64 time, .slice A L.length c] 66 (0, 0)) := by
    rw [← hW0, ← heap_alloc_new w (.cells #[.int .i64 base, .int .i64 pid, .int .i64 epoch, .int .i64 seq, .int .i64 kind, .int .i64 time, .slice A L.length c] 66)]
    exact ((Below.refl (w.heap.size + 1) _).alloc (by simp) _).block w.heap.size (by omega)
  have k2 : W0.heap[w.heap.size + 1]? = some (.cells #[.int .i64 0, .int .i64 0, .int .i64 0, .int .i64 0, .int .i64 0, .int .i64 0, .slice none 0 0] 66 (0, 0)) := by
    have h := heap_alloc_new (w.alloc (.cells #[.int .i64 base, .int .i64 pid, .int .i64 epoch, .int .i64 seq, .int .i64 kind, .int .i64 time, .slice A L.length c] 66)) (.cells #[.int .i64 0, .int .i64 0, .int .i64 0, .int .i64 0, .int .i64 0, .int .i64 0, .slice none 0 0] 66)
    rw [show (w.alloc (.cells #[.int .i64 base, .int .i64 pid, .int .i64 epoch, .int .i64 seq, .int .i64 kind, .int .i64 time, .slice A L.length c] 66)).heap.size = w.heap.size + 1 from by simp] at h
    rw [← hW0]; exact h
  have c6 : W0.cell? ⟨w.heap.size, 6, none⟩ = some (.slice A L.length c) := cell_of_row _ _ 6 _ _ _ k1
  have HB0 := Lib.hid hB0
  have K1 := Lib.hid k1
  have K2 := Lib.hid k2
  have HW0 := Lib.hid hW0
  clear hL hB0 k1 k2 hW0 c6
  go_enter Try.func49, Try.ntmps49
  go_upto_region 1 with fail
  rw [HW0.out]
  have y0 : W0.cell? ⟨w.heap.size, 0, none⟩ = some (.int .i64 base) := cell_of_row _ _ 0 _ _ _ K1.out
  have d0 : W0.cell? ⟨w.heap.size + 1, 0, none⟩ = some (.int .i64 0) := cell_of_row _ _ 0 _ _ _ K2.out
  have g0 : W0.frozen? ⟨w.heap.size + 1, 0, none⟩ = false := frozen_of_row _ _ 0 _ _ K2.out
  have y1 : W0.cell? ⟨w.heap.size, 1, none⟩ = some (.int .i64 pid) := cell_of_row _ _ 1 _ _ _ K1.out
  have d1 : W0.cell? ⟨w.heap.size + 1, 1, none⟩ = some (.int .i64 0) := cell_of_row _ _ 1 _ _ _ K2.out
  have g1 : W0.frozen? ⟨w.heap.size + 1, 1, none⟩ = false := frozen_of_row _ _ 1 _ _ K2.out
  have y2 : W0.cell? ⟨w.heap.size, 2, none⟩ = some (.int .i64 epoch) := cell_of_row _ _ 2 _ _ _ K1.out
  have d2 : W0.cell? ⟨w.heap.size + 1, 2, none⟩ = some (.int .i64 0) := cell_of_row _ _ 2 _ _ _ K2.out
  have g2 : W0.frozen? ⟨w.heap.size + 1, 2, none⟩ = false := frozen_of_row _ _ 2 _ _ K2.out
  have y3 : W0.cell? ⟨w.heap.size, 3, none⟩ = some (.int .i64 seq) := cell_of_row _ _ 3 _ _ _ K1.out
  have d3 : W0.cell? ⟨w.heap.size + 1, 3, none⟩ = some (.int .i64 0) := cell_of_row _ _ 3 _ _ _ K2.out
  have g3 : W0.frozen? ⟨w.heap.size + 1, 3, none⟩ = false := frozen_of_row _ _ 3 _ _ K2.out
  have y4 : W0.cell? ⟨w.heap.size, 4, none⟩ = some (.int .i64 kind) := cell_of_row _ _ 4 _ _ _ K1.out
  have d4 : W0.cell? ⟨w.heap.size + 1, 4, none⟩ = some (.int .i64 0) := cell_of_row _ _ 4 _ _ _ K2.out
  have g4 : W0.frozen? ⟨w.heap.size + 1, 4, none⟩ = false := frozen_of_row _ _ 4 _ _ K2.out
  have y5 : W0.cell? ⟨w.heap.size, 5, none⟩ = some (.int .i64 time) := cell_of_row _ _ 5 _ _ _ K1.out
  have d5 : W0.cell? ⟨w.heap.size + 1, 5, none⟩ = some (.int .i64 0) := cell_of_row _ _ 5 _ _ _ K2.out
  have g5 : W0.frozen? ⟨w.heap.size + 1, 5, none⟩ = false := frozen_of_row _ _ 5 _ _ K2.out
  have y6 : W0.cell? ⟨w.heap.size, 6, none⟩ = some (.slice A L.length c) := cell_of_row _ _ 6 _ _ _ K1.out
  have d6 : W0.cell? ⟨w.heap.size + 1, 6, none⟩ = some (.slice none 0 0) := cell_of_row _ _ 6 _ _ _ K2.out
  have g6 : W0.frozen? ⟨w.heap.size + 1, 6, none⟩ = false := frozen_of_row _ _ 6 _ _ K2.out
  go_wp2_with fail
  refine (HVA.out W0 HB0.out).mono ?_
  rintro e w2 ⟨rfl, hb2⟩
  have hB2 := HB0.out.trans (hb2.mono (by omega))
  have HQ1 := Lib.hid ((hb2.block w.heap.size (by omega)).trans K1.out)
  have HQ2 := Lib.hid ((hb2.block (w.heap.size + 1) (by omega)).trans K2.out)
  have hs2 := hb2.size
  have HB2 := Lib.hid hB2
  clear y0 d0 g0 y1 d1 g1 y2 d2 g2 y3 d3 g3 y4 d4 g4 y5 d5 g5 y6 d6 g6 hb2 hB2 HVA
  have y0 : w2.cell? ⟨w.heap.size, 0, none⟩ = some (.int .i64 base) := cell_of_row _ _ 0 _ _ _ HQ1.out
  have d0 : w2.cell? ⟨w.heap.size + 1, 0, none⟩ = some (.int .i64 0) := cell_of_row _ _ 0 _ _ _ HQ2.out
  have g0 : w2.frozen? ⟨w.heap.size + 1, 0, none⟩ = false := frozen_of_row _ _ 0 _ _ HQ2.out
  have y1 : w2.cell? ⟨w.heap.size, 1, none⟩ = some (.int .i64 pid) := cell_of_row _ _ 1 _ _ _ HQ1.out
  have d1 : w2.cell? ⟨w.heap.size + 1, 1, none⟩ = some (.int .i64 0) := cell_of_row _ _ 1 _ _ _ HQ2.out
  have g1 : w2.frozen? ⟨w.heap.size + 1, 1, none⟩ = false := frozen_of_row _ _ 1 _ _ HQ2.out
  have y2 : w2.cell? ⟨w.heap.size, 2, none⟩ = some (.int .i64 epoch) := cell_of_row _ _ 2 _ _ _ HQ1.out
  have d2 : w2.cell? ⟨w.heap.size + 1, 2, none⟩ = some (.int .i64 0) := cell_of_row _ _ 2 _ _ _ HQ2.out
  have g2 : w2.frozen? ⟨w.heap.size + 1, 2, none⟩ = false := frozen_of_row _ _ 2 _ _ HQ2.out
  have y3 : w2.cell? ⟨w.heap.size, 3, none⟩ = some (.int .i64 seq) := cell_of_row _ _ 3 _ _ _ HQ1.out
  have d3 : w2.cell? ⟨w.heap.size + 1, 3, none⟩ = some (.int .i64 0) := cell_of_row _ _ 3 _ _ _ HQ2.out
  have g3 : w2.frozen? ⟨w.heap.size + 1, 3, none⟩ = false := frozen_of_row _ _ 3 _ _ HQ2.out
  have y4 : w2.cell? ⟨w.heap.size, 4, none⟩ = some (.int .i64 kind) := cell_of_row _ _ 4 _ _ _ HQ1.out
  have d4 : w2.cell? ⟨w.heap.size + 1, 4, none⟩ = some (.int .i64 0) := cell_of_row _ _ 4 _ _ _ HQ2.out
  have g4 : w2.frozen? ⟨w.heap.size + 1, 4, none⟩ = false := frozen_of_row _ _ 4 _ _ HQ2.out
  have y5 : w2.cell? ⟨w.heap.size, 5, none⟩ = some (.int .i64 time) := cell_of_row _ _ 5 _ _ _ HQ1.out
  have d5 : w2.cell? ⟨w.heap.size + 1, 5, none⟩ = some (.int .i64 0) := cell_of_row _ _ 5 _ _ _ HQ2.out
  have g5 : w2.frozen? ⟨w.heap.size + 1, 5, none⟩ = false := frozen_of_row _ _ 5 _ _ HQ2.out
  have y6 : w2.cell? ⟨w.heap.size, 6, none⟩ = some (.slice A L.length c) := cell_of_row _ _ 6 _ _ _ HQ1.out
  have d6 : w2.cell? ⟨w.heap.size + 1, 6, none⟩ = some (.slice none 0 0) := cell_of_row _ _ 6 _ _ _ HQ2.out
  have g6 : w2.frozen? ⟨w.heap.size + 1, 6, none⟩ = false := frozen_of_row _ _ 6 _ _ HQ2.out
  by_cases hV : V = 0
  · subst hV
    go_wp2_with fail
    refine (HNX.out w2 HB2.out).mono ?_
    rintro e w3 ⟨rfl, hb3⟩
    have hB3 := HB2.out.trans (hb3.mono HB2.out.size)
    have HQ3 := Lib.hid ((hb3.block w.heap.size (by omega)).trans HQ1.out)
    have HQ4 := Lib.hid ((hb3.block (w.heap.size + 1) (by omega)).trans HQ2.out)
    have hs3 := hb3.size
    have HB3 := Lib.hid hB3
    clear y0 d0 g0 y1 d1 g1 y2 d2 g2 y3 d3 g3 y4 d4 g4 y5 d5 g5 y6 d6 g6 hb3 hB3 HNX
    have y0 : w3.cell? ⟨w.heap.size, 0, none⟩ = some (.int .i64 base) := cell_of_row _ _ 0 _ _ _ HQ3.out
    have d0 : w3.cell? ⟨w.heap.size + 1, 0, none⟩ = some (.int .i64 0) := cell_of_row _ _ 0 _ _ _ HQ4.out
    have g0 : w3.frozen? ⟨w.heap.size + 1, 0, none⟩ = false := frozen_of_row _ _ 0 _ _ HQ4.out
    have y1 : w3.cell? ⟨w.heap.size, 1, none⟩ = some (.int .i64 pid) := cell_of_row _ _ 1 _ _ _ HQ3.out
    have d1 : w3.cell? ⟨w.heap.size + 1, 1, none⟩ = some (.int .i64 0) := cell_of_row _ _ 1 _ _ _ HQ4.out
    have g1 : w3.frozen? ⟨w.heap.size + 1, 1, none⟩ = false := frozen_of_row _ _ 1 _ _ HQ4.out
    have y2 : w3.cell? ⟨w.heap.size, 2, none⟩ = some (.int .i64 epoch) := cell_of_row _ _ 2 _ _ _ HQ3.out
    have d2 : w3.cell? ⟨w.heap.size + 1, 2, none⟩ = some (.int .i64 0) := cell_of_row _ _ 2 _ _ _ HQ4.out
    have g2 : w3.frozen? ⟨w.heap.size + 1, 2, none⟩ = false := frozen_of_row _ _ 2 _ _ HQ4.out
    have y3 : w3.cell? ⟨w.heap.size, 3, none⟩ = some (.int .i64 seq) := cell_of_row _ _ 3 _ _ _ HQ3.out
    have d3 : w3.cell? ⟨w.heap.size + 1, 3, none⟩ = some (.int .i64 0) := cell_of_row _ _ 3 _ _ _ HQ4.out
    have g3 : w3.frozen? ⟨w.heap.size + 1, 3, none⟩ = false := frozen_of_row _ _ 3 _ _ HQ4.out
    have y4 : w3.cell? ⟨w.heap.size, 4, none⟩ = some (.int .i64 kind) := cell_of_row _ _ 4 _ _ _ HQ3.out
    have d4 : w3.cell? ⟨w.heap.size + 1, 4, none⟩ = some (.int .i64 0) := cell_of_row _ _ 4 _ _ _ HQ4.out
    have g4 : w3.frozen? ⟨w.heap.size + 1, 4, none⟩ = false := frozen_of_row _ _ 4 _ _ HQ4.out
    have y5 : w3.cell? ⟨w.heap.size, 5, none⟩ = some (.int .i64 time) := cell_of_row _ _ 5 _ _ _ HQ3.out
    have d5 : w3.cell? ⟨w.heap.size + 1, 5, none⟩ = some (.int .i64 0) := cell_of_row _ _ 5 _ _ _ HQ4.out
    have g5 : w3.frozen? ⟨w.heap.size + 1, 5, none⟩ = false := frozen_of_row _ _ 5 _ _ HQ4.out
    have y6 : w3.cell? ⟨w.heap.size, 6, none⟩ = some (.slice A L.length c) := cell_of_row _ _ 6 _ _ _ HQ3.out
    have d6 : w3.cell? ⟨w.heap.size + 1, 6, none⟩ = some (.slice none 0 0) := cell_of_row _ _ 6 _ _ _ HQ4.out
    have g6 : w3.frozen? ⟨w.heap.size + 1, 6, none⟩ = false := frozen_of_row _ _ 6 _ _ HQ4.out
    have hF := (by first | exact HFI.out.1 rfl | exact HFI.out.1 trivial : Fine ⟨base, pid, epoch, seq, kind, time, L⟩)
    by_cases hno : NX ≤ o
    · have dn : decide (NX ≤ o) = true := decide_eq_true hno
      have hfo : FO = false := by rw [HFO.out, decide_eq_false (show ¬ o < NX by omega)]; simp
      have hfb : FB = zB := by rw [HFB.out, hfo]; rfl
      clear hno HFB HFO
      have HFB := Lib.hid hfb
      have HFO := Lib.hid hfo
      clear hfb hfo hF
      go_wp2_with fail
      refine bodyPost_ret (v := .tuple #[.agg #[.int .i64 0, .int .i64 0, .int .i64 0, .int .i64 0, .int .i64 0, .int .i64 0, .slice none 0 0], .bool false]) (by simp [results, Try.results49, go_sem, d0, d1, d2, d3, d4, d5, d6]) rfl ?_
      refine ⟨none, 0, by rw [HFB.out, HFO.out]; rfl, by rw [HFB.out]; exact Rcs.nil_, ?_⟩
      repeat refine Below.setCell ?_ (by simp) _
      exact HB3.out
    · have dn : decide (NX ≤ o) = false := decide_eq_false hno
      have hfo : FO = true := by rw [HFO.out, decide_eq_true (show o < NX by omega)]; rfl
      by_cases hlo : o ≤ base
      · have dl : decide (o ≤ base) = true := decide_eq_true hlo
        have hfb : FB = ⟨base, pid, epoch, seq, kind, time, L⟩ := by rw [HFB.out, hfo, if_pos rfl, if_pos hlo]
        clear hno HFB HFO hlo
        have HFB := Lib.hid hfb
        have HFO := Lib.hid hfo
        clear hfb hfo hF
        go_wp2_with fail
        refine (HCP.out w3 HB3.out).mono ?_
        rintro e w4 ⟨A4, c4, rfl, ho4, hA4, hb4⟩
        have hR4 := Rcs.of_row ho4 rfl HOK.out
        have hB4 := HB3.out.trans (hb4.mono HB3.out.size)
        have HQ5 := Lib.hid ((hb4.block (w.heap.size + 1) (by omega)).trans HQ4.out)
        have HQ6 := Lib.hid ((hb4.block w.heap.size (by omega)).trans HQ3.out)
        have HB4 := Lib.hid hB4
        have HO4 := Lib.hid ho4
        have hn4 : (Value.slice A4 L.length c4).ownBlock ≠ some (w.heap.size + 1) := fun e => by have := (World.ownsRow.lt ho4 _ e).1; omega
        have HN4 := Lib.hid hn4
        clear y0 d0 g0 y1 d1 g1 y2 d2 g2 y3 d3 g3 y4 d4 g4 y5 d5 g5 y6 d6 g6 hb4 hB4 hR4 ho4 hA4 hn4
        have y0 : w4.cell? ⟨w.heap.size, 0, none⟩ = some (.int .i64 base) := cell_of_row _ _ 0 _ _ _ HQ6.out
        have d0 : w4.cell? ⟨w.heap.size + 1, 0, none⟩ = some (.int .i64 0) := cell_of_row _ _ 0 _ _ _ HQ5.out
        have g0 : w4.frozen? ⟨w.heap.size + 1, 0, none⟩ = false := frozen_of_row _ _ 0 _ _ HQ5.out
        have y1 : w4.cell? ⟨w.heap.size, 1, none⟩ = some (.int .i64 pid) := cell_of_row _ _ 1 _ _ _ HQ6.out
        have d1 : w4.cell? ⟨w.heap.size + 1, 1, none⟩ = some (.int .i64 0) := cell_of_row _ _ 1 _ _ _ HQ5.out
        have g1 : w4.frozen? ⟨w.heap.size + 1, 1, none⟩ = false := frozen_of_row _ _ 1 _ _ HQ5.out
        have y2 : w4.cell? ⟨w.heap.size, 2, none⟩ = some (.int .i64 epoch) := cell_of_row _ _ 2 _ _ _ HQ6.out
        have d2 : w4.cell? ⟨w.heap.size + 1, 2, none⟩ = some (.int .i64 0) := cell_of_row _ _ 2 _ _ _ HQ5.out
        have g2 : w4.frozen? ⟨w.heap.size + 1, 2, none⟩ = false := frozen_of_row _ _ 2 _ _ HQ5.out
        have y3 : w4.cell? ⟨w.heap.size, 3, none⟩ = some (.int .i64 seq) := cell_of_row _ _ 3 _ _ _ HQ6.out
        have d3 : w4.cell? ⟨w.heap.size + 1, 3, none⟩ = some (.int .i64 0) := cell_of_row _ _ 3 _ _ _ HQ5.out
        have g3 : w4.frozen? ⟨w.heap.size + 1, 3, none⟩ = false := frozen_of_row _ _ 3 _ _ HQ5.out
        have y4 : w4.cell? ⟨w.heap.size, 4, none⟩ = some (.int .i64 kind) := cell_of_row _ _ 4 _ _ _ HQ6.out
        have d4 : w4.cell? ⟨w.heap.size + 1, 4, none⟩ = some (.int .i64 0) := cell_of_row _ _ 4 _ _ _ HQ5.out
        have g4 : w4.frozen? ⟨w.heap.size + 1, 4, none⟩ = false := frozen_of_row _ _ 4 _ _ HQ5.out
        have y5 : w4.cell? ⟨w.heap.size, 5, none⟩ = some (.int .i64 time) := cell_of_row _ _ 5 _ _ _ HQ6.out
        have d5 : w4.cell? ⟨w.heap.size + 1, 5, none⟩ = some (.int .i64 0) := cell_of_row _ _ 5 _ _ _ HQ5.out
        have g5 : w4.frozen? ⟨w.heap.size + 1, 5, none⟩ = false := frozen_of_row _ _ 5 _ _ HQ5.out
        have y6 : w4.cell? ⟨w.heap.size, 6, none⟩ = some (.slice A L.length c) := cell_of_row _ _ 6 _ _ _ HQ6.out
        have d6 : w4.cell? ⟨w.heap.size + 1, 6, none⟩ = some (.slice none 0 0) := cell_of_row _ _ 6 _ _ _ HQ5.out
        have g6 : w4.frozen? ⟨w.heap.size + 1, 6, none⟩ = false := frozen_of_row _ _ 6 _ _ HQ5.out
        go_wp2_with fail
        refine bodyPost_ret (v := .tuple #[.agg #[.int .i64 base, .int .i64 pid, .int .i64 epoch, .int .i64 seq, .int .i64 kind, .int .i64 time, .slice A4 L.length c4], .bool true]) (by simp [results, Try.results49, go_sem, d0, d1, d2, d3, d4, d5, d6]) rfl ?_
        refine ⟨A4, c4, by rw [HFB.out, HFO.out], ?_, ?_⟩
        · rw [HFB.out]
          refine Rcs.of_row (base := w3.heap.size) (c := c4) ?_ rfl HOK.out
          repeat refine row_set ?_ HN4.out
          exact HO4.out
        · repeat refine Below.setCell ?_ (by simp) _
          exact HB4.out
      · have dl : decide (o ≤ base) = false := decide_eq_false hlo
        have hsp : spanI ⟨base, pid, epoch, seq, kind, time, L⟩ ≤ max 1 (L.length : Int) := by rw [HSP.out]; split <;> omega
        have hnx : NX = base + spanI ⟨base, pid, epoch, seq, kind, time, L⟩ := by rw [HNI.out]; first | rw [if_pos rfl] | rw [if_pos trivial]
        have hb1 := hF.b1
        have hb2' := hF.b2
        have hl64 := hF.len
        simp only at hb1 hb2' hl64
        obtain ⟨i, hi⟩ : ∃ i : Nat, o - base = (i : Int) := ⟨(o - base).toNat, by omega⟩
        have hil : i < L.length := by omega
        have hfb : FB = partB ⟨base, pid, epoch, seq, kind, time, L⟩ i L.length := by rw [HFB.out, hfo, if_pos rfl, if_neg hlo, hi]; rfl
        rw [HPB.out] at hfb
        have hlen : ((L.take L.length).drop i).length = L.length - i := by rw [List.length_drop, List.length_take]; omega
        have HPI : Hid (Calls Try.prog 98 #[.agg #[.int .i64 base, .int .i64 pid, .int .i64 epoch, .int .i64 seq, .int .i64 kind, .int .i64 time, .slice A L.length c], .int .i64 i, .int .i64 (L.length : Nat)] w3 fun e w' => ∃ A' c', e = .returned (.agg (FB.cells A' c')) ∧ w'.ownsRow w3.heap.size 84 4 (.slice A' (L.length - i) c') (L.length - i) (rcells FB.L) ∧ (∀ p, A' = some p → w3.heap.size ≤ p.block) ∧ Below w3.heap.size w3 w') := by
          have := HPT.out w3 i HB3.out hF hil
          rw [HPB.out, ← hfb] at this
          exact this
        have hFL : FB.L.length = L.length - i := by rw [hfb]; exact hlen
        have hFK : ∀ r ∈ FB.L, i64_ r.time := by rw [hfb]; exact fun r hr => HOK.out r (List.mem_of_mem_take (List.mem_of_mem_drop hr))
        obtain ⟨m, hm⟩ : ∃ m, L.length - i = m := ⟨_, rfl⟩
        rw [hm] at HPI hFL
        clear hno HFB HFO hlo hfb hlen hnx hsp hm
        have HFL := Lib.hid hFL
        have HFK := Lib.hid hFK
        have HFO := Lib.hid hfo
        clear hfo hF hFL hFK
        go_wp2_with fail
        refine HPI.out.mono ?_
        rintro e w4 ⟨A4, c4, rfl, ho4, hA4, hb4⟩
        have hB4 := HB3.out.trans (hb4.mono HB3.out.size)
        have HQ5 := Lib.hid ((hb4.block (w.heap.size + 1) (by omega)).trans HQ4.out)
        have HQ6 := Lib.hid ((hb4.block w.heap.size (by omega)).trans HQ3.out)
        have HB4 := Lib.hid hB4
        have HO4 := Lib.hid ho4
        have hn4 : (Value.slice A4 m c4).ownBlock ≠ some (w.heap.size + 1) := fun e => by have := (World.ownsRow.lt ho4 _ e).1; omega
        have HN4 := Lib.hid hn4
        clear y0 d0 g0 y1 d1 g1 y2 d2 g2 y3 d3 g3 y4 d4 g4 y5 d5 g5 y6 d6 g6 hb4 hB4 ho4 hA4 hn4
        have y0 : w4.cell? ⟨w.heap.size, 0, none⟩ = some (.int .i64 base) := cell_of_row _ _ 0 _ _ _ HQ6.out
        have d0 : w4.cell? ⟨w.heap.size + 1, 0, none⟩ = some (.int .i64 0) := cell_of_row _ _ 0 _ _ _ HQ5.out
        have g0 : w4.frozen? ⟨w.heap.size + 1, 0, none⟩ = false := frozen_of_row _ _ 0 _ _ HQ5.out
        have y1 : w4.cell? ⟨w.heap.size, 1, none⟩ = some (.int .i64 pid) := cell_of_row _ _ 1 _ _ _ HQ6.out
        have d1 : w4.cell? ⟨w.heap.size + 1, 1, none⟩ = some (.int .i64 0) := cell_of_row _ _ 1 _ _ _ HQ5.out
        have g1 : w4.frozen? ⟨w.heap.size + 1, 1, none⟩ = false := frozen_of_row _ _ 1 _ _ HQ5.out
        have y2 : w4.cell? ⟨w.heap.size, 2, none⟩ = some (.int .i64 epoch) := cell_of_row _ _ 2 _ _ _ HQ6.out
        have d2 : w4.cell? ⟨w.heap.size + 1, 2, none⟩ = some (.int .i64 0) := cell_of_row _ _ 2 _ _ _ HQ5.out
        have g2 : w4.frozen? ⟨w.heap.size + 1, 2, none⟩ = false := frozen_of_row _ _ 2 _ _ HQ5.out
        have y3 : w4.cell? ⟨w.heap.size, 3, none⟩ = some (.int .i64 seq) := cell_of_row _ _ 3 _ _ _ HQ6.out
        have d3 : w4.cell? ⟨w.heap.size + 1, 3, none⟩ = some (.int .i64 0) := cell_of_row _ _ 3 _ _ _ HQ5.out
        have g3 : w4.frozen? ⟨w.heap.size + 1, 3, none⟩ = false := frozen_of_row _ _ 3 _ _ HQ5.out
        have y4 : w4.cell? ⟨w.heap.size, 4, none⟩ = some (.int .i64 kind) := cell_of_row _ _ 4 _ _ _ HQ6.out
        have d4 : w4.cell? ⟨w.heap.size + 1, 4, none⟩ = some (.int .i64 0) := cell_of_row _ _ 4 _ _ _ HQ5.out
        have g4 : w4.frozen? ⟨w.heap.size + 1, 4, none⟩ = false := frozen_of_row _ _ 4 _ _ HQ5.out
        have y5 : w4.cell? ⟨w.heap.size, 5, none⟩ = some (.int .i64 time) := cell_of_row _ _ 5 _ _ _ HQ6.out
        have d5 : w4.cell? ⟨w.heap.size + 1, 5, none⟩ = some (.int .i64 0) := cell_of_row _ _ 5 _ _ _ HQ5.out
        have g5 : w4.frozen? ⟨w.heap.size + 1, 5, none⟩ = false := frozen_of_row _ _ 5 _ _ HQ5.out
        have y6 : w4.cell? ⟨w.heap.size, 6, none⟩ = some (.slice A L.length c) := cell_of_row _ _ 6 _ _ _ HQ6.out
        have d6 : w4.cell? ⟨w.heap.size + 1, 6, none⟩ = some (.slice none 0 0) := cell_of_row _ _ 6 _ _ _ HQ5.out
        have g6 : w4.frozen? ⟨w.heap.size + 1, 6, none⟩ = false := frozen_of_row _ _ 6 _ _ HQ5.out
        obtain ⟨xb, xp, xe, xs, xk, xt, xL⟩ := FB
        simp only [Bat.cells] at HFL HFK HO4 ⊢
        rw [HFL.out]
        go_wp2_with fail
        refine bodyPost_ret (v := .tuple #[.agg #[.int .i64 xb, .int .i64 xp, .int .i64 xe, .int .i64 xs, .int .i64 xk, .int .i64 xt, .slice A4 m c4], .bool true]) (by simp [results, Try.results49, go_sem, d0, d1, d2, d3, d4, d5, d6]) rfl ?_
        refine ⟨A4, ⟨c4, by rw [HFO.out, HFL.out]⟩, ?_, ?_⟩
        · rw [HFL.out]
          refine Rcs.of_row (base := w3.heap.size) (c := c4) ?_ HFL.out HFK.out
          repeat refine row_set ?_ HN4.out
          exact HO4.out
        · repeat refine Below.setCell ?_ (by simp) _
          exact HB4.out
  · have hne : (V != 0) = true := by simpa using hV
    have hfo : FO = false := by rw [HFO.out, decide_eq_false hV]; rfl
    have hfb : FB = zB := by rw [HFB.out, hfo]; rfl
    clear HFB HFO
    have HFB := Lib.hid hfb
    have HFO := Lib.hid hfo
    clear hfb hfo hV
    go_wp2_with fail
    refine bodyPost_ret (v := .tuple #[.agg #[.int .i64 0, .int .i64 0, .int .i64 0, .int .i64 0, .int .i64 0, .int .i64 0, .slice none 0 0], .bool false]) (by simp [results, Try.results49, go_sem, d0, d1, d2, d3, d4, d5, d6]) rfl ?_
    refine ⟨none, 0, by rw [HFB.out, HFO.out]; rfl, by rw [HFB.out]; exact Rcs.nil_, ?_⟩
    repeat refine Below.setCell ?_ (by simp) _
    exact HB2.out
end Go.Proofs.Ytabbbamokhaaoaa
