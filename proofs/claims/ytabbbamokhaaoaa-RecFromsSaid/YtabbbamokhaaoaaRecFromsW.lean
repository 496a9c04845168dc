/-
  RecFroms.
-/
import Derived.Test.YtabbbamokhaaoaaRecPl
import Derived.Test.YtabbbamokhaaoaaRecAw
import Derived.Laws.StructEq
namespace Go.Proofs.Ytabbbamokhaaoaa
open Go.RowKit
set_option linter.unusedVariables false
set_option linter.unusedSimpArgs false

theorem at5 {w : World} {base n c j : Nat} {A : Option Addr} {e : TypeId} {fl : List AtR} (h : w.ownsRow base e 5 (.slice A n c) n (acells fl)) (hn : fl.length = n) (hj : j < n) : ∃ b, A = some ⟨b, 0, none⟩ ∧ b < w.heap.size ∧
    w.cell? ⟨b, j * 5, none⟩ = some (.int .i64 (fl.getD j default).off) ∧ w.cell? ⟨b, j * 5 + 1, none⟩ = some (.string (fl.getD j default).r.key) ∧ w.cell? ⟨b, j * 5 + 1 + 1, none⟩ = some (.string (fl.getD j default).r.value) ∧ w.cell? ⟨b, j * 5 + 1 + 2, none⟩ = some (.bool (fl.getD j default).r.gone) ∧ w.cell? ⟨b, j * 5 + 1 + 3, none⟩ = some (.int .i64 (fl.getD j default).r.time) := by
  rcases h.2 with ⟨_, hz⟩ | ⟨b, cap, cur, hv, hb, hh, hnc, hm, hs, ht⟩
  · omega
  · injection hv with h1 h2 h3
    subst h1 h3
    have g : ∀ m u, m < 5 → ((fl.getD j default).cells)[m]? = some u → w.cell? ⟨b, j * 5 + m, none⟩ = some u := fun m u hm hu => by
      rw [cell_of_row w b (j * 5 + m) _ _ _ hh, ← Array.getElem?_toList]
      have e := (acells_get fl j m (by omega) hm).trans hu
      rw [← ht, List.getElem?_take] at e
      split at e
      · exact e
      · cases e
    exact ⟨b, rfl, (Array.getElem?_eq_some_iff.1 hh).1, g 0 _ (by omega) rfl, g 1 _ (by omega) rfl, g 2 _ (by omega) rfl, g 3 _ (by omega) rfl, g 4 _ (by omega) rfl⟩
set_option maxRecDepth 100000 in
theorem neRec_self (k v : ByteArray) (g : Bool) (t : Int) (w : World) : (binOp .neq 84 (.agg #[.string k, .string v, .bool g, .int .i64 t]) (.agg #[.string k, .string v, .bool g, .int .i64 t])).run Try.prog w = .ok (.bool false) w := by
  have u3 := Try.underlying9
  have u2 := Try.underlying2
  have u1 := Try.underlying4
  have a3 := Try.isAgg9
  have z3 := Try.sizeOf9
  have a2 := Try.isAgg2
  have z2 := Try.sizeOf2
  have a1 := Try.isAgg4
  have z1 := Try.sizeOf4
  have hS : Try.prog.underlying 84 = some (.struct (Try.prog.fieldsOf 84)) := by kernel_rfl
  have hp : Try.prog.stoodInHeld 84 = false := by kernel_rfl
  rw [run_neq_struct, show (10000 : Nat) = 9999 + 1 from rfl, run_equalIn_agg w 9999 84 _ _ hS hp]
  simp only [Program.fieldsOf, Try.underlying84]
  go_simp
theorem from_bd (b : Bat) (hl : b.L.length ≤ 80) (o : Int) : 0 ≤ (fromB b o).base ∧ (fromB b o).base ≤ 2199023255552 ∧ (fromB b o).L.length ≤ 80 := by
  unfold fromB
  split
  · rename_i h
    unfold fromOk at h
    rw [Bool.and_eq_true, decide_eq_true_iff, decide_eq_true_iff] at h
    have hF := (fine_iff b).1 h.1
    have h1 := hF.b1
    have h2 := hF.b2
    have h3 := hF.len
    have h4 := span_bd b hF.len
    have h5 : o < b.base + spanI b := by
      have := h.2
      unfold nextI at this
      rw [if_pos h.1] at this
      exact this
    split
    · exact ⟨h1, by omega, hl⟩
    · refine ⟨?_, ?_, ?_⟩
      · show 0 ≤ b.base + ((o - b.base).toNat : Int); omega
      · show b.base + ((o - b.base).toNat : Int) ≤ _; omega
      · show ((b.L.take b.L.length).drop (o - b.base).toNat).length ≤ _
        rw [List.length_drop, List.length_take]; omega
  · exact ⟨by decide, by decide, by decide⟩
theorem from_off (b : Bat) (o : Int) (i : Nat) (h : i < (flatL (fromB b o)).length) : o ≤ (fromB b o).base + (i : Int) := by
  unfold fromB at h ⊢
  split
  · split
    · omega
    · show o ≤ b.base + ((o - b.base).toNat : Int) + (i : Int); omega
  · rename_i hne
    rw [if_neg hne] at h
    simp [flatL, flatTo, zB, markB] at h
set_option maxRecDepth 100000 in
set_option maxHeartbeats 8000000 in
theorem froms3_walk (b : Bat) (o : Int) (A : Option Addr) (c : Nat) (w : World) (hL : Rcs w w.heap.size A b.L.length b.L) (hl : b.L.length ≤ maxLen) (hok : b.ok) (ho1 : -9223372036854775808 ≤ o) (ho2 : o ≤ 9223372036854775807) :
    Calls Try.prog 14 #[.agg (b.cells A c), .int .i64 o] w fun e w' => e = .returned (.bool true) ∧ Below w.heap.size w w' := by
  have HCU : Hid (∀ W, Below w.heap.size w W → Calls Try.prog 33 #[.agg (b.cells A c)] W fun e w' => ∃ A' c', e = .returned (.agg ((cutB b).cells A' c')) ∧ (cutB b).L.length ≤ c' ∧ c' ≤ maxLen ∧ Rcs w' w'.heap.size A' (cutB b).L.length (cutB b).L ∧ (∀ p, A' = some p → W.heap.size ≤ p.block) ∧ Below W.heap.size W w') := fun W h => cutB_any b A c w.heap.size W (hL.below h) h.size hl
  have HCL : Hid ((cutB b).L.length ≤ 80) := by show _ ≤ _; simp only [cutB, List.length_map, List.length_take]; omega
  have HOK := Lib.hid (cutB_ok b hok)
  generalize cutB b = b' at *
  obtain ⟨b0, p0, e0, s0, k0, t0, L0⟩ := b
  unfold Bat.cells at HCU ⊢
  simp only at HCU ⊢
  clear hL hok
  have hB0 := (Below.refl w.heap.size w).alloc (Nat.le_refl _) (.cells #[.int .i64 b0, .int .i64 p0, .int .i64 e0, .int .i64 s0, .int .i64 k0, .int .i64 t0, .slice A L0.length c] 66)
  have hk0 := heap_alloc_new w (.cells #[.int .i64 b0, .int .i64 p0, .int .i64 e0, .int .i64 s0, .int .i64 k0, .int .i64 t0, .slice A L0.length c] 66)
  have hzz : w.heap.size < (w.alloc (.cells #[.int .i64 b0, .int .i64 p0, .int .i64 e0, .int .i64 s0, .int .i64 k0, .int .i64 t0, .slice A L0.length c] 66)).heap.size := by simp
  obtain ⟨w1, hw1⟩ : ∃ w1, w.alloc (.cells #[.int .i64 b0, .int .i64 p0, .int .i64 e0, .int .i64 s0, .int .i64 k0, .int .i64 t0, .slice A L0.length c] 66) = w1 := ⟨_, rfl⟩
  rw [hw1] at hB0 hk0 hzz
  have HW1 := Lib.hid hw1
  have HB0 := Lib.hid hB0
  have HK0 := Lib.hid hk0
  clear hw1 hB0 hk0
  go_enter Try.func14, Try.ntmps14
  go_wp2_with fail
  rw [HW1.out]
  refine (HCU.out w1 HB0.out).mono ?_
  rintro e w2 ⟨A', c', rfl, hc1, hc2, hR2, hA2, hb2⟩
  have hB2 := HB0.out.trans (hb2.mono HB0.out.size)
  have hk2 := (hb2.block w.heap.size hzz).trans HK0.out
  have hlm : b'.L.length ≤ 80 := HCL.out
  obtain ⟨base, pid, epoch, seq, kind, time, L⟩ := b'
  simp only at hc1 hR2 hlm HOK ⊢
  have y0 : w2.cell? ⟨w.heap.size, 0, none⟩ = some (.int .i64 b0) := cell_of_row _ _ 0 _ _ _ hk2
  have f0 : w2.frozen? ⟨w.heap.size, 0, none⟩ = false := frozen_of_row _ _ 0 _ _ hk2
  have y1 : w2.cell? ⟨w.heap.size, 1, none⟩ = some (.int .i64 p0) := cell_of_row _ _ 1 _ _ _ hk2
  have f1 : w2.frozen? ⟨w.heap.size, 1, none⟩ = false := frozen_of_row _ _ 1 _ _ hk2
  have y2 : w2.cell? ⟨w.heap.size, 2, none⟩ = some (.int .i64 e0) := cell_of_row _ _ 2 _ _ _ hk2
  have f2 : w2.frozen? ⟨w.heap.size, 2, none⟩ = false := frozen_of_row _ _ 2 _ _ hk2
  have y3 : w2.cell? ⟨w.heap.size, 3, none⟩ = some (.int .i64 s0) := cell_of_row _ _ 3 _ _ _ hk2
  have f3 : w2.frozen? ⟨w.heap.size, 3, none⟩ = false := frozen_of_row _ _ 3 _ _ hk2
  have y4 : w2.cell? ⟨w.heap.size, 4, none⟩ = some (.int .i64 k0) := cell_of_row _ _ 4 _ _ _ hk2
  have f4 : w2.frozen? ⟨w.heap.size, 4, none⟩ = false := frozen_of_row _ _ 4 _ _ hk2
  have y5 : w2.cell? ⟨w.heap.size, 5, none⟩ = some (.int .i64 t0) := cell_of_row _ _ 5 _ _ _ hk2
  have f5 : w2.frozen? ⟨w.heap.size, 5, none⟩ = false := frozen_of_row _ _ 5 _ _ hk2
  have y6 : w2.cell? ⟨w.heap.size, 6, none⟩ = some (.slice A L0.length c) := cell_of_row _ _ 6 _ _ _ hk2
  have f6 : w2.frozen? ⟨w.heap.size, 6, none⟩ = false := frozen_of_row _ _ 6 _ _ hk2
  obtain ⟨W3, hW3⟩ : ∃ W3, (((((((w2.setCell ⟨w.heap.size, 0, none⟩ (.int .i64 base)).setCell ⟨w.heap.size, 1, none⟩ (.int .i64 pid)).setCell ⟨w.heap.size, 2, none⟩ (.int .i64 epoch)).setCell ⟨w.heap.size, 3, none⟩ (.int .i64 seq)).setCell ⟨w.heap.size, 4, none⟩ (.int .i64 kind)).setCell ⟨w.heap.size, 5, none⟩ (.int .i64 time)).setCell ⟨w.heap.size, 6, none⟩ (.slice A' L.length c')) = W3 := ⟨_, rfl⟩
  have hk3 := (set7c (T := 66) (.int .i64 base) (.int .i64 pid) (.int .i64 epoch) (.int .i64 seq) (.int .i64 kind) (.int .i64 time) (.slice A' L.length c') hk2).1
  have hT3 := (set7c (T := 66) (.int .i64 base) (.int .i64 pid) (.int .i64 epoch) (.int .i64 seq) (.int .i64 kind) (.int .i64 time) (.slice A' L.length c') hk2).2
  rw [hW3] at hk3 hT3
  have hR3 : Rcs W3 W3.heap.size A' L.length L := hR2.twoc hT3 (fun p hp => by have := hA2 p hp; omega)
  have hB3 : Below w.heap.size w W3 := hB2.trans (hT3.below (Nat.le_refl _) (Nat.le_refl _) hB2.size)
  have HW3 := Lib.hid hW3
  have hz3 : w.heap.size < W3.heap.size := (Array.getElem?_eq_some_iff.1 hk3).1
  clear hW3 hT3 hR2 hk2 hb2 hB2 hA2
  have HBT : Hid (∀ (W : World), Below W3.heap.size W3 W → Rcs W W.heap.size A' L.length L) := fun W h => (hR3.below h).wider h.size
  have hlx : L.length ≤ maxLen := by unfold maxLen; omega
  have hcl : L.length ≤ c' := hc1
  have HFR : Hid (∀ (W : World) (o : Int), Below W3.heap.size W3 W → Calls Try.prog 49 #[.agg #[.int .i64 base, .int .i64 pid, .int .i64 epoch, .int .i64 seq, .int .i64 kind, .int .i64 time, .slice A' L.length c'], .int .i64 o] W fun e w' => ∃ Ad cd, e = .returned (.tuple #[.agg ((fromB (⟨base, pid, epoch, seq, kind, time, L⟩ : Bat) o).cells Ad cd), .bool (fromOk (⟨base, pid, epoch, seq, kind, time, L⟩ : Bat) o)]) ∧ Rcs w' w'.heap.size Ad (fromB (⟨base, pid, epoch, seq, kind, time, L⟩ : Bat) o).L.length (fromB (⟨base, pid, epoch, seq, kind, time, L⟩ : Bat) o).L ∧ Below W.heap.size W w') := fun W o h => from_any (⟨base, pid, epoch, seq, kind, time, L⟩ : Bat) A' c' W.heap.size o W (HBT.out W h) (Nat.le_refl _) hlm hc1 hc2
  have HRF : Hid (∀ (W : World) (o : Int), Below W3.heap.size W3 W → -9223372036854775808 ≤ o → o ≤ 9223372036854775807 → Calls Try.prog 50 #[.agg #[.int .i64 base, .int .i64 pid, .int .i64 epoch, .int .i64 seq, .int .i64 kind, .int .i64 time, .slice A' L.length c'], .int .i64 o] W fun e w' => ∃ Ad cd, e = .returned (.tuple #[.agg ((fromB (⟨base, pid, epoch, seq, kind, time, L⟩ : Bat) o).cells Ad cd), .bool (fromOk (⟨base, pid, epoch, seq, kind, time, L⟩ : Bat) o)]) ∧ Rcs w' w'.heap.size Ad (fromB (⟨base, pid, epoch, seq, kind, time, L⟩ : Bat) o).L.length (fromB (⟨base, pid, epoch, seq, kind, time, L⟩ : Bat) o).L ∧ Below W.heap.size W w') := fun W o h h1 h2 => rfrom_any (⟨base, pid, epoch, seq, kind, time, L⟩ : Bat) A' c' W.heap.size o W (HBT.out W h) (Nat.le_refl _) hlm h1 h2
  have HVA : Hid (∀ W, Below W3.heap.size W3 W → Calls Try.prog 44 #[.agg #[.int .i64 base, .int .i64 pid, .int .i64 epoch, .int .i64 seq, .int .i64 kind, .int .i64 time, .slice A' L.length c']] W fun e w' => e = .returned (.int .i64 (validE (⟨base, pid, epoch, seq, kind, time, L⟩ : Bat))) ∧ Below W.heap.size W w') := fun W h => valid_any (⟨base, pid, epoch, seq, kind, time, L⟩ : Bat) A' c' W.heap.size W (HBT.out W h) (Nat.le_refl _) hlx
  have HCY : Hid (∀ W, Below W3.heap.size W3 W → Calls Try.prog 52 #[.agg #[.int .i64 base, .int .i64 pid, .int .i64 epoch, .int .i64 seq, .int .i64 kind, .int .i64 time, .slice A' L.length c']] W fun e w' => ∃ Ad cd, e = .returned (.agg #[.int .i64 base, .int .i64 pid, .int .i64 epoch, .int .i64 seq, .int .i64 kind, .int .i64 time, .slice Ad L.length cd]) ∧ w'.ownsRow W.heap.size 84 4 (.slice Ad L.length cd) L.length (rcells L) ∧ (∀ p, Ad = some p → W.heap.size ≤ p.block) ∧ Below W.heap.size W w') := fun W h => copy_any (⟨base, pid, epoch, seq, kind, time, L⟩ : Bat) A' c' W.heap.size W (HBT.out W h) (Nat.le_refl _) (by simp only; omega)
  have HSM : Hid (∀ W Ad cd, Below W3.heap.size W3 W → Rcs W W.heap.size Ad L.length L → Calls Try.prog 39 #[.agg #[.int .i64 base, .int .i64 pid, .int .i64 epoch, .int .i64 seq, .int .i64 kind, .int .i64 time, .slice Ad L.length cd], .agg #[.int .i64 base, .int .i64 pid, .int .i64 epoch, .int .i64 seq, .int .i64 kind, .int .i64 time, .slice A' L.length c']] W fun e w' => e = .returned (.bool true) ∧ Below W.heap.size W w') := fun W Ad cd h hr => rsame_yes (⟨base, pid, epoch, seq, kind, time, L⟩ : Bat) Ad A' cd c' W.heap.size W hr (HBT.out W h) (Nat.le_refl _) hlx
  have HFD := Lib.hid (from_bd (⟨base, pid, epoch, seq, kind, time, L⟩ : Bat) hlm)
  have HFO := Lib.hid (from_off (⟨base, pid, epoch, seq, kind, time, L⟩ : Bat))
  have HBK := Lib.hid HOK.out.base
  have hbk := HOK.out.base
  simp only [i64_] at hbk
  generalize validE (⟨base, pid, epoch, seq, kind, time, L⟩ : Bat) = V at *
  generalize fromB (⟨base, pid, epoch, seq, kind, time, L⟩ : Bat) = FB at *
  generalize fromOk (⟨base, pid, epoch, seq, kind, time, L⟩ : Bat) = FO at *
  have HAW : Hid (∀ W, Calls Try.prog 37 #[] W fun e w' => e = .returned (.bool true) ∧ Below W.heap.size W w') := fun W => awake3_any W
  have HB3 := Lib.hid hB3
  have HK3 := Lib.hid hk3
  clear hR3 HCU hB3 hk3 HB0 HK0
  have HKX : Hid (∀ wx, Below W3.heap.size W3 wx → wx.heap[w.heap.size]? = some (.cells #[.int .i64 base, .int .i64 pid, .int .i64 epoch, .int .i64 seq, .int .i64 kind, .int .i64 time, .slice A' L.length c'] 66 (0, 0))) := fun wx h => (h.block w.heap.size hz3).trans HK3.out
  go_upto_region 2 with fail
  rw [HW3.out]
  clear y0 f0 y1 f1 y2 f2 y3 f3 y4 f4 y5 f5 y6 f6
  have z0_a := cell_of_row _ _ 0 _ _ _ (HKX.out W3 (Below.refl _ _))
  have z1_a := cell_of_row _ _ 1 _ _ _ (HKX.out W3 (Below.refl _ _))
  have z2_a := cell_of_row _ _ 2 _ _ _ (HKX.out W3 (Below.refl _ _))
  have z3_a := cell_of_row _ _ 3 _ _ _ (HKX.out W3 (Below.refl _ _))
  have z4_a := cell_of_row _ _ 4 _ _ _ (HKX.out W3 (Below.refl _ _))
  have z5_a := cell_of_row _ _ 5 _ _ _ (HKX.out W3 (Below.refl _ _))
  have z6_a := cell_of_row _ _ 6 _ _ _ (HKX.out W3 (Below.refl _ _))
  go_wp2_with fail
  obtain ⟨a2, ha2⟩ : ∃ a, wrap64 (base + 1) = a := ⟨_, rfl⟩
  obtain ⟨a4, ha4⟩ : ∃ a, wrap64 (base + (L.length : Int)) = a := ⟨_, rfl⟩
  rw [ha2, ha4]
  obtain ⟨a3, ha3⟩ : ∃ a, wrap64 (a4 - 1) = a := ⟨_, rfl⟩
  rw [ha3]
  have q2 : i64_ a2 := by rw [← ha2]; unfold wrap64 i64_; omega
  have q3 : i64_ a3 := by rw [← ha3]; unfold wrap64 i64_; omega
  have q4 : i64_ a4 := by rw [← ha4]; unfold wrap64 i64_; omega
  have hal := (Below.refl W3.heap.size W3).alloc (Nat.le_refl _) (.cells #[.int .i64 o, .int .i64 base, .int .i64 a2, .int .i64 a3, .int .i64 a4] 2)
  have hN := heap_alloc_new W3 (.cells #[.int .i64 o, .int .i64 base, .int .i64 a2, .int .i64 a3, .int .i64 a4] 2)
  have hz4 : (W3.alloc (.cells #[.int .i64 o, .int .i64 base, .int .i64 a2, .int .i64 a3, .int .i64 a4] 2)).heap.size = W3.heap.size + 1 := by simp
  generalize W3.alloc (.cells #[.int .i64 o, .int .i64 base, .int .i64 a2, .int .i64 a3, .int .i64 a4] 2) = w4 at *
  have HAT : Hid (∀ wx, Below w4.heap.size w4 wx → ∀ k, k < 5 → ∃ a, i64_ a ∧ wx.cell? ⟨W3.heap.size, k, none⟩ = some (.int .i64 a)) := fun wx h k hk => by
    have h5 := (h.block W3.heap.size (by omega)).trans hN
    rw [cell_of_row wx _ k _ _ _ h5]
    rcases k with _ | _ | _ | _ | _ | k
    · exact ⟨o, ⟨ho1, ho2⟩, rfl⟩
    · exact ⟨base, hbk, rfl⟩
    · exact ⟨a2, q2, rfl⟩
    · exact ⟨a3, q3, rfl⟩
    · exact ⟨a4, q4, rfl⟩
    · omega
  have HB4 := Lib.hid hal
  clear hal hN hz4 ha2 ha3 ha4 q2 q3 q4 z0_a z1_a z2_a z3_a z4_a z5_a z6_a
  go_loopw [39] (fun i wr => ∃ k : Nat, k ≤ 5 ∧ i = .int .i64 k ∧ Hid (Below w4.heap.size w4 wr)) (fun i _ => 5 - (intOf i).toNat)
  case atStart => exact ⟨0, by omega, rfl, Below.refl _ _⟩
  case round =>
    obtain ⟨k, hk, rfl, HR⟩ := hrel
    have HRW := Lib.hid (HB4.out.trans (HR.out.mono HB4.out.size))
    by_cases hlt : k < 5
    · obtain ⟨a, ⟨ha1, ha2⟩, hat⟩ := HAT.out wr HR.out k hlt
      have hkz : (k : Int) < 5 := by omega
      have dk : decide ((k : Int) < 5) = true := decide_eq_true hkz
      have HF1 := Lib.hid (HFR.out wr a HRW.out)
      have HF2 : Hid (∀ W, Below W3.heap.size W3 W → _) := fun W h => HRF.out W a h ha1 ha2
      obtain ⟨fd1, fd2, fd3⟩ := HFD.out a
      have HFO' := Lib.hid (HFO.out a)
      generalize FB a = fb at *
      generalize FO a = fo at *
      have z0_a := cell_of_row _ _ 0 _ _ _ (HKX.out wr HRW.out)
      have z1_a := cell_of_row _ _ 1 _ _ _ (HKX.out wr HRW.out)
      have z2_a := cell_of_row _ _ 2 _ _ _ (HKX.out wr HRW.out)
      have z3_a := cell_of_row _ _ 3 _ _ _ (HKX.out wr HRW.out)
      have z4_a := cell_of_row _ _ 4 _ _ _ (HKX.out wr HRW.out)
      have z5_a := cell_of_row _ _ 5 _ _ _ (HKX.out wr HRW.out)
      have z6_a := cell_of_row _ _ 6 _ _ _ (HKX.out wr HRW.out)
      have HSS : Hid (∀ (W : World) A5 A7 c5 c7, Rcs W W.heap.size A5 fb.L.length fb.L → Rcs W W.heap.size A7 fb.L.length fb.L → Calls Try.prog 39 #[.agg (fb.cells A5 c5), .agg (fb.cells A7 c7)] W fun e w' => e = .returned (.bool true) ∧ Below W.heap.size W w') := fun W A5 A7 c5 c7 h5 h7 => rsame_yes fb A5 A7 c5 c7 W.heap.size W h5 h7 (Nat.le_refl _) (by unfold maxLen; omega)
      have HFL : Hid (∀ (W : World) A5 c5 g, W.heap[g]? = some (.cells (fb.cells A5 c5) 66 (0, 0)) → Rcs W W.heap.size A5 fb.L.length fb.L → Calls Try.prog 46 #[.slice (some ⟨g, 0, none⟩) 1 1] W fun e w' => ∃ v, e = .returned v ∧ w'.ownsRow W.heap.size 86 5 v (flatL fb).length (acells (flatL fb)) ∧ Below W.heap.size W w') := fun W A5 c5 g hg hr => flat_any fb A5 c5 g W hg hr fd3 fd1 fd2
      have HRL : Hid (∀ (W : World) A5 c5 g, W.heap[g]? = some (.cells (fb.cells A5 c5) 66 (0, 0)) → Rcs W W.heap.size A5 fb.L.length fb.L → Calls Try.prog 51 #[.slice (some ⟨g, 0, none⟩) 1 1] W fun e w' => ∃ v, e = .returned v ∧ w'.ownsRow W.heap.size 98 5 v (flatL fb).length (acells (flatL fb)) ∧ Below W.heap.size W w') := fun W A5 c5 g hg hr => rflat_any fb A5 c5 g W hg hr fd3 fd1 fd2
      have HFG : Hid (∀ i, i < (flatL fb).length → (flatL fb).getD i default = ⟨fb.base + (i : Int), fb.L.getD i default⟩) := fun i hi => by
        unfold flatL at hi ⊢
        split
        · rename_i hm; rw [if_pos hm] at hi; simp at hi
        · rename_i hm; rw [if_neg hm, flatTo_len] at hi; exact flatTo_get fb _ i hi
      have HFN : Hid ((flatL fb).length ≤ 80) := by
        show _ ≤ _
        unfold flatL
        split
        · simp
        · rw [flatTo_len]; exact fd3
      generalize flatL fb = fl at *
      obtain ⟨xb, xp, xe, xs, xk, xt, xL⟩ := fb
      simp only [Bat.cells] at *
      go_wp2_with fail
      refine HF1.out.mono ?_
      rintro e w5 ⟨A5, c5, rfl, hr5, hb5⟩
      have hal5 := (Below.refl w5.heap.size w5).alloc (Nat.le_refl _) (.cells #[.int .i64 xb, .int .i64 xp, .int .i64 xe, .int .i64 xs, .int .i64 xk, .int .i64 xt, .slice A5 xL.length c5] 66)
      have hN5 := heap_alloc_new w5 (.cells #[.int .i64 xb, .int .i64 xp, .int .i64 xe, .int .i64 xs, .int .i64 xk, .int .i64 xt, .slice A5 xL.length c5] 66)
      have hb6 := hb5.trans (hal5.mono hb5.size)
      have hr6 := (hr5.below hal5).wider hal5.size
      generalize hw6 : w5.alloc (.cells #[.int .i64 xb, .int .i64 xp, .int .i64 xe, .int .i64 xs, .int .i64 xk, .int .i64 xt, .slice A5 xL.length c5] 66) = w6 at *
      obtain ⟨g5, hg5⟩ : ∃ g, w5.heap.size = g := ⟨_, rfl⟩
      rw [hg5] at hN5
      have HG5 := Lib.hid hg5
      have HN5 := Lib.hid hN5
      have HR6 := Lib.hid hr6
      have HB6 := Lib.hid (HR.out.trans (hb6.mono HR.out.size))
      have HBW6 := Lib.hid (HB4.out.trans (HB6.out.mono HB4.out.size))
      have HW6 := Lib.hid hw6
      clear hw6 hal5 hN5 hb6 hr6 hr5 hb5 hg5 HF1 z0_a z1_a z2_a z3_a z4_a z5_a z6_a
      go_upto_region 6 with fail
      rw [HW6.out, HG5.out]
      have z0_b := cell_of_row _ _ 0 _ _ _ (HKX.out w6 HBW6.out)
      have z1_b := cell_of_row _ _ 1 _ _ _ (HKX.out w6 HBW6.out)
      have z2_b := cell_of_row _ _ 2 _ _ _ (HKX.out w6 HBW6.out)
      have z3_b := cell_of_row _ _ 3 _ _ _ (HKX.out w6 HBW6.out)
      have z4_b := cell_of_row _ _ 4 _ _ _ (HKX.out w6 HBW6.out)
      have z5_b := cell_of_row _ _ 5 _ _ _ (HKX.out w6 HBW6.out)
      have z6_b := cell_of_row _ _ 6 _ _ _ (HKX.out w6 HBW6.out)
      go_wp2_with fail
      refine (HF2.out w6 HBW6.out).mono ?_
      rintro e w7 ⟨A7, c7, rfl, hr7, hb7⟩
      have hal7 := (Below.refl w7.heap.size w7).alloc (Nat.le_refl _) (.cells #[.int .i64 xb, .int .i64 xp, .int .i64 xe, .int .i64 xs, .int .i64 xk, .int .i64 xt, .slice A7 xL.length c7] 66)
      have hN7 := heap_alloc_new w7 (.cells #[.int .i64 xb, .int .i64 xp, .int .i64 xe, .int .i64 xs, .int .i64 xk, .int .i64 xt, .slice A7 xL.length c7] 66)
      have hb8 := hb7.trans (hal7.mono hb7.size)
      have hr8 := (hr7.below hal7).wider hal7.size
      generalize hw8 : w7.alloc (.cells #[.int .i64 xb, .int .i64 xp, .int .i64 xe, .int .i64 xs, .int .i64 xk, .int .i64 xt, .slice A7 xL.length c7] 66) = w8 at *
      obtain ⟨g7, hg7⟩ : ∃ g, w7.heap.size = g := ⟨_, rfl⟩
      rw [hg7] at hN7
      have HG7 := Lib.hid hg7
      have HN7 := Lib.hid hN7
      have HM5 := Lib.hid ((hb8.block g5 (Array.getElem?_eq_some_iff.1 HN5.out).1).trans HN5.out)
      have HR8 := Lib.hid hr8
      have HR9 := Lib.hid ((HR6.out.below hb8).wider hb8.size)
      have HB8 := Lib.hid (HB6.out.trans (hb8.mono HB6.out.size))
      have HW8 := Lib.hid hw8
      have HSX := Lib.hid (HSS.out w8 A5 A7 c5 c7 HR9.out HR8.out)
      clear hw8 hal7 hN7 hb8 hr8 hr7 hb7 hg7 HF2 HSS HN5 HR6 HBW6 HB6 z0_b z1_b z2_b z3_b z4_b z5_b z6_b
      go_upto_region 7 with fail
      rw [HW8.out, HG7.out]
      have m0 := cell_of_row _ _ 0 _ _ _ HM5.out
      have n0 := cell_of_row _ _ 0 _ _ _ HN7.out
      have m1 := cell_of_row _ _ 1 _ _ _ HM5.out
      have n1 := cell_of_row _ _ 1 _ _ _ HN7.out
      have m2 := cell_of_row _ _ 2 _ _ _ HM5.out
      have n2 := cell_of_row _ _ 2 _ _ _ HN7.out
      have m3 := cell_of_row _ _ 3 _ _ _ HM5.out
      have n3 := cell_of_row _ _ 3 _ _ _ HN7.out
      have m4 := cell_of_row _ _ 4 _ _ _ HM5.out
      have n4 := cell_of_row _ _ 4 _ _ _ HN7.out
      have m5 := cell_of_row _ _ 5 _ _ _ HM5.out
      have n5 := cell_of_row _ _ 5 _ _ _ HN7.out
      have m6 := cell_of_row _ _ 6 _ _ _ HM5.out
      have n6 := cell_of_row _ _ 6 _ _ _ HN7.out
      go_wp2_with fail
      refine HSX.out.mono ?_
      rintro e w9 ⟨rfl, hb9⟩
      have HM9 := Lib.hid ((hb9.block g5 (Array.getElem?_eq_some_iff.1 HM5.out).1).trans HM5.out)
      have HN9 := Lib.hid ((hb9.block g7 (Array.getElem?_eq_some_iff.1 HN7.out).1).trans HN7.out)
      have HR10 := Lib.hid ((HR8.out.below hb9).wider hb9.size)
      have HR11 := Lib.hid ((HR9.out.below hb9).wider hb9.size)
      have HB9 := Lib.hid (HB8.out.trans (hb9.mono HB8.out.size))
      clear hb9 HM5 HN7 HR8 HR9 HB8 HSX m0 n0 m1 n1 m2 n2 m3 n3 m4 n4 m5 n5 m6 n6
      go_upto_region 9 with fail
      have HCC : Hid (∀ w', Below w9.heap.size w9 w' → (w'.cell? ⟨g5, 0, none⟩ = some (.int .i64 xb) ∧ w'.cell? ⟨g5, 1, none⟩ = some (.int .i64 xp) ∧ w'.cell? ⟨g5, 2, none⟩ = some (.int .i64 xe) ∧ w'.cell? ⟨g5, 3, none⟩ = some (.int .i64 xs) ∧ w'.cell? ⟨g5, 4, none⟩ = some (.int .i64 xk) ∧ w'.cell? ⟨g5, 5, none⟩ = some (.int .i64 xt) ∧ w'.cell? ⟨g5, 6, none⟩ = some (.slice A5 xL.length c5) ∧ w'.cell? ⟨g7, 0, none⟩ = some (.int .i64 xb) ∧ w'.cell? ⟨g7, 1, none⟩ = some (.int .i64 xp) ∧ w'.cell? ⟨g7, 2, none⟩ = some (.int .i64 xe) ∧ w'.cell? ⟨g7, 3, none⟩ = some (.int .i64 xs) ∧ w'.cell? ⟨g7, 4, none⟩ = some (.int .i64 xk) ∧ w'.cell? ⟨g7, 5, none⟩ = some (.int .i64 xt) ∧ w'.cell? ⟨g7, 6, none⟩ = some (.slice A7 xL.length c7))) := fun w' h => by
        have p5 := (h.block g5 (Array.getElem?_eq_some_iff.1 HM9.out).1).trans HM9.out
        have p7 := (h.block g7 (Array.getElem?_eq_some_iff.1 HN9.out).1).trans HN9.out
        exact ⟨cell_of_row _ _ 0 _ _ _ p5, cell_of_row _ _ 1 _ _ _ p5, cell_of_row _ _ 2 _ _ _ p5, cell_of_row _ _ 3 _ _ _ p5, cell_of_row _ _ 4 _ _ _ p5, cell_of_row _ _ 5 _ _ _ p5, cell_of_row _ _ 6 _ _ _ p5, cell_of_row _ _ 0 _ _ _ p7, cell_of_row _ _ 1 _ _ _ p7, cell_of_row _ _ 2 _ _ _ p7, cell_of_row _ _ 3 _ _ _ p7, cell_of_row _ _ 4 _ _ _ p7, cell_of_row _ _ 5 _ _ _ p7, cell_of_row _ _ 6 _ _ _ p7⟩
      have HRC5 : Hid (∀ W, Below w9.heap.size w9 W → Rcs W W.heap.size A5 xL.length xL) := fun W h => (HR11.out.below h).wider h.size
      have HRC7 : Hid (∀ W, Below w9.heap.size w9 W → Rcs W W.heap.size A7 xL.length xL) := fun W h => (HR10.out.below h).wider h.size
      have k9 := HCC.out w9 (Below.refl _ _)
      have hg5z : g5 < w9.heap.size := (Array.getElem?_eq_some_iff.1 HM9.out).1
      have hg7z : g7 < w9.heap.size := (Array.getElem?_eq_some_iff.1 HN9.out).1
      go_cut [11, 12] (fun s11 s12 wx => ∃ v1 v2, s11 = v1 ∧ s12 = v2 ∧ Hid (wx.ownsRow w9.heap.size 86 5 v1 fl.length (acells fl)) ∧ Hid (wx.ownsRow w9.heap.size 98 5 v2 fl.length (acells fl)) ∧ Hid (Below w9.heap.size w9 wx))
      case first =>
        go_region_held3 (fun w' => w'.cell? ⟨g5, 0, none⟩ = some (.int .i64 xb) ∧ w'.cell? ⟨g5, 1, none⟩ = some (.int .i64 xp) ∧ w'.cell? ⟨g5, 2, none⟩ = some (.int .i64 xe) ∧ w'.cell? ⟨g5, 3, none⟩ = some (.int .i64 xs) ∧ w'.cell? ⟨g5, 4, none⟩ = some (.int .i64 xk) ∧ w'.cell? ⟨g5, 5, none⟩ = some (.int .i64 xt) ∧ w'.cell? ⟨g5, 6, none⟩ = some (.slice A5 xL.length c5) ∧ w'.cell? ⟨g7, 0, none⟩ = some (.int .i64 xb) ∧ w'.cell? ⟨g7, 1, none⟩ = some (.int .i64 xp) ∧ w'.cell? ⟨g7, 2, none⟩ = some (.int .i64 xe) ∧ w'.cell? ⟨g7, 3, none⟩ = some (.int .i64 xs) ∧ w'.cell? ⟨g7, 4, none⟩ = some (.int .i64 xk) ∧ w'.cell? ⟨g7, 5, none⟩ = some (.int .i64 xt) ∧ w'.cell? ⟨g7, 6, none⟩ = some (.slice A7 xL.length c7)) (first | exact k9 | exact k10 | exact k11 | go_keep)
          (first
            | (go_at_call 46; refine Calls.mono (HFL.out _ A5 c5 _ ?_ ?_) ?_ <;> first | (rintro e w10 ⟨v10, rfl, ho10, hb10⟩; have hQ10 : Below w9.heap.size w9 w10 := (by first | exact (((Below.refl w9.heap.size w9).alloc (Nat.le_refl _) _)).trans (hb10.mono (by simp <;> omega)) | exact ((((Below.refl w9.heap.size w9).alloc (Nat.le_refl _) _)).drew).trans (hb10.mono (by simp <;> omega)) | exact (((((Below.refl w9.heap.size w9).alloc (Nat.le_refl _) _)).alloc (by simp) _)).trans (hb10.mono (by simp <;> omega)) | exact ((((((Below.refl w9.heap.size w9).alloc (Nat.le_refl _) _)).alloc (by simp) _)).drew).trans (hb10.mono (by simp <;> omega)) | exact ((Below.refl w9.heap.size w9)).trans (hb10.mono (by simp <;> omega)) | exact ((Below.refl w9.heap.size w9).drew).trans (hb10.mono (by simp <;> omega))); have k10 := HCC.out w10 hQ10) | (exact heap_alloc_new w9 _) | (exact (((Below.refl _ _).alloc (Nat.le_refl _) _).block w9.heap.size (by simp)).trans (heap_alloc_new w9 (.cells #[.int .i64 xb, .int .i64 xp, .int .i64 xe, .int .i64 xs, .int .i64 xk, .int .i64 xt, .slice A5 xL.length c5] 66))) | (exact (by have h := heap_alloc_new (w9.alloc (.cells #[.int .i64 xb, .int .i64 xp, .int .i64 xe, .int .i64 xs, .int .i64 xk, .int .i64 xt, .slice A7 xL.length c7] 66)) (.cells #[.int .i64 xb, .int .i64 xp, .int .i64 xe, .int .i64 xs, .int .i64 xk, .int .i64 xt, .slice A5 xL.length c5] 66); rw [show (w9.alloc (.cells #[.int .i64 xb, .int .i64 xp, .int .i64 xe, .int .i64 xs, .int .i64 xk, .int .i64 xt, .slice A7 xL.length c7] 66)).heap.size = w9.heap.size + 1 from by simp] at h; exact h)) | (refine HRC5.out _ ?_; first | exact ((Below.refl w9.heap.size w9).alloc (Nat.le_refl _) _) | exact (((Below.refl w9.heap.size w9).alloc (Nat.le_refl _) _)).drew | exact ((((Below.refl w9.heap.size w9).alloc (Nat.le_refl _) _)).alloc (by simp) _) | exact (((((Below.refl w9.heap.size w9).alloc (Nat.le_refl _) _)).alloc (by simp) _)).drew | exact (Below.refl w9.heap.size w9) | exact (Below.refl w9.heap.size w9).drew))
            | (go_at_call 51; refine Calls.mono (HRL.out _ A7 c7 _ ?_ ?_) ?_ <;> first | (rintro e w11 ⟨v11, rfl, ho11, hb11⟩; have hQ11 : Below w10.heap.size w10 w11 := (by first | exact ((Below.refl w10.heap.size w10)).trans (hb11.mono (by simp <;> omega)) | exact ((Below.refl w10.heap.size w10).drew).trans (hb11.mono (by simp <;> omega)) | exact (((Below.refl w10.heap.size w10).alloc (Nat.le_refl _) _)).trans (hb11.mono (by simp <;> omega)) | exact (((Below.refl w10.heap.size w10).alloc (Nat.le_refl _) _).drew).trans (hb11.mono (by simp <;> omega))); have k11 := HCC.out w11 (hQ10.trans (hQ11.mono hQ10.size))) | (exact heap_alloc_new w10 _) | (exact (hb10.block (w9.heap.size + 1) (by simp)).trans (by have h := heap_alloc_new (w9.alloc (.cells #[.int .i64 xb, .int .i64 xp, .int .i64 xe, .int .i64 xs, .int .i64 xk, .int .i64 xt, .slice A5 xL.length c5] 66)) (.cells #[.int .i64 xb, .int .i64 xp, .int .i64 xe, .int .i64 xs, .int .i64 xk, .int .i64 xt, .slice A7 xL.length c7] 66); rw [show (w9.alloc (.cells #[.int .i64 xb, .int .i64 xp, .int .i64 xe, .int .i64 xs, .int .i64 xk, .int .i64 xt, .slice A5 xL.length c5] 66)).heap.size = w9.heap.size + 1 from by simp] at h; exact h)) | (exact (hb10.block w9.heap.size (by simp <;> omega)).trans ((((Below.refl _ _).alloc (Nat.le_refl _) _).block w9.heap.size (by simp)).trans (heap_alloc_new w9 (.cells #[.int .i64 xb, .int .i64 xp, .int .i64 xe, .int .i64 xs, .int .i64 xk, .int .i64 xt, .slice A7 xL.length c7] 66)))) | (refine HRC7.out _ ?_; first | exact hQ10.trans (((Below.refl w10.heap.size w10)).mono hQ10.size) | exact hQ10.trans (((Below.refl w10.heap.size w10).drew).mono hQ10.size) | exact hQ10.trans ((((Below.refl w10.heap.size w10).alloc (Nat.le_refl _) _)).mono hQ10.size) | exact hQ10.trans ((((Below.refl w10.heap.size w10).alloc (Nat.le_refl _) _).drew).mono hQ10.size))))
        all_goals
          go_wp2_with fail
          go_meet
          exact ⟨v10, v11, rfl, rfl, rowb (row_base ho10 (by simp <;> omega)) hQ11, row_base ho11 (by have := hQ10.size; simp <;> omega), hQ10.trans (hQ11.mono hQ10.size)⟩
      case rest =>
        obtain ⟨_, _, rfl, rfl, HO1, HO2, HBc⟩ := hcut
        have HBX := Lib.hid (HB9.out.trans (HBc.out.mono HB9.out.size))
        obtain ⟨n, hn⟩ : ∃ n, fl.length = n := ⟨_, rfl⟩
        rw [hn] at HO1 HO2 HFN HFG HFO'
        have HNN := Lib.hid hn
        obtain ⟨B1, e1, hu1, h11, h12⟩ := row_shape HO1.out
        obtain ⟨B2, e2, hu2, h21, h22⟩ := row_shape HO2.out
        have hn80 := HFN.out
        subst hu1 hu2
        clear hn k9 HCC HRC5 HRC7 HM9 HN9 HR10 HR11 HBc HFL HRL hg5z hg7z
        go_wp2_with fail
        go_loopw [77] (fun i ws => ∃ j : Nat, j ≤ n ∧ i = .int .i64 j ∧ Hid (Below wc.heap.size wc ws)) (fun i _ => n - (intOf i).toNat)
        case atStart => exact ⟨0, by omega, rfl, Below.refl _ _⟩
        case round =>
          obtain ⟨j, hj, rfl, HJ⟩ := hrel
          have HBJ := Lib.hid (HBX.out.trans (HJ.out.mono HBX.out.size))
          have HBJ3 := Lib.hid (HB4.out.trans (HBJ.out.mono HB4.out.size))
          by_cases hjn : j < n
          · obtain ⟨b1, rfl, hb1, p0, p1, p2, p3, p4⟩ := at5 (rowb HO1.out HJ.out) HNN.out hjn
            obtain ⟨b2, rfl, hb2, q0, q1, q2, q3, q4⟩ := at5 (rowb HO2.out HJ.out) HNN.out hjn
            have hoff := HFO'.out j hjn
            rw [HFG.out j hjn] at p0 p1 p2 p3 p4 q0 q1 q2 q3 q4
            simp only at p0 p1 p2 p3 p4 q0 q1 q2 q3 q4 hoff
            generalize xL.getD j default = re at *
            obtain ⟨key, value, gone, rt⟩ := re
            simp only at p0 p1 p2 p3 p4 q0 q1 q2 q3 q4
            have hjz : (j : Int) < (n : Int) := by omega
            have doff : decide (xb + (j : Int) < a) = false := decide_eq_false (by omega)
            have hne := neRec_self key value gone rt
            have HVQ : Hid (∀ d os, Calls Try.prog 44 #[.agg #[.int .i64 base, .int .i64 pid, .int .i64 epoch, .int .i64 seq, .int .i64 kind, .int .i64 time, .slice A' L.length c']] (Sort.grow (redrawn wr d) os) fun e w'' => e = .returned (.int .i64 V) ∧ ∃ p : Regrown, w'' = Sort.grow (redrawn wr p.d) p.os) := fun d os => Calls.regrown_of (HVA.out _ (HBJ3.out.trans ((below_regrown wr d os).mono HBJ3.out.size)))
            have z0_j := cell_of_row _ _ 0 _ _ _ (HKX.out wr HBJ3.out)
            have z1_j := cell_of_row _ _ 1 _ _ _ (HKX.out wr HBJ3.out)
            have z2_j := cell_of_row _ _ 2 _ _ _ (HKX.out wr HBJ3.out)
            have z3_j := cell_of_row _ _ 3 _ _ _ (HKX.out wr HBJ3.out)
            have z4_j := cell_of_row _ _ 4 _ _ _ (HKX.out wr HBJ3.out)
            have z5_j := cell_of_row _ _ 5 _ _ _ (HKX.out wr HBJ3.out)
            have z6_j := cell_of_row _ _ 6 _ _ _ (HKX.out wr HBJ3.out)
            have sp0 := cell_regrown p0
            have sp1 := cell_regrown p1
            have sp2 := cell_regrown p2
            have sp3 := cell_regrown p3
            have sp4 := cell_regrown p4
            have sq0 := cell_regrown q0
            have sq1 := cell_regrown q1
            have sq2 := cell_regrown q2
            have sq3 := cell_regrown q3
            have sq4 := cell_regrown q4
            have sz0 := cell_regrown z0_j
            have sz1 := cell_regrown z1_j
            have sz2 := cell_regrown z2_j
            have sz3 := cell_regrown z3_j
            have sz4 := cell_regrown z4_j
            have sz5 := cell_regrown z5_j
            have sz6 := cell_regrown z6_j
            clear p0 p1 p2 p3 p4 q0 q1 q2 q3 q4 hoff
            go_upto_region 15 with fail
            go_cut [117] (fun s117 wx => s117 = .bool false ∧ Hid (Below wr.heap.size wr wx))
            case first =>
              by_cases hV : V = 0
              · subst hV
                go_wp2_with fail
                refine wp_region_quiet_below (by kernel_rfl) (by kernel_rfl) ?_
                repeat (go_big_quiet_step (exact HVQ.out _ _))
                refine wpQuiet_nil ?_
                intro _ hw'
                obtain ⟨⟨dq, osq⟩, hw''⟩ := hw'
                subst hw''
                go_wp2_with fail
                go_meet
                exact ⟨rfl, below_regrown wr dq osq⟩
              · have hve : (V == 0) = false := by rw [beq_eq_false_iff_ne]; exact hV
                clear hV
                go_wp2_with fail
                refine wp_region_quiet_below (by kernel_rfl) (by kernel_rfl) ?_
                repeat (go_big_quiet_step (exact HVQ.out _ _))
                refine wpQuiet_nil ?_
                intro _ hw'
                obtain ⟨⟨dq, osq⟩, hw''⟩ := hw'
                subst hw''
                go_wp2_with fail
                go_meet
                exact ⟨rfl, below_regrown wr dq osq⟩
            case rest =>
              obtain ⟨rfl, HBr⟩ := hcut
              have HJ2 := Lib.hid (HJ.out.trans (HBr.out.mono HJ.out.size))
              clear HBr
              go_wp2_with fail
              go_roundw
              case rel => exact ⟨j + 1, by omega, by go_num, HJ2⟩
              case measure => simp [intOf]; omega
          · have d8 : decide ((j : Int) < (n : Int)) = false := by rw [decide_eq_false_iff_not]; omega
            have d9 : decide (j < n) = false := by rw [decide_eq_false_iff_not]; omega
            clear hjn
            go_wp2_with fail
            go_roundw
            case rel => exact ⟨k + 1, by omega, by go_num, HBJ⟩
            case measure => simp [intOf]; omega
    · have d8 : decide ((k : Int) < 5) = false := by rw [decide_eq_false_iff_not]; omega
      have HC1 := Lib.hid (HCY.out wr HRW.out)
      have HBF := Lib.hid (HB3.out.trans (HRW.out.mono HB3.out.size))
      have z0_e := cell_of_row _ _ 0 _ _ _ (HKX.out wr HRW.out)
      have z1_e := cell_of_row _ _ 1 _ _ _ (HKX.out wr HRW.out)
      have z2_e := cell_of_row _ _ 2 _ _ _ (HKX.out wr HRW.out)
      have z3_e := cell_of_row _ _ 3 _ _ _ (HKX.out wr HRW.out)
      have z4_e := cell_of_row _ _ 4 _ _ _ (HKX.out wr HRW.out)
      have z5_e := cell_of_row _ _ 5 _ _ _ (HKX.out wr HRW.out)
      have z6_e := cell_of_row _ _ 6 _ _ _ (HKX.out wr HRW.out)
      clear hlt
      go_wp2_with fail
      refine HC1.out.mono ?_
      rintro e w12 ⟨Ad, cd, rfl, ho12, hA12, hb12⟩
      have hal := (Below.refl w12.heap.size w12).alloc (Nat.le_refl _) (.cells #[.int .i64 base, .int .i64 pid, .int .i64 epoch, .int .i64 seq, .int .i64 kind, .int .i64 time, .slice Ad L.length cd] 66)
      have hN := heap_alloc_new w12 (.cells #[.int .i64 base, .int .i64 pid, .int .i64 epoch, .int .i64 seq, .int .i64 kind, .int .i64 time, .slice Ad L.length cd] 66)
      have hz13 : (w12.alloc (.cells #[.int .i64 base, .int .i64 pid, .int .i64 epoch, .int .i64 seq, .int .i64 kind, .int .i64 time, .slice Ad L.length cd] 66)).heap.size = w12.heap.size + 1 := by simp
      have ho13 := rowb ho12 hal
      have hb13 := hb12.trans (hal.mono hb12.size)
      have hs12 := hb12.size
      have hlt12 := World.ownsRow.lt ho12
      generalize hw13 : w12.alloc (.cells #[.int .i64 base, .int .i64 pid, .int .i64 epoch, .int .i64 seq, .int .i64 kind, .int .i64 time, .slice Ad L.length cd] 66) = w13 at *
      obtain ⟨g12, hg12⟩ : ∃ g, w12.heap.size = g := ⟨_, rfl⟩
      rw [hg12] at hN hz13 hs12 hlt12
      have HOW := Lib.hid ho13
      have HB13 := Lib.hid hb13
      have HN13 := Lib.hid hN
      have HG12 := Lib.hid hg12
      have HW13 := Lib.hid hw13
      have HLT := Lib.hid hlt12
      have HS12 := Lib.hid hs12
      have HZ13 := Lib.hid hz13
      clear hal hN ho13 hb13 hw13 ho12 hA12 hb12 hg12 hlt12 hs12 hz13 HC1 z0_e z1_e z2_e z3_e z4_e z5_e z6_e
      go_upto_region 20 with fail
      rw [HW13.out, HG12.out]
      have x6 := cell_of_row _ _ 6 _ _ _ HN13.out
      go_wp2_with fail
      clear x6
      go_loopw [125] (fun i ws => ∃ j : Nat, j ≤ L.length ∧ i = .int .i64 j ∧ Hid (ws.heap[g12]? = some (.cells #[.int .i64 base, .int .i64 pid, .int .i64 epoch, .int .i64 seq, .int .i64 kind, .int .i64 time, .slice Ad L.length cd] 66 (0, 0))) ∧ Hid (Below wr.heap.size wr ws) ∧ Hid (∀ j, j < L.length → ∃ b cur, Ad = some ⟨b, 0, none⟩ ∧ wr.heap.size ≤ b ∧ b ≠ g12 ∧ ws.heap[b]? = some (.cells cur 84 (0, 0)) ∧ L.length * 4 ≤ cur.size)) (fun i _ => L.length - (intOf i).toNat)
      case atStart =>
        refine ⟨0, by omega, rfl, HN13, HB13, ?_⟩
        intro j hj
        rcases HOW.out.2 with ⟨h1, hz⟩ | ⟨b, cap, cur, hv, hb, hh, hnc, hm, hs, _⟩
        · omega
        · injection hv with h1 h2 h3
          subst h1 h3
          refine ⟨b, cur, rfl, hb, ?_, hh, ?_⟩
          · have := (HLT.out b rfl).2; omega
          · rw [hs]; exact Nat.mul_le_mul_right _ hnc
      case round =>
        obtain ⟨j, hj, rfl, HX, HBL, HQ⟩ := hrel
        by_cases hlt : j < L.length
        · obtain ⟨b, cur, hAd, hbl, hbg, hh, hsz⟩ := HQ.out j hlt
          have hjz : (j : Int) < (L.length : Int) := by omega
          have x6 : wr.cell? ⟨g12, 6, none⟩ = some (.slice Ad L.length cd) := cell_of_row _ _ 6 _ _ _ HX.out
          rw [hAd] at x6
          obtain ⟨u, hu⟩ : ∃ u, cur[j * 4]? = some u := ⟨cur[j * 4]'(by omega), Array.getElem?_eq_getElem (by omega)⟩
          have y0 : wr.cell? ⟨b, j * 4, none⟩ = some u := (cell_of_row _ _ (j * 4) _ _ _ hh).trans hu
          have f0 : wr.frozen? ⟨b, j * 4, none⟩ = false := frozen_of_row _ _ (j * 4) _ _ hh
          have HX2 := Lib.hid ((Below.heap_setCell wr ⟨b, j * 4, none⟩ (.string ⟨#[115, 112, 111, 105, 108, 116]⟩) g12 (fun e => hbg (by simpa using e.symm))).trans HX.out)
          have HBL2 := Lib.hid (HBL.out.setCell (p := ⟨b, j * 4, none⟩) (by exact hbl) (.string ⟨#[115, 112, 111, 105, 108, 116]⟩))
          have HQ2 : Hid (∀ j', j' < L.length → ∃ b' cur', Ad = some ⟨b', 0, none⟩ ∧ _ ≤ b' ∧ b' ≠ g12 ∧ (wr.setCell ⟨b, j * 4, none⟩ (.string ⟨#[115, 112, 111, 105, 108, 116]⟩)).heap[b']? = some (.cells cur' 84 (0, 0)) ∧ L.length * 4 ≤ cur'.size) := fun _ _ => ⟨b, _, hAd, hbl, hbg, heap_setCell_same wr b (j * 4) cur _ _ hh, by simpa using hsz⟩
          clear hAd hbl hbg hh hsz hu HQ
          go_wp2_with fail
          go_roundw
          case rel => exact ⟨j + 1, by omega, by go_num, HX2, HBL2, HQ2⟩
          case measure => simp [intOf]; omega
        · have d8 : decide ((j : Int) < (L.length : Int)) = false := by rw [decide_eq_false_iff_not]; omega
          have d9 : decide (j < L.length) = false := by rw [decide_eq_false_iff_not]; omega
          have HRZ := Lib.hid (HRW.out.trans (HBL.out.mono HRW.out.size))
          have HBZ := Lib.hid (HBF.out.trans (HBL.out.mono HBF.out.size))
          have HCC : Hid (∀ w', Below wr.heap.size wr w' → (w'.cell? ⟨w.heap.size, 0, none⟩ = some (.int .i64 base) ∧ w'.cell? ⟨w.heap.size, 1, none⟩ = some (.int .i64 pid) ∧ w'.cell? ⟨w.heap.size, 2, none⟩ = some (.int .i64 epoch) ∧ w'.cell? ⟨w.heap.size, 3, none⟩ = some (.int .i64 seq) ∧ w'.cell? ⟨w.heap.size, 4, none⟩ = some (.int .i64 kind) ∧ w'.cell? ⟨w.heap.size, 5, none⟩ = some (.int .i64 time) ∧ w'.cell? ⟨w.heap.size, 6, none⟩ = some (.slice A' L.length c'))) := fun w' h => by
            have p := HKX.out w' (HRZ.out.trans (h.mono HRZ.out.size))
            exact ⟨cell_of_row _ _ 0 _ _ _ p, cell_of_row _ _ 1 _ _ _ p, cell_of_row _ _ 2 _ _ _ p, cell_of_row _ _ 3 _ _ _ p, cell_of_row _ _ 4 _ _ _ p, cell_of_row _ _ 5 _ _ _ p, cell_of_row _ _ 6 _ _ _ p⟩
          have k9 := HCC.out wr (Below.refl _ _)
          have HOL : Hid (∀ r ∈ L, i64_ r.time) := (HBT.out W3 (Below.refl _ _)).ok
          have HC2 : Hid (∀ W, Below wr.heap.size wr W → _) := fun W h => HCY.out W (HRZ.out.trans (h.mono HRZ.out.size))
          have HS2 : Hid (∀ W Ad cd, Below wr.heap.size wr W → Rcs W W.heap.size Ad L.length L → _) := fun W Ad cd h hr => HSM.out W Ad cd (HRZ.out.trans (h.mono HRZ.out.size)) hr
          have hgz : w.heap.size < wr.heap.size := (Array.getElem?_eq_some_iff.1 (HKX.out wr HRZ.out)).1
          clear hlt HCY HSM HX HBL HQ
          go_upto_region 25 with fail
          go_cut [4] (fun s4 wx => s4 = .bool true ∧ Hid (Below wr.heap.size wr wx))
          case first =>
            go_region_held3 (fun w' => w'.cell? ⟨w.heap.size, 0, none⟩ = some (.int .i64 base) ∧ w'.cell? ⟨w.heap.size, 1, none⟩ = some (.int .i64 pid) ∧ w'.cell? ⟨w.heap.size, 2, none⟩ = some (.int .i64 epoch) ∧ w'.cell? ⟨w.heap.size, 3, none⟩ = some (.int .i64 seq) ∧ w'.cell? ⟨w.heap.size, 4, none⟩ = some (.int .i64 kind) ∧ w'.cell? ⟨w.heap.size, 5, none⟩ = some (.int .i64 time) ∧ w'.cell? ⟨w.heap.size, 6, none⟩ = some (.slice A' L.length c')) (first | exact k9 | exact k14 | exact k15 | exact k16 | go_keep)
              (first
                | (go_at_call 52; refine Calls.mono (HC2.out _ ?_) ?_ <;> first | (rintro e w14 ⟨A4, c4, rfl, ho14, hA14, hb14⟩; have hQ14 : Below wr.heap.size wr w14 := (by first | exact hb14 | exact ((Below.refl wr.heap.size wr).drew).trans (hb14.mono (by simp))); have k14 := HCC.out w14 hQ14; have hr14 := Rcs.of_row ho14 rfl HOL.out) | (first | exact Below.refl _ _ | exact (Below.refl wr.heap.size wr).drew))
                | (go_at_call 39; refine Calls.mono (HS2.out _ A4 c4 ?_ ?_) ?_ <;> first | (rintro e w15 ⟨rfl, hb15⟩; have hQ15 : Below wr.heap.size wr w15 := hQ14.trans (hb15.mono hQ14.size); have k15 := HCC.out w15 hQ15) | exact hQ14 | exact hr14)
                | (go_at_call 37; refine (HAW.out _).mono ?_; rintro e w16 ⟨rfl, hb16⟩; have hQ16 : Below wr.heap.size wr w16 := hQ15.trans (hb16.mono hQ15.size); have k16 := HCC.out w16 hQ16))
            all_goals
              go_wp2_with fail
              go_meet
              exact ⟨rfl, hQ16⟩
          case rest =>
            obtain ⟨rfl, HBr⟩ := hcut
            go_wp2_with fail
            go_ret
            exact ⟨rfl, HBZ.out.trans (HBr.out.mono HBZ.out.size)⟩
end Go.Proofs.Ytabbbamokhaaoaa
