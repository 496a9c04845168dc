/-
  RecBytes.
-/
import Derived.Test.YtabbbamokhaaoaaRecRe
import Derived.Test.YtabbbamokhaaoaaRecK
import Derived.Test.YtabbbamokhaaoaaRecAw
namespace Go.Proofs.Ytabbbamokhaaoaa
open Go.RowKit
set_option linter.unusedVariables false
set_option linter.unusedSimpArgs false

theorem encB_size (b : Bat) (hF : Fine b) : (encB b).length ≤ 1099511627776 := by
  have h1 := rowsS_each b.L b.time hF.recs b.L.length (Nat.le_refl _)
  have h2 : (headOf b).length ≤ 80 := headS_len _ _ _ _ _ _ _
  have h3 := (Wn.enc_len b.L.length).2
  have h4 := hF.len
  unfold encB
  split
  · omega
  · rw [List.length_append, List.length_append]
    omega
set_option maxRecDepth 100000 in
set_option maxHeartbeats 8000000 in
theorem bytes3_walk (b : Bat) (A : Option Addr) (c : Nat) (w : World) (hL : Rcs w w.heap.size A b.L.length b.L) (hl : b.L.length ≤ maxLen) (hok : b.ok) :
    Calls Try.prog 10 #[.agg (b.cells A c)] w fun e w' => e = .returned (.bool true) ∧ Below w.heap.size w w' := by
  have HCU : Hid (∀ W, Below w.heap.size w W → Calls Try.prog 33 #[.agg (b.cells A c)] W fun e w' => ∃ A' c', e = .returned (.agg ((cutB b).cells A' c')) ∧ (cutB b).L.length ≤ c' ∧ c' ≤ maxLen ∧ Rcs w' w'.heap.size A' (cutB b).L.length (cutB b).L ∧ (∀ p, A' = some p → W.heap.size ≤ p.block) ∧ Below W.heap.size W w') := fun W h => cutB_any b A c w.heap.size W (hL.below h) h.size hl
  have HCL : Hid ((cutB b).L.length ≤ 80) := by show _ ≤ _; simp only [cutB, List.length_map, List.length_take]; omega
  have HOK := Lib.hid (cutB_ok b hok)
  generalize cutB b = b' at *
  obtain ⟨b0, p0, e0, s0, k0, t0, L0⟩ := b
  unfold Bat.cells at HCU ⊢
  simp only at HCU ⊢
  clear hL hok
  have hB0 := (Below.refl w.heap.size w).alloc (Nat.le_refl _) (.cells #[.int .i64 b0, .int .i64 p0, .int .i64 e0, .int .i64 s0, .int .i64 k0, .int .i64 t0, .slice A L0.length c] 66)
  have hk0 := heap_alloc_new w (.cells #[.int .i64 b0, .int .i64 p0, .int .i64 e0, .int .i64 s0, .int .i64 k0, .int .i64 t0, .slice A L0.length c] 66)
  have hzz : w.heap.size < (w.alloc (.cells #[.int .i64 b0, .int .i64 p0, .int .i64 e0, .int .i64 s0, .int .i64 k0, .int .i64 t0, .slice A L0.length c] 66)).heap.size := by simp
  obtain ⟨w1, hw1⟩ : ∃ w1, w.alloc (.cells #[.int .i64 b0, .int .i64 p0, .int .i64 e0, .int .i64 s0, .int .i64 k0, .int .i64 t0, .slice A L0.length c] 66) = w1 := ⟨_, rfl⟩
  rw [hw1] at hB0 hk0 hzz
  have HW1 := Lib.hid hw1
  have HB0 := Lib.hid hB0
  have HK0 := Lib.hid hk0
  clear hw1 hB0 hk0
  go_enter Try.func10, Try.ntmps10
  go_wp2_with fail
  rw [HW1.out]
  refine (HCU.out w1 HB0.out).mono ?_
  rintro e w2 ⟨A', c', rfl, hc1, hc2, hR2, hA2, hb2⟩
  have hB2 := HB0.out.trans (hb2.mono HB0.out.size)
  have hk2 := (hb2.block w.heap.size hzz).trans HK0.out
  have hlm : b'.L.length ≤ 80 := HCL.out
  obtain ⟨base, pid, epoch, seq, kind, time, L⟩ := b'
  simp only at hc1 hR2 hlm HOK ⊢
  have y0 : w2.cell? ⟨w.heap.size, 0, none⟩ = some (.int .i64 b0) := cell_of_row _ _ 0 _ _ _ hk2
  have f0 : w2.frozen? ⟨w.heap.size, 0, none⟩ = false := frozen_of_row _ _ 0 _ _ hk2
  have y1 : w2.cell? ⟨w.heap.size, 1, none⟩ = some (.int .i64 p0) := cell_of_row _ _ 1 _ _ _ hk2
  have f1 : w2.frozen? ⟨w.heap.size, 1, none⟩ = false := frozen_of_row _ _ 1 _ _ hk2
  have y2 : w2.cell? ⟨w.heap.size, 2, none⟩ = some (.int .i64 e0) := cell_of_row _ _ 2 _ _ _ hk2
  have f2 : w2.frozen? ⟨w.heap.size, 2, none⟩ = false := frozen_of_row _ _ 2 _ _ hk2
  have y3 : w2.cell? ⟨w.heap.size, 3, none⟩ = some (.int .i64 s0) := cell_of_row _ _ 3 _ _ _ hk2
  have f3 : w2.frozen? ⟨w.heap.size, 3, none⟩ = false := frozen_of_row _ _ 3 _ _ hk2
  have y4 : w2.cell? ⟨w.heap.size, 4, none⟩ = some (.int .i64 k0) := cell_of_row _ _ 4 _ _ _ hk2
  have f4 : w2.frozen? ⟨w.heap.size, 4, none⟩ = false := frozen_of_row _ _ 4 _ _ hk2
  have y5 : w2.cell? ⟨w.heap.size, 5, none⟩ = some (.int .i64 t0) := cell_of_row _ _ 5 _ _ _ hk2
  have f5 : w2.frozen? ⟨w.heap.size, 5, none⟩ = false := frozen_of_row _ _ 5 _ _ hk2
  have y6 : w2.cell? ⟨w.heap.size, 6, none⟩ = some (.slice A L0.length c) := cell_of_row _ _ 6 _ _ _ hk2
  have f6 : w2.frozen? ⟨w.heap.size, 6, none⟩ = false := frozen_of_row _ _ 6 _ _ hk2
  obtain ⟨W3, hW3⟩ : ∃ W3, (((((((w2.setCell ⟨w.heap.size, 0, none⟩ (.int .i64 base)).setCell ⟨w.heap.size, 1, none⟩ (.int .i64 pid)).setCell ⟨w.heap.size, 2, none⟩ (.int .i64 epoch)).setCell ⟨w.heap.size, 3, none⟩ (.int .i64 seq)).setCell ⟨w.heap.size, 4, none⟩ (.int .i64 kind)).setCell ⟨w.heap.size, 5, none⟩ (.int .i64 time)).setCell ⟨w.heap.size, 6, none⟩ (.slice A' L.length c')) = W3 := ⟨_, rfl⟩
  have hk3 := (set7c (T := 66) (.int .i64 base) (.int .i64 pid) (.int .i64 epoch) (.int .i64 seq) (.int .i64 kind) (.int .i64 time) (.slice A' L.length c') hk2).1
  have hT3 := (set7c (T := 66) (.int .i64 base) (.int .i64 pid) (.int .i64 epoch) (.int .i64 seq) (.int .i64 kind) (.int .i64 time) (.slice A' L.length c') hk2).2
  rw [hW3] at hk3 hT3
  have hR3 : Rcs W3 W3.heap.size A' L.length L := hR2.twoc hT3 (fun p hp => by have := hA2 p hp; omega)
  have hB3 : Below w.heap.size w W3 := hB2.trans (hT3.below (Nat.le_refl _) (Nat.le_refl _) hB2.size)
  have HW3 := Lib.hid hW3
  have hz3 : w.heap.size < W3.heap.size := (Array.getElem?_eq_some_iff.1 hk3).1
  clear hW3 hT3 hR2 hk2 hb2 hB2 hA2
  have HBT : Hid (∀ (W : World), Below W3.heap.size W3 W → Rcs W W.heap.size A' L.length L) := fun W h => (hR3.below h).wider h.size
  have hlx : L.length ≤ maxLen := by unfold maxLen; omega
  have HEN : Hid (∀ W, Below W3.heap.size W3 W → Calls Try.prog 34 #[.agg #[.int .i64 base, .int .i64 pid, .int .i64 epoch, .int .i64 seq, .int .i64 kind, .int .i64 time, .slice A' L.length c']] W fun e w' => ∃ Ap cp, e = .returned (.tuple #[.slice Ap (if validE (⟨base, pid, epoch, seq, kind, time, L⟩ : Bat) = 0 then encB (⟨base, pid, epoch, seq, kind, time, L⟩ : Bat) else []).length cp, .int .i64 (validE (⟨base, pid, epoch, seq, kind, time, L⟩ : Bat))]) ∧ (if validE (⟨base, pid, epoch, seq, kind, time, L⟩ : Bat) = 0 then encB (⟨base, pid, epoch, seq, kind, time, L⟩ : Bat) else []).length ≤ cp ∧ cp ≤ maxLen ∧ Bs w' w'.heap.size Ap (if validE (⟨base, pid, epoch, seq, kind, time, L⟩ : Bat) = 0 then encB (⟨base, pid, epoch, seq, kind, time, L⟩ : Bat) else []).length (if validE (⟨base, pid, epoch, seq, kind, time, L⟩ : Bat) = 0 then encB (⟨base, pid, epoch, seq, kind, time, L⟩ : Bat) else []) ∧ Below W.heap.size W w') := fun W h => encode_all (⟨base, pid, epoch, seq, kind, time, L⟩ : Bat) A' c' W.heap.size W (HBT.out W h) (Nat.le_refl _) hlx
  have HRN : Hid (∀ W, Below W3.heap.size W3 W → Calls Try.prog 35 #[.agg #[.int .i64 base, .int .i64 pid, .int .i64 epoch, .int .i64 seq, .int .i64 kind, .int .i64 time, .slice A' L.length c']] W fun e w' => ∃ Ap cp, e = .returned (.tuple #[.slice Ap (if validE (⟨base, pid, epoch, seq, kind, time, L⟩ : Bat) = 0 then encB (⟨base, pid, epoch, seq, kind, time, L⟩ : Bat) else []).length cp, .int .i64 (validE (⟨base, pid, epoch, seq, kind, time, L⟩ : Bat))]) ∧ (if validE (⟨base, pid, epoch, seq, kind, time, L⟩ : Bat) = 0 then encB (⟨base, pid, epoch, seq, kind, time, L⟩ : Bat) else []).length ≤ cp ∧ cp ≤ maxLen ∧ Bs w' w'.heap.size Ap (if validE (⟨base, pid, epoch, seq, kind, time, L⟩ : Bat) = 0 then encB (⟨base, pid, epoch, seq, kind, time, L⟩ : Bat) else []).length (if validE (⟨base, pid, epoch, seq, kind, time, L⟩ : Bat) = 0 then encB (⟨base, pid, epoch, seq, kind, time, L⟩ : Bat) else []) ∧ Below W.heap.size W w') := fun W h => rencode_any (⟨base, pid, epoch, seq, kind, time, L⟩ : Bat) A' c' W.heap.size W (HBT.out W h) (Nat.le_refl _) hlx
  have HSZ : Hid (∀ W, Below W3.heap.size W3 W → Calls Try.prog 36 #[.agg #[.int .i64 base, .int .i64 pid, .int .i64 epoch, .int .i64 seq, .int .i64 kind, .int .i64 time, .slice A' L.length c']] W fun e w' => e = .returned (.int .i64 ((if validE (⟨base, pid, epoch, seq, kind, time, L⟩ : Bat) = 0 then encB (⟨base, pid, epoch, seq, kind, time, L⟩ : Bat) else []).length : Int)) ∧ Below W.heap.size W w') := fun W h => size_any (⟨base, pid, epoch, seq, kind, time, L⟩ : Bat) A' c' W.heap.size W (HBT.out W h) (Nat.le_refl _) hlx
  have HSM : Hid (∀ W Ad cd, Below W3.heap.size W3 W → Rcs W W.heap.size Ad L.length L → Calls Try.prog 39 #[.agg #[.int .i64 base, .int .i64 pid, .int .i64 epoch, .int .i64 seq, .int .i64 kind, .int .i64 time, .slice Ad L.length cd], .agg #[.int .i64 base, .int .i64 pid, .int .i64 epoch, .int .i64 seq, .int .i64 kind, .int .i64 time, .slice A' L.length c']] W fun e w' => e = .returned (.bool true) ∧ Below W.heap.size W w') := fun W Ad cd h hr => rsame_yes (⟨base, pid, epoch, seq, kind, time, L⟩ : Bat) Ad A' cd c' W.heap.size W hr (HBT.out W h) (Nat.le_refl _) hlx
  have HDE : Hid (validE (⟨base, pid, epoch, seq, kind, time, L⟩ : Bat) = 0 → ∀ (W : World) (Ap : Option Addr) (cp : Nat), Bs W W.heap.size Ap (if validE (⟨base, pid, epoch, seq, kind, time, L⟩ : Bat) = 0 then encB (⟨base, pid, epoch, seq, kind, time, L⟩ : Bat) else []).length (if validE (⟨base, pid, epoch, seq, kind, time, L⟩ : Bat) = 0 then encB (⟨base, pid, epoch, seq, kind, time, L⟩ : Bat) else []) → Calls Try.prog 38 #[.slice Ap (if validE (⟨base, pid, epoch, seq, kind, time, L⟩ : Bat) = 0 then encB (⟨base, pid, epoch, seq, kind, time, L⟩ : Bat) else []).length cp] W fun e w' => ∃ Ad cd, e = .returned (.tuple #[.agg #[.int .i64 base, .int .i64 pid, .int .i64 epoch, .int .i64 seq, .int .i64 kind, .int .i64 time, .slice Ad L.length cd], .int .i64 0]) ∧ L.length ≤ cd ∧ cd ≤ maxLen ∧ Rcs w' w'.heap.size Ad L.length L ∧ Below W.heap.size W w') := fun hv W Ap cp hbs => by
    rw [if_pos hv] at hbs ⊢
    exact decode_ok (⟨base, pid, epoch, seq, kind, time, L⟩ : Bat) Ap _ cp W.heap.size (encB (⟨base, pid, epoch, seq, kind, time, L⟩ : Bat)) W hbs (encB_size (⟨base, pid, epoch, seq, kind, time, L⟩ : Bat) ((fine_iff _).1 hv)) (Nat.le_refl _) (batAt_enc (⟨base, pid, epoch, seq, kind, time, L⟩ : Bat) ((fine_iff _).1 hv))
  generalize (if validE (⟨base, pid, epoch, seq, kind, time, L⟩ : Bat) = 0 then encB (⟨base, pid, epoch, seq, kind, time, L⟩ : Bat) else []) = eb at *
  generalize validE (⟨base, pid, epoch, seq, kind, time, L⟩ : Bat) = V at *
  obtain ⟨ebn, hebn⟩ : ∃ n, eb.length = n := ⟨_, rfl⟩
  rw [hebn] at HEN HRN HSZ HDE
  have HAW : Hid (∀ W, Calls Try.prog 37 #[] W fun e w' => e = .returned (.bool true) ∧ Below W.heap.size W w') := fun W => awake3_any W
  have HSTR : Hid (∀ (W : World) (Ap : Option Addr) (cp : Nat), Bs W W.heap.size Ap ebn eb → (convert 46 9 (.slice Ap ebn cp)).run Try.prog W = .ok (.string ⟨eb.toArray⟩) W) := fun W Ap cp h => h.str (P := Try.prog) Try.underlying46 Try.underlying5 Try.underlying9 cp
  clear hebn
  have HB3 := Lib.hid hB3
  have HK3 := Lib.hid hk3
  clear hR3 HCU hB3 hk3 HB0 HK0
  have HKX : Hid (∀ wx, Below W3.heap.size W3 wx → wx.heap[w.heap.size]? = some (.cells #[.int .i64 base, .int .i64 pid, .int .i64 epoch, .int .i64 seq, .int .i64 kind, .int .i64 time, .slice A' L.length c'] 66 (0, 0))) := fun wx h => (h.block w.heap.size hz3).trans HK3.out
  go_upto_region 2 with fail
  rw [HW3.out]
  clear y0 f0 y1 f1 y2 f2 y3 f3 y4 f4 y5 f5 y6 f6
  have z0_a := cell_of_row _ _ 0 _ _ _ (HKX.out W3 (Below.refl _ _))
  have z1_a := cell_of_row _ _ 1 _ _ _ (HKX.out W3 (Below.refl _ _))
  have z2_a := cell_of_row _ _ 2 _ _ _ (HKX.out W3 (Below.refl _ _))
  have z3_a := cell_of_row _ _ 3 _ _ _ (HKX.out W3 (Below.refl _ _))
  have z4_a := cell_of_row _ _ 4 _ _ _ (HKX.out W3 (Below.refl _ _))
  have z5_a := cell_of_row _ _ 5 _ _ _ (HKX.out W3 (Below.refl _ _))
  have z6_a := cell_of_row _ _ 6 _ _ _ (HKX.out W3 (Below.refl _ _))
  go_wp2_with fail
  refine (HEN.out _ (Below.refl _ _)).mono ?_
  rintro e w4 ⟨Ap, cp, rfl, hp1, hp2, hbp, hb4⟩
  clear z0_a z1_a z2_a z3_a z4_a z5_a z6_a
  have z0_b := cell_of_row _ _ 0 _ _ _ (HKX.out w4 hb4)
  have z1_b := cell_of_row _ _ 1 _ _ _ (HKX.out w4 hb4)
  have z2_b := cell_of_row _ _ 2 _ _ _ (HKX.out w4 hb4)
  have z3_b := cell_of_row _ _ 3 _ _ _ (HKX.out w4 hb4)
  have z4_b := cell_of_row _ _ 4 _ _ _ (HKX.out w4 hb4)
  have z5_b := cell_of_row _ _ 5 _ _ _ (HKX.out w4 hb4)
  have z6_b := cell_of_row _ _ 6 _ _ _ (HKX.out w4 hb4)
  have HB4 := Lib.hid hb4
  have HBP := Lib.hid hbp
  clear hb4 hbp
  go_wp2_with fail
  refine (HRN.out _ HB4.out).mono ?_
  rintro e w5 ⟨Aq, cq, rfl, hq1, hq2, hbq, hb5⟩
  have hB5 := HB4.out.trans (hb5.mono HB4.out.size)
  have hbp5 := (HBP.out.below hb5).wider hb5.size
  have s1 := HSTR.out w5 Ap cp hbp5
  have s2 := HSTR.out w5 Aq cq hbq
  clear z0_b z1_b z2_b z3_b z4_b z5_b z6_b
  have z0_c := cell_of_row _ _ 0 _ _ _ (HKX.out w5 hB5)
  have z1_c := cell_of_row _ _ 1 _ _ _ (HKX.out w5 hB5)
  have z2_c := cell_of_row _ _ 2 _ _ _ (HKX.out w5 hB5)
  have z3_c := cell_of_row _ _ 3 _ _ _ (HKX.out w5 hB5)
  have z4_c := cell_of_row _ _ 4 _ _ _ (HKX.out w5 hB5)
  have z5_c := cell_of_row _ _ 5 _ _ _ (HKX.out w5 hB5)
  have z6_c := cell_of_row _ _ 6 _ _ _ (HKX.out w5 hB5)
  have HB5 := Lib.hid hB5
  have HBP5 := Lib.hid hbp5
  have hself := beq_self_l eb
  clear hB5 hb5 hbp5 hbq HB4 HBP
  go_wp2_with fail
  refine (HSZ.out _ HB5.out).mono ?_
  rintro e w6 ⟨rfl, hb6⟩
  have hB6 := HB5.out.trans (hb6.mono HB5.out.size)
  have hbp6 := (HBP5.out.below hb6).wider hb6.size
  have HB6 := Lib.hid hB6
  have HBP6 := Lib.hid hbp6
  clear s1 s2 hB6 hb6 hbp6 HBP5 HB5 z0_c z1_c z2_c z3_c z4_c z5_c z6_c
  by_cases hV : V = 0
  · have HD := Lib.hid (HDE.out hV w6 Ap cp HBP6.out)
    subst hV
    clear HDE
    go_wp2_with fail
    refine HD.out.mono ?_
    rintro e w7 ⟨Ad, cd, rfl, hd1, hd2, hrd, hb7⟩
    have hB7 := HB6.out.trans (hb7.mono HB6.out.size)
    have hal := (Below.refl w7.heap.size w7).alloc (Nat.le_refl _) (.cells #[.int .i64 base, .int .i64 pid, .int .i64 epoch, .int .i64 seq, .int .i64 kind, .int .i64 time, .slice Ad L.length cd] 66)
    have hN := heap_alloc_new w7 (.cells #[.int .i64 base, .int .i64 pid, .int .i64 epoch, .int .i64 seq, .int .i64 kind, .int .i64 time, .slice Ad L.length cd] 66)
    have hB8 := hB7.trans (hal.mono hB7.size)
    have HSS := Lib.hid (HSM.out _ Ad cd hB8 ((hrd.below hal).wider hal.size))
    generalize hw8 : w7.alloc (.cells #[.int .i64 base, .int .i64 pid, .int .i64 epoch, .int .i64 seq, .int .i64 kind, .int .i64 time, .slice Ad L.length cd] 66) = w8 at *
    have z0_d := cell_of_row _ _ 0 _ _ _ (HKX.out w8 hB8)
    have z1_d := cell_of_row _ _ 1 _ _ _ (HKX.out w8 hB8)
    have z2_d := cell_of_row _ _ 2 _ _ _ (HKX.out w8 hB8)
    have z3_d := cell_of_row _ _ 3 _ _ _ (HKX.out w8 hB8)
    have z4_d := cell_of_row _ _ 4 _ _ _ (HKX.out w8 hB8)
    have z5_d := cell_of_row _ _ 5 _ _ _ (HKX.out w8 hB8)
    have z6_d := cell_of_row _ _ 6 _ _ _ (HKX.out w8 hB8)
    have n0 := cell_of_row _ _ 0 _ _ _ hN
    have n1 := cell_of_row _ _ 1 _ _ _ hN
    have n2 := cell_of_row _ _ 2 _ _ _ hN
    have n3 := cell_of_row _ _ 3 _ _ _ hN
    have n4 := cell_of_row _ _ 4 _ _ _ hN
    have n5 := cell_of_row _ _ 5 _ _ _ hN
    have n6 := cell_of_row _ _ 6 _ _ _ hN
    have HB8 := Lib.hid (HB3.out.trans (hB8.mono HB3.out.size))
    clear hB7 hal hN hB8 hrd hb7 HD
    go_wp2_with fail
    refine HSS.out.mono ?_
    rintro e w9 ⟨rfl, hb9⟩
    have HB9 := Lib.hid (HB8.out.trans (hb9.mono HB8.out.size))
    clear hb9 HB8 hw8 z0_d z1_d z2_d z3_d z4_d z5_d z6_d n0 n1 n2 n3 n4 n5 n6
    go_wp2_with fail
    refine (HAW.out _).mono ?_
    rintro e w10 ⟨rfl, hb10⟩
    go_wp2_with fail
    go_ret
    exact ⟨rfl, HB9.out.trans (hb10.mono HB9.out.size)⟩
  · have hne : (V != 0) = true := by simpa using hV
    have hBB := Lib.hid (HB3.out.trans (HB6.out.mono HB3.out.size))
    clear hV HDE
    go_wp2_with fail
    refine (HAW.out _).mono ?_
    rintro e w10 ⟨rfl, hb10⟩
    go_wp2_with fail
    go_ret
    exact ⟨rfl, hBB.out.trans (hb10.mono hBB.out.size)⟩
end Go.Proofs.Ytabbbamokhaaoaa
