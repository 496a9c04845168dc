/-
  What decoder.batch does where all can be read.
-/
import Derived.Test.YtkdpfajoeajenaaRecDs
namespace Go.Proofs.Ytkdpfajoeajenaa
open Go.RowKit
set_option linter.unusedVariables false
set_option linter.unusedSimpArgs false

/-- the numbers ahead of a batch's records can be read up to q -/
structure HeadAt (l : List UInt8) (mk : Bool) (base pid epoch seq kind time q : Nat) : Prop where
  at_ : ∃ p3 p4 p5 p6, dByte l 0 = .ok (.int .i64 1) 1 ∧ dByte l 1 = .ok (.int .i64 (kind : Int)) 2 ∧ dUint l 2 = .ok (.int .u64 (base : Int)) p3 ∧ dUint l p3 = .ok (.int .u64 (pid : Int)) p4 ∧
    (pid = 0 → epoch = 0 ∧ seq = 0 ∧ p6 = p4) ∧ (pid ≠ 0 → dUint l p4 = .ok (.int .u64 (epoch : Int)) p5 ∧ (mk = true → seq = 0 ∧ p6 = p5) ∧ (mk = false → dUint l p5 = .ok (.int .u64 (seq : Int)) p6)) ∧
    dUint l p6 = .ok (.int .u64 (time : Int)) q

set_option maxRecDepth 100000 in
set_option maxHeartbeats 8000000 in
theorem dbatch_ok (mk : Bool) (d g c base pid epoch seq kind time q r : Nat) (A : Option Addr) (l : List UInt8) (L : List Rec) (w : World) (h : Dc w d g A c l 0) (hh : HeadAt l mk base pid epoch seq kind time q) (hmk : (((kind : Int) == 2) || ((kind : Int) == 3)) = mk)
    (k1 : base ≤ 1099511627776) (k2 : pid ≤ 1048576) (k3 : epoch ≤ 32767) (k4 : seq ≤ 2147483647) (k6 : time ≤ 1099511627776) (hL0 : mk = true → L = [] ∧ r = q)
    (hL1 : mk = false → ∀ W, Dc W d g A c l q → Calls Try.prog 90 #[.pointer (some ⟨d, 0, none⟩), .int .i64 (time : Int)] W fun e w' => ∃ A' c', e = .returned (.slice A' L.length c') ∧ L.length ≤ c' ∧ c' ≤ maxLen ∧ Rcs w' w'.heap.size A' L.length L ∧ (∀ p, A' = some p → W.heap.size ≤ p.block) ∧ Dc w' d g A c l r ∧ Two g d W w') :
    Calls Try.prog 73 #[.pointer (some ⟨d, 0, none⟩)] w fun e w' => ∃ A' c', e = .returned (.agg #[.int .i64 (base : Int), .int .i64 (pid : Int), .int .i64 (epoch : Int), .int .i64 (seq : Int), .int .i64 (kind : Int), .int .i64 (time : Int), .slice A' L.length c']) ∧ L.length ≤ c' ∧ c' ≤ maxLen ∧ Rcs w' w'.heap.size A' L.length L ∧ (∀ p, A' = some p → w.heap.size ≤ p.block) ∧ Dc w' d g A c l r ∧ Two g d w w' := by
  obtain ⟨p3, p4, p5, p6, e1, e2, e3, e4, e5, e6, e7⟩ := hh.at_
  have E1 := Lib.hid e1
  have E2 := Lib.hid e2
  have E3 := Lib.hid e3
  have E4 := Lib.hid e4
  have E5 := Lib.hid e5
  have E6 := Lib.hid e6
  have E7 := Lib.hid e7
  have HL0 := Lib.hid hL0
  have HL1 := Lib.hid hL1
  clear e1 e2 e3 e4 e5 e6 e7 hh hL0 hL1
  have HMK : Hid (∀ (W : World) (b p e s t : Int) (A : Option Addr) (n c : Nat), Calls Try.prog 28 #[.agg #[.int .i64 b, .int .i64 p, .int .i64 e, .int .i64 s, .int .i64 (kind : Int), .int .i64 t, .slice A n c]] W fun e w' => e = .returned (.bool mk) ∧ Below W.heap.size W w') := fun W b p e s t A n c => by
    have := marker_any ⟨b, p, e, s, kind, t, List.replicate n default⟩ A c W
    unfold Bat.cells markB at this
    simp only [List.length_replicate] at this
    rw [hmk] at this
    exact this
  clear hmk
  have hdl := h.dlt
  have hgd := h.lt
  have hT := (Two.of_below (g := g) (d := d) ((((Below.refl w.heap.size w).alloc (Nat.le_refl _) (.cells #[.int .i64 0, .int .i64 0, .int .i64 0, .int .i64 0, .int .i64 0, .int .i64 0, .slice none 0 0] 24)).alloc (by simp) (.cells #[.int .i64 0, .int .i64 0, .int .i64 0, .int .i64 0, .int .i64 0, .int .i64 0, .slice none 0 0] 24))))
  have hD := (h.alloc (.cells #[.int .i64 0, .int .i64 0, .int .i64 0, .int .i64 0, .int .i64 0, .int .i64 0, .slice none 0 0] 24)).alloc (.cells #[.int .i64 0, .int .i64 0, .int .i64 0, .int .i64 0, .int .i64 0, .int .i64 0, .slice none 0 0] 24)
  have b6 : ((w.alloc (.cells #[.int .i64 0, .int .i64 0, .int .i64 0, .int .i64 0, .int .i64 0, .int .i64 0, .slice none 0 0] 24)).alloc (.cells #[.int .i64 0, .int .i64 0, .int .i64 0, .int .i64 0, .int .i64 0, .int .i64 0, .slice none 0 0] 24)).heap[w.heap.size]? = some (.cells #[.int .i64 0, .int .i64 0, .int .i64 0, .int .i64 0, .int .i64 0, .int .i64 0, .slice none 0 0] 24 (0, 0)) := by
    rw [← heap_alloc_new w (.cells #[.int .i64 0, .int .i64 0, .int .i64 0, .int .i64 0, .int .i64 0, .int .i64 0, .slice none 0 0] 24)]
    exact ((Below.refl (w.alloc (.cells #[.int .i64 0, .int .i64 0, .int .i64 0, .int .i64 0, .int .i64 0, .int .i64 0, .slice none 0 0] 24)).heap.size _).alloc (Nat.le_refl _) _).block w.heap.size (by simp)
  have b7 : ((w.alloc (.cells #[.int .i64 0, .int .i64 0, .int .i64 0, .int .i64 0, .int .i64 0, .int .i64 0, .slice none 0 0] 24)).alloc (.cells #[.int .i64 0, .int .i64 0, .int .i64 0, .int .i64 0, .int .i64 0, .int .i64 0, .slice none 0 0] 24)).heap[w.heap.size + 1]? = some (.cells #[.int .i64 0, .int .i64 0, .int .i64 0, .int .i64 0, .int .i64 0, .int .i64 0, .slice none 0 0] 24 (0, 0)) := by
    have h := heap_alloc_new (w.alloc (.cells #[.int .i64 0, .int .i64 0, .int .i64 0, .int .i64 0, .int .i64 0, .int .i64 0, .slice none 0 0] 24)) (.cells #[.int .i64 0, .int .i64 0, .int .i64 0, .int .i64 0, .int .i64 0, .int .i64 0, .slice none 0 0] 24)
    rwa [show (w.alloc (.cells #[.int .i64 0, .int .i64 0, .int .i64 0, .int .i64 0, .int .i64 0, .int .i64 0, .slice none 0 0] 24)).heap.size = w.heap.size + 1 from by simp] at h
  generalize hW0 : (w.alloc (.cells #[.int .i64 0, .int .i64 0, .int .i64 0, .int .i64 0, .int .i64 0, .int .i64 0, .slice none 0 0] 24)).alloc (.cells #[.int .i64 0, .int .i64 0, .int .i64 0, .int .i64 0, .int .i64 0, .int .i64 0, .slice none 0 0] 24) = W0 at *
  have HW0 := Lib.hid hW0
  have x0 := hD.c0
  have HI := Lib.hid (rByte_any g c 0 A l W0 hD.rd)
  rw [E1.out] at HI
  have HD := Lib.hid hD
  have HT := Lib.hid hT
  have HB6 := Lib.hid b6
  have HB7 := Lib.hid b7
  clear h hD hT b6 b7 hW0
  go_enter Try.func73, Try.ntmps73
  go_upto_region 2 with fail
  rw [HW0.out]
  go_wp2_with fail
  refine HI.out.mono ?_
  rintro e w1 ⟨rfl, hr1, hg1⟩
  have hD := HD.out.read hr1 hg1
  have hT := HT.out.trans (Two.of_grown (d := d) hg1)
  have b6 := (hg1.block w.heap.size (Array.getElem?_eq_some_iff.1 HB6.out).1 (fun e => by injection e with e; omega)).trans HB6.out
  have b7 := (hg1.block (w.heap.size + 1) (Array.getElem?_eq_some_iff.1 HB7.out).1 (fun e => by injection e with e; omega)).trans HB7.out
  clear hr1 hg1 HI x0 HD HT HB6 HB7 HW0
  have HMU := Lib.hid (must_ok d g c 1 A l w1 hD)
  have HT := Lib.hid hT
  have HB6 := Lib.hid b6
  have HB7 := Lib.hid b7
  clear hD hT b6 b7
  go_wp2_with fail
  refine HMU.out.mono ?_
  rintro e w2 ⟨rfl, hD, hT3⟩
  have hT := HT.out.trans hT3
  have b6 := (hT3.block w.heap.size (Array.getElem?_eq_some_iff.1 HB6.out).1 (by omega) (by omega)).trans HB6.out
  have b7 := (hT3.block (w.heap.size + 1) (Array.getElem?_eq_some_iff.1 HB7.out).1 (by omega) (by omega)).trans HB7.out
  clear hT3 HMU HT HB6 HB7
  have x0 := hD.c0
  have HI := Lib.hid (rByte_any g c 1 A l w2 hD.rd)
  rw [E2.out] at HI
  have HD := Lib.hid hD
  have HT := Lib.hid hT
  have HB6 := Lib.hid b6
  have HB7 := Lib.hid b7
  clear hD hT b6 b7
  go_wp2_with fail
  refine HI.out.mono ?_
  rintro e w3 ⟨rfl, hr1, hg1⟩
  have hD := HD.out.read hr1 hg1
  have hT := HT.out.trans (Two.of_grown (d := d) hg1)
  have b6 := (hg1.block w.heap.size (Array.getElem?_eq_some_iff.1 HB6.out).1 (fun e => by injection e with e; omega)).trans HB6.out
  have b7 := (hg1.block (w.heap.size + 1) (Array.getElem?_eq_some_iff.1 HB7.out).1 (fun e => by injection e with e; omega)).trans HB7.out
  clear hr1 hg1 HI x0 HD HT HB6 HB7
  have y4 : w3.cell? ⟨w.heap.size + 1, 4, none⟩ = some (.int .i64 0) := cell_of_row w3 _ 4 _ _ _ b7
  have f4 : w3.frozen? ⟨w.heap.size + 1, 4, none⟩ = false := frozen_of_row w3 _ 4 _ _ b7
  have hDs := hD.set (b := w.heap.size + 1) (by omega) 4 (.int .i64 (kind : Int))
  have hTs := hT.new (i := 4) (b := w.heap.size + 1) (.int .i64 (kind : Int)) (by omega)
  have b6s : (w3.setCell ⟨w.heap.size + 1, 4, none⟩ (.int .i64 (kind : Int))).heap[w.heap.size]? = _ := ((grown_set w3 (w.heap.size + 1) 4 (.int .i64 (kind : Int))).block w.heap.size (Array.getElem?_eq_some_iff.1 b6).1 (fun e => by injection e with e; omega)).trans b6
  have b7s : (w3.setCell ⟨w.heap.size + 1, 4, none⟩ (.int .i64 (kind : Int))).heap[w.heap.size + 1]? = some (.cells #[.int .i64 0, .int .i64 0, .int .i64 0, .int .i64 0, .int .i64 (kind : Int), .int .i64 0, .slice none 0 0] 24 (0, 0)) := by rw [heap_setCell_same w3 _ 4 _ _ _ b7]; rfl
  have HD := Lib.hid hDs
  have HT := Lib.hid hTs
  have HB6 := Lib.hid b6s
  have HB7 := Lib.hid b7s
  clear hD hT b6 b7 hDs hTs b6s b7s
  have HU := Lib.hid (upTo_ok d g c 2 p3 base 1099511627776 A l _ HD.out E3.out (by omega) (by omega))
  go_wp2_with fail
  generalize w3.setCell ⟨w.heap.size + 1, 4, none⟩ (.int .i64 (kind : Int)) = W3 at *
  refine HU.out.mono ?_
  rintro e w4 ⟨rfl, hD, hT3⟩
  have hT := HT.out.trans hT3
  have b6 := (hT3.block w.heap.size (Array.getElem?_eq_some_iff.1 HB6.out).1 (by omega) (by omega)).trans HB6.out
  have b7 := (hT3.block (w.heap.size + 1) (Array.getElem?_eq_some_iff.1 HB7.out).1 (by omega) (by omega)).trans HB7.out
  clear hT3 HU HD HT HB6 HB7 y4 f4
  have y0 : w4.cell? ⟨w.heap.size + 1, 0, none⟩ = some (.int .i64 0) := cell_of_row w4 _ 0 _ _ _ b7
  have f0 : w4.frozen? ⟨w.heap.size + 1, 0, none⟩ = false := frozen_of_row w4 _ 0 _ _ b7
  have hDs := hD.set (b := w.heap.size + 1) (by omega) 0 (.int .i64 (base : Int))
  have hTs := hT.new (i := 0) (b := w.heap.size + 1) (.int .i64 (base : Int)) (by omega)
  have b6s : (w4.setCell ⟨w.heap.size + 1, 0, none⟩ (.int .i64 (base : Int))).heap[w.heap.size]? = _ := ((grown_set w4 (w.heap.size + 1) 0 (.int .i64 (base : Int))).block w.heap.size (Array.getElem?_eq_some_iff.1 b6).1 (fun e => by injection e with e; omega)).trans b6
  have b7s : (w4.setCell ⟨w.heap.size + 1, 0, none⟩ (.int .i64 (base : Int))).heap[w.heap.size + 1]? = some (.cells #[.int .i64 (base : Int), .int .i64 0, .int .i64 0, .int .i64 0, .int .i64 (kind : Int), .int .i64 0, .slice none 0 0] 24 (0, 0)) := by rw [heap_setCell_same w4 _ 0 _ _ _ b7]; rfl
  have HD := Lib.hid hDs
  have HT := Lib.hid hTs
  have HB6 := Lib.hid b6s
  have HB7 := Lib.hid b7s
  clear hD hT b6 b7 hDs hTs b6s b7s
  have HU := Lib.hid (upTo_ok d g c p3 p4 pid 1048576 A l _ HD.out E4.out (by omega) (by omega))
  go_wp2_with fail
  generalize w4.setCell ⟨w.heap.size + 1, 0, none⟩ (.int .i64 (base : Int)) = W4 at *
  refine HU.out.mono ?_
  rintro e w5 ⟨rfl, hD, hT3⟩
  have hT := HT.out.trans hT3
  have b6 := (hT3.block w.heap.size (Array.getElem?_eq_some_iff.1 HB6.out).1 (by omega) (by omega)).trans HB6.out
  have b7 := (hT3.block (w.heap.size + 1) (Array.getElem?_eq_some_iff.1 HB7.out).1 (by omega) (by omega)).trans HB7.out
  clear hT3 HU HD HT HB6 HB7 y0 f0
  have y1 : w5.cell? ⟨w.heap.size + 1, 1, none⟩ = some (.int .i64 0) := cell_of_row w5 _ 1 _ _ _ b7
  have f1 : w5.frozen? ⟨w.heap.size + 1, 1, none⟩ = false := frozen_of_row w5 _ 1 _ _ b7
  have hDs := hD.set (b := w.heap.size + 1) (by omega) 1 (.int .i64 (pid : Int))
  have hTs := hT.new (i := 1) (b := w.heap.size + 1) (.int .i64 (pid : Int)) (by omega)
  have b6s : (w5.setCell ⟨w.heap.size + 1, 1, none⟩ (.int .i64 (pid : Int))).heap[w.heap.size]? = _ := ((grown_set w5 (w.heap.size + 1) 1 (.int .i64 (pid : Int))).block w.heap.size (Array.getElem?_eq_some_iff.1 b6).1 (fun e => by injection e with e; omega)).trans b6
  have b7s : (w5.setCell ⟨w.heap.size + 1, 1, none⟩ (.int .i64 (pid : Int))).heap[w.heap.size + 1]? = some (.cells #[.int .i64 (base : Int), .int .i64 (pid : Int), .int .i64 0, .int .i64 0, .int .i64 (kind : Int), .int .i64 0, .slice none 0 0] 24 (0, 0)) := by rw [heap_setCell_same w5 _ 1 _ _ _ b7]; rfl
  have HD := Lib.hid hDs
  have HT := Lib.hid hTs
  have HB6 := Lib.hid b6s
  have HB7 := Lib.hid b7s
  clear hD hT b6 b7 hDs hTs b6s b7s
  have y1s : (w5.setCell ⟨w.heap.size + 1, 1, none⟩ (.int .i64 (pid : Int))).cell? ⟨w.heap.size + 1, 1, none⟩ = some (.int .i64 (pid : Int)) := cell_of_row _ _ 1 _ _ _ HB7.out
  by_cases hp0 : pid = 0
  · obtain ⟨he, hs, hp6⟩ := E5.out hp0
    subst he hs hp0
    rw [hp6] at E7
    clear E5 E6 hp6
    have HU := Lib.hid (upTo_ok d g c p4 q time 1099511627776 A l _ HD.out E7.out (by omega) (by omega))
    go_wp2_with fail
    generalize w5.setCell ⟨w.heap.size + 1, 1, none⟩ (.int .i64 ((0 : Nat) : Int)) = W5 at *
    refine HU.out.mono ?_
    rintro e w6 ⟨rfl, hD, hT3⟩
    have hT := HT.out.trans hT3
    have b6 := (hT3.block w.heap.size (Array.getElem?_eq_some_iff.1 HB6.out).1 (by omega) (by omega)).trans HB6.out
    have b7 := (hT3.block (w.heap.size + 1) (Array.getElem?_eq_some_iff.1 HB7.out).1 (by omega) (by omega)).trans HB7.out
    clear hT3 HU HD HT HB6 HB7 y1 f1
    have y5 : w6.cell? ⟨w.heap.size + 1, 5, none⟩ = some (.int .i64 0) := cell_of_row w6 _ 5 _ _ _ b7
    have f5 : w6.frozen? ⟨w.heap.size + 1, 5, none⟩ = false := frozen_of_row w6 _ 5 _ _ b7
    have hDs := hD.set (b := w.heap.size + 1) (by omega) 5 (.int .i64 (time : Int))
    have hTs := hT.new (i := 5) (b := w.heap.size + 1) (.int .i64 (time : Int)) (by omega)
    have b6s : (w6.setCell ⟨w.heap.size + 1, 5, none⟩ (.int .i64 (time : Int))).heap[w.heap.size]? = _ := ((grown_set w6 (w.heap.size + 1) 5 (.int .i64 (time : Int))).block w.heap.size (Array.getElem?_eq_some_iff.1 b6).1 (fun e => by injection e with e; omega)).trans b6
    have b7s : (w6.setCell ⟨w.heap.size + 1, 5, none⟩ (.int .i64 (time : Int))).heap[w.heap.size + 1]? = some (.cells #[.int .i64 (base : Int), .int .i64 ((0 : Nat) : Int), .int .i64 0, .int .i64 0, .int .i64 (kind : Int), .int .i64 (time : Int), .slice none 0 0] 24 (0, 0)) := by rw [heap_setCell_same w6 _ 5 _ _ _ b7]; rfl
    have HD := Lib.hid hDs
    have HT := Lib.hid hTs
    have HB6 := Lib.hid b6s
    have HB7 := Lib.hid b7s
    clear hD hT b6 b7 hDs hTs b6s b7s
    have m0 : (w6.setCell ⟨w.heap.size + 1, 5, none⟩ (.int .i64 (time : Int))).cell? ⟨w.heap.size + 1, 0, none⟩ = some (.int .i64 (base : Int)) := cell_of_row _ _ 0 _ _ _ HB7.out
    have m1 : (w6.setCell ⟨w.heap.size + 1, 5, none⟩ (.int .i64 (time : Int))).cell? ⟨w.heap.size + 1, 1, none⟩ = some (.int .i64 ((0 : Nat) : Int)) := cell_of_row _ _ 1 _ _ _ HB7.out
    have m2 : (w6.setCell ⟨w.heap.size + 1, 5, none⟩ (.int .i64 (time : Int))).cell? ⟨w.heap.size + 1, 2, none⟩ = some (.int .i64 0) := cell_of_row _ _ 2 _ _ _ HB7.out
    have m3 : (w6.setCell ⟨w.heap.size + 1, 5, none⟩ (.int .i64 (time : Int))).cell? ⟨w.heap.size + 1, 3, none⟩ = some (.int .i64 0) := cell_of_row _ _ 3 _ _ _ HB7.out
    have m4 : (w6.setCell ⟨w.heap.size + 1, 5, none⟩ (.int .i64 (time : Int))).cell? ⟨w.heap.size + 1, 4, none⟩ = some (.int .i64 (kind : Int)) := cell_of_row _ _ 4 _ _ _ HB7.out
    have m5 : (w6.setCell ⟨w.heap.size + 1, 5, none⟩ (.int .i64 (time : Int))).cell? ⟨w.heap.size + 1, 5, none⟩ = some (.int .i64 (time : Int)) := cell_of_row _ _ 5 _ _ _ HB7.out
    have m6 : (w6.setCell ⟨w.heap.size + 1, 5, none⟩ (.int .i64 (time : Int))).cell? ⟨w.heap.size + 1, 6, none⟩ = some (.slice none 0 0) := cell_of_row _ _ 6 _ _ _ HB7.out
    go_wp2_with fail
    generalize w6.setCell ⟨w.heap.size + 1, 5, none⟩ (.int .i64 (time : Int)) = W6 at *
    refine (HMK.out _ _ _ _ _ _ _ _ _).mono ?_
    rintro e w7 ⟨rfl, hbm⟩
    have hD := HD.out.below hbm HD.out.dlt
    have hT := HT.out.trans (Two.of_below (g := g) (d := d) hbm)
    have b6 := (hbm.block w.heap.size (Array.getElem?_eq_some_iff.1 HB6.out).1).trans HB6.out
    have b7 := (hbm.block (w.heap.size + 1) (Array.getElem?_eq_some_iff.1 HB7.out).1).trans HB7.out
    clear hbm HD HT HB6 HB7
    clear y5 f5 m0 m1 m2 m3 m4 m5 m6
    cases mk with
    | true =>
      obtain ⟨rfl, rfl⟩ := HL0.out (by first | rfl | trivial)
      clear HL0 HL1 HMK
      have m0 : w7.cell? ⟨w.heap.size + 1, 0, none⟩ = some (.int .i64 (base : Int)) := cell_of_row w7 _ 0 _ _ _ b7
      have m1 : w7.cell? ⟨w.heap.size + 1, 1, none⟩ = some (.int .i64 ((0 : Nat) : Int)) := cell_of_row w7 _ 1 _ _ _ b7
      have m2 : w7.cell? ⟨w.heap.size + 1, 2, none⟩ = some (.int .i64 0) := cell_of_row w7 _ 2 _ _ _ b7
      have m3 : w7.cell? ⟨w.heap.size + 1, 3, none⟩ = some (.int .i64 0) := cell_of_row w7 _ 3 _ _ _ b7
      have m4 : w7.cell? ⟨w.heap.size + 1, 4, none⟩ = some (.int .i64 (kind : Int)) := cell_of_row w7 _ 4 _ _ _ b7
      have m5 : w7.cell? ⟨w.heap.size + 1, 5, none⟩ = some (.int .i64 (time : Int)) := cell_of_row w7 _ 5 _ _ _ b7
      have m6 : w7.cell? ⟨w.heap.size + 1, 6, none⟩ = some (.slice none 0 0) := cell_of_row w7 _ 6 _ _ _ b7
      have d0 : w7.cell? ⟨w.heap.size, 0, none⟩ = some (.int .i64 0) := cell_of_row w7 _ 0 _ _ _ b6
      have h0 : w7.frozen? ⟨w.heap.size, 0, none⟩ = false := frozen_of_row w7 _ 0 _ _ b6
      have d1 : w7.cell? ⟨w.heap.size, 1, none⟩ = some (.int .i64 0) := cell_of_row w7 _ 1 _ _ _ b6
      have h1 : w7.frozen? ⟨w.heap.size, 1, none⟩ = false := frozen_of_row w7 _ 1 _ _ b6
      have d2 : w7.cell? ⟨w.heap.size, 2, none⟩ = some (.int .i64 0) := cell_of_row w7 _ 2 _ _ _ b6
      have h2 : w7.frozen? ⟨w.heap.size, 2, none⟩ = false := frozen_of_row w7 _ 2 _ _ b6
      have d3 : w7.cell? ⟨w.heap.size, 3, none⟩ = some (.int .i64 0) := cell_of_row w7 _ 3 _ _ _ b6
      have h3 : w7.frozen? ⟨w.heap.size, 3, none⟩ = false := frozen_of_row w7 _ 3 _ _ b6
      have d4 : w7.cell? ⟨w.heap.size, 4, none⟩ = some (.int .i64 0) := cell_of_row w7 _ 4 _ _ _ b6
      have h4 : w7.frozen? ⟨w.heap.size, 4, none⟩ = false := frozen_of_row w7 _ 4 _ _ b6
      have d5 : w7.cell? ⟨w.heap.size, 5, none⟩ = some (.int .i64 0) := cell_of_row w7 _ 5 _ _ _ b6
      have h5 : w7.frozen? ⟨w.heap.size, 5, none⟩ = false := frozen_of_row w7 _ 5 _ _ b6
      have d6 : w7.cell? ⟨w.heap.size, 6, none⟩ = some (.slice none 0 0) := cell_of_row w7 _ 6 _ _ _ b6
      have h6 : w7.frozen? ⟨w.heap.size, 6, none⟩ = false := frozen_of_row w7 _ 6 _ _ b6
      have z7 := (Array.getElem?_eq_some_iff.1 b7).1
      have HD := Lib.hid hD
      have HT := Lib.hid hT
      clear hD hT b6 b7
      have HC1 : Hid (([] : List Rec).length ≤ 0) := Nat.le_refl _
      have HC2 : Hid (0 ≤ maxLen) := Nat.zero_le _
      have HC3 : Hid (Rcs w7 w7.heap.size none ([] : List Rec).length []) := Rcs.nil_
      have HC4 : Hid (∀ p : Addr, (none : Option Addr) = some p → w.heap.size + 2 ≤ p.block) := fun p h => by cases h
      go_wp2_with fail
      refine bodyPost_ret (v := .agg #[.int .i64 (base : Int), .int .i64 ((0 : Nat) : Int), .int .i64 0, .int .i64 0, .int .i64 (kind : Int), .int .i64 (time : Int), .slice none 0 0]) (by simp [results, Try.results73, go_sem, d0, d1, d2, d3, d4, d5, d6]) rfl ?_
      refine ⟨_, _, rfl, HC1.out, HC2.out, ?_, fun p hp => by have := HC4.out p hp; omega, ?_, ?_⟩
      · refine Rcs.wider (B := w7.heap.size) ?_ (by simp)
        refine ⟨HC3.out.len, HC3.out.lies.far_ fun p hp i => ?_, HC3.out.ok⟩
        have hpb := HC4.out p hp
        have hpi := add_block p i
        have n0 : ¬ w.heap.size = (p.add i).block := by rw [hpi]; omega
        have n1 : ¬ w.heap.size + 1 = (p.add i).block := by rw [hpi]; omega
        simp only [World.cell?_setCell_far, ne_eq, n0, n1, not_false_eq_true]
      · exact (((((((HD.out.set (b := w.heap.size) (by omega) 0 _).set (b := w.heap.size) (by omega) 1 _).set (b := w.heap.size) (by omega) 2 _).set (b := w.heap.size) (by omega) 3 _).set (b := w.heap.size) (by omega) 4 _).set (b := w.heap.size) (by omega) 5 _).set (b := w.heap.size) (by omega) 6 _)
      · exact (((((((HT.out.new (b := w.heap.size) _ (Nat.le_refl _)).new (b := w.heap.size) _ (Nat.le_refl _)).new (b := w.heap.size) _ (Nat.le_refl _)).new (b := w.heap.size) _ (Nat.le_refl _)).new (b := w.heap.size) _ (Nat.le_refl _)).new (b := w.heap.size) _ (Nat.le_refl _)).new (b := w.heap.size) _ (Nat.le_refl _))
    | false =>
      have HR := Lib.hid (HL1.out (by first | rfl | trivial) _ hD)
      have m5 : w7.cell? ⟨w.heap.size + 1, 5, none⟩ = some (.int .i64 (time : Int)) := cell_of_row w7 _ 5 _ _ _ b7
      have HD := Lib.hid hD
      have HT := Lib.hid hT
      have HB6 := Lib.hid b6
      have HB7 := Lib.hid b7
      clear hD hT b6 b7
      go_wp2_with fail
      refine HR.out.mono ?_
      rintro e w8 ⟨A', c', rfl, hc1, hc2, hc3, hc4, hD, hT3⟩
      have hT := HT.out.trans hT3
      have b6 := (hT3.block w.heap.size (Array.getElem?_eq_some_iff.1 HB6.out).1 (by omega) (by omega)).trans HB6.out
      have b7 := (hT3.block (w.heap.size + 1) (Array.getElem?_eq_some_iff.1 HB7.out).1 (by omega) (by omega)).trans HB7.out
      have z8 := (Array.getElem?_eq_some_iff.1 HB7.out).1
      have HC1 := Lib.hid hc1
      have HC2 := Lib.hid hc2
      have HC3 := Lib.hid hc3
      have HC4 : Hid (∀ p : Addr, A' = some p → w.heap.size + 2 ≤ p.block) := fun p hp => by have := hc4 p hp; omega
      clear hT3 HR HD HT HB6 HB7 m5 hc1 hc2 hc3 hc4 HL0 HL1 HMK
      have m0 : w8.cell? ⟨w.heap.size + 1, 0, none⟩ = some (.int .i64 (base : Int)) := cell_of_row w8 _ 0 _ _ _ b7
      have m1 : w8.cell? ⟨w.heap.size + 1, 1, none⟩ = some (.int .i64 ((0 : Nat) : Int)) := cell_of_row w8 _ 1 _ _ _ b7
      have m2 : w8.cell? ⟨w.heap.size + 1, 2, none⟩ = some (.int .i64 0) := cell_of_row w8 _ 2 _ _ _ b7
      have m3 : w8.cell? ⟨w.heap.size + 1, 3, none⟩ = some (.int .i64 0) := cell_of_row w8 _ 3 _ _ _ b7
      have m4 : w8.cell? ⟨w.heap.size + 1, 4, none⟩ = some (.int .i64 (kind : Int)) := cell_of_row w8 _ 4 _ _ _ b7
      have m5 : w8.cell? ⟨w.heap.size + 1, 5, none⟩ = some (.int .i64 (time : Int)) := cell_of_row w8 _ 5 _ _ _ b7
      have m6 : w8.cell? ⟨w.heap.size + 1, 6, none⟩ = some (.slice none 0 0) := cell_of_row w8 _ 6 _ _ _ b7
      have f6 : w8.frozen? ⟨w.heap.size + 1, 6, none⟩ = false := frozen_of_row w8 _ 6 _ _ b7
      have d0 : w8.cell? ⟨w.heap.size, 0, none⟩ = some (.int .i64 0) := cell_of_row w8 _ 0 _ _ _ b6
      have h0 : w8.frozen? ⟨w.heap.size, 0, none⟩ = false := frozen_of_row w8 _ 0 _ _ b6
      have d1 : w8.cell? ⟨w.heap.size, 1, none⟩ = some (.int .i64 0) := cell_of_row w8 _ 1 _ _ _ b6
      have h1 : w8.frozen? ⟨w.heap.size, 1, none⟩ = false := frozen_of_row w8 _ 1 _ _ b6
      have d2 : w8.cell? ⟨w.heap.size, 2, none⟩ = some (.int .i64 0) := cell_of_row w8 _ 2 _ _ _ b6
      have h2 : w8.frozen? ⟨w.heap.size, 2, none⟩ = false := frozen_of_row w8 _ 2 _ _ b6
      have d3 : w8.cell? ⟨w.heap.size, 3, none⟩ = some (.int .i64 0) := cell_of_row w8 _ 3 _ _ _ b6
      have h3 : w8.frozen? ⟨w.heap.size, 3, none⟩ = false := frozen_of_row w8 _ 3 _ _ b6
      have d4 : w8.cell? ⟨w.heap.size, 4, none⟩ = some (.int .i64 0) := cell_of_row w8 _ 4 _ _ _ b6
      have h4 : w8.frozen? ⟨w.heap.size, 4, none⟩ = false := frozen_of_row w8 _ 4 _ _ b6
      have d5 : w8.cell? ⟨w.heap.size, 5, none⟩ = some (.int .i64 0) := cell_of_row w8 _ 5 _ _ _ b6
      have h5 : w8.frozen? ⟨w.heap.size, 5, none⟩ = false := frozen_of_row w8 _ 5 _ _ b6
      have d6 : w8.cell? ⟨w.heap.size, 6, none⟩ = some (.slice none 0 0) := cell_of_row w8 _ 6 _ _ _ b6
      have h6 : w8.frozen? ⟨w.heap.size, 6, none⟩ = false := frozen_of_row w8 _ 6 _ _ b6
      have z7 := (Array.getElem?_eq_some_iff.1 b7).1
      have HD := Lib.hid (hD.set (b := w.heap.size + 1) (by omega) 6 (.slice A' L.length c'))
      have HT := Lib.hid (hT.new (i := 6) (b := w.heap.size + 1) (.slice A' L.length c') (by omega))
      clear hD hT b6 b7
      go_wp2_with fail
      refine bodyPost_ret (v := .agg #[.int .i64 (base : Int), .int .i64 ((0 : Nat) : Int), .int .i64 0, .int .i64 0, .int .i64 (kind : Int), .int .i64 (time : Int), .slice A' L.length c']) (by simp [results, Try.results73, go_sem, d0, d1, d2, d3, d4, d5, d6]) rfl ?_
      refine ⟨_, _, rfl, HC1.out, HC2.out, ?_, fun p hp => by have := HC4.out p hp; omega, ?_, ?_⟩
      · refine Rcs.wider (B := w8.heap.size) ?_ (by simp)
        refine ⟨HC3.out.len, HC3.out.lies.far_ fun p hp i => ?_, HC3.out.ok⟩
        have hpb := HC4.out p hp
        have hpi := add_block p i
        have n0 : ¬ w.heap.size = (p.add i).block := by rw [hpi]; omega
        have n1 : ¬ w.heap.size + 1 = (p.add i).block := by rw [hpi]; omega
        simp only [World.cell?_setCell_far, ne_eq, n0, n1, not_false_eq_true]
      · exact (((((((HD.out.set (b := w.heap.size) (by omega) 0 _).set (b := w.heap.size) (by omega) 1 _).set (b := w.heap.size) (by omega) 2 _).set (b := w.heap.size) (by omega) 3 _).set (b := w.heap.size) (by omega) 4 _).set (b := w.heap.size) (by omega) 5 _).set (b := w.heap.size) (by omega) 6 _)
      · exact (((((((HT.out.new (b := w.heap.size) _ (Nat.le_refl _)).new (b := w.heap.size) _ (Nat.le_refl _)).new (b := w.heap.size) _ (Nat.le_refl _)).new (b := w.heap.size) _ (Nat.le_refl _)).new (b := w.heap.size) _ (Nat.le_refl _)).new (b := w.heap.size) _ (Nat.le_refl _)).new (b := w.heap.size) _ (Nat.le_refl _))
  · obtain ⟨e5, e6a, e6b⟩ := E6.out hp0
    have hpne : ((pid : Int) != 0) = true := by rw [bne_iff_ne]; omega
    have E5 := Lib.hid e5
    have E6A := Lib.hid e6a
    have E6B := Lib.hid e6b
    clear e5 e6a e6b
    have HU := Lib.hid (upTo_ok d g c p4 p5 epoch 32767 A l _ HD.out E5.out (by omega) (by omega))
    go_wp2_with fail
    generalize w5.setCell ⟨w.heap.size + 1, 1, none⟩ (.int .i64 (pid : Int)) = W5 at *
    refine HU.out.mono ?_
    rintro e w6 ⟨rfl, hD, hT3⟩
    have hT := HT.out.trans hT3
    have b6 := (hT3.block w.heap.size (Array.getElem?_eq_some_iff.1 HB6.out).1 (by omega) (by omega)).trans HB6.out
    have b7 := (hT3.block (w.heap.size + 1) (Array.getElem?_eq_some_iff.1 HB7.out).1 (by omega) (by omega)).trans HB7.out
    clear hT3 HU HD HT HB6 HB7 y1 f1
    clear y1s
    have y2 : w6.cell? ⟨w.heap.size + 1, 2, none⟩ = some (.int .i64 0) := cell_of_row w6 _ 2 _ _ _ b7
    have f2 : w6.frozen? ⟨w.heap.size + 1, 2, none⟩ = false := frozen_of_row w6 _ 2 _ _ b7
    have hDs := hD.set (b := w.heap.size + 1) (by omega) 2 (.int .i64 (epoch : Int))
    have hTs := hT.new (i := 2) (b := w.heap.size + 1) (.int .i64 (epoch : Int)) (by omega)
    have b6s : (w6.setCell ⟨w.heap.size + 1, 2, none⟩ (.int .i64 (epoch : Int))).heap[w.heap.size]? = _ := ((grown_set w6 (w.heap.size + 1) 2 (.int .i64 (epoch : Int))).block w.heap.size (Array.getElem?_eq_some_iff.1 b6).1 (fun e => by injection e with e; omega)).trans b6
    have b7s : (w6.setCell ⟨w.heap.size + 1, 2, none⟩ (.int .i64 (epoch : Int))).heap[w.heap.size + 1]? = some (.cells #[.int .i64 (base : Int), .int .i64 (pid : Int), .int .i64 (epoch : Int), .int .i64 0, .int .i64 (kind : Int), .int .i64 0, .slice none 0 0] 24 (0, 0)) := by rw [heap_setCell_same w6 _ 2 _ _ _ b7]; rfl
    have HD := Lib.hid hDs
    have HT := Lib.hid hTs
    have HB6 := Lib.hid b6s
    have HB7 := Lib.hid b7s
    clear hD hT b6 b7 hDs hTs b6s b7s
    have m0 : (w6.setCell ⟨w.heap.size + 1, 2, none⟩ (.int .i64 (epoch : Int))).cell? ⟨w.heap.size + 1, 0, none⟩ = some (.int .i64 (base : Int)) := cell_of_row _ _ 0 _ _ _ HB7.out
    have m1 : (w6.setCell ⟨w.heap.size + 1, 2, none⟩ (.int .i64 (epoch : Int))).cell? ⟨w.heap.size + 1, 1, none⟩ = some (.int .i64 (pid : Int)) := cell_of_row _ _ 1 _ _ _ HB7.out
    have m2 : (w6.setCell ⟨w.heap.size + 1, 2, none⟩ (.int .i64 (epoch : Int))).cell? ⟨w.heap.size + 1, 2, none⟩ = some (.int .i64 (epoch : Int)) := cell_of_row _ _ 2 _ _ _ HB7.out
    have m3 : (w6.setCell ⟨w.heap.size + 1, 2, none⟩ (.int .i64 (epoch : Int))).cell? ⟨w.heap.size + 1, 3, none⟩ = some (.int .i64 0) := cell_of_row _ _ 3 _ _ _ HB7.out
    have m4 : (w6.setCell ⟨w.heap.size + 1, 2, none⟩ (.int .i64 (epoch : Int))).cell? ⟨w.heap.size + 1, 4, none⟩ = some (.int .i64 (kind : Int)) := cell_of_row _ _ 4 _ _ _ HB7.out
    have m5 : (w6.setCell ⟨w.heap.size + 1, 2, none⟩ (.int .i64 (epoch : Int))).cell? ⟨w.heap.size + 1, 5, none⟩ = some (.int .i64 0) := cell_of_row _ _ 5 _ _ _ HB7.out
    have m6 : (w6.setCell ⟨w.heap.size + 1, 2, none⟩ (.int .i64 (epoch : Int))).cell? ⟨w.heap.size + 1, 6, none⟩ = some (.slice none 0 0) := cell_of_row _ _ 6 _ _ _ HB7.out
    go_wp2_with fail
    generalize w6.setCell ⟨w.heap.size + 1, 2, none⟩ (.int .i64 (epoch : Int)) = W6 at *
    refine (HMK.out _ _ _ _ _ _ _ _ _).mono ?_
    rintro e w7 ⟨rfl, hbm⟩
    have hD := HD.out.below hbm HD.out.dlt
    have hT := HT.out.trans (Two.of_below (g := g) (d := d) hbm)
    have b6 := (hbm.block w.heap.size (Array.getElem?_eq_some_iff.1 HB6.out).1).trans HB6.out
    have b7 := (hbm.block (w.heap.size + 1) (Array.getElem?_eq_some_iff.1 HB7.out).1).trans HB7.out
    clear hbm HD HT HB6 HB7
    clear y2 f2 m0 m1 m2 m3 m4 m5 m6
    have HD := Lib.hid hD
    have HT := Lib.hid hT
    have HB6 := Lib.hid b6
    have HB7 := Lib.hid b7
    clear hD hT b6 b7
    by_cases hmt : mk = true
    · obtain ⟨hs, hp6⟩ := E6A.out hmt
      subst hs hmt
      rw [hp6] at E7
      clear hp6 E6A E6B
      have HU := Lib.hid (upTo_ok d g c p5 q time 1099511627776 A l _ HD.out E7.out (by omega) (by omega))
      go_wp2_with fail
      refine HU.out.mono ?_
      rintro e w8 ⟨rfl, hD, hT3⟩
      have hT := HT.out.trans hT3
      have b6 := (hT3.block w.heap.size (Array.getElem?_eq_some_iff.1 HB6.out).1 (by omega) (by omega)).trans HB6.out
      have b7 := (hT3.block (w.heap.size + 1) (Array.getElem?_eq_some_iff.1 HB7.out).1 (by omega) (by omega)).trans HB7.out
      clear hT3 HU HD HT HB6 HB7
      have y5 : w8.cell? ⟨w.heap.size + 1, 5, none⟩ = some (.int .i64 0) := cell_of_row w8 _ 5 _ _ _ b7
      have f5 : w8.frozen? ⟨w.heap.size + 1, 5, none⟩ = false := frozen_of_row w8 _ 5 _ _ b7
      have hDs := hD.set (b := w.heap.size + 1) (by omega) 5 (.int .i64 (time : Int))
      have hTs := hT.new (i := 5) (b := w.heap.size + 1) (.int .i64 (time : Int)) (by omega)
      have b6s : (w8.setCell ⟨w.heap.size + 1, 5, none⟩ (.int .i64 (time : Int))).heap[w.heap.size]? = _ := ((grown_set w8 (w.heap.size + 1) 5 (.int .i64 (time : Int))).block w.heap.size (Array.getElem?_eq_some_iff.1 b6).1 (fun e => by injection e with e; omega)).trans b6
      have b7s : (w8.setCell ⟨w.heap.size + 1, 5, none⟩ (.int .i64 (time : Int))).heap[w.heap.size + 1]? = some (.cells #[.int .i64 (base : Int), .int .i64 (pid : Int), .int .i64 (epoch : Int), .int .i64 0, .int .i64 (kind : Int), .int .i64 (time : Int), .slice none 0 0] 24 (0, 0)) := by rw [heap_setCell_same w8 _ 5 _ _ _ b7]; rfl
      have HD := Lib.hid hDs
      have HT := Lib.hid hTs
      have HB6 := Lib.hid b6s
      have HB7 := Lib.hid b7s
      clear hD hT b6 b7 hDs hTs b6s b7s
      have m0 : (w8.setCell ⟨w.heap.size + 1, 5, none⟩ (.int .i64 (time : Int))).cell? ⟨w.heap.size + 1, 0, none⟩ = some (.int .i64 (base : Int)) := cell_of_row _ _ 0 _ _ _ HB7.out
      have m1 : (w8.setCell ⟨w.heap.size + 1, 5, none⟩ (.int .i64 (time : Int))).cell? ⟨w.heap.size + 1, 1, none⟩ = some (.int .i64 (pid : Int)) := cell_of_row _ _ 1 _ _ _ HB7.out
      have m2 : (w8.setCell ⟨w.heap.size + 1, 5, none⟩ (.int .i64 (time : Int))).cell? ⟨w.heap.size + 1, 2, none⟩ = some (.int .i64 (epoch : Int)) := cell_of_row _ _ 2 _ _ _ HB7.out
      have m3 : (w8.setCell ⟨w.heap.size + 1, 5, none⟩ (.int .i64 (time : Int))).cell? ⟨w.heap.size + 1, 3, none⟩ = some (.int .i64 0) := cell_of_row _ _ 3 _ _ _ HB7.out
      have m4 : (w8.setCell ⟨w.heap.size + 1, 5, none⟩ (.int .i64 (time : Int))).cell? ⟨w.heap.size + 1, 4, none⟩ = some (.int .i64 (kind : Int)) := cell_of_row _ _ 4 _ _ _ HB7.out
      have m5 : (w8.setCell ⟨w.heap.size + 1, 5, none⟩ (.int .i64 (time : Int))).cell? ⟨w.heap.size + 1, 5, none⟩ = some (.int .i64 (time : Int)) := cell_of_row _ _ 5 _ _ _ HB7.out
      have m6 : (w8.setCell ⟨w.heap.size + 1, 5, none⟩ (.int .i64 (time : Int))).cell? ⟨w.heap.size + 1, 6, none⟩ = some (.slice none 0 0) := cell_of_row _ _ 6 _ _ _ HB7.out
      go_wp2_with fail
      generalize w8.setCell ⟨w.heap.size + 1, 5, none⟩ (.int .i64 (time : Int)) = W8 at *
      refine (HMK.out _ _ _ _ _ _ _ _ _).mono ?_
      rintro e w9 ⟨rfl, hbm⟩
      have hD := HD.out.below hbm HD.out.dlt
      have hT := HT.out.trans (Two.of_below (g := g) (d := d) hbm)
      have b6 := (hbm.block w.heap.size (Array.getElem?_eq_some_iff.1 HB6.out).1).trans HB6.out
      have b7 := (hbm.block (w.heap.size + 1) (Array.getElem?_eq_some_iff.1 HB7.out).1).trans HB7.out
      clear hbm HD HT HB6 HB7
      clear y5 f5 m0 m1 m2 m3 m4 m5 m6
      obtain ⟨rfl, rfl⟩ := HL0.out (by first | rfl | trivial)
      clear HL0 HL1 HMK
      have m0 : w9.cell? ⟨w.heap.size + 1, 0, none⟩ = some (.int .i64 (base : Int)) := cell_of_row w9 _ 0 _ _ _ b7
      have m1 : w9.cell? ⟨w.heap.size + 1, 1, none⟩ = some (.int .i64 (pid : Int)) := cell_of_row w9 _ 1 _ _ _ b7
      have m2 : w9.cell? ⟨w.heap.size + 1, 2, none⟩ = some (.int .i64 (epoch : Int)) := cell_of_row w9 _ 2 _ _ _ b7
      have m3 : w9.cell? ⟨w.heap.size + 1, 3, none⟩ = some (.int .i64 0) := cell_of_row w9 _ 3 _ _ _ b7
      have m4 : w9.cell? ⟨w.heap.size + 1, 4, none⟩ = some (.int .i64 (kind : Int)) := cell_of_row w9 _ 4 _ _ _ b7
      have m5 : w9.cell? ⟨w.heap.size + 1, 5, none⟩ = some (.int .i64 (time : Int)) := cell_of_row w9 _ 5 _ _ _ b7
      have m6 : w9.cell? ⟨w.heap.size + 1, 6, none⟩ = some (.slice none 0 0) := cell_of_row w9 _ 6 _ _ _ b7
      have d0 : w9.cell? ⟨w.heap.size, 0, none⟩ = some (.int .i64 0) := cell_of_row w9 _ 0 _ _ _ b6
      have h0 : w9.frozen? ⟨w.heap.size, 0, none⟩ = false := frozen_of_row w9 _ 0 _ _ b6
      have d1 : w9.cell? ⟨w.heap.size, 1, none⟩ = some (.int .i64 0) := cell_of_row w9 _ 1 _ _ _ b6
      have h1 : w9.frozen? ⟨w.heap.size, 1, none⟩ = false := frozen_of_row w9 _ 1 _ _ b6
      have d2 : w9.cell? ⟨w.heap.size, 2, none⟩ = some (.int .i64 0) := cell_of_row w9 _ 2 _ _ _ b6
      have h2 : w9.frozen? ⟨w.heap.size, 2, none⟩ = false := frozen_of_row w9 _ 2 _ _ b6
      have d3 : w9.cell? ⟨w.heap.size, 3, none⟩ = some (.int .i64 0) := cell_of_row w9 _ 3 _ _ _ b6
      have h3 : w9.frozen? ⟨w.heap.size, 3, none⟩ = false := frozen_of_row w9 _ 3 _ _ b6
      have d4 : w9.cell? ⟨w.heap.size, 4, none⟩ = some (.int .i64 0) := cell_of_row w9 _ 4 _ _ _ b6
      have h4 : w9.frozen? ⟨w.heap.size, 4, none⟩ = false := frozen_of_row w9 _ 4 _ _ b6
      have d5 : w9.cell? ⟨w.heap.size, 5, none⟩ = some (.int .i64 0) := cell_of_row w9 _ 5 _ _ _ b6
      have h5 : w9.frozen? ⟨w.heap.size, 5, none⟩ = false := frozen_of_row w9 _ 5 _ _ b6
      have d6 : w9.cell? ⟨w.heap.size, 6, none⟩ = some (.slice none 0 0) := cell_of_row w9 _ 6 _ _ _ b6
      have h6 : w9.frozen? ⟨w.heap.size, 6, none⟩ = false := frozen_of_row w9 _ 6 _ _ b6
      have z7 := (Array.getElem?_eq_some_iff.1 b7).1
      have HD := Lib.hid hD
      have HT := Lib.hid hT
      clear hD hT b6 b7
      have HC1 : Hid (([] : List Rec).length ≤ 0) := Nat.le_refl _
      have HC2 : Hid (0 ≤ maxLen) := Nat.zero_le _
      have HC3 : Hid (Rcs w9 w9.heap.size none ([] : List Rec).length []) := Rcs.nil_
      have HC4 : Hid (∀ p : Addr, (none : Option Addr) = some p → w.heap.size + 2 ≤ p.block) := fun p h => by cases h
      go_wp2_with fail
      refine bodyPost_ret (v := .agg #[.int .i64 (base : Int), .int .i64 (pid : Int), .int .i64 (epoch : Int), .int .i64 0, .int .i64 (kind : Int), .int .i64 (time : Int), .slice none 0 0]) (by simp [results, Try.results73, go_sem, d0, d1, d2, d3, d4, d5, d6]) rfl ?_
      refine ⟨_, _, rfl, HC1.out, HC2.out, ?_, fun p hp => by have := HC4.out p hp; omega, ?_, ?_⟩
      · refine Rcs.wider (B := w9.heap.size) ?_ (by simp)
        refine ⟨HC3.out.len, HC3.out.lies.far_ fun p hp i => ?_, HC3.out.ok⟩
        have hpb := HC4.out p hp
        have hpi := add_block p i
        have n0 : ¬ w.heap.size = (p.add i).block := by rw [hpi]; omega
        have n1 : ¬ w.heap.size + 1 = (p.add i).block := by rw [hpi]; omega
        simp only [World.cell?_setCell_far, ne_eq, n0, n1, not_false_eq_true]
      · exact (((((((HD.out.set (b := w.heap.size) (by omega) 0 _).set (b := w.heap.size) (by omega) 1 _).set (b := w.heap.size) (by omega) 2 _).set (b := w.heap.size) (by omega) 3 _).set (b := w.heap.size) (by omega) 4 _).set (b := w.heap.size) (by omega) 5 _).set (b := w.heap.size) (by omega) 6 _)
      · exact (((((((HT.out.new (b := w.heap.size) _ (Nat.le_refl _)).new (b := w.heap.size) _ (Nat.le_refl _)).new (b := w.heap.size) _ (Nat.le_refl _)).new (b := w.heap.size) _ (Nat.le_refl _)).new (b := w.heap.size) _ (Nat.le_refl _)).new (b := w.heap.size) _ (Nat.le_refl _)).new (b := w.heap.size) _ (Nat.le_refl _))
    · have hmf : mk = false := by simpa using hmt
      have e6 := E6B.out hmf
      have E6C := Lib.hid e6
      subst hmf
      clear e6 hmt E6A E6B
      have HU := Lib.hid (upTo_ok d g c p5 p6 seq 2147483647 A l _ HD.out E6C.out (by omega) (by omega))
      go_wp2_with fail
      refine HU.out.mono ?_
      rintro e w8 ⟨rfl, hD, hT3⟩
      have hT := HT.out.trans hT3
      have b6 := (hT3.block w.heap.size (Array.getElem?_eq_some_iff.1 HB6.out).1 (by omega) (by omega)).trans HB6.out
      have b7 := (hT3.block (w.heap.size + 1) (Array.getElem?_eq_some_iff.1 HB7.out).1 (by omega) (by omega)).trans HB7.out
      clear hT3 HU HD HT HB6 HB7
      have y3 : w8.cell? ⟨w.heap.size + 1, 3, none⟩ = some (.int .i64 0) := cell_of_row w8 _ 3 _ _ _ b7
      have f3 : w8.frozen? ⟨w.heap.size + 1, 3, none⟩ = false := frozen_of_row w8 _ 3 _ _ b7
      have hDs := hD.set (b := w.heap.size + 1) (by omega) 3 (.int .i64 (seq : Int))
      have hTs := hT.new (i := 3) (b := w.heap.size + 1) (.int .i64 (seq : Int)) (by omega)
      have b6s : (w8.setCell ⟨w.heap.size + 1, 3, none⟩ (.int .i64 (seq : Int))).heap[w.heap.size]? = _ := ((grown_set w8 (w.heap.size + 1) 3 (.int .i64 (seq : Int))).block w.heap.size (Array.getElem?_eq_some_iff.1 b6).1 (fun e => by injection e with e; omega)).trans b6
      have b7s : (w8.setCell ⟨w.heap.size + 1, 3, none⟩ (.int .i64 (seq : Int))).heap[w.heap.size + 1]? = some (.cells #[.int .i64 (base : Int), .int .i64 (pid : Int), .int .i64 (epoch : Int), .int .i64 (seq : Int), .int .i64 (kind : Int), .int .i64 0, .slice none 0 0] 24 (0, 0)) := by rw [heap_setCell_same w8 _ 3 _ _ _ b7]; rfl
      have HD := Lib.hid hDs
      have HT := Lib.hid hTs
      have HB6 := Lib.hid b6s
      have HB7 := Lib.hid b7s
      clear hD hT b6 b7 hDs hTs b6s b7s
      have HU := Lib.hid (upTo_ok d g c p6 q time 1099511627776 A l _ HD.out E7.out (by omega) (by omega))
      go_wp2_with fail
      generalize w8.setCell ⟨w.heap.size + 1, 3, none⟩ (.int .i64 (seq : Int)) = W8 at *
      refine HU.out.mono ?_
      rintro e w9 ⟨rfl, hD, hT3⟩
      have hT := HT.out.trans hT3
      have b6 := (hT3.block w.heap.size (Array.getElem?_eq_some_iff.1 HB6.out).1 (by omega) (by omega)).trans HB6.out
      have b7 := (hT3.block (w.heap.size + 1) (Array.getElem?_eq_some_iff.1 HB7.out).1 (by omega) (by omega)).trans HB7.out
      clear hT3 HU HD HT HB6 HB7 y3 f3
      have y5 : w9.cell? ⟨w.heap.size + 1, 5, none⟩ = some (.int .i64 0) := cell_of_row w9 _ 5 _ _ _ b7
      have f5 : w9.frozen? ⟨w.heap.size + 1, 5, none⟩ = false := frozen_of_row w9 _ 5 _ _ b7
      have hDs := hD.set (b := w.heap.size + 1) (by omega) 5 (.int .i64 (time : Int))
      have hTs := hT.new (i := 5) (b := w.heap.size + 1) (.int .i64 (time : Int)) (by omega)
      have b6s : (w9.setCell ⟨w.heap.size + 1, 5, none⟩ (.int .i64 (time : Int))).heap[w.heap.size]? = _ := ((grown_set w9 (w.heap.size + 1) 5 (.int .i64 (time : Int))).block w.heap.size (Array.getElem?_eq_some_iff.1 b6).1 (fun e => by injection e with e; omega)).trans b6
      have b7s : (w9.setCell ⟨w.heap.size + 1, 5, none⟩ (.int .i64 (time : Int))).heap[w.heap.size + 1]? = some (.cells #[.int .i64 (base : Int), .int .i64 (pid : Int), .int .i64 (epoch : Int), .int .i64 (seq : Int), .int .i64 (kind : Int), .int .i64 (time : Int), .slice none 0 0] 24 (0, 0)) := by rw [heap_setCell_same w9 _ 5 _ _ _ b7]; rfl
      have HD := Lib.hid hDs
      have HT := Lib.hid hTs
      have HB6 := Lib.hid b6s
      have HB7 := Lib.hid b7s
      clear hD hT b6 b7 hDs hTs b6s b7s
      have m0 : (w9.setCell ⟨w.heap.size + 1, 5, none⟩ (.int .i64 (time : Int))).cell? ⟨w.heap.size + 1, 0, none⟩ = some (.int .i64 (base : Int)) := cell_of_row _ _ 0 _ _ _ HB7.out
      have m1 : (w9.setCell ⟨w.heap.size + 1, 5, none⟩ (.int .i64 (time : Int))).cell? ⟨w.heap.size + 1, 1, none⟩ = some (.int .i64 (pid : Int)) := cell_of_row _ _ 1 _ _ _ HB7.out
      have m2 : (w9.setCell ⟨w.heap.size + 1, 5, none⟩ (.int .i64 (time : Int))).cell? ⟨w.heap.size + 1, 2, none⟩ = some (.int .i64 (epoch : Int)) := cell_of_row _ _ 2 _ _ _ HB7.out
      have m3 : (w9.setCell ⟨w.heap.size + 1, 5, none⟩ (.int .i64 (time : Int))).cell? ⟨w.heap.size + 1, 3, none⟩ = some (.int .i64 (seq : Int)) := cell_of_row _ _ 3 _ _ _ HB7.out
      have m4 : (w9.setCell ⟨w.heap.size + 1, 5, none⟩ (.int .i64 (time : Int))).cell? ⟨w.heap.size + 1, 4, none⟩ = some (.int .i64 (kind : Int)) := cell_of_row _ _ 4 _ _ _ HB7.out
      have m5 : (w9.setCell ⟨w.heap.size + 1, 5, none⟩ (.int .i64 (time : Int))).cell? ⟨w.heap.size + 1, 5, none⟩ = some (.int .i64 (time : Int)) := cell_of_row _ _ 5 _ _ _ HB7.out
      have m6 : (w9.setCell ⟨w.heap.size + 1, 5, none⟩ (.int .i64 (time : Int))).cell? ⟨w.heap.size + 1, 6, none⟩ = some (.slice none 0 0) := cell_of_row _ _ 6 _ _ _ HB7.out
      go_wp2_with fail
      generalize w9.setCell ⟨w.heap.size + 1, 5, none⟩ (.int .i64 (time : Int)) = W9 at *
      refine (HMK.out _ _ _ _ _ _ _ _ _).mono ?_
      rintro e w10 ⟨rfl, hbm⟩
      have hD := HD.out.below hbm HD.out.dlt
      have hT := HT.out.trans (Two.of_below (g := g) (d := d) hbm)
      have b6 := (hbm.block w.heap.size (Array.getElem?_eq_some_iff.1 HB6.out).1).trans HB6.out
      have b7 := (hbm.block (w.heap.size + 1) (Array.getElem?_eq_some_iff.1 HB7.out).1).trans HB7.out
      clear hbm HD HT HB6 HB7
      clear y5 f5 m0 m1 m2 m3 m4 m5 m6
      have HR := Lib.hid (HL1.out (by first | rfl | trivial) _ hD)
      have m5 : w10.cell? ⟨w.heap.size + 1, 5, none⟩ = some (.int .i64 (time : Int)) := cell_of_row w10 _ 5 _ _ _ b7
      have HD := Lib.hid hD
      have HT := Lib.hid hT
      have HB6 := Lib.hid b6
      have HB7 := Lib.hid b7
      clear hD hT b6 b7
      go_wp2_with fail
      refine HR.out.mono ?_
      rintro e w11 ⟨A', c', rfl, hc1, hc2, hc3, hc4, hD, hT3⟩
      have hT := HT.out.trans hT3
      have b6 := (hT3.block w.heap.size (Array.getElem?_eq_some_iff.1 HB6.out).1 (by omega) (by omega)).trans HB6.out
      have b7 := (hT3.block (w.heap.size + 1) (Array.getElem?_eq_some_iff.1 HB7.out).1 (by omega) (by omega)).trans HB7.out
      have z8 := (Array.getElem?_eq_some_iff.1 HB7.out).1
      have HC1 := Lib.hid hc1
      have HC2 := Lib.hid hc2
      have HC3 := Lib.hid hc3
      have HC4 : Hid (∀ p : Addr, A' = some p → w.heap.size + 2 ≤ p.block) := fun p hp => by have := hc4 p hp; omega
      clear hT3 HR HD HT HB6 HB7 m5 hc1 hc2 hc3 hc4 HL0 HL1 HMK
      have m0 : w11.cell? ⟨w.heap.size + 1, 0, none⟩ = some (.int .i64 (base : Int)) := cell_of_row w11 _ 0 _ _ _ b7
      have m1 : w11.cell? ⟨w.heap.size + 1, 1, none⟩ = some (.int .i64 (pid : Int)) := cell_of_row w11 _ 1 _ _ _ b7
      have m2 : w11.cell? ⟨w.heap.size + 1, 2, none⟩ = some (.int .i64 (epoch : Int)) := cell_of_row w11 _ 2 _ _ _ b7
      have m3 : w11.cell? ⟨w.heap.size + 1, 3, none⟩ = some (.int .i64 (seq : Int)) := cell_of_row w11 _ 3 _ _ _ b7
      have m4 : w11.cell? ⟨w.heap.size + 1, 4, none⟩ = some (.int .i64 (kind : Int)) := cell_of_row w11 _ 4 _ _ _ b7
      have m5 : w11.cell? ⟨w.heap.size + 1, 5, none⟩ = some (.int .i64 (time : Int)) := cell_of_row w11 _ 5 _ _ _ b7
      have m6 : w11.cell? ⟨w.heap.size + 1, 6, none⟩ = some (.slice none 0 0) := cell_of_row w11 _ 6 _ _ _ b7
      have f6 : w11.frozen? ⟨w.heap.size + 1, 6, none⟩ = false := frozen_of_row w11 _ 6 _ _ b7
      have d0 : w11.cell? ⟨w.heap.size, 0, none⟩ = some (.int .i64 0) := cell_of_row w11 _ 0 _ _ _ b6
      have h0 : w11.frozen? ⟨w.heap.size, 0, none⟩ = false := frozen_of_row w11 _ 0 _ _ b6
      have d1 : w11.cell? ⟨w.heap.size, 1, none⟩ = some (.int .i64 0) := cell_of_row w11 _ 1 _ _ _ b6
      have h1 : w11.frozen? ⟨w.heap.size, 1, none⟩ = false := frozen_of_row w11 _ 1 _ _ b6
      have d2 : w11.cell? ⟨w.heap.size, 2, none⟩ = some (.int .i64 0) := cell_of_row w11 _ 2 _ _ _ b6
      have h2 : w11.frozen? ⟨w.heap.size, 2, none⟩ = false := frozen_of_row w11 _ 2 _ _ b6
      have d3 : w11.cell? ⟨w.heap.size, 3, none⟩ = some (.int .i64 0) := cell_of_row w11 _ 3 _ _ _ b6
      have h3 : w11.frozen? ⟨w.heap.size, 3, none⟩ = false := frozen_of_row w11 _ 3 _ _ b6
      have d4 : w11.cell? ⟨w.heap.size, 4, none⟩ = some (.int .i64 0) := cell_of_row w11 _ 4 _ _ _ b6
      have h4 : w11.frozen? ⟨w.heap.size, 4, none⟩ = false := frozen_of_row w11 _ 4 _ _ b6
      have d5 : w11.cell? ⟨w.heap.size, 5, none⟩ = some (.int .i64 0) := cell_of_row w11 _ 5 _ _ _ b6
      have h5 : w11.frozen? ⟨w.heap.size, 5, none⟩ = false := frozen_of_row w11 _ 5 _ _ b6
      have d6 : w11.cell? ⟨w.heap.size, 6, none⟩ = some (.slice none 0 0) := cell_of_row w11 _ 6 _ _ _ b6
      have h6 : w11.frozen? ⟨w.heap.size, 6, none⟩ = false := frozen_of_row w11 _ 6 _ _ b6
      have z7 := (Array.getElem?_eq_some_iff.1 b7).1
      have HD := Lib.hid (hD.set (b := w.heap.size + 1) (by omega) 6 (.slice A' L.length c'))
      have HT := Lib.hid (hT.new (i := 6) (b := w.heap.size + 1) (.slice A' L.length c') (by omega))
      clear hD hT b6 b7
      go_wp2_with fail
      refine bodyPost_ret (v := .agg #[.int .i64 (base : Int), .int .i64 (pid : Int), .int .i64 (epoch : Int), .int .i64 (seq : Int), .int .i64 (kind : Int), .int .i64 (time : Int), .slice A' L.length c']) (by simp [results, Try.results73, go_sem, d0, d1, d2, d3, d4, d5, d6]) rfl ?_
      refine ⟨_, _, rfl, HC1.out, HC2.out, ?_, fun p hp => by have := HC4.out p hp; omega, ?_, ?_⟩
      · refine Rcs.wider (B := w11.heap.size) ?_ (by simp)
        refine ⟨HC3.out.len, HC3.out.lies.far_ fun p hp i => ?_, HC3.out.ok⟩
        have hpb := HC4.out p hp
        have hpi := add_block p i
        have n0 : ¬ w.heap.size = (p.add i).block := by rw [hpi]; omega
        have n1 : ¬ w.heap.size + 1 = (p.add i).block := by rw [hpi]; omega
        simp only [World.cell?_setCell_far, ne_eq, n0, n1, not_false_eq_true]
      · exact (((((((HD.out.set (b := w.heap.size) (by omega) 0 _).set (b := w.heap.size) (by omega) 1 _).set (b := w.heap.size) (by omega) 2 _).set (b := w.heap.size) (by omega) 3 _).set (b := w.heap.size) (by omega) 4 _).set (b := w.heap.size) (by omega) 5 _).set (b := w.heap.size) (by omega) 6 _)
      · exact (((((((HT.out.new (b := w.heap.size) _ (Nat.le_refl _)).new (b := w.heap.size) _ (Nat.le_refl _)).new (b := w.heap.size) _ (Nat.le_refl _)).new (b := w.heap.size) _ (Nat.le_refl _)).new (b := w.heap.size) _ (Nat.le_refl _)).new (b := w.heap.size) _ (Nat.le_refl _)).new (b := w.heap.size) _ (Nat.le_refl _))
end Go.Proofs.Ytkdpfajoeajenaa
