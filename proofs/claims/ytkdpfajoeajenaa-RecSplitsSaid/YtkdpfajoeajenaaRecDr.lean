/-
  What decoder.record does where all can be read.
-/
import Derived.Test.YtkdpfajoeajenaaRecD
namespace Go.Proofs.Ytkdpfajoeajenaa
open Go.RowKit
set_option linter.unusedVariables false
set_option linter.unusedSimpArgs false

/-- a record can be read from p to q -/
structure RecAt (l : List UInt8) (time : Int) (last : ByteArray) (p : Nat) (r : Rec) (q : Nat) : Prop where
  at_ : ∃ p1 p2 p3 p4 t, dInt l p = .ok (.int .i64 t) p1 ∧ r.time = time + t ∧ dFlag l p1 = .ok (.bool r.gone) p2 ∧ dUint l p2 = .ok (.int .u64 (comm last.data.toList r.key.data.toList : Nat)) p3 ∧
    dText l p3 1024 = .ok (.string (r.key.extract (comm last.data.toList r.key.data.toList) r.key.size)) p4 ∧ (r.gone = true → r.value = ⟨#[]⟩ ∧ q = p4) ∧ (r.gone = false → dText l p4 1024 = .ok (.string r.value) q)
theorem comm_take (a b : List UInt8) : a.take (comm a b) = b.take (comm a b) := by
  induction a generalizing b with
  | nil => cases b <;> simp [comm]
  | cons x xs ih =>
    cases b with
    | nil => simp [comm]
    | cons y ys =>
      unfold comm
      split
      · rename_i h; simp [h, ih]
      · simp
theorem key_again (last key : ByteArray) : last.extract 0 (comm last.data.toList key.data.toList) ++ key.extract (comm last.data.toList key.data.toList) key.size = key := by
  have h := comm_take last.data.toList key.data.toList
  have h2 := (comm_le last.data.toList key.data.toList)
  generalize comm last.data.toList key.data.toList = n at *
  apply ByteArray.ext
  apply Array.ext'
  rw [ByteArray.data_append, Array.toList_append, ByteArray.data_extract, ByteArray.data_extract, Array.toList_extract, Array.toList_extract, List.extract_eq_take_drop, List.extract_eq_take_drop]
  simp only [Nat.sub_zero, List.drop_zero]
  have hz : key.data.toList.length = key.size := by simp
  rw [h, List.take_of_length_le (l := key.data.toList.drop n) (by rw [List.length_drop, hz]; exact Nat.le_refl _), List.take_append_drop]

set_option maxRecDepth 100000 in
set_option maxHeartbeats 4000000 in
theorem drec_ok (d g c p q : Nat) (A : Option Addr) (l : List UInt8) (time : Int) (last : ByteArray) (r : Rec) (w : World) (h : Dc w d g A c l p) (hr : RecAt l time last p r q) (t3 : 0 ≤ time) (t4 : time ≤ 1099511627776) (t1 : 0 ≤ r.time) (t2 : r.time ≤ 1099511627776) (hl : last.size ≤ 1024) (hk : r.key.size ≤ 1024) :
    Calls Try.prog 105 #[.pointer (some ⟨d, 0, none⟩), .int .i64 time, .string last] w fun e w' => e = .returned (.agg r.cells.toArray) ∧ Dc w' d g A c l q ∧ Two g d w w' := by
  obtain ⟨p1, p2, p3, p4, t, e1, e2, e3, e4, e5, e6, e7⟩ := hr.at_
  have HKA := Lib.hid (key_again last r.key)
  have hcm1 : comm last.data.toList r.key.data.toList ≤ last.size := by have := (comm_le last.data.toList r.key.data.toList).1; simpa using this
  have HCO : Hid (∀ W, Calls Try.prog 81 #[.string last, .string r.key] W fun e w' => e = .returned (.int .i64 (comm last.data.toList r.key.data.toList : Nat)) ∧ ∃ q, w' = W.drewN q) := fun W => common_any last r.key W (by omega) (by omega)
  obtain ⟨key, value, gone, rt⟩ := r
  simp only [Rec.cells] at *
  generalize comm last.data.toList key.data.toList = n at *
  subst e2
  have E1 := Lib.hid e1
  have E3 := Lib.hid e3
  have E4 := Lib.hid e4
  have E5 := Lib.hid e5
  have E6 := Lib.hid e6
  have E7 := Lib.hid e7
  clear e1 e3 e4 e5 e6 e7 hr
  have hkx : (key.extract n key.size).size ≤ 1024 := by rw [ByteArray.size_extract]; omega
  generalize key.extract n key.size = kx at *
  have hdl := h.dlt
  have hT0 := (Two.of_below (g := g) (d := d) ((((Below.refl w.heap.size w).alloc (Nat.le_refl _) (.cells #[.string ⟨#[]⟩, .string ⟨#[]⟩, .bool false, .int .i64 0] 38)).alloc (by simp) (.cells #[.string ⟨#[]⟩, .string ⟨#[]⟩, .bool false, .int .i64 0] 38))))
  have hD0 := (h.alloc (.cells #[.string ⟨#[]⟩, .string ⟨#[]⟩, .bool false, .int .i64 0] 38)).alloc (.cells #[.string ⟨#[]⟩, .string ⟨#[]⟩, .bool false, .int .i64 0] 38)
  have hb6 : ((w.alloc (.cells #[.string ⟨#[]⟩, .string ⟨#[]⟩, .bool false, .int .i64 0] 38)).alloc (.cells #[.string ⟨#[]⟩, .string ⟨#[]⟩, .bool false, .int .i64 0] 38)).heap[w.heap.size]? = some (.cells #[.string ⟨#[]⟩, .string ⟨#[]⟩, .bool false, .int .i64 0] 38 (0, 0)) := by
    rw [← heap_alloc_new w (.cells #[.string ⟨#[]⟩, .string ⟨#[]⟩, .bool false, .int .i64 0] 38)]
    exact ((Below.refl (w.alloc (.cells #[.string ⟨#[]⟩, .string ⟨#[]⟩, .bool false, .int .i64 0] 38)).heap.size _).alloc (Nat.le_refl _) _).block w.heap.size (by simp)
  have hb7 : ((w.alloc (.cells #[.string ⟨#[]⟩, .string ⟨#[]⟩, .bool false, .int .i64 0] 38)).alloc (.cells #[.string ⟨#[]⟩, .string ⟨#[]⟩, .bool false, .int .i64 0] 38)).heap[w.heap.size + 1]? = some (.cells #[.string ⟨#[]⟩, .string ⟨#[]⟩, .bool false, .int .i64 0] 38 (0, 0)) := by
    have h := heap_alloc_new (w.alloc (.cells #[.string ⟨#[]⟩, .string ⟨#[]⟩, .bool false, .int .i64 0] 38)) (.cells #[.string ⟨#[]⟩, .string ⟨#[]⟩, .bool false, .int .i64 0] 38)
    rwa [show (w.alloc (.cells #[.string ⟨#[]⟩, .string ⟨#[]⟩, .bool false, .int .i64 0] 38)).heap.size = w.heap.size + 1 from by simp] at h
  generalize hW0 : (w.alloc (.cells #[.string ⟨#[]⟩, .string ⟨#[]⟩, .bool false, .int .i64 0] 38)).alloc (.cells #[.string ⟨#[]⟩, .string ⟨#[]⟩, .bool false, .int .i64 0] 38) = W0 at *
  have HW0 := Lib.hid hW0
  have HD0 := Lib.hid hD0
  have HT0 := Lib.hid hT0
  have HB6 := Lib.hid hb6
  have HB7 := Lib.hid hb7
  have x0 := hD0.c0
  have HI := Lib.hid (rInt_any g c p A l W0 hD0.rd)
  rw [E1.out] at HI
  clear h hD0 hT0 hb6 hb7 hW0
  go_enter Try.func105, Try.ntmps105
  go_upto_region 2 with fail
  rw [HW0.out]
  go_wp2_with fail
  refine HI.out.mono ?_
  rintro e w1 ⟨rfl, hr1, hg1⟩
  have hD1 := HD0.out.read hr1 hg1
  have hT1 := HT0.out.trans (Two.of_grown (d := d) hg1)
  have hgd := HD0.out.lt
  have n6 : w.heap.size ≠ g := by omega
  have b6 := (hg1.block w.heap.size (Array.getElem?_eq_some_iff.1 HB6.out).1 (fun e => by injection e with e; omega)).trans HB6.out
  have b7 := (hg1.block (w.heap.size + 1) (Array.getElem?_eq_some_iff.1 HB7.out).1 (fun e => by injection e with e; omega)).trans HB7.out
  clear hr1 hg1 HI x0
  have y3 : w1.cell? ⟨w.heap.size + 1, 3, none⟩ = some (.int .i64 0) := cell_of_row w1 _ 3 _ _ _ b7
  have f3 : w1.frozen? ⟨w.heap.size + 1, 3, none⟩ = false := frozen_of_row w1 _ 3 _ _ b7
  have hD1s := hD1.set (b := w.heap.size + 1) (by omega) 3 (.int .i64 (time + t))
  have hT1s := hT1.new (i := 3) (b := w.heap.size + 1) (.int .i64 (time + t)) (by omega)
  have b6s : (w1.setCell ⟨w.heap.size + 1, 3, none⟩ (.int .i64 (time + t))).heap[w.heap.size]? = _ := ((grown_set w1 (w.heap.size + 1) 3 (.int .i64 (time + t))).block w.heap.size (Array.getElem?_eq_some_iff.1 b6).1 (fun e => by injection e with e; omega)).trans b6
  have b7s : (w1.setCell ⟨w.heap.size + 1, 3, none⟩ (.int .i64 (time + t))).heap[w.heap.size + 1]? = some (.cells #[.string ⟨#[]⟩, .string ⟨#[]⟩, .bool false, .int .i64 (time + t)] 38 (0, 0)) := by rw [heap_setCell_same w1 _ 3 _ _ _ b7]; rfl
  have x0 := hD1s.c0
  have HI := Lib.hid (rFlag_any g c p1 A l _ hD1s.rd)
  rw [E3.out] at HI
  have HD1 := Lib.hid hD1s
  have HT1 := Lib.hid hT1s
  have HB6 := Lib.hid b6s
  have HB7 := Lib.hid b7s
  clear hD1 hT1 b6 b7 hD1s hT1s b6s b7s
  go_wp2_with fail
  generalize w1.setCell ⟨w.heap.size + 1, 3, none⟩ (.int .i64 (time + t)) = W1 at *
  refine HI.out.mono ?_
  rintro e w2 ⟨rfl, hr2, hg2⟩
  have hD := HD1.out.read hr2 hg2
  have hT := HT1.out.trans (Two.of_grown (d := d) hg2)
  have b6 := (hg2.block w.heap.size (Array.getElem?_eq_some_iff.1 HB6.out).1 (fun e => by injection e with e; omega)).trans HB6.out
  have b7 := (hg2.block (w.heap.size + 1) (Array.getElem?_eq_some_iff.1 HB7.out).1 (fun e => by injection e with e; omega)).trans HB7.out
  clear hr2 hg2 HI x0 HD1 HT1 HB6 HB7 y3 f3
  have y2 : w2.cell? ⟨w.heap.size + 1, 2, none⟩ = some (.bool false) := cell_of_row w2 _ 2 _ _ _ b7
  have f2 : w2.frozen? ⟨w.heap.size + 1, 2, none⟩ = false := frozen_of_row w2 _ 2 _ _ b7
  have hDs := hD.set (b := w.heap.size + 1) (by omega) 2 (.bool gone)
  have hTs := hT.new (i := 2) (b := w.heap.size + 1) (.bool gone) (by omega)
  have b6s : (w2.setCell ⟨w.heap.size + 1, 2, none⟩ (.bool gone)).heap[w.heap.size]? = _ := ((grown_set w2 (w.heap.size + 1) 2 (.bool gone)).block w.heap.size (Array.getElem?_eq_some_iff.1 b6).1 (fun e => by injection e with e; omega)).trans b6
  have b7s : (w2.setCell ⟨w.heap.size + 1, 2, none⟩ (.bool gone)).heap[w.heap.size + 1]? = some (.cells #[.string ⟨#[]⟩, .string ⟨#[]⟩, .bool gone, .int .i64 (time + t)] 38 (0, 0)) := by rw [heap_setCell_same w2 _ 2 _ _ _ b7]; rfl
  have HU := Lib.hid (upTo_ok d g c p2 p3 n last.size A l _ hDs E4.out hcm1 (by omega))
  have HD := Lib.hid hDs
  have HT := Lib.hid hTs
  have HB6 := Lib.hid b6s
  have HB7 := Lib.hid b7s
  clear hD hT b6 b7 hDs hTs b6s b7s
  go_wp2_with fail
  generalize w2.setCell ⟨w.heap.size + 1, 2, none⟩ (.bool gone) = W2 at *
  refine HU.out.mono ?_
  rintro e w3 ⟨rfl, hD, hT3⟩
  have hT := HT.out.trans hT3
  have b6 := (hT3.block w.heap.size (Array.getElem?_eq_some_iff.1 HB6.out).1 (by omega) (by omega)).trans HB6.out
  have b7 := (hT3.block (w.heap.size + 1) (Array.getElem?_eq_some_iff.1 HB7.out).1 (by omega) (by omega)).trans HB7.out
  clear hT3 HU HD HT HB6 HB7 y2 f2
  have x0 := hD.c0
  have HX := Lib.hid (rText_any g c p3 A l 1024 w3.drew hD.drew.rd (by omega) (by omega))
  rw [E5.out] at HX
  have HD := Lib.hid hD
  have HT := Lib.hid hT
  have HB6 := Lib.hid b6
  have HB7 := Lib.hid b7
  have z7 := (Array.getElem?_eq_some_iff.1 b7).1
  clear hD hT b6 b7
  have gn0 : (0 : Int) ≤ (n : Int) := by omega
  have gn1 : (n : Int) ≤ (last.size : Int) := by omega
  have hn7 : ¬ w.heap.size + 1 = d := by omega
  have hq1 : ¬ 9223372036854775807 < (last.extract 0 n).size + kx.size := by rw [ByteArray.size_extract]; omega
  have hq2 : ¬ 9223372036854775807 < min n last.size + kx.size := by omega
  have hq5 : ¬ 9223372036854775807 < n + kx.size := by omega
  go_upto_region 5 with fail
  go_cut [8] (fun s8 wx => s8 = .int .i64 (n : Int) ∧ Dc wx d g A c l p4 ∧ Two g d w wx ∧ wx.heap[w.heap.size]? = some (.cells #[.string ⟨#[]⟩, .string ⟨#[]⟩, .bool false, .int .i64 0] 38 (0, 0)) ∧ wx.heap[w.heap.size + 1]? = some (.cells #[.string key, .string ⟨#[]⟩, .bool gone, .int .i64 (time + t)] 38 (0, 0)))
  case first =>
    go_region_held3 (fun w' => w'.cell? ⟨d, 0, none⟩ = some (.pointer (some ⟨g, 0, none⟩))) (first | exact x0 | exact x4 | go_keep)
      (first
        | (go_at_call 114; refine HX.out.mono ?_; rintro e w4 ⟨rfl, hr4, hg4⟩; have hD := HD.out.drew.read hr4 hg4; have x4 := hD.c0; have hT := (HT.out.trans (Two.of_below (g := g) (d := d) ((Below.refl w3.heap.size w3).drew))).trans (Two.of_grown (d := d) hg4); have b6 := (hg4.block w.heap.size (Array.getElem?_eq_some_iff.1 HB6.out).1 (fun e => by injection e with e; omega)).trans HB6.out; have b7 := (hg4.block (w.heap.size + 1) (Array.getElem?_eq_some_iff.1 HB7.out).1 (fun e => by injection e with e; omega)).trans HB7.out; have y0 : w4.cell? ⟨w.heap.size + 1, 0, none⟩ = some (.string ⟨#[]⟩) := cell_of_row w4 _ 0 _ _ _ b7; have f0 : w4.frozen? ⟨w.heap.size + 1, 0, none⟩ = false := frozen_of_row w4 _ 0 _ _ b7))
    all_goals
      go_wp2_with fail
      go_meet
      rw [HKA.out]
      have hz6 : w.heap.size + 1 < w4.heap.size := (Array.getElem?_eq_some_iff.1 b7).1
      exact ⟨rfl, hD.set (b := w.heap.size + 1) (by omega) 0 _, hT.new (i := 0) (b := w.heap.size + 1) _ (by omega), ((grown_set w4 (w.heap.size + 1) 0 _).block w.heap.size (by omega) (fun e => by injection e with e; omega)).trans b6, by rw [heap_setCell_same w4 _ 0 _ _ _ b7]; rfl⟩
  case rest =>
    obtain ⟨rfl, hD, hT, b6, b7⟩ := hcut
    have y0 : wc.cell? ⟨w.heap.size + 1, 0, none⟩ = some (.string key) := cell_of_row wc _ 0 _ _ _ b7
    clear x0 HX HD HT HB6 HB7 hq1 hq2 hq5
    have HMU : Hid (∀ k, Calls Try.prog 87 #[.pointer (some ⟨d, 0, none⟩), .bool true] (wc.drewN k) fun e w' => e = .returned (.tuple #[]) ∧ Dc w' d g A c l p4 ∧ Two g d (wc.drewN k) w') := fun k => must_ok d g c p4 A l (wc.drewN k) (hD.drewN k)
    have HT := Lib.hid hT
    have HB6 := Lib.hid b6
    have HB7 := Lib.hid b7
    clear hD hT b6 b7
    have enn : ((n : Int) == (n : Int)) = true := by simp
    go_wp2_with fail
    refine (HCO.out _).mono ?_
    rintro e w5 ⟨rfl, k5, rfl⟩
    go_wp2_with fail
    refine (HMU.out k5).mono ?_
    rintro e w6 ⟨rfl, hD, hT6⟩
    have hT : Two g d w w6 := (HT.out.trans (Two.of_below (g := g) (d := d) (below_draws (Below.refl wc.heap.size wc) k5))).trans hT6
    have b6 := (hT6.block w.heap.size (Array.getElem?_eq_some_iff.1 HB6.out).1 (by omega) (by omega)).trans HB6.out
    have b7 := (hT6.block (w.heap.size + 1) (Array.getElem?_eq_some_iff.1 HB7.out).1 (by omega) (by omega)).trans HB7.out
    clear hT6 HMU HT HB6 HB7 y0 HCO enn
    have z7 := (Array.getElem?_eq_some_iff.1 b7).1
    cases gone with
    | true =>
      obtain ⟨rfl, rfl⟩ := E6.out rfl
      have e0 : w6.cell? ⟨w.heap.size + 1, 0, none⟩ = some (.string key) := cell_of_row w6 _ 0 _ _ _ b7
      have e1 : w6.cell? ⟨w.heap.size + 1, 1, none⟩ = some (.string ⟨#[]⟩) := cell_of_row w6 _ 1 _ _ _ b7
      have e2 : w6.cell? ⟨w.heap.size + 1, 2, none⟩ = some (.bool true) := cell_of_row w6 _ 2 _ _ _ b7
      have e3 : w6.cell? ⟨w.heap.size + 1, 3, none⟩ = some (.int .i64 (time + t)) := cell_of_row w6 _ 3 _ _ _ b7
      have d0 : w6.cell? ⟨w.heap.size, 0, none⟩ = some (.string ⟨#[]⟩) := cell_of_row w6 _ 0 _ _ _ b6
      have h0 : w6.frozen? ⟨w.heap.size, 0, none⟩ = false := frozen_of_row w6 _ 0 _ _ b6
      have d1 : w6.cell? ⟨w.heap.size, 1, none⟩ = some (.string ⟨#[]⟩) := cell_of_row w6 _ 1 _ _ _ b6
      have h1 : w6.frozen? ⟨w.heap.size, 1, none⟩ = false := frozen_of_row w6 _ 1 _ _ b6
      have d2 : w6.cell? ⟨w.heap.size, 2, none⟩ = some (.bool false) := cell_of_row w6 _ 2 _ _ _ b6
      have h2 : w6.frozen? ⟨w.heap.size, 2, none⟩ = false := frozen_of_row w6 _ 2 _ _ b6
      have d3 : w6.cell? ⟨w.heap.size, 3, none⟩ = some (.int .i64 0) := cell_of_row w6 _ 3 _ _ _ b6
      have h3 : w6.frozen? ⟨w.heap.size, 3, none⟩ = false := frozen_of_row w6 _ 3 _ _ b6
      have HD := Lib.hid hD
      have HT := Lib.hid hT
      clear hD hT b6 b7 E6 E7 E1 E3 E4 E5
      go_wp2_with fail
      refine bodyPost_ret (v := .agg #[.string key, .string ⟨#[]⟩, .bool true, .int .i64 (time + t)]) (by simp [results, Try.results105, go_sem, d0, d1, d2, d3]) rfl ?_
      refine ⟨rfl, ?_, ?_⟩
      · exact ((((HD.out.set (b := w.heap.size) (by omega) 0 _).set (b := w.heap.size) (by omega) 1 _).set (b := w.heap.size) (by omega) 2 _).set (b := w.heap.size) (by omega) 3 _)
      · exact ((((HT.out.new (b := w.heap.size) _ (Nat.le_refl _)).new (b := w.heap.size) _ (Nat.le_refl _)).new (b := w.heap.size) _ (Nat.le_refl _)).new (b := w.heap.size) _ (Nat.le_refl _))
    | false =>
      have E7' := Lib.hid (E7.out rfl)
      have x0 := hD.c0
      have y2 : w6.cell? ⟨w.heap.size + 1, 2, none⟩ = some (.bool false) := cell_of_row w6 _ 2 _ _ _ b7
      have HX := Lib.hid (rText_any g c p4 A l 1024 w6 hD.rd (by omega) (by omega))
      rw [E7'.out] at HX
      have HD := Lib.hid hD
      have HT := Lib.hid hT
      have HB6 := Lib.hid b6
      have HB7 := Lib.hid b7
      clear hD hT b6 b7 E6 E7 E7'
      go_wp2_with fail
      refine HX.out.mono ?_
      rintro e w7 ⟨rfl, hr7, hg7⟩
      have hD := HD.out.read hr7 hg7
      have hT := HT.out.trans (Two.of_grown (d := d) hg7)
      have b6 := (hg7.block w.heap.size (Array.getElem?_eq_some_iff.1 HB6.out).1 (fun e => by injection e with e; omega)).trans HB6.out
      have b7 := (hg7.block (w.heap.size + 1) (Array.getElem?_eq_some_iff.1 HB7.out).1 (fun e => by injection e with e; omega)).trans HB7.out
      clear hr7 hg7 HX x0 HD HT HB6 HB7 y2
      have hz6 : w.heap.size + 1 < w7.heap.size := (Array.getElem?_eq_some_iff.1 b7).1
      have e0 : w7.cell? ⟨w.heap.size + 1, 0, none⟩ = some (.string key) := cell_of_row w7 _ 0 _ _ _ b7
      have e1 : w7.cell? ⟨w.heap.size + 1, 1, none⟩ = some (.string ⟨#[]⟩) := cell_of_row w7 _ 1 _ _ _ b7
      have e2 : w7.cell? ⟨w.heap.size + 1, 2, none⟩ = some (.bool false) := cell_of_row w7 _ 2 _ _ _ b7
      have e3 : w7.cell? ⟨w.heap.size + 1, 3, none⟩ = some (.int .i64 (time + t)) := cell_of_row w7 _ 3 _ _ _ b7
      have f1 : w7.frozen? ⟨w.heap.size + 1, 1, none⟩ = false := frozen_of_row w7 _ 1 _ _ b7
      have d0 : w7.cell? ⟨w.heap.size, 0, none⟩ = some (.string ⟨#[]⟩) := cell_of_row w7 _ 0 _ _ _ b6
      have h0 : w7.frozen? ⟨w.heap.size, 0, none⟩ = false := frozen_of_row w7 _ 0 _ _ b6
      have d1 : w7.cell? ⟨w.heap.size, 1, none⟩ = some (.string ⟨#[]⟩) := cell_of_row w7 _ 1 _ _ _ b6
      have h1 : w7.frozen? ⟨w.heap.size, 1, none⟩ = false := frozen_of_row w7 _ 1 _ _ b6
      have d2 : w7.cell? ⟨w.heap.size, 2, none⟩ = some (.bool false) := cell_of_row w7 _ 2 _ _ _ b6
      have h2 : w7.frozen? ⟨w.heap.size, 2, none⟩ = false := frozen_of_row w7 _ 2 _ _ b6
      have d3 : w7.cell? ⟨w.heap.size, 3, none⟩ = some (.int .i64 0) := cell_of_row w7 _ 3 _ _ _ b6
      have h3 : w7.frozen? ⟨w.heap.size, 3, none⟩ = false := frozen_of_row w7 _ 3 _ _ b6
      have HD := Lib.hid (hD.set (b := w.heap.size + 1) (by omega) 1 (.string value))
      have HT := Lib.hid (hT.new (i := 1) (b := w.heap.size + 1) (.string value) (by omega))
      clear hD hT b6 b7
      go_wp2_with fail
      refine bodyPost_ret (v := .agg #[.string key, .string value, .bool false, .int .i64 (time + t)]) (by simp [results, Try.results105, go_sem, d0, d1, d2, d3]) rfl ?_
      refine ⟨rfl, ?_, ?_⟩
      · exact ((((HD.out.set (b := w.heap.size) (by omega) 0 _).set (b := w.heap.size) (by omega) 1 _).set (b := w.heap.size) (by omega) 2 _).set (b := w.heap.size) (by omega) 3 _)
      · exact ((((HT.out.new (b := w.heap.size) _ (Nat.le_refl _)).new (b := w.heap.size) _ (Nat.le_refl _)).new (b := w.heap.size) _ (Nat.le_refl _)).new (b := w.heap.size) _ (Nat.le_refl _))
end Go.Proofs.Ytkdpfajoeajenaa
