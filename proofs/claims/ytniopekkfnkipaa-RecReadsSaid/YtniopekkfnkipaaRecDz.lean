/-
  What decoder.record does where all can be read.
  What decoder.records does where all can be read.
  What decoder.batch does where all can be read.
  What rec.Decode does where all can be read.
  What a batch's bytes are read as: the batch itself, and no other one.
-/
import Derived.Test.YtniopekkfnkipaaRecD
namespace Go.Proofs.Ytniopekkfnkipaa
open Go.RowKit
set_option linter.unusedVariables false
set_option linter.unusedSimpArgs false

/-- a record can be read from p to q -/
structure RecAt (l : List UInt8) (time : Int) (last : ByteArray) (p : Nat) (r : Rec) (q : Nat) : Prop where
  at_ : ∃ p1 p2 p3 p4 t, dInt l p = .ok (.int .i64 t) p1 ∧ r.time = time + t ∧ dFlag l p1 = .ok (.bool r.gone) p2 ∧ dUint l p2 = .ok (.int .u64 (comm last.data.toList r.key.data.toList : Nat)) p3 ∧
    dText l p3 1024 = .ok (.string (r.key.extract (comm last.data.toList r.key.data.toList) r.key.size)) p4 ∧ (r.gone = true → r.value = ⟨#[]⟩ ∧ q = p4) ∧ (r.gone = false → dText l p4 1024 = .ok (.string r.value) q)
theorem comm_take (a b : List UInt8) : a.take (comm a b) = b.take (comm a b) := by
  induction a generalizing b with
  | nil => cases b <;> simp [comm]
  | cons x xs ih =>
    cases b with
    | nil => simp [comm]
    | cons y ys =>
      unfold comm
      split
      · rename_i h; simp [h, ih]
      · simp
theorem key_again (last key : ByteArray) : last.extract 0 (comm last.data.toList key.data.toList) ++ key.extract (comm last.data.toList key.data.toList) key.size = key := by
  have h := comm_take last.data.toList key.data.toList
  have h2 := (comm_le last.data.toList key.data.toList)
  generalize comm last.data.toList key.data.toList = n at *
  apply ByteArray.ext
  apply Array.ext'
  rw [ByteArray.data_append, Array.toList_append, ByteArray.data_extract, ByteArray.data_extract, Array.toList_extract, Array.toList_extract, List.extract_eq_take_drop, List.extract_eq_take_drop]
  simp only [Nat.sub_zero, List.drop_zero]
  have hz : key.data.toList.length = key.size := by simp
  rw [h, List.take_of_length_le (l := key.data.toList.drop n) (by rw [List.length_drop, hz]; exact Nat.le_refl _), List.take_append_drop]

set_option maxRecDepth 100000 in
set_option maxHeartbeats 4000000 in
theorem drec_ok (d g c p q : Nat) (A : Option Addr) (l : List UInt8) (time : Int) (last : ByteArray) (r : Rec) (w : World) (h : Dc w d g A c l p) (hr : RecAt l time last p r q) (t3 : 0 ≤ time) (t4 : time ≤ 1099511627776) (t1 : 0 ≤ r.time) (t2 : r.time ≤ 1099511627776) (hl : last.size ≤ 1024) (hk : r.key.size ≤ 1024) :
    Calls Try.prog 60 #[.pointer (some ⟨d, 0, none⟩), .int .i64 time, .string last] w fun e w' => e = .returned (.agg r.cells.toArray) ∧ Dc w' d g A c l q ∧ Two g d w w' := by
  obtain ⟨p1, p2, p3, p4, t, e1, e2, e3, e4, e5, e6, e7⟩ := hr.at_
  have HKA := Lib.hid (key_again last r.key)
  have hcm1 : comm last.data.toList r.key.data.toList ≤ last.size := by have := (comm_le last.data.toList r.key.data.toList).1; simpa using this
  have HCO : Hid (∀ W, Calls Try.prog 51 #[.string last, .string r.key] W fun e w' => e = .returned (.int .i64 (comm last.data.toList r.key.data.toList : Nat)) ∧ ∃ q, w' = W.drewN q) := fun W => common_any last r.key W (by omega) (by omega)
  obtain ⟨key, value, gone, rt⟩ := r
  simp only [Rec.cells] at *
  generalize comm last.data.toList key.data.toList = n at *
  subst e2
  have E1 := Lib.hid e1
  have E3 := Lib.hid e3
  have E4 := Lib.hid e4
  have E5 := Lib.hid e5
  have E6 := Lib.hid e6
  have E7 := Lib.hid e7
  clear e1 e3 e4 e5 e6 e7 hr
  have hkx : (key.extract n key.size).size ≤ 1024 := by rw [ByteArray.size_extract]; omega
  generalize key.extract n key.size = kx at *
  have hdl := h.dlt
  have hT0 := (Two.of_below (g := g) (d := d) ((((Below.refl w.heap.size w).alloc (Nat.le_refl _) (.cells #[.string ⟨#[]⟩, .string ⟨#[]⟩, .bool false, .int .i64 0] 40)).alloc (by simp) (.cells #[.string ⟨#[]⟩, .string ⟨#[]⟩, .bool false, .int .i64 0] 40))))
  have hD0 := (h.alloc (.cells #[.string ⟨#[]⟩, .string ⟨#[]⟩, .bool false, .int .i64 0] 40)).alloc (.cells #[.string ⟨#[]⟩, .string ⟨#[]⟩, .bool false, .int .i64 0] 40)
  have hb6 : ((w.alloc (.cells #[.string ⟨#[]⟩, .string ⟨#[]⟩, .bool false, .int .i64 0] 40)).alloc (.cells #[.string ⟨#[]⟩, .string ⟨#[]⟩, .bool false, .int .i64 0] 40)).heap[w.heap.size]? = some (.cells #[.string ⟨#[]⟩, .string ⟨#[]⟩, .bool false, .int .i64 0] 40 (0, 0)) := by
    rw [← heap_alloc_new w (.cells #[.string ⟨#[]⟩, .string ⟨#[]⟩, .bool false, .int .i64 0] 40)]
    exact ((Below.refl (w.alloc (.cells #[.string ⟨#[]⟩, .string ⟨#[]⟩, .bool false, .int .i64 0] 40)).heap.size _).alloc (Nat.le_refl _) _).block w.heap.size (by simp)
  have hb7 : ((w.alloc (.cells #[.string ⟨#[]⟩, .string ⟨#[]⟩, .bool false, .int .i64 0] 40)).alloc (.cells #[.string ⟨#[]⟩, .string ⟨#[]⟩, .bool false, .int .i64 0] 40)).heap[w.heap.size + 1]? = some (.cells #[.string ⟨#[]⟩, .string ⟨#[]⟩, .bool false, .int .i64 0] 40 (0, 0)) := by
    have h := heap_alloc_new (w.alloc (.cells #[.string ⟨#[]⟩, .string ⟨#[]⟩, .bool false, .int .i64 0] 40)) (.cells #[.string ⟨#[]⟩, .string ⟨#[]⟩, .bool false, .int .i64 0] 40)
    rwa [show (w.alloc (.cells #[.string ⟨#[]⟩, .string ⟨#[]⟩, .bool false, .int .i64 0] 40)).heap.size = w.heap.size + 1 from by simp] at h
  generalize hW0 : (w.alloc (.cells #[.string ⟨#[]⟩, .string ⟨#[]⟩, .bool false, .int .i64 0] 40)).alloc (.cells #[.string ⟨#[]⟩, .string ⟨#[]⟩, .bool false, .int .i64 0] 40) = W0 at *
  have HW0 := Lib.hid hW0
  have HD0 := Lib.hid hD0
  have HT0 := Lib.hid hT0
  have HB6 := Lib.hid hb6
  have HB7 := Lib.hid hb7
  have x0 := hD0.c0
  have HI := Lib.hid (rInt_any g c p A l W0 hD0.rd)
  rw [E1.out] at HI
  clear h hD0 hT0 hb6 hb7 hW0
  go_enter Try.func60, Try.ntmps60
  go_upto_region 2 with fail
  rw [HW0.out]
  go_wp2_with fail
  refine HI.out.mono ?_
  rintro e w1 ⟨rfl, hr1, hg1⟩
  have hD1 := HD0.out.read hr1 hg1
  have hT1 := HT0.out.trans (Two.of_grown (d := d) hg1)
  have hgd := HD0.out.lt
  have n6 : w.heap.size ≠ g := by omega
  have b6 := (hg1.block w.heap.size (Array.getElem?_eq_some_iff.1 HB6.out).1 (fun e => by injection e with e; omega)).trans HB6.out
  have b7 := (hg1.block (w.heap.size + 1) (Array.getElem?_eq_some_iff.1 HB7.out).1 (fun e => by injection e with e; omega)).trans HB7.out
  clear hr1 hg1 HI x0
  have y3 : w1.cell? ⟨w.heap.size + 1, 3, none⟩ = some (.int .i64 0) := cell_of_row w1 _ 3 _ _ _ b7
  have f3 : w1.frozen? ⟨w.heap.size + 1, 3, none⟩ = false := frozen_of_row w1 _ 3 _ _ b7
  have hD1s := hD1.set (b := w.heap.size + 1) (by omega) 3 (.int .i64 (time + t))
  have hT1s := hT1.new (i := 3) (b := w.heap.size + 1) (.int .i64 (time + t)) (by omega)
  have b6s : (w1.setCell ⟨w.heap.size + 1, 3, none⟩ (.int .i64 (time + t))).heap[w.heap.size]? = _ := ((grown_set w1 (w.heap.size + 1) 3 (.int .i64 (time + t))).block w.heap.size (Array.getElem?_eq_some_iff.1 b6).1 (fun e => by injection e with e; omega)).trans b6
  have b7s : (w1.setCell ⟨w.heap.size + 1, 3, none⟩ (.int .i64 (time + t))).heap[w.heap.size + 1]? = some (.cells #[.string ⟨#[]⟩, .string ⟨#[]⟩, .bool false, .int .i64 (time + t)] 40 (0, 0)) := by rw [heap_setCell_same w1 _ 3 _ _ _ b7]; rfl
  have x0 := hD1s.c0
  have HI := Lib.hid (rFlag_any g c p1 A l _ hD1s.rd)
  rw [E3.out] at HI
  have HD1 := Lib.hid hD1s
  have HT1 := Lib.hid hT1s
  have HB6 := Lib.hid b6s
  have HB7 := Lib.hid b7s
  clear hD1 hT1 b6 b7 hD1s hT1s b6s b7s
  go_wp2_with fail
  generalize w1.setCell ⟨w.heap.size + 1, 3, none⟩ (.int .i64 (time + t)) = W1 at *
  refine HI.out.mono ?_
  rintro e w2 ⟨rfl, hr2, hg2⟩
  have hD := HD1.out.read hr2 hg2
  have hT := HT1.out.trans (Two.of_grown (d := d) hg2)
  have b6 := (hg2.block w.heap.size (Array.getElem?_eq_some_iff.1 HB6.out).1 (fun e => by injection e with e; omega)).trans HB6.out
  have b7 := (hg2.block (w.heap.size + 1) (Array.getElem?_eq_some_iff.1 HB7.out).1 (fun e => by injection e with e; omega)).trans HB7.out
  clear hr2 hg2 HI x0 HD1 HT1 HB6 HB7 y3 f3
  have y2 : w2.cell? ⟨w.heap.size + 1, 2, none⟩ = some (.bool false) := cell_of_row w2 _ 2 _ _ _ b7
  have f2 : w2.frozen? ⟨w.heap.size + 1, 2, none⟩ = false := frozen_of_row w2 _ 2 _ _ b7
  have hDs := hD.set (b := w.heap.size + 1) (by omega) 2 (.bool gone)
  have hTs := hT.new (i := 2) (b := w.heap.size + 1) (.bool gone) (by omega)
  have b6s : (w2.setCell ⟨w.heap.size + 1, 2, none⟩ (.bool gone)).heap[w.heap.size]? = _ := ((grown_set w2 (w.heap.size + 1) 2 (.bool gone)).block w.heap.size (Array.getElem?_eq_some_iff.1 b6).1 (fun e => by injection e with e; omega)).trans b6
  have b7s : (w2.setCell ⟨w.heap.size + 1, 2, none⟩ (.bool gone)).heap[w.heap.size + 1]? = some (.cells #[.string ⟨#[]⟩, .string ⟨#[]⟩, .bool gone, .int .i64 (time + t)] 40 (0, 0)) := by rw [heap_setCell_same w2 _ 2 _ _ _ b7]; rfl
  have HU := Lib.hid (upTo_ok d g c p2 p3 n last.size A l _ hDs E4.out hcm1 (by omega))
  have HD := Lib.hid hDs
  have HT := Lib.hid hTs
  have HB6 := Lib.hid b6s
  have HB7 := Lib.hid b7s
  clear hD hT b6 b7 hDs hTs b6s b7s
  go_wp2_with fail
  generalize w2.setCell ⟨w.heap.size + 1, 2, none⟩ (.bool gone) = W2 at *
  refine HU.out.mono ?_
  rintro e w3 ⟨rfl, hD, hT3⟩
  have hT := HT.out.trans hT3
  have b6 := (hT3.block w.heap.size (Array.getElem?_eq_some_iff.1 HB6.out).1 (by omega) (by omega)).trans HB6.out
  have b7 := (hT3.block (w.heap.size + 1) (Array.getElem?_eq_some_iff.1 HB7.out).1 (by omega) (by omega)).trans HB7.out
  clear hT3 HU HD HT HB6 HB7 y2 f2
  have x0 := hD.c0
  have HX := Lib.hid (rText_any g c p3 A l 1024 w3.drew hD.drew.rd (by omega) (by omega))
  rw [E5.out] at HX
  have HD := Lib.hid hD
  have HT := Lib.hid hT
  have HB6 := Lib.hid b6
  have HB7 := Lib.hid b7
  have z7 := (Array.getElem?_eq_some_iff.1 b7).1
  clear hD hT b6 b7
  have gn0 : (0 : Int) ≤ (n : Int) := by omega
  have gn1 : (n : Int) ≤ (last.size : Int) := by omega
  have hn7 : ¬ w.heap.size + 1 = d := by omega
  have hq1 : ¬ 9223372036854775807 < (last.extract 0 n).size + kx.size := by rw [ByteArray.size_extract]; omega
  have hq2 : ¬ 9223372036854775807 < min n last.size + kx.size := by omega
  have hq5 : ¬ 9223372036854775807 < n + kx.size := by omega
  go_upto_region 5 with fail
  go_cut [8] (fun s8 wx => s8 = .int .i64 (n : Int) ∧ Dc wx d g A c l p4 ∧ Two g d w wx ∧ wx.heap[w.heap.size]? = some (.cells #[.string ⟨#[]⟩, .string ⟨#[]⟩, .bool false, .int .i64 0] 40 (0, 0)) ∧ wx.heap[w.heap.size + 1]? = some (.cells #[.string key, .string ⟨#[]⟩, .bool gone, .int .i64 (time + t)] 40 (0, 0)))
  case first =>
    go_region_held3 (fun w' => w'.cell? ⟨d, 0, none⟩ = some (.pointer (some ⟨g, 0, none⟩))) (first | exact x0 | exact x4 | go_keep)
      (first
        | (go_at_call 75; refine HX.out.mono ?_; rintro e w4 ⟨rfl, hr4, hg4⟩; have hD := HD.out.drew.read hr4 hg4; have x4 := hD.c0; have hT := (HT.out.trans (Two.of_below (g := g) (d := d) ((Below.refl w3.heap.size w3).drew))).trans (Two.of_grown (d := d) hg4); have b6 := (hg4.block w.heap.size (Array.getElem?_eq_some_iff.1 HB6.out).1 (fun e => by injection e with e; omega)).trans HB6.out; have b7 := (hg4.block (w.heap.size + 1) (Array.getElem?_eq_some_iff.1 HB7.out).1 (fun e => by injection e with e; omega)).trans HB7.out; have y0 : w4.cell? ⟨w.heap.size + 1, 0, none⟩ = some (.string ⟨#[]⟩) := cell_of_row w4 _ 0 _ _ _ b7; have f0 : w4.frozen? ⟨w.heap.size + 1, 0, none⟩ = false := frozen_of_row w4 _ 0 _ _ b7))
    all_goals
      go_wp2_with fail
      go_meet
      rw [HKA.out]
      have hz6 : w.heap.size + 1 < w4.heap.size := (Array.getElem?_eq_some_iff.1 b7).1
      exact ⟨rfl, hD.set (b := w.heap.size + 1) (by omega) 0 _, hT.new (i := 0) (b := w.heap.size + 1) _ (by omega), ((grown_set w4 (w.heap.size + 1) 0 _).block w.heap.size (by omega) (fun e => by injection e with e; omega)).trans b6, by rw [heap_setCell_same w4 _ 0 _ _ _ b7]; rfl⟩
  case rest =>
    obtain ⟨rfl, hD, hT, b6, b7⟩ := hcut
    have y0 : wc.cell? ⟨w.heap.size + 1, 0, none⟩ = some (.string key) := cell_of_row wc _ 0 _ _ _ b7
    clear x0 HX HD HT HB6 HB7 hq1 hq2 hq5
    have HMU : Hid (∀ k, Calls Try.prog 34 #[.pointer (some ⟨d, 0, none⟩), .bool true] (wc.drewN k) fun e w' => e = .returned (.tuple #[]) ∧ Dc w' d g A c l p4 ∧ Two g d (wc.drewN k) w') := fun k => must_ok d g c p4 A l (wc.drewN k) (hD.drewN k)
    have HT := Lib.hid hT
    have HB6 := Lib.hid b6
    have HB7 := Lib.hid b7
    clear hD hT b6 b7
    have enn : ((n : Int) == (n : Int)) = true := by simp
    go_wp2_with fail
    refine (HCO.out _).mono ?_
    rintro e w5 ⟨rfl, k5, rfl⟩
    go_wp2_with fail
    refine (HMU.out k5).mono ?_
    rintro e w6 ⟨rfl, hD, hT6⟩
    have hT : Two g d w w6 := (HT.out.trans (Two.of_below (g := g) (d := d) (below_draws (Below.refl wc.heap.size wc) k5))).trans hT6
    have b6 := (hT6.block w.heap.size (Array.getElem?_eq_some_iff.1 HB6.out).1 (by omega) (by omega)).trans HB6.out
    have b7 := (hT6.block (w.heap.size + 1) (Array.getElem?_eq_some_iff.1 HB7.out).1 (by omega) (by omega)).trans HB7.out
    clear hT6 HMU HT HB6 HB7 y0 HCO enn
    have z7 := (Array.getElem?_eq_some_iff.1 b7).1
    cases gone with
    | true =>
      obtain ⟨rfl, rfl⟩ := E6.out rfl
      have e0 : w6.cell? ⟨w.heap.size + 1, 0, none⟩ = some (.string key) := cell_of_row w6 _ 0 _ _ _ b7
      have e1 : w6.cell? ⟨w.heap.size + 1, 1, none⟩ = some (.string ⟨#[]⟩) := cell_of_row w6 _ 1 _ _ _ b7
      have e2 : w6.cell? ⟨w.heap.size + 1, 2, none⟩ = some (.bool true) := cell_of_row w6 _ 2 _ _ _ b7
      have e3 : w6.cell? ⟨w.heap.size + 1, 3, none⟩ = some (.int .i64 (time + t)) := cell_of_row w6 _ 3 _ _ _ b7
      have d0 : w6.cell? ⟨w.heap.size, 0, none⟩ = some (.string ⟨#[]⟩) := cell_of_row w6 _ 0 _ _ _ b6
      have h0 : w6.frozen? ⟨w.heap.size, 0, none⟩ = false := frozen_of_row w6 _ 0 _ _ b6
      have d1 : w6.cell? ⟨w.heap.size, 1, none⟩ = some (.string ⟨#[]⟩) := cell_of_row w6 _ 1 _ _ _ b6
      have h1 : w6.frozen? ⟨w.heap.size, 1, none⟩ = false := frozen_of_row w6 _ 1 _ _ b6
      have d2 : w6.cell? ⟨w.heap.size, 2, none⟩ = some (.bool false) := cell_of_row w6 _ 2 _ _ _ b6
      have h2 : w6.frozen? ⟨w.heap.size, 2, none⟩ = false := frozen_of_row w6 _ 2 _ _ b6
      have d3 : w6.cell? ⟨w.heap.size, 3, none⟩ = some (.int .i64 0) := cell_of_row w6 _ 3 _ _ _ b6
      have h3 : w6.frozen? ⟨w.heap.size, 3, none⟩ = false := frozen_of_row w6 _ 3 _ _ b6
      have HD := Lib.hid hD
      have HT := Lib.hid hT
      clear hD hT b6 b7 E6 E7 E1 E3 E4 E5
      go_wp2_with fail
      refine bodyPost_ret (v := .agg #[.string key, .string ⟨#[]⟩, .bool true, .int .i64 (time + t)]) (by simp [results, Try.results60, go_sem, d0, d1, d2, d3]) rfl ?_
      refine ⟨rfl, ?_, ?_⟩
      · exact ((((HD.out.set (b := w.heap.size) (by omega) 0 _).set (b := w.heap.size) (by omega) 1 _).set (b := w.heap.size) (by omega) 2 _).set (b := w.heap.size) (by omega) 3 _)
      · exact ((((HT.out.new (b := w.heap.size) _ (Nat.le_refl _)).new (b := w.heap.size) _ (Nat.le_refl _)).new (b := w.heap.size) _ (Nat.le_refl _)).new (b := w.heap.size) _ (Nat.le_refl _))
    | false =>
      have E7' := Lib.hid (E7.out rfl)
      have x0 := hD.c0
      have y2 : w6.cell? ⟨w.heap.size + 1, 2, none⟩ = some (.bool false) := cell_of_row w6 _ 2 _ _ _ b7
      have HX := Lib.hid (rText_any g c p4 A l 1024 w6 hD.rd (by omega) (by omega))
      rw [E7'.out] at HX
      have HD := Lib.hid hD
      have HT := Lib.hid hT
      have HB6 := Lib.hid b6
      have HB7 := Lib.hid b7
      clear hD hT b6 b7 E6 E7 E7'
      go_wp2_with fail
      refine HX.out.mono ?_
      rintro e w7 ⟨rfl, hr7, hg7⟩
      have hD := HD.out.read hr7 hg7
      have hT := HT.out.trans (Two.of_grown (d := d) hg7)
      have b6 := (hg7.block w.heap.size (Array.getElem?_eq_some_iff.1 HB6.out).1 (fun e => by injection e with e; omega)).trans HB6.out
      have b7 := (hg7.block (w.heap.size + 1) (Array.getElem?_eq_some_iff.1 HB7.out).1 (fun e => by injection e with e; omega)).trans HB7.out
      clear hr7 hg7 HX x0 HD HT HB6 HB7 y2
      have hz6 : w.heap.size + 1 < w7.heap.size := (Array.getElem?_eq_some_iff.1 b7).1
      have e0 : w7.cell? ⟨w.heap.size + 1, 0, none⟩ = some (.string key) := cell_of_row w7 _ 0 _ _ _ b7
      have e1 : w7.cell? ⟨w.heap.size + 1, 1, none⟩ = some (.string ⟨#[]⟩) := cell_of_row w7 _ 1 _ _ _ b7
      have e2 : w7.cell? ⟨w.heap.size + 1, 2, none⟩ = some (.bool false) := cell_of_row w7 _ 2 _ _ _ b7
      have e3 : w7.cell? ⟨w.heap.size + 1, 3, none⟩ = some (.int .i64 (time + t)) := cell_of_row w7 _ 3 _ _ _ b7
      have f1 : w7.frozen? ⟨w.heap.size + 1, 1, none⟩ = false := frozen_of_row w7 _ 1 _ _ b7
      have d0 : w7.cell? ⟨w.heap.size, 0, none⟩ = some (.string ⟨#[]⟩) := cell_of_row w7 _ 0 _ _ _ b6
      have h0 : w7.frozen? ⟨w.heap.size, 0, none⟩ = false := frozen_of_row w7 _ 0 _ _ b6
      have d1 : w7.cell? ⟨w.heap.size, 1, none⟩ = some (.string ⟨#[]⟩) := cell_of_row w7 _ 1 _ _ _ b6
      have h1 : w7.frozen? ⟨w.heap.size, 1, none⟩ = false := frozen_of_row w7 _ 1 _ _ b6
      have d2 : w7.cell? ⟨w.heap.size, 2, none⟩ = some (.bool false) := cell_of_row w7 _ 2 _ _ _ b6
      have h2 : w7.frozen? ⟨w.heap.size, 2, none⟩ = false := frozen_of_row w7 _ 2 _ _ b6
      have d3 : w7.cell? ⟨w.heap.size, 3, none⟩ = some (.int .i64 0) := cell_of_row w7 _ 3 _ _ _ b6
      have h3 : w7.frozen? ⟨w.heap.size, 3, none⟩ = false := frozen_of_row w7 _ 3 _ _ b6
      have HD := Lib.hid (hD.set (b := w.heap.size + 1) (by omega) 1 (.string value))
      have HT := Lib.hid (hT.new (i := 1) (b := w.heap.size + 1) (.string value) (by omega))
      clear hD hT b6 b7
      go_wp2_with fail
      refine bodyPost_ret (v := .agg #[.string key, .string value, .bool false, .int .i64 (time + t)]) (by simp [results, Try.results60, go_sem, d0, d1, d2, d3]) rfl ?_
      refine ⟨rfl, ?_, ?_⟩
      · exact ((((HD.out.set (b := w.heap.size) (by omega) 0 _).set (b := w.heap.size) (by omega) 1 _).set (b := w.heap.size) (by omega) 2 _).set (b := w.heap.size) (by omega) 3 _)
      · exact ((((HT.out.new (b := w.heap.size) _ (Nat.le_refl _)).new (b := w.heap.size) _ (Nat.le_refl _)).new (b := w.heap.size) _ (Nat.le_refl _)).new (b := w.heap.size) _ (Nat.le_refl _))
end Go.Proofs.Ytniopekkfnkipaa
namespace Go.Proofs.Ytniopekkfnkipaa
open Go.RowKit
set_option linter.unusedVariables false
set_option linter.unusedSimpArgs false

section
variable {w w' w'' : World} {d g c p : Nat} {A : Option Addr} {l : List UInt8}
theorem Dc.grown {o : Option Nat} (h : Dc w d g A c l p) (hg : w.grownBy w' o) (ho : ∀ k, o = some k → d < k) : Dc w' d g A c l p := by
  have hl := h.lt
  have hr := h.rd
  have hk : ∀ i, i ≤ d → w'.heap[i]? = w.heap[i]? := fun i hi => hg.block i (by have := h.dlt; omega) (fun e => by have := ho i e.symm; omega)
  exact ⟨(hk d (Nat.le_refl _)).trans h.blk, ⟨(hk g (by omega)).trans hr.blk, hr.cap, hr.capm, hr.bs.keep fun x hx => World.cell?_of_block (hk x.block (by omega)), hr.pos, hr.small⟩, h.lt⟩
end
set_option maxRecDepth 100000 in
set_option maxHeartbeats 4000000 in
theorem drecs_ok (d g c p n : Nat) (A : Option Addr) (l : List UInt8) (time : Int) (L : List Rec) (P : Nat → Nat) (w : World) (h : Dc w d g A c l p) (hp : dUint l p = .ok (.int .u64 (n : Int)) (P 0)) (hn : L.length = n) (hn2 : n ≤ 64)
    (hr : ∀ k, k < n → RecAt l time (prevKey L k) (P k) (L.getD k default) (P (k + 1))) (hf : ∀ r ∈ L, recE r = 0) (t3 : 0 ≤ time) (t4 : time ≤ 1099511627776) :
    Calls Try.prog 37 #[.pointer (some ⟨d, 0, none⟩), .int .i64 time] w fun e w' => ∃ A' c', e = .returned (.slice A' n c') ∧ n ≤ c' ∧ c' ≤ maxLen ∧ Rcs w' w'.heap.size A' n L ∧ (∀ p, A' = some p → w.heap.size ≤ p.block) ∧ Dc w' d g A c l (P n) ∧ Two g d w w' := by
  obtain ⟨j0, qj0, qy0, qy1, qy2⟩ := info_parts zero_rec
  have hdl := h.dlt
  have hgl := h.lt
  have HU := Lib.hid (upTo_ok d g c p (P 0) n 64 A l w h hp hn2 (by omega))
  have HR : Hid (∀ W k, Dc W d g A c l (P k) → k < n → Calls Try.prog 60 #[.pointer (some ⟨d, 0, none⟩), .int .i64 time, .string (prevKey L k)] W fun e w' => e = .returned (.agg (L.getD k default).cells.toArray) ∧ Dc w' d g A c l (P (k + 1)) ∧ Two g d W w') := fun W k hW hk => by
    have hm : ∀ j, j < n → recE (L.getD j default) = 0 := fun j hj => hf _ (by rw [List.getD_eq_getElem?_getD, List.getElem?_eq_getElem (by omega)]; exact List.getElem_mem _)
    obtain ⟨x1, x2, x3, x4, _⟩ := recE_zero (hm k hk)
    refine drec_ok d g c (P k) (P (k + 1)) A l time _ _ W hW (hr k hk) t3 t4 x3 x4 ?_ x1
    cases k with
    | zero => show (0 : Nat) ≤ 1024; omega
    | succ j => exact (recE_zero (hm j (by omega))).1
  have HOK : Hid (∀ r ∈ L, i64_ r.time) := fun r hr => by obtain ⟨_, _, x3, x4, _⟩ := recE_zero (hf r hr); unfold i64_; omega
  have HN := Lib.hid hn
  clear h hp hr hf hn
  go_enter Try.func37, Try.ntmps37
  go_wp2_with fail
  refine HU.out.mono ?_
  rintro e w1 ⟨rfl, hD1, hT1⟩
  clear HU
  go_wp2_with fail
  go_loopw [5, 6, 10] (fun v s i wr => ∃ k : Nat, k ≤ n ∧ i = .int .i64 k ∧ s = .string (prevKey L k) ∧ wr.ownsRow w.heap.size 40 4 v k (rcells (L.take k)) ∧ Dc wr d g A c l (P k) ∧ Two g d w wr) (fun _ _ i _ => n - (intOf i).toNat)
  case atStart => exact ⟨0, by omega, rfl, rfl, World.ownsRow_nil _ _ _ _, hD1, hT1⟩
  case round =>
    obtain ⟨k, hk, rfl, rfl, hown, hD, hT⟩ := hrel
    have zr := hT.size
    by_cases hlt : k < n
    · have HRk := Lib.hid (HR.out wr k hD hlt)
      have HS := Lib.hid (rcells_succ L k (by rw [HN.out]; exact hlt))
      have HP : Hid (prevKey L (k + 1) = (L.getD k default).key) := rfl
      generalize prevKey L k = pk at *
      generalize L.getD k default = r at *
      obtain ⟨key, value, gone, rt⟩ := r
      simp only [Rec.cells] at *
      have HOWN := Lib.hid hown
      clear hown hD
      go_wp2_with fail
      refine HRk.out.mono ?_
      rintro e w2 ⟨rfl, hD2, hT2⟩
      have hown2 := (row_two HOWN.out hT2 (by omega) hdl)
      have hT2' := hT.trans hT2
      have z2 := hT2.size
      have hown3 := (hown2.alloc (.cells #[.string key, .string value, .bool gone, .int .i64 rt] 40)).alloc (.cells #[.string key, .string value, .bool gone, .int .i64 rt] 40)
      have hD3 := (hD2.alloc (.cells #[.string key, .string value, .bool gone, .int .i64 rt] 40)).alloc (.cells #[.string key, .string value, .bool gone, .int .i64 rt] 40)
      have hT3 := hT2'.trans (Two.of_below (g := g) (d := d) (((Below.refl w2.heap.size w2).alloc (Nat.le_refl _) (.cells #[.string key, .string value, .bool gone, .int .i64 rt] 40)).alloc (by simp) (.cells #[.string key, .string value, .bool gone, .int .i64 rt] 40)))
      have hsz : ((w2.alloc (.cells #[.string key, .string value, .bool gone, .int .i64 rt] 40)).alloc (.cells #[.string key, .string value, .bool gone, .int .i64 rt] 40)).heap.size = w2.heap.size + 2 := by simp
      have HSZ := Lib.hid hsz
      have hnb : ∀ j u, [Value.string key, .string value, .bool gone, .int .i64 rt][j]? = some u → ((w2.alloc (.cells #[.string key, .string value, .bool gone, .int .i64 rt] 40)).alloc (.cells #[.string key, .string value, .bool gone, .int .i64 rt] 40)).cell? ((⟨w2.heap.size + 1, 0, none⟩ : Addr).add j) = some u := fun j u hj => by
        have := (Lies.of_new (w2.alloc (.cells #[.string key, .string value, .bool gone, .int .i64 rt] 40)) #[.string key, .string value, .bool gone, .int .i64 rt] 40).get j u hj
        obtain ⟨q, hq, _, hc⟩ := this
        injection hq with hq
        subst hq
        rw [show (w2.alloc (.cells #[.string key, .string value, .bool gone, .int .i64 rt] 40)).heap.size = w2.heap.size + 1 from by simp] at hc
        exact hc
      have HNB := Lib.hid hnb
      have HOWN3 := Lib.hid hown3
      have HD3 := Lib.hid hD3
      have HT3 := Lib.hid hT3
      have hkey : ((w2.alloc (.cells #[.string key, .string value, .bool gone, .int .i64 rt] 40)).alloc (.cells #[.string key, .string value, .bool gone, .int .i64 rt] 40)).heap[w2.heap.size]? = some (.cells #[.string key, .string value, .bool gone, .int .i64 rt] 40 (0, 0)) := by
        rw [← heap_alloc_new w2 (.cells #[.string key, .string value, .bool gone, .int .i64 rt] 40)]
        exact ((Below.refl (w2.alloc (.cells #[.string key, .string value, .bool gone, .int .i64 rt] 40)).heap.size _).alloc (Nat.le_refl _) _).block w2.heap.size (by simp)
      have HKEY := Lib.hid hkey
      have hownlt := World.ownsRow.lt hown2
      have HLT := Lib.hid hownlt
      clear hown2 hown3 hD3 hT3 hnb hkey hD2 hT2 hT2' HRk HOWN hsz hownlt
      go_wp2_with (at_builtin; refine wpList_append_own_at _ rfl (.tmp 16) (.tmp 18) 22 rfl w.heap.size 40 j0 _ 4 48 Try.underlying22 qj0 qy0 qy1 qy2 rfl (by decide) _ k (rcells (L.take k)) rfl HOWN3.out ⟨w2.heap.size + 1, 0, none⟩ 1 1 [.string key, .string value, .bool gone, .int .i64 rt] rfl rfl HNB.out ?g1 ?g2 ?g3 ?g4 ?_)
      case g1 => intro u hu; simp at hu; rcases hu with rfl | rfl | rfl | rfl <;> rfl
      case g2 => unfold maxLen; omega
      case g3 => omega
      case g4 => rw [HSZ.out]; omega
      intro v4 w4 hown4 hg4 _ _
      have hk4 := (hg4.block w2.heap.size (by rw [HSZ.out]; omega) (fun e => by have := (HLT.out _ e.symm).2; omega)).trans HKEY.out
      have hD4 := HD3.out.grown hg4 (fun k hk => by have := (HLT.out k hk).1; omega)
      have hT4 := HT3.out.grow hg4 (fun k hk => (HLT.out k hk).1)
      have c0 : w4.cell? ⟨w2.heap.size, 0, none⟩ = some (.string key) := cell_of_row w4 _ 0 _ _ _ hk4
      clear hg4 hk4 HD3 HT3 HKEY HOWN3 HNB
      have HD4 := Lib.hid hD4
      have HT4 := Lib.hid hT4
      have HOWN4 := Lib.hid hown4
      clear hD4 hT4 hown4
      go_wp2
      go_roundw
      case rel => exact ⟨k + 1, by omega, by go_num, by rw [HP.out], by rw [HS.out]; exact HOWN4.out, HD4.out, HT4.out⟩
      case measure => simp [intOf]; omega
    · obtain rfl : k = n := by omega
      rw [List.take_of_length_le (by rw [HN.out]; exact Nat.le_refl _)] at hown
      obtain ⟨A', c', rfl, h1, h2, h3, h4⟩ := Rcs.of_own hown HN.out HOK.out
      have H3 := Lib.hid h3
      have H4 := Lib.hid h4
      have HD := Lib.hid hD
      clear h3 h4 hown hD
      go_wp2_with fail
      go_ret
      exact ⟨A', c', rfl, h1, h2, H3.out, H4.out, HD.out, hT⟩
end Go.Proofs.Ytniopekkfnkipaa
namespace Go.Proofs.Ytniopekkfnkipaa
open Go.RowKit
set_option linter.unusedVariables false
set_option linter.unusedSimpArgs false

/-- the numbers ahead of a batch's records can be read up to q -/
structure HeadAt (l : List UInt8) (mk : Bool) (base pid epoch seq kind time q : Nat) : Prop where
  at_ : ∃ p3 p4 p5 p6, dByte l 0 = .ok (.int .i64 1) 1 ∧ dByte l 1 = .ok (.int .i64 (kind : Int)) 2 ∧ dUint l 2 = .ok (.int .u64 (base : Int)) p3 ∧ dUint l p3 = .ok (.int .u64 (pid : Int)) p4 ∧
    (pid = 0 → epoch = 0 ∧ seq = 0 ∧ p6 = p4) ∧ (pid ≠ 0 → dUint l p4 = .ok (.int .u64 (epoch : Int)) p5 ∧ (mk = true → seq = 0 ∧ p6 = p5) ∧ (mk = false → dUint l p5 = .ok (.int .u64 (seq : Int)) p6)) ∧
    dUint l p6 = .ok (.int .u64 (time : Int)) q

set_option maxRecDepth 100000 in
set_option maxHeartbeats 8000000 in
theorem dbatch_ok (mk : Bool) (d g c base pid epoch seq kind time q r : Nat) (A : Option Addr) (l : List UInt8) (L : List Rec) (w : World) (h : Dc w d g A c l 0) (hh : HeadAt l mk base pid epoch seq kind time q) (hmk : (((kind : Int) == 2) || ((kind : Int) == 3)) = mk)
    (k1 : base ≤ 1099511627776) (k2 : pid ≤ 1048576) (k3 : epoch ≤ 32767) (k4 : seq ≤ 2147483647) (k6 : time ≤ 1099511627776) (hL0 : mk = true → L = [] ∧ r = q)
    (hL1 : mk = false → ∀ W, Dc W d g A c l q → Calls Try.prog 37 #[.pointer (some ⟨d, 0, none⟩), .int .i64 (time : Int)] W fun e w' => ∃ A' c', e = .returned (.slice A' L.length c') ∧ L.length ≤ c' ∧ c' ≤ maxLen ∧ Rcs w' w'.heap.size A' L.length L ∧ (∀ p, A' = some p → W.heap.size ≤ p.block) ∧ Dc w' d g A c l r ∧ Two g d W w') :
    Calls Try.prog 18 #[.pointer (some ⟨d, 0, none⟩)] w fun e w' => ∃ A' c', e = .returned (.agg #[.int .i64 (base : Int), .int .i64 (pid : Int), .int .i64 (epoch : Int), .int .i64 (seq : Int), .int .i64 (kind : Int), .int .i64 (time : Int), .slice A' L.length c']) ∧ L.length ≤ c' ∧ c' ≤ maxLen ∧ Rcs w' w'.heap.size A' L.length L ∧ (∀ p, A' = some p → w.heap.size ≤ p.block) ∧ Dc w' d g A c l r ∧ Two g d w w' := by
  obtain ⟨p3, p4, p5, p6, e1, e2, e3, e4, e5, e6, e7⟩ := hh.at_
  have E1 := Lib.hid e1
  have E2 := Lib.hid e2
  have E3 := Lib.hid e3
  have E4 := Lib.hid e4
  have E5 := Lib.hid e5
  have E6 := Lib.hid e6
  have E7 := Lib.hid e7
  have HL0 := Lib.hid hL0
  have HL1 := Lib.hid hL1
  clear e1 e2 e3 e4 e5 e6 e7 hh hL0 hL1
  have HMK : Hid (∀ (W : World) (b p e s t : Int) (A : Option Addr) (n c : Nat), Calls Try.prog 24 #[.agg #[.int .i64 b, .int .i64 p, .int .i64 e, .int .i64 s, .int .i64 (kind : Int), .int .i64 t, .slice A n c]] W fun e w' => e = .returned (.bool mk) ∧ Below W.heap.size W w') := fun W b p e s t A n c => by
    have := marker_any ⟨b, p, e, s, kind, t, List.replicate n default⟩ A c W
    unfold Bat.cells markB at this
    simp only [List.length_replicate] at this
    rw [hmk] at this
    exact this
  clear hmk
  have hdl := h.dlt
  have hgd := h.lt
  have hT := (Two.of_below (g := g) (d := d) ((((Below.refl w.heap.size w).alloc (Nat.le_refl _) (.cells #[.int .i64 0, .int .i64 0, .int .i64 0, .int .i64 0, .int .i64 0, .int .i64 0, .slice none 0 0] 24)).alloc (by simp) (.cells #[.int .i64 0, .int .i64 0, .int .i64 0, .int .i64 0, .int .i64 0, .int .i64 0, .slice none 0 0] 24))))
  have hD := (h.alloc (.cells #[.int .i64 0, .int .i64 0, .int .i64 0, .int .i64 0, .int .i64 0, .int .i64 0, .slice none 0 0] 24)).alloc (.cells #[.int .i64 0, .int .i64 0, .int .i64 0, .int .i64 0, .int .i64 0, .int .i64 0, .slice none 0 0] 24)
  have b6 : ((w.alloc (.cells #[.int .i64 0, .int .i64 0, .int .i64 0, .int .i64 0, .int .i64 0, .int .i64 0, .slice none 0 0] 24)).alloc (.cells #[.int .i64 0, .int .i64 0, .int .i64 0, .int .i64 0, .int .i64 0, .int .i64 0, .slice none 0 0] 24)).heap[w.heap.size]? = some (.cells #[.int .i64 0, .int .i64 0, .int .i64 0, .int .i64 0, .int .i64 0, .int .i64 0, .slice none 0 0] 24 (0, 0)) := by
    rw [← heap_alloc_new w (.cells #[.int .i64 0, .int .i64 0, .int .i64 0, .int .i64 0, .int .i64 0, .int .i64 0, .slice none 0 0] 24)]
    exact ((Below.refl (w.alloc (.cells #[.int .i64 0, .int .i64 0, .int .i64 0, .int .i64 0, .int .i64 0, .int .i64 0, .slice none 0 0] 24)).heap.size _).alloc (Nat.le_refl _) _).block w.heap.size (by simp)
  have b7 : ((w.alloc (.cells #[.int .i64 0, .int .i64 0, .int .i64 0, .int .i64 0, .int .i64 0, .int .i64 0, .slice none 0 0] 24)).alloc (.cells #[.int .i64 0, .int .i64 0, .int .i64 0, .int .i64 0, .int .i64 0, .int .i64 0, .slice none 0 0] 24)).heap[w.heap.size + 1]? = some (.cells #[.int .i64 0, .int .i64 0, .int .i64 0, .int .i64 0, .int .i64 0, .int .i64 0, .slice none 0 0] 24 (0, 0)) := by
    have h := heap_alloc_new (w.alloc (.cells #[.int .i64 0, .int .i64 0, .int .i64 0, .int .i64 0, .int .i64 0, .int .i64 0, .slice none 0 0] 24)) (.cells #[.int .i64 0, .int .i64 0, .int .i64 0, .int .i64 0, .int .i64 0, .int .i64 0, .slice none 0 0] 24)
    rwa [show (w.alloc (.cells #[.int .i64 0, .int .i64 0, .int .i64 0, .int .i64 0, .int .i64 0, .int .i64 0, .slice none 0 0] 24)).heap.size = w.heap.size + 1 from by simp] at h
  generalize hW0 : (w.alloc (.cells #[.int .i64 0, .int .i64 0, .int .i64 0, .int .i64 0, .int .i64 0, .int .i64 0, .slice none 0 0] 24)).alloc (.cells #[.int .i64 0, .int .i64 0, .int .i64 0, .int .i64 0, .int .i64 0, .int .i64 0, .slice none 0 0] 24) = W0 at *
  have HW0 := Lib.hid hW0
  have x0 := hD.c0
  have HI := Lib.hid (rByte_any g c 0 A l W0 hD.rd)
  rw [E1.out] at HI
  have HD := Lib.hid hD
  have HT := Lib.hid hT
  have HB6 := Lib.hid b6
  have HB7 := Lib.hid b7
  clear h hD hT b6 b7 hW0
  go_enter Try.func18, Try.ntmps18
  go_upto_region 2 with fail
  rw [HW0.out]
  go_wp2_with fail
  refine HI.out.mono ?_
  rintro e w1 ⟨rfl, hr1, hg1⟩
  have hD := HD.out.read hr1 hg1
  have hT := HT.out.trans (Two.of_grown (d := d) hg1)
  have b6 := (hg1.block w.heap.size (Array.getElem?_eq_some_iff.1 HB6.out).1 (fun e => by injection e with e; omega)).trans HB6.out
  have b7 := (hg1.block (w.heap.size + 1) (Array.getElem?_eq_some_iff.1 HB7.out).1 (fun e => by injection e with e; omega)).trans HB7.out
  clear hr1 hg1 HI x0 HD HT HB6 HB7 HW0
  have HMU := Lib.hid (must_ok d g c 1 A l w1 hD)
  have HT := Lib.hid hT
  have HB6 := Lib.hid b6
  have HB7 := Lib.hid b7
  clear hD hT b6 b7
  go_wp2_with fail
  refine HMU.out.mono ?_
  rintro e w2 ⟨rfl, hD, hT3⟩
  have hT := HT.out.trans hT3
  have b6 := (hT3.block w.heap.size (Array.getElem?_eq_some_iff.1 HB6.out).1 (by omega) (by omega)).trans HB6.out
  have b7 := (hT3.block (w.heap.size + 1) (Array.getElem?_eq_some_iff.1 HB7.out).1 (by omega) (by omega)).trans HB7.out
  clear hT3 HMU HT HB6 HB7
  have x0 := hD.c0
  have HI := Lib.hid (rByte_any g c 1 A l w2 hD.rd)
  rw [E2.out] at HI
  have HD := Lib.hid hD
  have HT := Lib.hid hT
  have HB6 := Lib.hid b6
  have HB7 := Lib.hid b7
  clear hD hT b6 b7
  go_wp2_with fail
  refine HI.out.mono ?_
  rintro e w3 ⟨rfl, hr1, hg1⟩
  have hD := HD.out.read hr1 hg1
  have hT := HT.out.trans (Two.of_grown (d := d) hg1)
  have b6 := (hg1.block w.heap.size (Array.getElem?_eq_some_iff.1 HB6.out).1 (fun e => by injection e with e; omega)).trans HB6.out
  have b7 := (hg1.block (w.heap.size + 1) (Array.getElem?_eq_some_iff.1 HB7.out).1 (fun e => by injection e with e; omega)).trans HB7.out
  clear hr1 hg1 HI x0 HD HT HB6 HB7
  have y4 : w3.cell? ⟨w.heap.size + 1, 4, none⟩ = some (.int .i64 0) := cell_of_row w3 _ 4 _ _ _ b7
  have f4 : w3.frozen? ⟨w.heap.size + 1, 4, none⟩ = false := frozen_of_row w3 _ 4 _ _ b7
  have hDs := hD.set (b := w.heap.size + 1) (by omega) 4 (.int .i64 (kind : Int))
  have hTs := hT.new (i := 4) (b := w.heap.size + 1) (.int .i64 (kind : Int)) (by omega)
  have b6s : (w3.setCell ⟨w.heap.size + 1, 4, none⟩ (.int .i64 (kind : Int))).heap[w.heap.size]? = _ := ((grown_set w3 (w.heap.size + 1) 4 (.int .i64 (kind : Int))).block w.heap.size (Array.getElem?_eq_some_iff.1 b6).1 (fun e => by injection e with e; omega)).trans b6
  have b7s : (w3.setCell ⟨w.heap.size + 1, 4, none⟩ (.int .i64 (kind : Int))).heap[w.heap.size + 1]? = some (.cells #[.int .i64 0, .int .i64 0, .int .i64 0, .int .i64 0, .int .i64 (kind : Int), .int .i64 0, .slice none 0 0] 24 (0, 0)) := by rw [heap_setCell_same w3 _ 4 _ _ _ b7]; rfl
  have HD := Lib.hid hDs
  have HT := Lib.hid hTs
  have HB6 := Lib.hid b6s
  have HB7 := Lib.hid b7s
  clear hD hT b6 b7 hDs hTs b6s b7s
  have HU := Lib.hid (upTo_ok d g c 2 p3 base 1099511627776 A l _ HD.out E3.out (by omega) (by omega))
  go_wp2_with fail
  generalize w3.setCell ⟨w.heap.size + 1, 4, none⟩ (.int .i64 (kind : Int)) = W3 at *
  refine HU.out.mono ?_
  rintro e w4 ⟨rfl, hD, hT3⟩
  have hT := HT.out.trans hT3
  have b6 := (hT3.block w.heap.size (Array.getElem?_eq_some_iff.1 HB6.out).1 (by omega) (by omega)).trans HB6.out
  have b7 := (hT3.block (w.heap.size + 1) (Array.getElem?_eq_some_iff.1 HB7.out).1 (by omega) (by omega)).trans HB7.out
  clear hT3 HU HD HT HB6 HB7 y4 f4
  have y0 : w4.cell? ⟨w.heap.size + 1, 0, none⟩ = some (.int .i64 0) := cell_of_row w4 _ 0 _ _ _ b7
  have f0 : w4.frozen? ⟨w.heap.size + 1, 0, none⟩ = false := frozen_of_row w4 _ 0 _ _ b7
  have hDs := hD.set (b := w.heap.size + 1) (by omega) 0 (.int .i64 (base : Int))
  have hTs := hT.new (i := 0) (b := w.heap.size + 1) (.int .i64 (base : Int)) (by omega)
  have b6s : (w4.setCell ⟨w.heap.size + 1, 0, none⟩ (.int .i64 (base : Int))).heap[w.heap.size]? = _ := ((grown_set w4 (w.heap.size + 1) 0 (.int .i64 (base : Int))).block w.heap.size (Array.getElem?_eq_some_iff.1 b6).1 (fun e => by injection e with e; omega)).trans b6
  have b7s : (w4.setCell ⟨w.heap.size + 1, 0, none⟩ (.int .i64 (base : Int))).heap[w.heap.size + 1]? = some (.cells #[.int .i64 (base : Int), .int .i64 0, .int .i64 0, .int .i64 0, .int .i64 (kind : Int), .int .i64 0, .slice none 0 0] 24 (0, 0)) := by rw [heap_setCell_same w4 _ 0 _ _ _ b7]; rfl
  have HD := Lib.hid hDs
  have HT := Lib.hid hTs
  have HB6 := Lib.hid b6s
  have HB7 := Lib.hid b7s
  clear hD hT b6 b7 hDs hTs b6s b7s
  have HU := Lib.hid (upTo_ok d g c p3 p4 pid 1048576 A l _ HD.out E4.out (by omega) (by omega))
  go_wp2_with fail
  generalize w4.setCell ⟨w.heap.size + 1, 0, none⟩ (.int .i64 (base : Int)) = W4 at *
  refine HU.out.mono ?_
  rintro e w5 ⟨rfl, hD, hT3⟩
  have hT := HT.out.trans hT3
  have b6 := (hT3.block w.heap.size (Array.getElem?_eq_some_iff.1 HB6.out).1 (by omega) (by omega)).trans HB6.out
  have b7 := (hT3.block (w.heap.size + 1) (Array.getElem?_eq_some_iff.1 HB7.out).1 (by omega) (by omega)).trans HB7.out
  clear hT3 HU HD HT HB6 HB7 y0 f0
  have y1 : w5.cell? ⟨w.heap.size + 1, 1, none⟩ = some (.int .i64 0) := cell_of_row w5 _ 1 _ _ _ b7
  have f1 : w5.frozen? ⟨w.heap.size + 1, 1, none⟩ = false := frozen_of_row w5 _ 1 _ _ b7
  have hDs := hD.set (b := w.heap.size + 1) (by omega) 1 (.int .i64 (pid : Int))
  have hTs := hT.new (i := 1) (b := w.heap.size + 1) (.int .i64 (pid : Int)) (by omega)
  have b6s : (w5.setCell ⟨w.heap.size + 1, 1, none⟩ (.int .i64 (pid : Int))).heap[w.heap.size]? = _ := ((grown_set w5 (w.heap.size + 1) 1 (.int .i64 (pid : Int))).block w.heap.size (Array.getElem?_eq_some_iff.1 b6).1 (fun e => by injection e with e; omega)).trans b6
  have b7s : (w5.setCell ⟨w.heap.size + 1, 1, none⟩ (.int .i64 (pid : Int))).heap[w.heap.size + 1]? = some (.cells #[.int .i64 (base : Int), .int .i64 (pid : Int), .int .i64 0, .int .i64 0, .int .i64 (kind : Int), .int .i64 0, .slice none 0 0] 24 (0, 0)) := by rw [heap_setCell_same w5 _ 1 _ _ _ b7]; rfl
  have HD := Lib.hid hDs
  have HT := Lib.hid hTs
  have HB6 := Lib.hid b6s
  have HB7 := Lib.hid b7s
  clear hD hT b6 b7 hDs hTs b6s b7s
  have y1s : (w5.setCell ⟨w.heap.size + 1, 1, none⟩ (.int .i64 (pid : Int))).cell? ⟨w.heap.size + 1, 1, none⟩ = some (.int .i64 (pid : Int)) := cell_of_row _ _ 1 _ _ _ HB7.out
  by_cases hp0 : pid = 0
  · obtain ⟨he, hs, hp6⟩ := E5.out hp0
    subst he hs hp0
    rw [hp6] at E7
    clear E5 E6 hp6
    have HU := Lib.hid (upTo_ok d g c p4 q time 1099511627776 A l _ HD.out E7.out (by omega) (by omega))
    go_wp2_with fail
    generalize w5.setCell ⟨w.heap.size + 1, 1, none⟩ (.int .i64 ((0 : Nat) : Int)) = W5 at *
    refine HU.out.mono ?_
    rintro e w6 ⟨rfl, hD, hT3⟩
    have hT := HT.out.trans hT3
    have b6 := (hT3.block w.heap.size (Array.getElem?_eq_some_iff.1 HB6.out).1 (by omega) (by omega)).trans HB6.out
    have b7 := (hT3.block (w.heap.size + 1) (Array.getElem?_eq_some_iff.1 HB7.out).1 (by omega) (by omega)).trans HB7.out
    clear hT3 HU HD HT HB6 HB7 y1 f1
    have y5 : w6.cell? ⟨w.heap.size + 1, 5, none⟩ = some (.int .i64 0) := cell_of_row w6 _ 5 _ _ _ b7
    have f5 : w6.frozen? ⟨w.heap.size + 1, 5, none⟩ = false := frozen_of_row w6 _ 5 _ _ b7
    have hDs := hD.set (b := w.heap.size + 1) (by omega) 5 (.int .i64 (time : Int))
    have hTs := hT.new (i := 5) (b := w.heap.size + 1) (.int .i64 (time : Int)) (by omega)
    have b6s : (w6.setCell ⟨w.heap.size + 1, 5, none⟩ (.int .i64 (time : Int))).heap[w.heap.size]? = _ := ((grown_set w6 (w.heap.size + 1) 5 (.int .i64 (time : Int))).block w.heap.size (Array.getElem?_eq_some_iff.1 b6).1 (fun e => by injection e with e; omega)).trans b6
    have b7s : (w6.setCell ⟨w.heap.size + 1, 5, none⟩ (.int .i64 (time : Int))).heap[w.heap.size + 1]? = some (.cells #[.int .i64 (base : Int), .int .i64 ((0 : Nat) : Int), .int .i64 0, .int .i64 0, .int .i64 (kind : Int), .int .i64 (time : Int), .slice none 0 0] 24 (0, 0)) := by rw [heap_setCell_same w6 _ 5 _ _ _ b7]; rfl
    have HD := Lib.hid hDs
    have HT := Lib.hid hTs
    have HB6 := Lib.hid b6s
    have HB7 := Lib.hid b7s
    clear hD hT b6 b7 hDs hTs b6s b7s
    have m0 : (w6.setCell ⟨w.heap.size + 1, 5, none⟩ (.int .i64 (time : Int))).cell? ⟨w.heap.size + 1, 0, none⟩ = some (.int .i64 (base : Int)) := cell_of_row _ _ 0 _ _ _ HB7.out
    have m1 : (w6.setCell ⟨w.heap.size + 1, 5, none⟩ (.int .i64 (time : Int))).cell? ⟨w.heap.size + 1, 1, none⟩ = some (.int .i64 ((0 : Nat) : Int)) := cell_of_row _ _ 1 _ _ _ HB7.out
    have m2 : (w6.setCell ⟨w.heap.size + 1, 5, none⟩ (.int .i64 (time : Int))).cell? ⟨w.heap.size + 1, 2, none⟩ = some (.int .i64 0) := cell_of_row _ _ 2 _ _ _ HB7.out
    have m3 : (w6.setCell ⟨w.heap.size + 1, 5, none⟩ (.int .i64 (time : Int))).cell? ⟨w.heap.size + 1, 3, none⟩ = some (.int .i64 0) := cell_of_row _ _ 3 _ _ _ HB7.out
    have m4 : (w6.setCell ⟨w.heap.size + 1, 5, none⟩ (.int .i64 (time : Int))).cell? ⟨w.heap.size + 1, 4, none⟩ = some (.int .i64 (kind : Int)) := cell_of_row _ _ 4 _ _ _ HB7.out
    have m5 : (w6.setCell ⟨w.heap.size + 1, 5, none⟩ (.int .i64 (time : Int))).cell? ⟨w.heap.size + 1, 5, none⟩ = some (.int .i64 (time : Int)) := cell_of_row _ _ 5 _ _ _ HB7.out
    have m6 : (w6.setCell ⟨w.heap.size + 1, 5, none⟩ (.int .i64 (time : Int))).cell? ⟨w.heap.size + 1, 6, none⟩ = some (.slice none 0 0) := cell_of_row _ _ 6 _ _ _ HB7.out
    go_wp2_with fail
    generalize w6.setCell ⟨w.heap.size + 1, 5, none⟩ (.int .i64 (time : Int)) = W6 at *
    refine (HMK.out _ _ _ _ _ _ _ _ _).mono ?_
    rintro e w7 ⟨rfl, hbm⟩
    have hD := HD.out.below hbm HD.out.dlt
    have hT := HT.out.trans (Two.of_below (g := g) (d := d) hbm)
    have b6 := (hbm.block w.heap.size (Array.getElem?_eq_some_iff.1 HB6.out).1).trans HB6.out
    have b7 := (hbm.block (w.heap.size + 1) (Array.getElem?_eq_some_iff.1 HB7.out).1).trans HB7.out
    clear hbm HD HT HB6 HB7
    clear y5 f5 m0 m1 m2 m3 m4 m5 m6
    cases mk with
    | true =>
      obtain ⟨rfl, rfl⟩ := HL0.out (by first | rfl | trivial)
      clear HL0 HL1 HMK
      have m0 : w7.cell? ⟨w.heap.size + 1, 0, none⟩ = some (.int .i64 (base : Int)) := cell_of_row w7 _ 0 _ _ _ b7
      have m1 : w7.cell? ⟨w.heap.size + 1, 1, none⟩ = some (.int .i64 ((0 : Nat) : Int)) := cell_of_row w7 _ 1 _ _ _ b7
      have m2 : w7.cell? ⟨w.heap.size + 1, 2, none⟩ = some (.int .i64 0) := cell_of_row w7 _ 2 _ _ _ b7
      have m3 : w7.cell? ⟨w.heap.size + 1, 3, none⟩ = some (.int .i64 0) := cell_of_row w7 _ 3 _ _ _ b7
      have m4 : w7.cell? ⟨w.heap.size + 1, 4, none⟩ = some (.int .i64 (kind : Int)) := cell_of_row w7 _ 4 _ _ _ b7
      have m5 : w7.cell? ⟨w.heap.size + 1, 5, none⟩ = some (.int .i64 (time : Int)) := cell_of_row w7 _ 5 _ _ _ b7
      have m6 : w7.cell? ⟨w.heap.size + 1, 6, none⟩ = some (.slice none 0 0) := cell_of_row w7 _ 6 _ _ _ b7
      have d0 : w7.cell? ⟨w.heap.size, 0, none⟩ = some (.int .i64 0) := cell_of_row w7 _ 0 _ _ _ b6
      have h0 : w7.frozen? ⟨w.heap.size, 0, none⟩ = false := frozen_of_row w7 _ 0 _ _ b6
      have d1 : w7.cell? ⟨w.heap.size, 1, none⟩ = some (.int .i64 0) := cell_of_row w7 _ 1 _ _ _ b6
      have h1 : w7.frozen? ⟨w.heap.size, 1, none⟩ = false := frozen_of_row w7 _ 1 _ _ b6
      have d2 : w7.cell? ⟨w.heap.size, 2, none⟩ = some (.int .i64 0) := cell_of_row w7 _ 2 _ _ _ b6
      have h2 : w7.frozen? ⟨w.heap.size, 2, none⟩ = false := frozen_of_row w7 _ 2 _ _ b6
      have d3 : w7.cell? ⟨w.heap.size, 3, none⟩ = some (.int .i64 0) := cell_of_row w7 _ 3 _ _ _ b6
      have h3 : w7.frozen? ⟨w.heap.size, 3, none⟩ = false := frozen_of_row w7 _ 3 _ _ b6
      have d4 : w7.cell? ⟨w.heap.size, 4, none⟩ = some (.int .i64 0) := cell_of_row w7 _ 4 _ _ _ b6
      have h4 : w7.frozen? ⟨w.heap.size, 4, none⟩ = false := frozen_of_row w7 _ 4 _ _ b6
      have d5 : w7.cell? ⟨w.heap.size, 5, none⟩ = some (.int .i64 0) := cell_of_row w7 _ 5 _ _ _ b6
      have h5 : w7.frozen? ⟨w.heap.size, 5, none⟩ = false := frozen_of_row w7 _ 5 _ _ b6
      have d6 : w7.cell? ⟨w.heap.size, 6, none⟩ = some (.slice none 0 0) := cell_of_row w7 _ 6 _ _ _ b6
      have h6 : w7.frozen? ⟨w.heap.size, 6, none⟩ = false := frozen_of_row w7 _ 6 _ _ b6
      have z7 := (Array.getElem?_eq_some_iff.1 b7).1
      have HD := Lib.hid hD
      have HT := Lib.hid hT
      clear hD hT b6 b7
      have HC1 : Hid (([] : List Rec).length ≤ 0) := Nat.le_refl _
      have HC2 : Hid (0 ≤ maxLen) := Nat.zero_le _
      have HC3 : Hid (Rcs w7 w7.heap.size none ([] : List Rec).length []) := Rcs.nil_
      have HC4 : Hid (∀ p : Addr, (none : Option Addr) = some p → w.heap.size + 2 ≤ p.block) := fun p h => by cases h
      go_wp2_with fail
      refine bodyPost_ret (v := .agg #[.int .i64 (base : Int), .int .i64 ((0 : Nat) : Int), .int .i64 0, .int .i64 0, .int .i64 (kind : Int), .int .i64 (time : Int), .slice none 0 0]) (by simp [results, Try.results18, go_sem, d0, d1, d2, d3, d4, d5, d6]) rfl ?_
      refine ⟨_, _, rfl, HC1.out, HC2.out, ?_, fun p hp => by have := HC4.out p hp; omega, ?_, ?_⟩
      · refine Rcs.wider (B := w7.heap.size) ?_ (by simp)
        refine ⟨HC3.out.len, HC3.out.lies.far_ fun p hp i => ?_, HC3.out.ok⟩
        have hpb := HC4.out p hp
        have hpi := add_block p i
        have n0 : ¬ w.heap.size = (p.add i).block := by rw [hpi]; omega
        have n1 : ¬ w.heap.size + 1 = (p.add i).block := by rw [hpi]; omega
        simp only [World.cell?_setCell_far, ne_eq, n0, n1, not_false_eq_true]
      · exact (((((((HD.out.set (b := w.heap.size) (by omega) 0 _).set (b := w.heap.size) (by omega) 1 _).set (b := w.heap.size) (by omega) 2 _).set (b := w.heap.size) (by omega) 3 _).set (b := w.heap.size) (by omega) 4 _).set (b := w.heap.size) (by omega) 5 _).set (b := w.heap.size) (by omega) 6 _)
      · exact (((((((HT.out.new (b := w.heap.size) _ (Nat.le_refl _)).new (b := w.heap.size) _ (Nat.le_refl _)).new (b := w.heap.size) _ (Nat.le_refl _)).new (b := w.heap.size) _ (Nat.le_refl _)).new (b := w.heap.size) _ (Nat.le_refl _)).new (b := w.heap.size) _ (Nat.le_refl _)).new (b := w.heap.size) _ (Nat.le_refl _))
    | false =>
      have HR := Lib.hid (HL1.out (by first | rfl | trivial) _ hD)
      have m5 : w7.cell? ⟨w.heap.size + 1, 5, none⟩ = some (.int .i64 (time : Int)) := cell_of_row w7 _ 5 _ _ _ b7
      have HD := Lib.hid hD
      have HT := Lib.hid hT
      have HB6 := Lib.hid b6
      have HB7 := Lib.hid b7
      clear hD hT b6 b7
      go_wp2_with fail
      refine HR.out.mono ?_
      rintro e w8 ⟨A', c', rfl, hc1, hc2, hc3, hc4, hD, hT3⟩
      have hT := HT.out.trans hT3
      have b6 := (hT3.block w.heap.size (Array.getElem?_eq_some_iff.1 HB6.out).1 (by omega) (by omega)).trans HB6.out
      have b7 := (hT3.block (w.heap.size + 1) (Array.getElem?_eq_some_iff.1 HB7.out).1 (by omega) (by omega)).trans HB7.out
      have z8 := (Array.getElem?_eq_some_iff.1 HB7.out).1
      have HC1 := Lib.hid hc1
      have HC2 := Lib.hid hc2
      have HC3 := Lib.hid hc3
      have HC4 : Hid (∀ p : Addr, A' = some p → w.heap.size + 2 ≤ p.block) := fun p hp => by have := hc4 p hp; omega
      clear hT3 HR HD HT HB6 HB7 m5 hc1 hc2 hc3 hc4 HL0 HL1 HMK
      have m0 : w8.cell? ⟨w.heap.size + 1, 0, none⟩ = some (.int .i64 (base : Int)) := cell_of_row w8 _ 0 _ _ _ b7
      have m1 : w8.cell? ⟨w.heap.size + 1, 1, none⟩ = some (.int .i64 ((0 : Nat) : Int)) := cell_of_row w8 _ 1 _ _ _ b7
      have m2 : w8.cell? ⟨w.heap.size + 1, 2, none⟩ = some (.int .i64 0) := cell_of_row w8 _ 2 _ _ _ b7
      have m3 : w8.cell? ⟨w.heap.size + 1, 3, none⟩ = some (.int .i64 0) := cell_of_row w8 _ 3 _ _ _ b7
      have m4 : w8.cell? ⟨w.heap.size + 1, 4, none⟩ = some (.int .i64 (kind : Int)) := cell_of_row w8 _ 4 _ _ _ b7
      have m5 : w8.cell? ⟨w.heap.size + 1, 5, none⟩ = some (.int .i64 (time : Int)) := cell_of_row w8 _ 5 _ _ _ b7
      have m6 : w8.cell? ⟨w.heap.size + 1, 6, none⟩ = some (.slice none 0 0) := cell_of_row w8 _ 6 _ _ _ b7
      have f6 : w8.frozen? ⟨w.heap.size + 1, 6, none⟩ = false := frozen_of_row w8 _ 6 _ _ b7
      have d0 : w8.cell? ⟨w.heap.size, 0, none⟩ = some (.int .i64 0) := cell_of_row w8 _ 0 _ _ _ b6
      have h0 : w8.frozen? ⟨w.heap.size, 0, none⟩ = false := frozen_of_row w8 _ 0 _ _ b6
      have d1 : w8.cell? ⟨w.heap.size, 1, none⟩ = some (.int .i64 0) := cell_of_row w8 _ 1 _ _ _ b6
      have h1 : w8.frozen? ⟨w.heap.size, 1, none⟩ = false := frozen_of_row w8 _ 1 _ _ b6
      have d2 : w8.cell? ⟨w.heap.size, 2, none⟩ = some (.int .i64 0) := cell_of_row w8 _ 2 _ _ _ b6
      have h2 : w8.frozen? ⟨w.heap.size, 2, none⟩ = false := frozen_of_row w8 _ 2 _ _ b6
      have d3 : w8.cell? ⟨w.heap.size, 3, none⟩ = some (.int .i64 0) := cell_of_row w8 _ 3 _ _ _ b6
      have h3 : w8.frozen? ⟨w.heap.size, 3, none⟩ = false := frozen_of_row w8 _ 3 _ _ b6
      have d4 : w8.cell? ⟨w.heap.size, 4, none⟩ = some (.int .i64 0) := cell_of_row w8 _ 4 _ _ _ b6
      have h4 : w8.frozen? ⟨w.heap.size, 4, none⟩ = false := frozen_of_row w8 _ 4 _ _ b6
      have d5 : w8.cell? ⟨w.heap.size, 5, none⟩ = some (.int .i64 0) := cell_of_row w8 _ 5 _ _ _ b6
      have h5 : w8.frozen? ⟨w.heap.size, 5, none⟩ = false := frozen_of_row w8 _ 5 _ _ b6
      have d6 : w8.cell? ⟨w.heap.size, 6, none⟩ = some (.slice none 0 0) := cell_of_row w8 _ 6 _ _ _ b6
      have h6 : w8.frozen? ⟨w.heap.size, 6, none⟩ = false := frozen_of_row w8 _ 6 _ _ b6
      have z7 := (Array.getElem?_eq_some_iff.1 b7).1
      have HD := Lib.hid (hD.set (b := w.heap.size + 1) (by omega) 6 (.slice A' L.length c'))
      have HT := Lib.hid (hT.new (i := 6) (b := w.heap.size + 1) (.slice A' L.length c') (by omega))
      clear hD hT b6 b7
      go_wp2_with fail
      refine bodyPost_ret (v := .agg #[.int .i64 (base : Int), .int .i64 ((0 : Nat) : Int), .int .i64 0, .int .i64 0, .int .i64 (kind : Int), .int .i64 (time : Int), .slice A' L.length c']) (by simp [results, Try.results18, go_sem, d0, d1, d2, d3, d4, d5, d6]) rfl ?_
      refine ⟨_, _, rfl, HC1.out, HC2.out, ?_, fun p hp => by have := HC4.out p hp; omega, ?_, ?_⟩
      · refine Rcs.wider (B := w8.heap.size) ?_ (by simp)
        refine ⟨HC3.out.len, HC3.out.lies.far_ fun p hp i => ?_, HC3.out.ok⟩
        have hpb := HC4.out p hp
        have hpi := add_block p i
        have n0 : ¬ w.heap.size = (p.add i).block := by rw [hpi]; omega
        have n1 : ¬ w.heap.size + 1 = (p.add i).block := by rw [hpi]; omega
        simp only [World.cell?_setCell_far, ne_eq, n0, n1, not_false_eq_true]
      · exact (((((((HD.out.set (b := w.heap.size) (by omega) 0 _).set (b := w.heap.size) (by omega) 1 _).set (b := w.heap.size) (by omega) 2 _).set (b := w.heap.size) (by omega) 3 _).set (b := w.heap.size) (by omega) 4 _).set (b := w.heap.size) (by omega) 5 _).set (b := w.heap.size) (by omega) 6 _)
      · exact (((((((HT.out.new (b := w.heap.size) _ (Nat.le_refl _)).new (b := w.heap.size) _ (Nat.le_refl _)).new (b := w.heap.size) _ (Nat.le_refl _)).new (b := w.heap.size) _ (Nat.le_refl _)).new (b := w.heap.size) _ (Nat.le_refl _)).new (b := w.heap.size) _ (Nat.le_refl _)).new (b := w.heap.size) _ (Nat.le_refl _))
  · obtain ⟨e5, e6a, e6b⟩ := E6.out hp0
    have hpne : ((pid : Int) != 0) = true := by rw [bne_iff_ne]; omega
    have E5 := Lib.hid e5
    have E6A := Lib.hid e6a
    have E6B := Lib.hid e6b
    clear e5 e6a e6b
    have HU := Lib.hid (upTo_ok d g c p4 p5 epoch 32767 A l _ HD.out E5.out (by omega) (by omega))
    go_wp2_with fail
    generalize w5.setCell ⟨w.heap.size + 1, 1, none⟩ (.int .i64 (pid : Int)) = W5 at *
    refine HU.out.mono ?_
    rintro e w6 ⟨rfl, hD, hT3⟩
    have hT := HT.out.trans hT3
    have b6 := (hT3.block w.heap.size (Array.getElem?_eq_some_iff.1 HB6.out).1 (by omega) (by omega)).trans HB6.out
    have b7 := (hT3.block (w.heap.size + 1) (Array.getElem?_eq_some_iff.1 HB7.out).1 (by omega) (by omega)).trans HB7.out
    clear hT3 HU HD HT HB6 HB7 y1 f1
    clear y1s
    have y2 : w6.cell? ⟨w.heap.size + 1, 2, none⟩ = some (.int .i64 0) := cell_of_row w6 _ 2 _ _ _ b7
    have f2 : w6.frozen? ⟨w.heap.size + 1, 2, none⟩ = false := frozen_of_row w6 _ 2 _ _ b7
    have hDs := hD.set (b := w.heap.size + 1) (by omega) 2 (.int .i64 (epoch : Int))
    have hTs := hT.new (i := 2) (b := w.heap.size + 1) (.int .i64 (epoch : Int)) (by omega)
    have b6s : (w6.setCell ⟨w.heap.size + 1, 2, none⟩ (.int .i64 (epoch : Int))).heap[w.heap.size]? = _ := ((grown_set w6 (w.heap.size + 1) 2 (.int .i64 (epoch : Int))).block w.heap.size (Array.getElem?_eq_some_iff.1 b6).1 (fun e => by injection e with e; omega)).trans b6
    have b7s : (w6.setCell ⟨w.heap.size + 1, 2, none⟩ (.int .i64 (epoch : Int))).heap[w.heap.size + 1]? = some (.cells #[.int .i64 (base : Int), .int .i64 (pid : Int), .int .i64 (epoch : Int), .int .i64 0, .int .i64 (kind : Int), .int .i64 0, .slice none 0 0] 24 (0, 0)) := by rw [heap_setCell_same w6 _ 2 _ _ _ b7]; rfl
    have HD := Lib.hid hDs
    have HT := Lib.hid hTs
    have HB6 := Lib.hid b6s
    have HB7 := Lib.hid b7s
    clear hD hT b6 b7 hDs hTs b6s b7s
    have m0 : (w6.setCell ⟨w.heap.size + 1, 2, none⟩ (.int .i64 (epoch : Int))).cell? ⟨w.heap.size + 1, 0, none⟩ = some (.int .i64 (base : Int)) := cell_of_row _ _ 0 _ _ _ HB7.out
    have m1 : (w6.setCell ⟨w.heap.size + 1, 2, none⟩ (.int .i64 (epoch : Int))).cell? ⟨w.heap.size + 1, 1, none⟩ = some (.int .i64 (pid : Int)) := cell_of_row _ _ 1 _ _ _ HB7.out
    have m2 : (w6.setCell ⟨w.heap.size + 1, 2, none⟩ (.int .i64 (epoch : Int))).cell? ⟨w.heap.size + 1, 2, none⟩ = some (.int .i64 (epoch : Int)) := cell_of_row _ _ 2 _ _ _ HB7.out
    have m3 : (w6.setCell ⟨w.heap.size + 1, 2, none⟩ (.int .i64 (epoch : Int))).cell? ⟨w.heap.size + 1, 3, none⟩ = some (.int .i64 0) := cell_of_row _ _ 3 _ _ _ HB7.out
    have m4 : (w6.setCell ⟨w.heap.size + 1, 2, none⟩ (.int .i64 (epoch : Int))).cell? ⟨w.heap.size + 1, 4, none⟩ = some (.int .i64 (kind : Int)) := cell_of_row _ _ 4 _ _ _ HB7.out
    have m5 : (w6.setCell ⟨w.heap.size + 1, 2, none⟩ (.int .i64 (epoch : Int))).cell? ⟨w.heap.size + 1, 5, none⟩ = some (.int .i64 0) := cell_of_row _ _ 5 _ _ _ HB7.out
    have m6 : (w6.setCell ⟨w.heap.size + 1, 2, none⟩ (.int .i64 (epoch : Int))).cell? ⟨w.heap.size + 1, 6, none⟩ = some (.slice none 0 0) := cell_of_row _ _ 6 _ _ _ HB7.out
    go_wp2_with fail
    generalize w6.setCell ⟨w.heap.size + 1, 2, none⟩ (.int .i64 (epoch : Int)) = W6 at *
    refine (HMK.out _ _ _ _ _ _ _ _ _).mono ?_
    rintro e w7 ⟨rfl, hbm⟩
    have hD := HD.out.below hbm HD.out.dlt
    have hT := HT.out.trans (Two.of_below (g := g) (d := d) hbm)
    have b6 := (hbm.block w.heap.size (Array.getElem?_eq_some_iff.1 HB6.out).1).trans HB6.out
    have b7 := (hbm.block (w.heap.size + 1) (Array.getElem?_eq_some_iff.1 HB7.out).1).trans HB7.out
    clear hbm HD HT HB6 HB7
    clear y2 f2 m0 m1 m2 m3 m4 m5 m6
    have HD := Lib.hid hD
    have HT := Lib.hid hT
    have HB6 := Lib.hid b6
    have HB7 := Lib.hid b7
    clear hD hT b6 b7
    by_cases hmt : mk = true
    · obtain ⟨hs, hp6⟩ := E6A.out hmt
      subst hs hmt
      rw [hp6] at E7
      clear hp6 E6A E6B
      have HU := Lib.hid (upTo_ok d g c p5 q time 1099511627776 A l _ HD.out E7.out (by omega) (by omega))
      go_wp2_with fail
      refine HU.out.mono ?_
      rintro e w8 ⟨rfl, hD, hT3⟩
      have hT := HT.out.trans hT3
      have b6 := (hT3.block w.heap.size (Array.getElem?_eq_some_iff.1 HB6.out).1 (by omega) (by omega)).trans HB6.out
      have b7 := (hT3.block (w.heap.size + 1) (Array.getElem?_eq_some_iff.1 HB7.out).1 (by omega) (by omega)).trans HB7.out
      clear hT3 HU HD HT HB6 HB7
      have y5 : w8.cell? ⟨w.heap.size + 1, 5, none⟩ = some (.int .i64 0) := cell_of_row w8 _ 5 _ _ _ b7
      have f5 : w8.frozen? ⟨w.heap.size + 1, 5, none⟩ = false := frozen_of_row w8 _ 5 _ _ b7
      have hDs := hD.set (b := w.heap.size + 1) (by omega) 5 (.int .i64 (time : Int))
      have hTs := hT.new (i := 5) (b := w.heap.size + 1) (.int .i64 (time : Int)) (by omega)
      have b6s : (w8.setCell ⟨w.heap.size + 1, 5, none⟩ (.int .i64 (time : Int))).heap[w.heap.size]? = _ := ((grown_set w8 (w.heap.size + 1) 5 (.int .i64 (time : Int))).block w.heap.size (Array.getElem?_eq_some_iff.1 b6).1 (fun e => by injection e with e; omega)).trans b6
      have b7s : (w8.setCell ⟨w.heap.size + 1, 5, none⟩ (.int .i64 (time : Int))).heap[w.heap.size + 1]? = some (.cells #[.int .i64 (base : Int), .int .i64 (pid : Int), .int .i64 (epoch : Int), .int .i64 0, .int .i64 (kind : Int), .int .i64 (time : Int), .slice none 0 0] 24 (0, 0)) := by rw [heap_setCell_same w8 _ 5 _ _ _ b7]; rfl
      have HD := Lib.hid hDs
      have HT := Lib.hid hTs
      have HB6 := Lib.hid b6s
      have HB7 := Lib.hid b7s
      clear hD hT b6 b7 hDs hTs b6s b7s
      have m0 : (w8.setCell ⟨w.heap.size + 1, 5, none⟩ (.int .i64 (time : Int))).cell? ⟨w.heap.size + 1, 0, none⟩ = some (.int .i64 (base : Int)) := cell_of_row _ _ 0 _ _ _ HB7.out
      have m1 : (w8.setCell ⟨w.heap.size + 1, 5, none⟩ (.int .i64 (time : Int))).cell? ⟨w.heap.size + 1, 1, none⟩ = some (.int .i64 (pid : Int)) := cell_of_row _ _ 1 _ _ _ HB7.out
      have m2 : (w8.setCell ⟨w.heap.size + 1, 5, none⟩ (.int .i64 (time : Int))).cell? ⟨w.heap.size + 1, 2, none⟩ = some (.int .i64 (epoch : Int)) := cell_of_row _ _ 2 _ _ _ HB7.out
      have m3 : (w8.setCell ⟨w.heap.size + 1, 5, none⟩ (.int .i64 (time : Int))).cell? ⟨w.heap.size + 1, 3, none⟩ = some (.int .i64 0) := cell_of_row _ _ 3 _ _ _ HB7.out
      have m4 : (w8.setCell ⟨w.heap.size + 1, 5, none⟩ (.int .i64 (time : Int))).cell? ⟨w.heap.size + 1, 4, none⟩ = some (.int .i64 (kind : Int)) := cell_of_row _ _ 4 _ _ _ HB7.out
      have m5 : (w8.setCell ⟨w.heap.size + 1, 5, none⟩ (.int .i64 (time : Int))).cell? ⟨w.heap.size + 1, 5, none⟩ = some (.int .i64 (time : Int)) := cell_of_row _ _ 5 _ _ _ HB7.out
      have m6 : (w8.setCell ⟨w.heap.size + 1, 5, none⟩ (.int .i64 (time : Int))).cell? ⟨w.heap.size + 1, 6, none⟩ = some (.slice none 0 0) := cell_of_row _ _ 6 _ _ _ HB7.out
      go_wp2_with fail
      generalize w8.setCell ⟨w.heap.size + 1, 5, none⟩ (.int .i64 (time : Int)) = W8 at *
      refine (HMK.out _ _ _ _ _ _ _ _ _).mono ?_
      rintro e w9 ⟨rfl, hbm⟩
      have hD := HD.out.below hbm HD.out.dlt
      have hT := HT.out.trans (Two.of_below (g := g) (d := d) hbm)
      have b6 := (hbm.block w.heap.size (Array.getElem?_eq_some_iff.1 HB6.out).1).trans HB6.out
      have b7 := (hbm.block (w.heap.size + 1) (Array.getElem?_eq_some_iff.1 HB7.out).1).trans HB7.out
      clear hbm HD HT HB6 HB7
      clear y5 f5 m0 m1 m2 m3 m4 m5 m6
      obtain ⟨rfl, rfl⟩ := HL0.out (by first | rfl | trivial)
      clear HL0 HL1 HMK
      have m0 : w9.cell? ⟨w.heap.size + 1, 0, none⟩ = some (.int .i64 (base : Int)) := cell_of_row w9 _ 0 _ _ _ b7
      have m1 : w9.cell? ⟨w.heap.size + 1, 1, none⟩ = some (.int .i64 (pid : Int)) := cell_of_row w9 _ 1 _ _ _ b7
      have m2 : w9.cell? ⟨w.heap.size + 1, 2, none⟩ = some (.int .i64 (epoch : Int)) := cell_of_row w9 _ 2 _ _ _ b7
      have m3 : w9.cell? ⟨w.heap.size + 1, 3, none⟩ = some (.int .i64 0) := cell_of_row w9 _ 3 _ _ _ b7
      have m4 : w9.cell? ⟨w.heap.size + 1, 4, none⟩ = some (.int .i64 (kind : Int)) := cell_of_row w9 _ 4 _ _ _ b7
      have m5 : w9.cell? ⟨w.heap.size + 1, 5, none⟩ = some (.int .i64 (time : Int)) := cell_of_row w9 _ 5 _ _ _ b7
      have m6 : w9.cell? ⟨w.heap.size + 1, 6, none⟩ = some (.slice none 0 0) := cell_of_row w9 _ 6 _ _ _ b7
      have d0 : w9.cell? ⟨w.heap.size, 0, none⟩ = some (.int .i64 0) := cell_of_row w9 _ 0 _ _ _ b6
      have h0 : w9.frozen? ⟨w.heap.size, 0, none⟩ = false := frozen_of_row w9 _ 0 _ _ b6
      have d1 : w9.cell? ⟨w.heap.size, 1, none⟩ = some (.int .i64 0) := cell_of_row w9 _ 1 _ _ _ b6
      have h1 : w9.frozen? ⟨w.heap.size, 1, none⟩ = false := frozen_of_row w9 _ 1 _ _ b6
      have d2 : w9.cell? ⟨w.heap.size, 2, none⟩ = some (.int .i64 0) := cell_of_row w9 _ 2 _ _ _ b6
      have h2 : w9.frozen? ⟨w.heap.size, 2, none⟩ = false := frozen_of_row w9 _ 2 _ _ b6
      have d3 : w9.cell? ⟨w.heap.size, 3, none⟩ = some (.int .i64 0) := cell_of_row w9 _ 3 _ _ _ b6
      have h3 : w9.frozen? ⟨w.heap.size, 3, none⟩ = false := frozen_of_row w9 _ 3 _ _ b6
      have d4 : w9.cell? ⟨w.heap.size, 4, none⟩ = some (.int .i64 0) := cell_of_row w9 _ 4 _ _ _ b6
      have h4 : w9.frozen? ⟨w.heap.size, 4, none⟩ = false := frozen_of_row w9 _ 4 _ _ b6
      have d5 : w9.cell? ⟨w.heap.size, 5, none⟩ = some (.int .i64 0) := cell_of_row w9 _ 5 _ _ _ b6
      have h5 : w9.frozen? ⟨w.heap.size, 5, none⟩ = false := frozen_of_row w9 _ 5 _ _ b6
      have d6 : w9.cell? ⟨w.heap.size, 6, none⟩ = some (.slice none 0 0) := cell_of_row w9 _ 6 _ _ _ b6
      have h6 : w9.frozen? ⟨w.heap.size, 6, none⟩ = false := frozen_of_row w9 _ 6 _ _ b6
      have z7 := (Array.getElem?_eq_some_iff.1 b7).1
      have HD := Lib.hid hD
      have HT := Lib.hid hT
      clear hD hT b6 b7
      have HC1 : Hid (([] : List Rec).length ≤ 0) := Nat.le_refl _
      have HC2 : Hid (0 ≤ maxLen) := Nat.zero_le _
      have HC3 : Hid (Rcs w9 w9.heap.size none ([] : List Rec).length []) := Rcs.nil_
      have HC4 : Hid (∀ p : Addr, (none : Option Addr) = some p → w.heap.size + 2 ≤ p.block) := fun p h => by cases h
      go_wp2_with fail
      refine bodyPost_ret (v := .agg #[.int .i64 (base : Int), .int .i64 (pid : Int), .int .i64 (epoch : Int), .int .i64 0, .int .i64 (kind : Int), .int .i64 (time : Int), .slice none 0 0]) (by simp [results, Try.results18, go_sem, d0, d1, d2, d3, d4, d5, d6]) rfl ?_
      refine ⟨_, _, rfl, HC1.out, HC2.out, ?_, fun p hp => by have := HC4.out p hp; omega, ?_, ?_⟩
      · refine Rcs.wider (B := w9.heap.size) ?_ (by simp)
        refine ⟨HC3.out.len, HC3.out.lies.far_ fun p hp i => ?_, HC3.out.ok⟩
        have hpb := HC4.out p hp
        have hpi := add_block p i
        have n0 : ¬ w.heap.size = (p.add i).block := by rw [hpi]; omega
        have n1 : ¬ w.heap.size + 1 = (p.add i).block := by rw [hpi]; omega
        simp only [World.cell?_setCell_far, ne_eq, n0, n1, not_false_eq_true]
      · exact (((((((HD.out.set (b := w.heap.size) (by omega) 0 _).set (b := w.heap.size) (by omega) 1 _).set (b := w.heap.size) (by omega) 2 _).set (b := w.heap.size) (by omega) 3 _).set (b := w.heap.size) (by omega) 4 _).set (b := w.heap.size) (by omega) 5 _).set (b := w.heap.size) (by omega) 6 _)
      · exact (((((((HT.out.new (b := w.heap.size) _ (Nat.le_refl _)).new (b := w.heap.size) _ (Nat.le_refl _)).new (b := w.heap.size) _ (Nat.le_refl _)).new (b := w.heap.size) _ (Nat.le_refl _)).new (b := w.heap.size) _ (Nat.le_refl _)).new (b := w.heap.size) _ (Nat.le_refl _)).new (b := w.heap.size) _ (Nat.le_refl _))
    · have hmf : mk = false := by simpa using hmt
      have e6 := E6B.out hmf
      have E6C := Lib.hid e6
      subst hmf
      clear e6 hmt E6A E6B
      have HU := Lib.hid (upTo_ok d g c p5 p6 seq 2147483647 A l _ HD.out E6C.out (by omega) (by omega))
      go_wp2_with fail
      refine HU.out.mono ?_
      rintro e w8 ⟨rfl, hD, hT3⟩
      have hT := HT.out.trans hT3
      have b6 := (hT3.block w.heap.size (Array.getElem?_eq_some_iff.1 HB6.out).1 (by omega) (by omega)).trans HB6.out
      have b7 := (hT3.block (w.heap.size + 1) (Array.getElem?_eq_some_iff.1 HB7.out).1 (by omega) (by omega)).trans HB7.out
      clear hT3 HU HD HT HB6 HB7
      have y3 : w8.cell? ⟨w.heap.size + 1, 3, none⟩ = some (.int .i64 0) := cell_of_row w8 _ 3 _ _ _ b7
      have f3 : w8.frozen? ⟨w.heap.size + 1, 3, none⟩ = false := frozen_of_row w8 _ 3 _ _ b7
      have hDs := hD.set (b := w.heap.size + 1) (by omega) 3 (.int .i64 (seq : Int))
      have hTs := hT.new (i := 3) (b := w.heap.size + 1) (.int .i64 (seq : Int)) (by omega)
      have b6s : (w8.setCell ⟨w.heap.size + 1, 3, none⟩ (.int .i64 (seq : Int))).heap[w.heap.size]? = _ := ((grown_set w8 (w.heap.size + 1) 3 (.int .i64 (seq : Int))).block w.heap.size (Array.getElem?_eq_some_iff.1 b6).1 (fun e => by injection e with e; omega)).trans b6
      have b7s : (w8.setCell ⟨w.heap.size + 1, 3, none⟩ (.int .i64 (seq : Int))).heap[w.heap.size + 1]? = some (.cells #[.int .i64 (base : Int), .int .i64 (pid : Int), .int .i64 (epoch : Int), .int .i64 (seq : Int), .int .i64 (kind : Int), .int .i64 0, .slice none 0 0] 24 (0, 0)) := by rw [heap_setCell_same w8 _ 3 _ _ _ b7]; rfl
      have HD := Lib.hid hDs
      have HT := Lib.hid hTs
      have HB6 := Lib.hid b6s
      have HB7 := Lib.hid b7s
      clear hD hT b6 b7 hDs hTs b6s b7s
      have HU := Lib.hid (upTo_ok d g c p6 q time 1099511627776 A l _ HD.out E7.out (by omega) (by omega))
      go_wp2_with fail
      generalize w8.setCell ⟨w.heap.size + 1, 3, none⟩ (.int .i64 (seq : Int)) = W8 at *
      refine HU.out.mono ?_
      rintro e w9 ⟨rfl, hD, hT3⟩
      have hT := HT.out.trans hT3
      have b6 := (hT3.block w.heap.size (Array.getElem?_eq_some_iff.1 HB6.out).1 (by omega) (by omega)).trans HB6.out
      have b7 := (hT3.block (w.heap.size + 1) (Array.getElem?_eq_some_iff.1 HB7.out).1 (by omega) (by omega)).trans HB7.out
      clear hT3 HU HD HT HB6 HB7 y3 f3
      have y5 : w9.cell? ⟨w.heap.size + 1, 5, none⟩ = some (.int .i64 0) := cell_of_row w9 _ 5 _ _ _ b7
      have f5 : w9.frozen? ⟨w.heap.size + 1, 5, none⟩ = false := frozen_of_row w9 _ 5 _ _ b7
      have hDs := hD.set (b := w.heap.size + 1) (by omega) 5 (.int .i64 (time : Int))
      have hTs := hT.new (i := 5) (b := w.heap.size + 1) (.int .i64 (time : Int)) (by omega)
      have b6s : (w9.setCell ⟨w.heap.size + 1, 5, none⟩ (.int .i64 (time : Int))).heap[w.heap.size]? = _ := ((grown_set w9 (w.heap.size + 1) 5 (.int .i64 (time : Int))).block w.heap.size (Array.getElem?_eq_some_iff.1 b6).1 (fun e => by injection e with e; omega)).trans b6
      have b7s : (w9.setCell ⟨w.heap.size + 1, 5, none⟩ (.int .i64 (time : Int))).heap[w.heap.size + 1]? = some (.cells #[.int .i64 (base : Int), .int .i64 (pid : Int), .int .i64 (epoch : Int), .int .i64 (seq : Int), .int .i64 (kind : Int), .int .i64 (time : Int), .slice none 0 0] 24 (0, 0)) := by rw [heap_setCell_same w9 _ 5 _ _ _ b7]; rfl
      have HD := Lib.hid hDs
      have HT := Lib.hid hTs
      have HB6 := Lib.hid b6s
      have HB7 := Lib.hid b7s
      clear hD hT b6 b7 hDs hTs b6s b7s
      have m0 : (w9.setCell ⟨w.heap.size + 1, 5, none⟩ (.int .i64 (time : Int))).cell? ⟨w.heap.size + 1, 0, none⟩ = some (.int .i64 (base : Int)) := cell_of_row _ _ 0 _ _ _ HB7.out
      have m1 : (w9.setCell ⟨w.heap.size + 1, 5, none⟩ (.int .i64 (time : Int))).cell? ⟨w.heap.size + 1, 1, none⟩ = some (.int .i64 (pid : Int)) := cell_of_row _ _ 1 _ _ _ HB7.out
      have m2 : (w9.setCell ⟨w.heap.size + 1, 5, none⟩ (.int .i64 (time : Int))).cell? ⟨w.heap.size + 1, 2, none⟩ = some (.int .i64 (epoch : Int)) := cell_of_row _ _ 2 _ _ _ HB7.out
      have m3 : (w9.setCell ⟨w.heap.size + 1, 5, none⟩ (.int .i64 (time : Int))).cell? ⟨w.heap.size + 1, 3, none⟩ = some (.int .i64 (seq : Int)) := cell_of_row _ _ 3 _ _ _ HB7.out
      have m4 : (w9.setCell ⟨w.heap.size + 1, 5, none⟩ (.int .i64 (time : Int))).cell? ⟨w.heap.size + 1, 4, none⟩ = some (.int .i64 (kind : Int)) := cell_of_row _ _ 4 _ _ _ HB7.out
      have m5 : (w9.setCell ⟨w.heap.size + 1, 5, none⟩ (.int .i64 (time : Int))).cell? ⟨w.heap.size + 1, 5, none⟩ = some (.int .i64 (time : Int)) := cell_of_row _ _ 5 _ _ _ HB7.out
      have m6 : (w9.setCell ⟨w.heap.size + 1, 5, none⟩ (.int .i64 (time : Int))).cell? ⟨w.heap.size + 1, 6, none⟩ = some (.slice none 0 0) := cell_of_row _ _ 6 _ _ _ HB7.out
      go_wp2_with fail
      generalize w9.setCell ⟨w.heap.size + 1, 5, none⟩ (.int .i64 (time : Int)) = W9 at *
      refine (HMK.out _ _ _ _ _ _ _ _ _).mono ?_
      rintro e w10 ⟨rfl, hbm⟩
      have hD := HD.out.below hbm HD.out.dlt
      have hT := HT.out.trans (Two.of_below (g := g) (d := d) hbm)
      have b6 := (hbm.block w.heap.size (Array.getElem?_eq_some_iff.1 HB6.out).1).trans HB6.out
      have b7 := (hbm.block (w.heap.size + 1) (Array.getElem?_eq_some_iff.1 HB7.out).1).trans HB7.out
      clear hbm HD HT HB6 HB7
      clear y5 f5 m0 m1 m2 m3 m4 m5 m6
      have HR := Lib.hid (HL1.out (by first | rfl | trivial) _ hD)
      have m5 : w10.cell? ⟨w.heap.size + 1, 5, none⟩ = some (.int .i64 (time : Int)) := cell_of_row w10 _ 5 _ _ _ b7
      have HD := Lib.hid hD
      have HT := Lib.hid hT
      have HB6 := Lib.hid b6
      have HB7 := Lib.hid b7
      clear hD hT b6 b7
      go_wp2_with fail
      refine HR.out.mono ?_
      rintro e w11 ⟨A', c', rfl, hc1, hc2, hc3, hc4, hD, hT3⟩
      have hT := HT.out.trans hT3
      have b6 := (hT3.block w.heap.size (Array.getElem?_eq_some_iff.1 HB6.out).1 (by omega) (by omega)).trans HB6.out
      have b7 := (hT3.block (w.heap.size + 1) (Array.getElem?_eq_some_iff.1 HB7.out).1 (by omega) (by omega)).trans HB7.out
      have z8 := (Array.getElem?_eq_some_iff.1 HB7.out).1
      have HC1 := Lib.hid hc1
      have HC2 := Lib.hid hc2
      have HC3 := Lib.hid hc3
      have HC4 : Hid (∀ p : Addr, A' = some p → w.heap.size + 2 ≤ p.block) := fun p hp => by have := hc4 p hp; omega
      clear hT3 HR HD HT HB6 HB7 m5 hc1 hc2 hc3 hc4 HL0 HL1 HMK
      have m0 : w11.cell? ⟨w.heap.size + 1, 0, none⟩ = some (.int .i64 (base : Int)) := cell_of_row w11 _ 0 _ _ _ b7
      have m1 : w11.cell? ⟨w.heap.size + 1, 1, none⟩ = some (.int .i64 (pid : Int)) := cell_of_row w11 _ 1 _ _ _ b7
      have m2 : w11.cell? ⟨w.heap.size + 1, 2, none⟩ = some (.int .i64 (epoch : Int)) := cell_of_row w11 _ 2 _ _ _ b7
      have m3 : w11.cell? ⟨w.heap.size + 1, 3, none⟩ = some (.int .i64 (seq : Int)) := cell_of_row w11 _ 3 _ _ _ b7
      have m4 : w11.cell? ⟨w.heap.size + 1, 4, none⟩ = some (.int .i64 (kind : Int)) := cell_of_row w11 _ 4 _ _ _ b7
      have m5 : w11.cell? ⟨w.heap.size + 1, 5, none⟩ = some (.int .i64 (time : Int)) := cell_of_row w11 _ 5 _ _ _ b7
      have m6 : w11.cell? ⟨w.heap.size + 1, 6, none⟩ = some (.slice none 0 0) := cell_of_row w11 _ 6 _ _ _ b7
      have f6 : w11.frozen? ⟨w.heap.size + 1, 6, none⟩ = false := frozen_of_row w11 _ 6 _ _ b7
      have d0 : w11.cell? ⟨w.heap.size, 0, none⟩ = some (.int .i64 0) := cell_of_row w11 _ 0 _ _ _ b6
      have h0 : w11.frozen? ⟨w.heap.size, 0, none⟩ = false := frozen_of_row w11 _ 0 _ _ b6
      have d1 : w11.cell? ⟨w.heap.size, 1, none⟩ = some (.int .i64 0) := cell_of_row w11 _ 1 _ _ _ b6
      have h1 : w11.frozen? ⟨w.heap.size, 1, none⟩ = false := frozen_of_row w11 _ 1 _ _ b6
      have d2 : w11.cell? ⟨w.heap.size, 2, none⟩ = some (.int .i64 0) := cell_of_row w11 _ 2 _ _ _ b6
      have h2 : w11.frozen? ⟨w.heap.size, 2, none⟩ = false := frozen_of_row w11 _ 2 _ _ b6
      have d3 : w11.cell? ⟨w.heap.size, 3, none⟩ = some (.int .i64 0) := cell_of_row w11 _ 3 _ _ _ b6
      have h3 : w11.frozen? ⟨w.heap.size, 3, none⟩ = false := frozen_of_row w11 _ 3 _ _ b6
      have d4 : w11.cell? ⟨w.heap.size, 4, none⟩ = some (.int .i64 0) := cell_of_row w11 _ 4 _ _ _ b6
      have h4 : w11.frozen? ⟨w.heap.size, 4, none⟩ = false := frozen_of_row w11 _ 4 _ _ b6
      have d5 : w11.cell? ⟨w.heap.size, 5, none⟩ = some (.int .i64 0) := cell_of_row w11 _ 5 _ _ _ b6
      have h5 : w11.frozen? ⟨w.heap.size, 5, none⟩ = false := frozen_of_row w11 _ 5 _ _ b6
      have d6 : w11.cell? ⟨w.heap.size, 6, none⟩ = some (.slice none 0 0) := cell_of_row w11 _ 6 _ _ _ b6
      have h6 : w11.frozen? ⟨w.heap.size, 6, none⟩ = false := frozen_of_row w11 _ 6 _ _ b6
      have z7 := (Array.getElem?_eq_some_iff.1 b7).1
      have HD := Lib.hid (hD.set (b := w.heap.size + 1) (by omega) 6 (.slice A' L.length c'))
      have HT := Lib.hid (hT.new (i := 6) (b := w.heap.size + 1) (.slice A' L.length c') (by omega))
      clear hD hT b6 b7
      go_wp2_with fail
      refine bodyPost_ret (v := .agg #[.int .i64 (base : Int), .int .i64 (pid : Int), .int .i64 (epoch : Int), .int .i64 (seq : Int), .int .i64 (kind : Int), .int .i64 (time : Int), .slice A' L.length c']) (by simp [results, Try.results18, go_sem, d0, d1, d2, d3, d4, d5, d6]) rfl ?_
      refine ⟨_, _, rfl, HC1.out, HC2.out, ?_, fun p hp => by have := HC4.out p hp; omega, ?_, ?_⟩
      · refine Rcs.wider (B := w11.heap.size) ?_ (by simp)
        refine ⟨HC3.out.len, HC3.out.lies.far_ fun p hp i => ?_, HC3.out.ok⟩
        have hpb := HC4.out p hp
        have hpi := add_block p i
        have n0 : ¬ w.heap.size = (p.add i).block := by rw [hpi]; omega
        have n1 : ¬ w.heap.size + 1 = (p.add i).block := by rw [hpi]; omega
        simp only [World.cell?_setCell_far, ne_eq, n0, n1, not_false_eq_true]
      · exact (((((((HD.out.set (b := w.heap.size) (by omega) 0 _).set (b := w.heap.size) (by omega) 1 _).set (b := w.heap.size) (by omega) 2 _).set (b := w.heap.size) (by omega) 3 _).set (b := w.heap.size) (by omega) 4 _).set (b := w.heap.size) (by omega) 5 _).set (b := w.heap.size) (by omega) 6 _)
      · exact (((((((HT.out.new (b := w.heap.size) _ (Nat.le_refl _)).new (b := w.heap.size) _ (Nat.le_refl _)).new (b := w.heap.size) _ (Nat.le_refl _)).new (b := w.heap.size) _ (Nat.le_refl _)).new (b := w.heap.size) _ (Nat.le_refl _)).new (b := w.heap.size) _ (Nat.le_refl _)).new (b := w.heap.size) _ (Nat.le_refl _))
end Go.Proofs.Ytniopekkfnkipaa
namespace Go.Proofs.Ytniopekkfnkipaa
open Go.RowKit
set_option linter.unusedVariables false
set_option linter.unusedSimpArgs false

/-- the bytes l are read as the batch b -/
structure BatAt (l : List UInt8) (b : Bat) : Prop where
  fine : Fine b
  at_ : ∃ q, HeadAt l (markB b) b.base.toNat b.pid.toNat b.epoch.toNat b.seq.toNat b.kind.toNat b.time.toNat q ∧ (markB b = true → b.L = [] ∧ q = l.length) ∧
    (markB b = false → ∃ P : Nat → Nat, dUint l q = .ok (.int .u64 (b.L.length : Int)) (P 0) ∧ P b.L.length = l.length ∧ ∀ k, k < b.L.length → RecAt l b.time (prevKey b.L k) (P k) (b.L.getD k default) (P (k + 1)))

set_option maxRecDepth 100000 in
set_option maxHeartbeats 8000000 in
theorem decode_ok (b : Bat) (A : Option Addr) (n c B : Nat) (l : List UInt8) (w : World) (hbs : Bs w B A n l) (hn : n ≤ 1099511627776) (hB : B ≤ w.heap.size) (hat : BatAt l b) :
    Calls Try.prog 6 #[.slice A n c] w fun e w' => ∃ A' c', e = .returned (.tuple #[.agg (b.cells A' c'), .int .i64 0]) ∧ b.L.length ≤ c' ∧ c' ≤ maxLen ∧ Rcs w' w'.heap.size A' b.L.length b.L ∧ Below w.heap.size w w' := by
  obtain ⟨q, hh, hm1, hm0⟩ := hat.at_
  have hF := hat.fine
  have a1 := hF.b1; have a2 := hF.b2; have a3 := hF.p1; have a4 := hF.p2; have a5 := hF.e1; have a6 := hF.e2; have a7 := hF.s1; have a8 := hF.s2; have a9 := hF.k1; have a10 := hF.k2; have a11 := hF.t1; have a12 := hF.t2
  have e1 : ((b.base.toNat : Nat) : Int) = b.base := by omega
  have e2 : ((b.pid.toNat : Nat) : Int) = b.pid := by omega
  have e3 : ((b.epoch.toNat : Nat) : Int) = b.epoch := by omega
  have e4 : ((b.seq.toNat : Nat) : Int) = b.seq := by omega
  have e5 : ((b.kind.toNat : Nat) : Int) = b.kind := by omega
  have e6 : ((b.time.toNat : Nat) : Int) = b.time := by omega
  have HBA : Hid (∀ (W : World) (d g c : Nat) (A : Option Addr), Dc W d g A c l 0 → Calls Try.prog 18 #[.pointer (some ⟨d, 0, none⟩)] W fun e w' => ∃ A' c', e = .returned (.agg #[.int .i64 b.base, .int .i64 b.pid, .int .i64 b.epoch, .int .i64 b.seq, .int .i64 b.kind, .int .i64 b.time, .slice A' b.L.length c']) ∧ b.L.length ≤ c' ∧ c' ≤ maxLen ∧ Rcs w' w'.heap.size A' b.L.length b.L ∧ (∀ p, A' = some p → W.heap.size ≤ p.block) ∧ Dc w' d g A c l l.length ∧ Two g d W w') := fun W d g c A hW => by
    have := dbatch_ok (markB b) d g c b.base.toNat b.pid.toNat b.epoch.toNat b.seq.toNat b.kind.toNat b.time.toNat q l.length A l b.L W hW hh (by rw [e5]; rfl) (by omega) (by omega) (by omega) (by omega) (by omega) (fun h => ⟨(hm1 h).1, (hm1 h).2.symm⟩)
      (fun h W2 hW2 => by
        obtain ⟨P, u1, u2, u3⟩ := hm0 h
        have := drecs_ok d g c q b.L.length A l b.time b.L P W2 hW2 u1 rfl hF.len u3 hF.recs hF.t1 hF.t2
        rw [u2, ← e6] at this
        exact this)
    rw [e1, e2, e3, e4, e5, e6] at this
    exact this
  have HVA : Hid (∀ (W : World) (A' : Option Addr) (c' : Nat), Rcs W W.heap.size A' b.L.length b.L → Calls Try.prog 20 #[.agg #[.int .i64 b.base, .int .i64 b.pid, .int .i64 b.epoch, .int .i64 b.seq, .int .i64 b.kind, .int .i64 b.time, .slice A' b.L.length c']] W fun e w' => e = .returned (.int .i64 0) ∧ Below W.heap.size W w') := fun W A' c' hW => by
    have := valid_any b A' c' W.heap.size W hW (Nat.le_refl _) (by have := hF.len; unfold maxLen; omega)
    rw [(fine_iff b).2 hF] at this
    exact this
  obtain ⟨base, pid, epoch, seq, kind, time, L⟩ := b
  unfold Bat.cells at *
  simp only at *
  clear hat hh hm1 hm0 hF a1 a2 a3 a4 a5 a6 a7 a8 a9 a10 a11 a12 e1 e2 e3 e4 e5 e6
  have HNR := Lib.hid (newReader_any A n c B l (w.alloc (.cells #[.int .i64 0, .int .i64 0, .int .i64 0, .int .i64 0, .int .i64 0, .int .i64 0, .slice none 0 0] 24)) (hbs.alloc hB _) hn (by simp; omega))
  have hr := heap_alloc_new w (.cells #[.int .i64 0, .int .i64 0, .int .i64 0, .int .i64 0, .int .i64 0, .int .i64 0, .slice none 0 0] 24)
  have HR := Lib.hid hr
  have HW := Lib.hid ((Below.refl w.heap.size w).alloc (Nat.le_refl _) (.cells #[.int .i64 0, .int .i64 0, .int .i64 0, .int .i64 0, .int .i64 0, .int .i64 0, .slice none 0 0] 24))
  have hz1 : w.heap.size + 1 = (w.alloc (.cells #[.int .i64 0, .int .i64 0, .int .i64 0, .int .i64 0, .int .i64 0, .int .i64 0, .slice none 0 0] 24)).heap.size := by simp
  have HZ1 := Lib.hid hz1
  clear hr hz1 hbs
  go_enter Try.func6, Try.ntmps6
  go_wp2_with fail
  generalize w.alloc (.cells #[.int .i64 0, .int .i64 0, .int .i64 0, .int .i64 0, .int .i64 0, .int .i64 0, .slice none 0 0] 24) = w1 at *
  refine HNR.out.mono ?_
  rintro e w2 ⟨g, A2, c2, rfl, hg, hr2, hb2⟩
  have hgw : w.heap.size + 1 ≤ g := by rw [HZ1.out]; exact hg
  have hr2' := (hb2.block w.heap.size (by have := HZ1.out; omega)).trans HR.out
  have hB2 := HW.out.trans (hb2.mono HW.out.size)
  have hD2 : Dc (w2.alloc (.cells #[.pointer (some ⟨g, 0, none⟩), .bool false] 47)) w2.heap.size g A2 c2 l 0 := ⟨heap_alloc_new w2 _, hr2.alloc _, hr2.lt⟩
  have hB3 := hB2.alloc hB2.size (.cells #[.pointer (some ⟨g, 0, none⟩), .bool false] 47)
  have hr3 : (w2.alloc (.cells #[.pointer (some ⟨g, 0, none⟩), .bool false] 47)).heap[w.heap.size]? = _ := (((Below.refl w2.heap.size w2).alloc (Nat.le_refl _) _).block w.heap.size (by have := hr2.lt; omega)).trans hr2'
  have HB := Lib.hid (HBA.out _ _ _ _ _ hD2)
  have hgl := hr2.lt
  have HB3 := Lib.hid hB3
  have HR3 := Lib.hid hr3
  clear hr2 hb2 hr2' hB2 hD2 hB3 hr3 HNR HR HW HBA
  go_wp2_with fail
  have hz3 : w2.heap.size < (w2.alloc (.cells #[.pointer (some ⟨g, 0, none⟩), .bool false] 47)).heap.size := by simp
  generalize w2.alloc (.cells #[.pointer (some ⟨g, 0, none⟩), .bool false] 47) = w3 at *
  refine HB.out.mono ?_
  rintro e w4 ⟨A4, c4, rfl, hc4, hm4, hR4, hA4, hD4, hT4⟩
  have HA4 : Hid (∀ p, A4 = some p → w.heap.size < p.block) := fun p hp => by have := hA4 p hp; omega
  clear hA4
  have hr4 := (hT4.block w.heap.size (by omega) (by omega) (by omega)).trans HR3.out
  have hB4 := HB3.out.trans (hT4.below (B := w.heap.size) (by omega) (by omega) (by omega))
  have z4 := hT4.size
  -- the batch in its block
  have hb5 := heap_alloc_new w4 (.cells #[.int .i64 base, .int .i64 pid, .int .i64 epoch, .int .i64 seq, .int .i64 kind, .int .i64 time, .slice A4 L.length c4] 24)
  have hD5 := hD4.alloc (.cells #[.int .i64 base, .int .i64 pid, .int .i64 epoch, .int .i64 seq, .int .i64 kind, .int .i64 time, .slice A4 L.length c4] 24)
  have hal := (Below.refl w4.heap.size w4).alloc (Nat.le_refl _) (.cells #[.int .i64 base, .int .i64 pid, .int .i64 epoch, .int .i64 seq, .int .i64 kind, .int .i64 time, .slice A4 L.length c4] 24)
  have hR5 := (hR4.below hal).wider hal.size
  have hr5 := (hal.block w.heap.size (by omega)).trans hr4
  have hB5 := hB4.alloc hB4.size (.cells #[.int .i64 base, .int .i64 pid, .int .i64 epoch, .int .i64 seq, .int .i64 kind, .int .i64 time, .slice A4 L.length c4] 24)
  have hz5 : w4.heap.size < (w4.alloc (.cells #[.int .i64 base, .int .i64 pid, .int .i64 epoch, .int .i64 seq, .int .i64 kind, .int .i64 time, .slice A4 L.length c4] 24)).heap.size := by simp
  clear hr4 hB4 hD4 hR4 hT4 hal HB HB3 HR3
  have x0 := hD5.c0
  have x1 := hD5.c1
  have HEN := Lib.hid (end_ok g c2 A2 l _ hD5.rd)
  have HB5 := Lib.hid hb5
  have HR5 := Lib.hid hR5
  have HR5' := Lib.hid hr5
  have HBE := Lib.hid hB5
  clear hb5 hD5 hR5 hr5 hB5
  go_wp2_with fail
  generalize w4.alloc (.cells #[.int .i64 base, .int .i64 pid, .int .i64 epoch, .int .i64 seq, .int .i64 kind, .int .i64 time, .slice A4 L.length c4] 24) = w5 at *
  refine HEN.out.mono ?_
  rintro e w6 ⟨rfl, k6, rfl⟩
  have hb6 : (w5.drewN k6).heap[w4.heap.size]? = _ := HB5.out
  have m0 : (w5.drewN k6).cell? ⟨w4.heap.size, 0, none⟩ = some (.int .i64 base) := cell_of_row _ _ 0 _ _ _ hb6
  have m1 : (w5.drewN k6).cell? ⟨w4.heap.size, 1, none⟩ = some (.int .i64 pid) := cell_of_row _ _ 1 _ _ _ hb6
  have m2 : (w5.drewN k6).cell? ⟨w4.heap.size, 2, none⟩ = some (.int .i64 epoch) := cell_of_row _ _ 2 _ _ _ hb6
  have m3 : (w5.drewN k6).cell? ⟨w4.heap.size, 3, none⟩ = some (.int .i64 seq) := cell_of_row _ _ 3 _ _ _ hb6
  have m4 : (w5.drewN k6).cell? ⟨w4.heap.size, 4, none⟩ = some (.int .i64 kind) := cell_of_row _ _ 4 _ _ _ hb6
  have m5 : (w5.drewN k6).cell? ⟨w4.heap.size, 5, none⟩ = some (.int .i64 time) := cell_of_row _ _ 5 _ _ _ hb6
  have m6 : (w5.drewN k6).cell? ⟨w4.heap.size, 6, none⟩ = some (.slice A4 L.length c4) := cell_of_row _ _ 6 _ _ _ hb6
  have HV := Lib.hid (HVA.out (w5.drewN k6) A4 c4 (HR5.out.below (below_draws (Below.refl _ _) k6)))
  clear hb6 HEN x0 x1
  have HB6 : Hid (Below w.heap.size w (w5.drewN k6)) := below_draws HBE.out k6
  have HR6 : Hid (Rcs (w5.drewN k6) (w5.drewN k6).heap.size A4 L.length L) := HR5.out.below (below_draws (Below.refl _ _) k6)
  have HB6' : Hid ((w5.drewN k6).heap[w4.heap.size]? = some (.cells #[.int .i64 base, .int .i64 pid, .int .i64 epoch, .int .i64 seq, .int .i64 kind, .int .i64 time, .slice A4 L.length c4] 24 (0, 0))) := HB5.out
  have HR6' : Hid ((w5.drewN k6).heap[w.heap.size]? = some (.cells #[.int .i64 0, .int .i64 0, .int .i64 0, .int .i64 0, .int .i64 0, .int .i64 0, .slice none 0 0] 24 (0, 0))) := HR5'.out
  have hz6 : w4.heap.size < (w5.drewN k6).heap.size := hz5
  generalize w5.drewN k6 = w6 at *
  go_wp2_with fail
  refine HV.out.mono ?_
  rintro e w7 ⟨rfl, hb7⟩
  have hB7 := HB6.out.trans (hb7.mono HB6.out.size)
  have hR7 := (HR6.out.below hb7).wider hb7.size
  have bb7 := (hb7.block w4.heap.size hz6).trans HB6'.out
  have rr7 := (hb7.block w.heap.size (by omega)).trans HR6'.out
  have z7 := hb7.size
  clear m0 m1 m2 m3 m4 m5 m6 hb7 HV
  have m0 : w7.cell? ⟨w4.heap.size, 0, none⟩ = some (.int .i64 base) := cell_of_row _ _ 0 _ _ _ bb7
  have d0 : w7.cell? ⟨w.heap.size, 0, none⟩ = some (.int .i64 0) := cell_of_row _ _ 0 _ _ _ rr7
  have h0 : w7.frozen? ⟨w.heap.size, 0, none⟩ = false := frozen_of_row _ _ 0 _ _ rr7
  have m1 : w7.cell? ⟨w4.heap.size, 1, none⟩ = some (.int .i64 pid) := cell_of_row _ _ 1 _ _ _ bb7
  have d1 : w7.cell? ⟨w.heap.size, 1, none⟩ = some (.int .i64 0) := cell_of_row _ _ 1 _ _ _ rr7
  have h1 : w7.frozen? ⟨w.heap.size, 1, none⟩ = false := frozen_of_row _ _ 1 _ _ rr7
  have m2 : w7.cell? ⟨w4.heap.size, 2, none⟩ = some (.int .i64 epoch) := cell_of_row _ _ 2 _ _ _ bb7
  have d2 : w7.cell? ⟨w.heap.size, 2, none⟩ = some (.int .i64 0) := cell_of_row _ _ 2 _ _ _ rr7
  have h2 : w7.frozen? ⟨w.heap.size, 2, none⟩ = false := frozen_of_row _ _ 2 _ _ rr7
  have m3 : w7.cell? ⟨w4.heap.size, 3, none⟩ = some (.int .i64 seq) := cell_of_row _ _ 3 _ _ _ bb7
  have d3 : w7.cell? ⟨w.heap.size, 3, none⟩ = some (.int .i64 0) := cell_of_row _ _ 3 _ _ _ rr7
  have h3 : w7.frozen? ⟨w.heap.size, 3, none⟩ = false := frozen_of_row _ _ 3 _ _ rr7
  have m4 : w7.cell? ⟨w4.heap.size, 4, none⟩ = some (.int .i64 kind) := cell_of_row _ _ 4 _ _ _ bb7
  have d4 : w7.cell? ⟨w.heap.size, 4, none⟩ = some (.int .i64 0) := cell_of_row _ _ 4 _ _ _ rr7
  have h4 : w7.frozen? ⟨w.heap.size, 4, none⟩ = false := frozen_of_row _ _ 4 _ _ rr7
  have m5 : w7.cell? ⟨w4.heap.size, 5, none⟩ = some (.int .i64 time) := cell_of_row _ _ 5 _ _ _ bb7
  have d5 : w7.cell? ⟨w.heap.size, 5, none⟩ = some (.int .i64 0) := cell_of_row _ _ 5 _ _ _ rr7
  have h5 : w7.frozen? ⟨w.heap.size, 5, none⟩ = false := frozen_of_row _ _ 5 _ _ rr7
  have m6 : w7.cell? ⟨w4.heap.size, 6, none⟩ = some (.slice A4 L.length c4) := cell_of_row _ _ 6 _ _ _ bb7
  have d6 : w7.cell? ⟨w.heap.size, 6, none⟩ = some (.slice none 0 0) := cell_of_row _ _ 6 _ _ _ rr7
  have h6 : w7.frozen? ⟨w.heap.size, 6, none⟩ = false := frozen_of_row _ _ 6 _ _ rr7
  have HB7 := Lib.hid hB7
  have HR7 := Lib.hid hR7
  clear hB7 hR7 bb7 rr7
  go_wp2_with fail
  refine bodyPost_ret (v := .tuple #[.agg #[.int .i64 base, .int .i64 pid, .int .i64 epoch, .int .i64 seq, .int .i64 kind, .int .i64 time, .slice A4 L.length c4], .int .i64 0]) (by simp [results, Try.results6, go_sem, d0, d1, d2, d3, d4, d5, d6]) rfl ?_
  refine ⟨A4, c4, rfl, hc4, hm4, ?_, ?_⟩
  · refine Rcs.wider (B := w7.heap.size) ⟨HR7.out.len, HR7.out.lies.far_ fun p hp i => ?_, HR7.out.ok⟩ (by simp)
    have hpb := HA4.out p hp
    have hpi := add_block p i
    have n0 : ¬ w.heap.size = (p.add i).block := by rw [hpi]; omega
    simp only [World.cell?_setCell_far, ne_eq, n0, not_false_eq_true]
  · repeat refine Below.setCell ?_ (by simp) _
    exact HB7.out
end Go.Proofs.Ytniopekkfnkipaa
namespace Go.Proofs.Ytniopekkfnkipaa
open Go.RowKit
set_option linter.unusedVariables false
set_option linter.unusedSimpArgs false

theorem dUint_at (pre post : List UInt8) (n : Nat) (hn : n < 18446744073709551616) : dUint (pre ++ (Wn.enc n ++ post)) pre.length = .ok (.int .u64 (n : Int)) (pre ++ Wn.enc n).length := by
  unfold dUint
  rw [List.drop_left' rfl, Wn.num_enc n hn post, List.length_append]
theorem dInt_at (pre post : List UInt8) (n : Int) (h1 : -9223372036854775808 ≤ n) (h2 : n ≤ 9223372036854775807) : dInt (pre ++ (Wn.enc (Wn.zig n) ++ post)) pre.length = .ok (.int .i64 n) (pre ++ Wn.enc (Wn.zig n)).length := by
  unfold dInt
  rw [List.drop_left' rfl, Wn.num_enc _ (Wn.zig_lt n h1 h2) post]
  simp only
  rw [Wn.zag_zig, List.length_append]
theorem getD_at (pre post : List UInt8) (x : UInt8) : (pre ++ x :: post).getD pre.length 0 = x := by
  rw [List.getD_eq_getElem?_getD, List.getElem?_append_right (Nat.le_refl _)]
  simp
theorem dByte_at (pre post : List UInt8) (x : UInt8) : dByte (pre ++ x :: post) pre.length = .ok (.int .i64 (x.toNat : Int)) (pre.length + 1) := by
  unfold dByte
  rw [if_pos (by simp), getD_at]
theorem dFlag_at (pre post : List UInt8) (on : Bool) : dFlag (pre ++ (encF_ on ++ post)) pre.length = .ok (.bool on) (pre ++ encF_ on).length := by
  unfold dFlag encF_
  cases on with
  | true =>
    simp only [reduceIte, if_true, List.cons_append, List.nil_append]
    rw [if_pos (by simp), getD_at, if_pos (by decide)]
    simp
  | false =>
    simp only [reduceIte, if_false, Bool.false_eq_true, List.cons_append, List.nil_append]
    rw [if_pos (by simp), getD_at, if_pos (by decide)]
    simp
theorem dText_at (pre post : List UInt8) (s : ByteArray) (hs : s.size ≤ 1024) : dText (pre ++ (encT s ++ post)) pre.length 1024 = .ok (.string s) (pre ++ encT s).length := by
  have hz : s.data.toList.length = s.size := by simp
  unfold dText encT
  rw [List.drop_left' rfl, List.append_assoc, Wn.num_enc s.size (by omega)]
  simp only
  have hd : (pre ++ (Wn.enc s.size ++ (s.data.toList ++ post))).drop (pre.length + (Wn.enc s.size).length) = s.data.toList ++ post := by
    rw [← List.append_assoc, ← List.length_append]
    exact List.drop_left' rfl
  rw [hd, if_neg (by show ¬ (1024 : Int).toNat < s.size; simp; omega), if_neg (by simp only [List.length_append, hz]; omega), List.take_left' hz]
  congr 1
  · simp only [List.length_append, hz]
    omega
theorem enc_small (n : Nat) (h : n < 128) : Wn.enc n = [UInt8.ofNat n] := encF_small _ _ (by omega) h

/-- a record's bytes, behind others and ahead of others -/
theorem recAt_enc (pre post : List UInt8) (time : Int) (last : ByteArray) (r : Rec) (h : recE r = 0) (t1 : 0 ≤ time) (t2 : time ≤ 1099511627776) :
    RecAt (pre ++ (recS r time last ++ post)) time last pre.length r (pre ++ recS r time last).length := by
  obtain ⟨x1, x2, x3, x4, x5⟩ := recE_zero h
  have hcl := (comm_le last.data.toList r.key.data.toList).2
  rw [Array.length_toList] at hcl
  have hcl' : comm last.data.toList r.key.data.toList ≤ r.key.size := hcl
  have hkx : (r.key.extract (comm last.data.toList r.key.data.toList) r.key.size).size ≤ 1024 := by rw [ByteArray.size_extract]; omega
  have hcb : comm last.data.toList r.key.data.toList < 18446744073709551616 := by omega
  have hz : recS r time last = Wn.enc (Wn.zig (r.time - time)) ++ encF_ r.gone ++ Wn.enc (comm last.data.toList r.key.data.toList) ++ encT (r.key.extract (comm last.data.toList r.key.data.toList) r.key.size) ++ (if r.gone then [] else encT r.value) := rfl
  have A1 := dInt_at pre (encF_ r.gone ++ (Wn.enc (comm last.data.toList r.key.data.toList) ++ (encT (r.key.extract (comm last.data.toList r.key.data.toList) r.key.size) ++ ((if r.gone then [] else encT r.value) ++ post)))) (r.time - time) (by omega) (by omega)
  have A2 := dFlag_at (pre ++ Wn.enc (Wn.zig (r.time - time))) (Wn.enc (comm last.data.toList r.key.data.toList) ++ (encT (r.key.extract (comm last.data.toList r.key.data.toList) r.key.size) ++ ((if r.gone then [] else encT r.value) ++ post))) r.gone
  have A3 := dUint_at (pre ++ Wn.enc (Wn.zig (r.time - time)) ++ encF_ r.gone) (encT (r.key.extract (comm last.data.toList r.key.data.toList) r.key.size) ++ ((if r.gone then [] else encT r.value) ++ post)) _ hcb
  have A4 := dText_at (pre ++ Wn.enc (Wn.zig (r.time - time)) ++ encF_ r.gone ++ Wn.enc (comm last.data.toList r.key.data.toList)) ((if r.gone then [] else encT r.value) ++ post) _ hkx
  have A5 : r.gone = false → dText ((pre ++ Wn.enc (Wn.zig (r.time - time)) ++ encF_ r.gone ++ Wn.enc (comm last.data.toList r.key.data.toList) ++ encT (r.key.extract (comm last.data.toList r.key.data.toList) r.key.size)) ++ (encT r.value ++ post)) _ 1024 = _ := fun _ => dText_at (pre ++ Wn.enc (Wn.zig (r.time - time)) ++ encF_ r.gone ++ Wn.enc (comm last.data.toList r.key.data.toList) ++ encT (r.key.extract (comm last.data.toList r.key.data.toList) r.key.size)) post _ x2
  rw [hz]
  simp only [List.append_assoc] at A1 A2 A3 A4 A5 ⊢
  refine ⟨_, _, _, _, r.time - time, A1, by omega, A2, A3, A4, fun hg => ⟨?_, ?_⟩, fun hg => ?_⟩
  · have hv := x5 hg
    cases hvv : r.value with
    | mk d =>
      rw [hvv] at hv
      have : d.size = 0 := hv
      rw [Array.size_eq_zero_iff.1 this]
  · rw [if_pos hg, List.append_nil]
  · have := A5 hg
    rw [if_neg (by rw [hg]; decide)]
    exact this

/-- up to where the first k records reach -/
theorem rowsS_take (L : List Rec) (time : Int) (k : Nat) (h : k ≤ L.length) : ∃ post, (rowsS L time L.length).flatten = (rowsS L time k).flatten ++ post := by
  refine ⟨((rowsS L time L.length).drop k).flatten, ?_⟩
  have e : rowsS L time k = (rowsS L time L.length).take k := by
    simp [rowsS, ← List.map_take, List.take_range, Nat.min_eq_left h]
  rw [e, ← List.flatten_append, List.take_append_drop]
theorem headAt_enc (mk : Bool) (base pid epoch seq kind time : Nat) (post : List UInt8) (k1 : base < 18446744073709551616) (k2 : pid < 18446744073709551616) (k3 : epoch < 18446744073709551616) (k4 : seq < 18446744073709551616) (k5 : kind < 128) (k6 : time < 18446744073709551616)
    (h0 : pid = 0 → epoch = 0 ∧ seq = 0) (hm : mk = true → seq = 0) : HeadAt (headS mk base pid epoch seq kind time ++ post) mk base pid epoch seq kind time (headS mk base pid epoch seq kind time).length := by
  have e1 : Wn.enc 1 = [1] := by rw [enc_small 1 (by omega)]; rfl
  have e2 : Wn.enc kind = [UInt8.ofNat kind] := enc_small kind k5
  have e3 : (UInt8.ofNat kind).toNat = kind := by rw [UInt8.toNat_ofNat']; exact Nat.mod_eq_of_lt (by omega)
  unfold headS
  rw [e1, e2]
  obtain ⟨mid, hmid⟩ : ∃ mid : List UInt8, (if pid = 0 then [] else Wn.enc epoch ++ (if mk = true then [] else Wn.enc seq)) = mid := ⟨_, rfl⟩
  rw [hmid]
  have B1 := dByte_at [] (UInt8.ofNat kind :: (Wn.enc base ++ (Wn.enc pid ++ (mid ++ (Wn.enc time ++ post))))) 1
  have B2 := dByte_at [1] (Wn.enc base ++ (Wn.enc pid ++ (mid ++ (Wn.enc time ++ post)))) (UInt8.ofNat kind)
  have B3 := dUint_at [1, UInt8.ofNat kind] (Wn.enc pid ++ (mid ++ (Wn.enc time ++ post))) base k1
  have B4 := dUint_at ([1, UInt8.ofNat kind] ++ Wn.enc base) (mid ++ (Wn.enc time ++ post)) pid k2
  have B7 := dUint_at ([1, UInt8.ofNat kind] ++ Wn.enc base ++ Wn.enc pid ++ mid) post time k6
  rw [e3] at B2
  simp only [List.append_assoc, List.cons_append, List.nil_append, List.length_nil, List.length_cons, Nat.zero_add] at B1 B2 B3 B4 B7 ⊢
  by_cases hp : pid = 0
  · rw [if_pos hp] at hmid
    subst hmid
    simp only [List.nil_append, List.append_nil] at B1 B2 B3 B4 B7 ⊢
    exact ⟨_, _, 0, _, B1, B2, B3, B4, fun _ => ⟨(h0 hp).1, (h0 hp).2, rfl⟩, fun h => absurd hp h, B7⟩
  · rw [if_neg hp] at hmid
    cases mk with
    | true =>
      simp only [if_true, reduceIte, List.append_nil] at hmid
      subst hmid
      have B5 := dUint_at ([1, UInt8.ofNat kind] ++ Wn.enc base ++ Wn.enc pid) (Wn.enc time ++ post) epoch k3
      simp only [List.append_assoc, List.cons_append, List.nil_append] at B5
      exact ⟨_, _, _, _, B1, B2, B3, B4, fun h => absurd h hp, fun _ => ⟨B5, fun _ => ⟨hm rfl, rfl⟩, (fun h => by cases h)⟩, B7⟩
    | false =>
      simp only [if_false, reduceIte, Bool.false_eq_true] at hmid
      subst hmid
      have B5 := dUint_at ([1, UInt8.ofNat kind] ++ Wn.enc base ++ Wn.enc pid) (Wn.enc seq ++ (Wn.enc time ++ post)) epoch k3
      have B6 := dUint_at ([1, UInt8.ofNat kind] ++ Wn.enc base ++ Wn.enc pid ++ Wn.enc epoch) (Wn.enc time ++ post) seq k4
      simp only [List.append_assoc, List.cons_append, List.nil_append] at B1 B2 B3 B4 B5 B6 B7 ⊢
      exact ⟨_, _, _, _, B1, B2, B3, B4, fun h => absurd h hp, fun _ => ⟨B5, (fun h => by cases h), fun _ => B6⟩, B7⟩
theorem fine_form (b : Bat) (hF : Fine b) : (b.pid = 0 → b.epoch = 0 ∧ b.seq = 0) ∧ (markB b = true → b.seq = 0 ∧ b.L = []) ∧ (markB b = false → 0 < b.L.length) := by
  have h := hF.form
  unfold formB at h
  split at h
  · cases h
  · rename_i h1
    refine ⟨fun hp => ?_, fun hm => ?_, fun hm => ?_⟩
    · simp [hp] at h1
      omega
    · rw [if_pos hm] at h
      simp at h
      exact h
    · rw [if_neg (by rw [hm]; decide)] at h
      simpa using h
theorem batAt_enc (b : Bat) (hF : Fine b) : BatAt (encB b) b := by
  obtain ⟨f1, f2, f3⟩ := fine_form b hF
  have a1 := hF.b1; have a2 := hF.b2; have a3 := hF.p1; have a4 := hF.p2; have a5 := hF.e1; have a6 := hF.e2; have a7 := hF.s1; have a8 := hF.s2; have a9 := hF.k1; have a10 := hF.k2; have a11 := hF.t1; have a12 := hF.t2
  have hh := fun post => headAt_enc (markB b) b.base.toNat b.pid.toNat b.epoch.toNat b.seq.toNat b.kind.toNat b.time.toNat post (by omega) (by omega) (by omega) (by omega) (by omega) (by omega) (fun h => by have := f1 (by omega); omega) (fun h => by have := (f2 h).1; omega)
  refine ⟨hF, (headOf b).length, ?_, fun hm => ⟨(f2 hm).2, ?_⟩, fun hm => ?_⟩
  · unfold encB
    by_cases hm : markB b = true
    · rw [if_pos hm]
      have := hh []
      rw [List.append_nil] at this
      exact this
    · rw [if_neg hm, List.append_assoc]
      exact hh _
  · unfold encB
    rw [if_pos hm]
  · have he : encB b = headOf b ++ (Wn.enc b.L.length ++ (rowsS b.L b.time b.L.length).flatten) := by
      unfold encB
      rw [if_neg (by rw [hm]; decide), List.append_assoc]
    refine ⟨fun k => (headOf b ++ Wn.enc b.L.length ++ (rowsS b.L b.time k).flatten).length, ?_, ?_, fun k hk => ?_⟩
    · rw [he, dUint_at _ _ _ (by have := hF.len; omega)]
      simp [rowsS]
    · show (headOf b ++ Wn.enc b.L.length ++ (rowsS b.L b.time b.L.length).flatten).length = _
      rw [he, List.append_assoc]
    · have hr : recE (b.L.getD k default) = 0 := hF.recs _ (by rw [List.getD_eq_getElem?_getD, List.getElem?_eq_getElem hk]; exact List.getElem_mem _)
      obtain ⟨post, hpost⟩ := rowsS_take b.L b.time (k + 1) hk
      have hs : (rowsS b.L b.time (k + 1)).flatten = (rowsS b.L b.time k).flatten ++ recS (b.L.getD k default) b.time (prevKey b.L k) := by rw [rowsS_succ, List.flatten_append]; simp
      have hl : encB b = (headOf b ++ Wn.enc b.L.length ++ (rowsS b.L b.time k).flatten) ++ (recS (b.L.getD k default) b.time (prevKey b.L k) ++ post) := by
        rw [he, hpost, hs]
        simp only [List.append_assoc]
      have := recAt_enc (headOf b ++ Wn.enc b.L.length ++ (rowsS b.L b.time k).flatten) post b.time (prevKey b.L k) (b.L.getD k default) hr hF.t1 hF.t2
      rw [← hl] at this
      show RecAt _ _ _ _ _ (headOf b ++ Wn.enc b.L.length ++ (rowsS b.L b.time (k + 1)).flatten).length
      rw [hs, ← List.append_assoc]
      exact this

theorem ok_inj {v v' : Value} {q q' : Nat} (h : Dr.ok v q = Dr.ok v' q') : v = v' ∧ q = q' := by injection h with h1 h2; exact ⟨h1, h2⟩
theorem int_inj {k : IntKind} {a b : Int} (h : Value.int k a = Value.int k b) : a = b := by injection h
theorem recAt_one {l : List UInt8} {time : Int} {last : ByteArray} {p q q' : Nat} {r r' : Rec} (h : RecAt l time last p r q) (h' : RecAt l time last p r' q') : r = r' ∧ q = q' := by
  obtain ⟨p1, p2, p3, p4, t, a1, a2, a3, a4, a5, a6, a7⟩ := h.at_
  obtain ⟨p1', p2', p3', p4', t', b1, b2, b3, b4, b5, b6, b7⟩ := h'.at_
  rw [a1] at b1
  obtain ⟨c1, rfl⟩ := ok_inj b1
  have ct := int_inj c1
  rw [a3] at b3
  obtain ⟨c3, rfl⟩ := ok_inj b3
  have cg : r.gone = r'.gone := by injection c3
  rw [a4] at b4
  obtain ⟨c4, rfl⟩ := ok_inj b4
  have cn := int_inj c4
  have cn' : comm last.data.toList r.key.data.toList = comm last.data.toList r'.key.data.toList := by omega
  rw [a5] at b5
  obtain ⟨c5, rfl⟩ := ok_inj b5
  have cx : r.key.extract (comm last.data.toList r.key.data.toList) r.key.size = r'.key.extract (comm last.data.toList r'.key.data.toList) r'.key.size := by injection c5
  have ck : r.key = r'.key := by
    rw [← key_again last r.key, ← key_again last r'.key, cx, cn']
  have ctt : r.time = r'.time := by rw [a2, b2, ct]
  cases hg : r.gone with
  | true =>
    obtain ⟨v1, rfl⟩ := a6 hg
    obtain ⟨v2, rfl⟩ := b6 (by rw [← cg]; exact hg)
    refine ⟨?_, rfl⟩
    obtain ⟨k1, v1', g1, t1⟩ := r
    obtain ⟨k2, v2', g2, t2⟩ := r'
    simp only at ck ctt cg v1 v2
    rw [ck, ctt, cg, v1, v2]
  | false =>
    have d1 := a7 hg
    have d2 := b7 (by rw [← cg]; exact hg)
    rw [d1] at d2
    obtain ⟨c7, rfl⟩ := ok_inj d2
    have cv : r.value = r'.value := by injection c7
    refine ⟨?_, rfl⟩
    obtain ⟨k1, v1', g1, t1⟩ := r
    obtain ⟨k2, v2', g2, t2⟩ := r'
    simp only at ck ctt cg cv
    rw [ck, ctt, cg, cv]
theorem batAt_one {l : List UInt8} {a b : Bat} (ha : BatAt l a) (hb : BatAt l b) : a = b := by
  have A := ha.fine
  have B := hb.fine
  obtain ⟨q, h1, h2, h3⟩ := ha.at_
  obtain ⟨q', g1, g2, g3⟩ := hb.at_
  obtain ⟨p3, p4, p5, p6, a1, a2, a3, a4, a5, a6, a7⟩ := h1.at_
  obtain ⟨p3', p4', p5', p6', b1, b2, b3, b4, b5, b6, b7⟩ := g1.at_
  have x1 := A.b1; have x2 := A.p1; have x3 := A.e1; have x4 := A.s1; have x5 := A.k1; have x6 := A.t1
  have y1 := B.b1; have y2 := B.p1; have y3 := B.e1; have y4 := B.s1; have y5 := B.k1; have y6 := B.t1
  rw [a2] at b2
  have ck : a.kind = b.kind := by have := int_inj (ok_inj b2).1; omega
  rw [a3] at b3
  obtain ⟨c3, rfl⟩ := ok_inj b3
  have cb : a.base = b.base := by have := int_inj c3; omega
  rw [a4] at b4
  obtain ⟨c4, rfl⟩ := ok_inj b4
  have cp : a.pid = b.pid := by have := int_inj c4; omega
  have cm : markB a = markB b := by unfold markB; rw [ck]
  have mid : a.epoch = b.epoch ∧ a.seq = b.seq ∧ p6 = p6' := by
    by_cases hp : a.pid = 0
    · obtain ⟨u1, u2, u3⟩ := a5 (by omega)
      obtain ⟨v1, v2, v3⟩ := b5 (by omega)
      exact ⟨by omega, by omega, by omega⟩
    · obtain ⟨u1, u2, u3⟩ := a6 (by omega)
      obtain ⟨v1, v2, v3⟩ := b6 (by omega)
      rw [u1] at v1
      obtain ⟨c5, rfl⟩ := ok_inj v1
      have ce := int_inj c5
      cases hm : markB a with
      | true =>
        obtain ⟨w1, w2⟩ := u2 hm
        obtain ⟨z1, z2⟩ := v2 (by rw [← cm]; exact hm)
        exact ⟨by omega, by omega, by omega⟩
      | false =>
        have w1 := u3 hm
        have z1 := v3 (by rw [← cm]; exact hm)
        rw [w1] at z1
        obtain ⟨c6, rfl⟩ := ok_inj z1
        have cs := int_inj c6
        exact ⟨by omega, by omega, rfl⟩
  obtain ⟨ce, cs, rfl⟩ := mid
  rw [a7] at b7
  obtain ⟨c7, rfl⟩ := ok_inj b7
  have ct : a.time = b.time := by have := int_inj c7; omega
  have cL : a.L = b.L := by
    cases hm : markB a with
    | true => rw [(h2 hm).1, (g2 (by rw [← cm]; exact hm)).1]
    | false =>
      obtain ⟨P, u1, u2, u3⟩ := h3 hm
      obtain ⟨P', v1, v2, v3⟩ := g3 (by rw [← cm]; exact hm)
      rw [u1] at v1
      obtain ⟨c8, hP⟩ := ok_inj v1
      have cl : a.L.length = b.L.length := by have := int_inj c8; omega
      have key : ∀ k, k ≤ a.L.length → P k = P' k ∧ prevKey a.L k = prevKey b.L k ∧ ∀ j, j < k → a.L.getD j default = b.L.getD j default := by
        intro k
        induction k with
        | zero => intro _; exact ⟨hP, rfl, fun j hj => absurd hj (by omega)⟩
        | succ k ih =>
          intro hk
          obtain ⟨i1, i2, i3⟩ := ih (by omega)
          have r1 := u3 k (by omega)
          have r2 := v3 k (by omega)
          rw [i1, i2, ct] at r1
          obtain ⟨s1, s2⟩ := recAt_one r1 r2
          refine ⟨s2, ?_, fun j hj => ?_⟩
          · show (a.L.getD k default).key = (b.L.getD k default).key
            rw [s1]
          · rcases Nat.lt_or_ge j k with g | g
            · exact i3 j g
            · rw [show j = k from by omega]; exact s1
      have k2 := (key a.L.length (Nat.le_refl _)).2.2
      refine List.ext_getElem cl fun i hi1 hi2 => ?_
      have := k2 i hi1
      rwa [List.getD_eq_getElem?_getD, List.getD_eq_getElem?_getD, List.getElem?_eq_getElem hi1, List.getElem?_eq_getElem hi2] at this
  obtain ⟨m1, m2, m3, m4, m5, m6, m7⟩ := a
  obtain ⟨n1, n2, n3, n4, n5, n6, n7⟩ := b
  simp only at ck cb cp ce cs ct cL
  rw [ck, cb, cp, ce, cs, ct, cL]
theorem encB_one {a b : Bat} (ha : Fine a) (hb : Fine b) (h : encB a = encB b) : a = b := batAt_one (batAt_enc a ha) (by rw [h]; exact batAt_enc b hb)
end Go.Proofs.Ytniopekkfnkipaa
