/-
  RecReads.
-/
import Derived.Test.YtniopekkfnkipaaRecHz
import Derived.Test.YtniopekkfnkipaaRecKz
import Derived.Test.YtniopekkfnkipaaRecAw
import Derived.Test.YtniopekkfnkipaaOwnSet
-- (its beginning: up to the loop)
namespace Go.Proofs.Ytniopekkfnkipaa
open Go.RowKit
set_option linter.unusedVariables false
set_option linter.unusedSimpArgs false

set_option maxRecDepth 100000 in
set_option maxHeartbeats 16000000 in
theorem reads3_walk (b : Bat) (A : Option Addr) (c : Nat) (x1 x2 : Int) (A3 : Option Addr) (n3 c3 : Nat) (l3 : List UInt8) (w : World) (hL : Rcs w w.heap.size A b.L.length b.L) (hl : b.L.length ≤ maxLen) (hok : b.ok) (h1 : i64_ x1) (h2 : 0 ≤ x2 ∧ x2 ≤ 255) (h3 : Bs w w.heap.size A3 n3 l3) (hc3 : n3 ≤ c3) (hm3 : c3 ≤ maxLen) :
    Calls Try.prog 3 #[.agg (b.cells A c), .int .i64 x1, .int .u8 x2, .slice A3 n3 c3] w fun e w' => e = .returned (.bool true) ∧ Below w.heap.size w w' := by
  have HCU : Hid (∀ W, Below w.heap.size w W → Calls Try.prog 5 #[.agg (b.cells A c)] W fun e w' => ∃ A' c', e = .returned (.agg ((cutB b).cells A' c')) ∧ (cutB b).L.length ≤ c' ∧ c' ≤ maxLen ∧ Rcs w' w'.heap.size A' (cutB b).L.length (cutB b).L ∧ (∀ p, A' = some p → W.heap.size ≤ p.block) ∧ Below W.heap.size W w') := fun W h => cutB_any b A c w.heap.size W (hL.below h) h.size hl
  have HCL : Hid ((cutB b).L.length ≤ 80) := by show _ ≤ _; simp only [cutB, List.length_map, List.length_take]; omega
  have HEN : Hid (∀ (W : World) (A' : Option Addr) (c' : Nat), Rcs W W.heap.size A' (cutB b).L.length (cutB b).L → Calls Try.prog 4 #[.agg ((cutB b).cells A' c')] W fun e w' => ∃ v lr er, e = .returned (.tuple #[v, .int .i64 er]) ∧ Own w' W.heap.size v lr ∧ (lr = [] ∨ BatAt lr (cutB b)) ∧ Below W.heap.size W w') := fun W A' c' h => rencode_own (cutB b) A' c' W.heap.size W h (Nat.le_refl _) (by have := HCL.out; unfold maxLen; omega)
  generalize cutB b = b' at *
  have HAW : Hid (∀ W, Calls Try.prog 10 #[] W fun e w' => e = .returned (.bool true) ∧ Below W.heap.size W w') := fun W => awake3_any W
  have HM : Hid (∀ W, Below w.heap.size w W → Bs W w.heap.size A3 n3 l3) := fun W h => h3.below h
  obtain ⟨b0, p0, e0, s0, k0, t0, L0⟩ := b
  unfold Bat.cells at HCU HEN ⊢
  simp only at HCU HEN ⊢
  have hB0 := (Below.refl w.heap.size w).alloc (Nat.le_refl _) (.cells #[.int .i64 b0, .int .i64 p0, .int .i64 e0, .int .i64 s0, .int .i64 k0, .int .i64 t0, .slice A L0.length c] 24)
  have hzz : w.heap.size < (w.alloc (.cells #[.int .i64 b0, .int .i64 p0, .int .i64 e0, .int .i64 s0, .int .i64 k0, .int .i64 t0, .slice A L0.length c] 24)).heap.size := by simp
  obtain ⟨w1, hw1⟩ : ∃ w1, w.alloc (.cells #[.int .i64 b0, .int .i64 p0, .int .i64 e0, .int .i64 s0, .int .i64 k0, .int .i64 t0, .slice A L0.length c] 24) = w1 := ⟨_, rfl⟩
  rw [hw1] at hB0 hzz
  have HW1 := Lib.hid hw1
  have HB0 := Lib.hid hB0
  clear hw1 hB0 hL hok h3
  go_enter Try.func3, Try.ntmps3
  go_wp2_with fail
  rw [HW1.out]
  refine (HCU.out w1 HB0.out).mono ?_
  rintro e w2 ⟨A', c', rfl, hc1, hc2, hR2, hA2, hb2⟩
  have HB2 := Lib.hid (HB0.out.trans (hb2.mono HB0.out.size))
  have HE := Lib.hid (HEN.out w2 A' c' hR2)
  clear HCU hc1 hc2 hR2 hA2 hb2 HB0
  go_wp2_with fail
  refine HE.out.mono ?_
  rintro e w3 ⟨v, lr, er, rfl, ho, hlr, hb3⟩
  have HB3 := Lib.hid (HB2.out.trans (hb3.mono HB2.out.size))
  have hz2 := HB2.out.size
  have hob := hb3.size
  have HO := Lib.hid ho
  have HLR := Lib.hid hlr
  clear ho hlr hb3 HE HB2 HEN
  go_upto_if 28 with fail
  go_cut [3] (fun s3 wx => ∃ m, s3 = .slice A3 m c3 ∧ wx = w3 ∧ m ≤ n3 ∧ m ≤ 60)
  case first =>
    by_cases hm : n3 ≤ 60
    · have d1 : decide ((60 : Int) < (n3 : Int)) = false := by rw [decide_eq_false_iff_not]; omega
      go_wp2_with fail
      go_meet
      exact ⟨n3, rfl, rfl, Nat.le_refl _, hm⟩
    · have d1 : decide ((60 : Int) < (n3 : Int)) = true := by rw [decide_eq_true_iff]; omega
      unfold maxLen at hm3
      have q1 : (60 : Int) ≤ (c3 : Int) := by omega
      have q2 : 60 ≤ c3 := by omega
      go_wp2_with fail
      go_meet
      exact ⟨60, rfl, rfl, by omega, Nat.le_refl _⟩
  case rest =>
    obtain ⟨m, rfl, rfl, hm1, hm2⟩ := hcut
    obtain ⟨Ar, cr, rfl, hcr, hmr, hbr, hnb, _⟩ := HO.out.form
    have HBR := Lib.hid hbr
    have HNB := Lib.hid hnb
    generalize w2.heap.size = ob at *
    obtain ⟨n, hn⟩ : ∃ n, lr.length = n := ⟨_, rfl⟩
    have HN := Lib.hid hn
    rw [hn] at hcr HBR HO ⊢
    clear hbr hnb hn
    have hi1 := h1.1
    have hi2 := h1.2
    unfold maxLen at hmr
    have hn20 : n ≤ 1048576 := by
      rcases HLR.out with h | h
      · have := HN.out; rw [h] at this; simp at this; omega
      · have := batAt_size h; have := HN.out; omega
    go_upto_if 33 with fail
    go_cut [1, 11, 12] (fun s1 s11 s12 wx => ∃ lr2 : List UInt8, ob ≤ wx.heap.size ∧ Hid (lr2.length = n) ∧ Hid (Own wx ob (.slice Ar n cr) lr2) ∧ Hid (Below w.heap.size w wx))
    case first =>
      by_cases h0 : 0 < n
      · have d1 : decide ((0 : Int) < (n : Int)) = true := by rw [decide_eq_true_iff]; omega
        have hab := Int.natAbs_tmod x1 (n : Int)
        rw [Int.natAbs_natCast] at hab
        have hlt : (x1.tmod (n : Int)).natAbs < n := by rw [hab]; exact Nat.mod_lt _ h0
        have hnz : ¬ (n : Int) = 0 := by omega
        have hbt : BatAt lr b' := by
          rcases HLR.out with h | h
          · have := HN.out; rw [h] at this; simp at this; omega
          · exact h
        have HNO : Hid (∀ j, j < n → ∀ b'', ¬ BatAt (lr.take j) b'') := fun j hj b'' => short_none hbt (by rw [HN.out]; exact hj) b''
        clear hbt
        have HPD : Hid (∀ j, j < n → Calls Try.prog 6 #[.slice Ar j cr] wc fun e w' => e = .returned (.tuple #[.agg #[.int .i64 0, .int .i64 0, .int .i64 0, .int .i64 0, .int .i64 0, .int .i64 0, .slice none 0 0], .int .i64 6]) ∧ Below wc.heap.size wc w') := fun j hj => decode_none Ar j cr wc.heap.size (lr.take j) wc (HBR.out.take j (by omega)) (by omega) (Nat.le_refl _) (HNO.out j hj)
        obtain ⟨r, hr⟩ : ∃ r, x1.tmod (n : Int) = r := ⟨_, rfl⟩
        rw [hr] at hlt
        have hr1 : -9223372036854775808 < r := by omega
        have hr2 : r < 9223372036854775808 := by omega
        go_upto_if 39 with fail
        go_cut [1] (fun s1 wx => ∃ j : Nat, s1 = .int .i64 (j : Int) ∧ j < n ∧ wx = wc)
        case first =>
          by_cases hneg : r < 0
          · have dn : decide (r < 0) = true := decide_eq_true hneg
            go_wp2_with fail
            go_meet
            exact ⟨r.natAbs, by first | rfl | (congr 1; omega) | (go_num), hlt, rfl⟩
          · have dn : decide (r < 0) = false := decide_eq_false hneg
            go_wp2_with fail
            go_meet
            exact ⟨r.natAbs, by first | rfl | (congr 1; omega) | (go_num), hlt, rfl⟩
        case rest =>
          obtain ⟨j, rfl, hj, rfl⟩ := hcut
          have HP := Lib.hid (HPD.out j hj)
          have q1 : (j : Int) ≤ (cr : Int) := by omega
          have q2 : j ≤ cr := by omega
          have q3 : (0 : Int) ≤ (j : Int) := by omega
          clear HPD HNO hlt hab hr1 hr2
          go_wp2_with fail
          refine HP.out.mono ?_
          rintro e w4 ⟨rfl, hb4⟩
          have hal := (Below.refl w4.heap.size w4).alloc (Nat.le_refl _) (.cells #[.int .i64 0, .int .i64 0, .int .i64 0, .int .i64 0, .int .i64 0, .int .i64 0, .slice none 0 0] 24)
          have HO5 := Lib.hid ((HO.out.below hb4 (Nat.le_refl _)).below hal (Nat.le_refl _))
          have HB5 := Lib.hid ((HB3.out.trans (hb4.mono HB3.out.size)).alloc (by have := HB3.out.size; have := hb4.size; omega) (.cells #[.int .i64 0, .int .i64 0, .int .i64 0, .int .i64 0, .int .i64 0, .int .i64 0, .slice none 0 0] 24))
          have hx5 := heap_alloc_new w4 (.cells #[.int .i64 0, .int .i64 0, .int .i64 0, .int .i64 0, .int .i64 0, .int .i64 0, .slice none 0 0] 24)
          have y0 : (w4.alloc (.cells #[.int .i64 0, .int .i64 0, .int .i64 0, .int .i64 0, .int .i64 0, .int .i64 0, .slice none 0 0] 24)).cell? ⟨w4.heap.size, 0, none⟩ = some (.int .i64 0) := cell_of_row _ _ 0 _ _ _ hx5
          have hs4 := hb4.size
          clear hb4 hal hx5 HP
          go_wp2_with fail
          have HSM0 : Hid (∀ W, Calls Try.prog 7 #[.agg #[.int .i64 0, .int .i64 0, .int .i64 0, .int .i64 0, .int .i64 0, .int .i64 0, .slice none 0 0], .agg #[.int .i64 0, .int .i64 0, .int .i64 0, .int .i64 0, .int .i64 0, .int .i64 0, .slice none 0 0]] W fun e w' => e = .returned (.bool true) ∧ Below W.heap.size W w') := fun W => rsame_yes ⟨0, 0, 0, 0, 0, 0, []⟩ none none 0 0 W.heap.size W Rcs.nil_ Rcs.nil_ (Nat.le_refl _) (by simp [maxLen])
          refine (HSM0.out _).mono ?_
          rintro e w6 ⟨rfl, hb6⟩
          have hs46 : wc.heap.size ≤ w6.heap.size := by have := hb6.size; simp at this; omega
          have hB6 := HB5.out.trans (hb6.mono HB5.out.size)
          have ho6 := HO5.out.below hb6 (Nat.le_refl _)
          obtain ⟨gr, rfl, hgr⟩ := ho6.head (by rw [HN.out]; exact h0)
          have cj := ho6.cell_ HN.out j hj
          have fj := ho6.free_ HN.out j
          obtain ⟨a, ha⟩ : ∃ a, (lr.getD j 0).toNat = a := ⟨_, rfl⟩
          have ha2 : a < 256 := by rw [← ha]; exact (lr.getD j 0).toNat_lt
          rw [ha] at cj
          obtain ⟨y2, rfl⟩ : ∃ y2 : Nat, x2 = (y2 : Int) := ⟨x2.toNat, by omega⟩
          have hx := u8_xor_nat a y2 ha2 (by omega)
          have hz : a ^^^ y2 < 256 := Nat.xor_lt_two_pow (n := 8) (by omega) (by omega)
          have hz2 : (UInt8.ofNat (a ^^^ y2)).toNat = a ^^^ y2 := by rw [UInt8.toNat_ofNat']; exact Nat.mod_eq_of_lt hz
          have hset := ho6.set_ HN.out j (UInt8.ofNat (a ^^^ y2))
          rw [hz2] at hset
          have HSET : Hid (Own (w6.setCell ⟨gr, j, none⟩ (.int .u8 ((a ^^^ y2 : Nat) : Int))) ob (.slice (some ⟨gr, 0, none⟩) n cr) (lr.set j (UInt8.ofNat (a ^^^ y2)))) := hset
          have HB6 := Lib.hid hB6
          clear hset hB6 ho6 HB5 HO5 hb6 y0
          go_wp2_with fail
          go_meet
          exact ⟨lr.set j (UInt8.ofNat (a ^^^ y2)), by simp; have := hs46; omega, by show _ = _; rw [List.length_set]; exact HN.out, HSET, HB6.out.setCell (by show w.heap.size ≤ gr; omega) _⟩
      · have d1 : decide ((0 : Int) < (n : Int)) = false := by rw [decide_eq_false_iff_not]; omega
        go_wp2_with fail
        go_meet
        exact ⟨lr, hob, HN, HO, HB3⟩
    case rest =>
      clear HLR HO HB3 HN
      obtain ⟨lr2, hob2, HN2, HO2, HB2⟩ := hcut
      obtain ⟨i0, hi0, hy0, hy1, hy2⟩ := info_parts byte_info
      obtain ⟨Ar2, cr2, hvr, hcr2, hmr2, hbr2, _, _⟩ := HO2.out.form
      injection hvr with e1 e2 e3
      go_upto_region 12 with fail
      go_wp2_with fail
      go_loopw [9, 13] (fun s9 s13 wx => ∃ (k : Nat) (lr : List UInt8) (Ar : Option Addr) (cr : Nat), k ≤ 3 ∧ s13 = .int .i64 (k : Int) ∧ s9 = .slice Ar lr.length cr ∧ lr.length ≤ cr ∧ cr ≤ maxLen ∧ lr.length ≤ 1048700 ∧ Hid (k = 0 → lr.length ≤ 1048576) ∧ ob ≤ wx.heap.size ∧ Hid (Bs wx wx.heap.size Ar lr.length lr) ∧ Hid (k = 0 → Own wx ob (.slice Ar lr.length cr) lr) ∧ Hid (Below w.heap.size w wx)) (fun _ s13 _ => 3 - (intOf s13).toNat)
      case atStart =>
        have hn2 := HN2.out
        exact ⟨0, lr2, Ar, cr, by omega, rfl, by rw [hn2], by omega, by unfold maxLen; omega, by omega, fun _ => by rw [hn2]; exact hn20, hob2, by show Bs _ _ _ _ _; have h := hbr2; rw [hn2, ← e1] at h; rw [hn2]; exact h, fun _ => by rw [hn2]; exact HO2.out, HB2⟩
      case round =>
        obtain ⟨k, lr, Ar, cr, hk, rfl, rfl, hcr, hmr, hsz, HK0, hobr, HBS, HOW, HBL⟩ := hrel
        by_cases hlt : k < 3
        · have HP := Lib.hid (pdecode_any Ar lr.length cr wr.heap.size lr wr HBS.out (by omega) (Nat.le_refl _))
          go_wp2_with fail
          refine HP.out.mono ?_
          rintro e w1 ⟨b1, er, A1, c1, hd1, rfl, hl1, hmq1, hr1, hb1⟩
          obtain ⟨base, pid, epoch, seq, kind, time, L⟩ := b1
          unfold Bat.cells at *
          simp only at hl1 hr1 ⊢
          have HD1 := Lib.hid hd1
          have hsz1 := hb1.size
          have hBL1 := HBL.out.trans (hb1.mono HBL.out.size)
          have hal1 := (Below.refl w1.heap.size w1).alloc (Nat.le_refl _) (.cells #[.int .i64 base, .int .i64 pid, .int .i64 epoch, .int .i64 seq, .int .i64 kind, .int .i64 time, .slice A1 L.length c1] 24)
          have hx1 := heap_alloc_new w1 (.cells #[.int .i64 base, .int .i64 pid, .int .i64 epoch, .int .i64 seq, .int .i64 kind, .int .i64 time, .slice A1 L.length c1] 24)
          have hbs1 : Bs (w1.alloc (.cells #[.int .i64 base, .int .i64 pid, .int .i64 epoch, .int .i64 seq, .int .i64 kind, .int .i64 time, .slice A1 L.length c1] 24)) (w1.alloc (.cells #[.int .i64 base, .int .i64 pid, .int .i64 epoch, .int .i64 seq, .int .i64 kind, .int .i64 time, .slice A1 L.length c1] 24)).heap.size Ar lr.length lr := ((HBS.out.below hb1).below (hal1.mono hb1.size)).wider (Nat.le_trans hb1.size hal1.size)
          have HR := Lib.hid (rdecode_any Ar cr (w1.alloc (.cells #[.int .i64 base, .int .i64 pid, .int .i64 epoch, .int .i64 seq, .int .i64 kind, .int .i64 time, .slice A1 L.length c1] 24)).heap.size lr (w1.alloc (.cells #[.int .i64 base, .int .i64 pid, .int .i64 epoch, .int .i64 seq, .int .i64 kind, .int .i64 time, .slice A1 L.length c1] 24)) hbs1 hcr hmr (by omega) (Nat.le_refl _))
          have HX1 := Lib.hid hx1
          have HBL1 := Lib.hid (hBL1.alloc hBL1.size (.cells #[.int .i64 base, .int .i64 pid, .int .i64 epoch, .int .i64 seq, .int .i64 kind, .int .i64 time, .slice A1 L.length c1] 24))
          have HRC1 := Lib.hid ((hr1.below hal1).wider hal1.size)
          have HBS1 := Lib.hid hbs1
          have HOW1 : Hid (k = 0 → Own (w1.alloc (.cells #[.int .i64 base, .int .i64 pid, .int .i64 epoch, .int .i64 seq, .int .i64 kind, .int .i64 time, .slice A1 L.length c1] 24)) ob (.slice Ar lr.length cr) lr) := fun h => ((HOW.out h).below hb1 (Nat.le_refl _)).below hal1 (Nat.le_refl _)
          have hs1a : ob ≤ (w1.alloc (.cells #[.int .i64 base, .int .i64 pid, .int .i64 epoch, .int .i64 seq, .int .i64 kind, .int .i64 time, .slice A1 L.length c1] 24)).heap.size := by simp; omega
          have hz1 : w1.heap.size < (w1.alloc (.cells #[.int .i64 base, .int .i64 pid, .int .i64 epoch, .int .i64 seq, .int .i64 kind, .int .i64 time, .slice A1 L.length c1] 24)).heap.size := (Array.getElem?_eq_some_iff.1 hx1).1
          clear hd1 hBL1 hal1 hx1 hbs1 hr1 hb1 HP HBS HOW HBL
          go_wp2_with fail
          generalize w1.alloc (.cells #[.int .i64 base, .int .i64 pid, .int .i64 epoch, .int .i64 seq, .int .i64 kind, .int .i64 time, .slice A1 L.length c1] 24) = w1a at *
          generalize w1.heap.size = xb at *
          refine HR.out.mono ?_
          rintro e w2 ⟨b2, er2, A2, c2, hd2, rfl, hl2, hm2, hr2, hb2⟩
          obtain ⟨rfl, rfl⟩ := HD1.out.one hd2
          unfold Bat.cells at *
          simp only at hl2 hr2 ⊢
          have hsz2 := hb2.size
          have hal2 := (Below.refl w2.heap.size w2).alloc (Nat.le_refl _) (.cells #[.int .i64 base, .int .i64 pid, .int .i64 epoch, .int .i64 seq, .int .i64 kind, .int .i64 time, .slice A2 L.length c2] 24)
          have hb2a := hb2.trans (hal2.mono hb2.size)
          have HX2 := Lib.hid ((hb2a.block xb hz1).trans HX1.out)
          have HY2 := Lib.hid (heap_alloc_new w2 (.cells #[.int .i64 base, .int .i64 pid, .int .i64 epoch, .int .i64 seq, .int .i64 kind, .int .i64 time, .slice A2 L.length c2] 24))
          have HBL2 := Lib.hid (HBL1.out.trans (hb2a.mono HBL1.out.size))
          have HBS2 := Lib.hid ((HBS1.out.below hb2a).wider hb2a.size)
          have HOW2 : Hid (k = 0 → Own (w2.alloc (.cells #[.int .i64 base, .int .i64 pid, .int .i64 epoch, .int .i64 seq, .int .i64 kind, .int .i64 time, .slice A2 L.length c2] 24)) ob (.slice Ar lr.length cr) lr) := fun h => (HOW1.out h).below hb2a (Nat.le_refl _)
          have HRX := Lib.hid ((HRC1.out.below hb2a).wider hb2a.size)
          have HRY := Lib.hid ((hr2.below hal2).wider hal2.size)
          have HS := Lib.hid (rsame_yes ⟨base, pid, epoch, seq, kind, time, L⟩ A1 A2 c1 c2 (w2.alloc (.cells #[.int .i64 base, .int .i64 pid, .int .i64 epoch, .int .i64 seq, .int .i64 kind, .int .i64 time, .slice A2 L.length c2] 24)).heap.size (w2.alloc (.cells #[.int .i64 base, .int .i64 pid, .int .i64 epoch, .int .i64 seq, .int .i64 kind, .int .i64 time, .slice A2 L.length c2] 24)) HRX.out HRY.out (Nat.le_refl _) (by show L.length ≤ maxLen; omega))
          unfold Bat.cells at HS
          simp only at HS
          have z0 := cell_of_row _ _ 0 _ _ _ HX2.out
          have v0 := cell_of_row _ _ 0 _ _ _ HY2.out
          have z1 := cell_of_row _ _ 1 _ _ _ HX2.out
          have v1 := cell_of_row _ _ 1 _ _ _ HY2.out
          have z2 := cell_of_row _ _ 2 _ _ _ HX2.out
          have v2 := cell_of_row _ _ 2 _ _ _ HY2.out
          have z3 := cell_of_row _ _ 3 _ _ _ HX2.out
          have v3 := cell_of_row _ _ 3 _ _ _ HY2.out
          have z4 := cell_of_row _ _ 4 _ _ _ HX2.out
          have v4 := cell_of_row _ _ 4 _ _ _ HY2.out
          have z5 := cell_of_row _ _ 5 _ _ _ HX2.out
          have v5 := cell_of_row _ _ 5 _ _ _ HY2.out
          have z6 := cell_of_row _ _ 6 _ _ _ HX2.out
          have v6 := cell_of_row _ _ 6 _ _ _ HY2.out
          have hee : (er != er) = false := by simp
          clear hd2 hal2 hb2a hr2 hb2 HR HX1 HBL1 HBS1 HOW1 HRC1
          go_wp2_with fail
          refine HS.out.mono ?_
          rintro e w3 ⟨rfl, hb3⟩
          have hsz3 : ob ≤ w3.heap.size := by have q1 := hb3.size; simp at q1; omega
          have HX3 := Lib.hid ((hb3.block xb (Array.getElem?_eq_some_iff.1 HX2.out).1).trans HX2.out)
          have HBL3 := Lib.hid (HBL2.out.trans (hb3.mono HBL2.out.size))
          have HBS3 := Lib.hid ((HBS2.out.below hb3).wider hb3.size)
          have HOW3 : Hid (k = 0 → Own w3 ob (.slice Ar lr.length cr) lr) := fun h => (HOW2.out h).below hb3 (Nat.le_refl _)
          have HRX3 := Lib.hid ((HRX.out.below hb3).wider hb3.size)
          clear hb3 HS HX2 HY2 HBL2 HBS2 HOW2 HRX HRY z0 z1 z2 z3 z4 z5 z6 v0 v1 v2 v3 v4 v5 v6 hee
          rcases HD1.out with ⟨hat, rfl⟩ | ⟨hno, heq, rfl⟩
          · have HEY := Lib.hid (encode_yes ⟨base, pid, epoch, seq, kind, time, L⟩ A1 c1 w3.heap.size w3 HRX3.out (Nat.le_refl _) hat.fine)
            rw [← bat_strict hat] at HEY
            unfold Bat.cells at HEY
            simp only at HEY
            have z0 := cell_of_row _ _ 0 _ _ _ HX3.out
            have z1 := cell_of_row _ _ 1 _ _ _ HX3.out
            have z2 := cell_of_row _ _ 2 _ _ _ HX3.out
            have z3 := cell_of_row _ _ 3 _ _ _ HX3.out
            have z4 := cell_of_row _ _ 4 _ _ _ HX3.out
            have z5 := cell_of_row _ _ 5 _ _ _ HX3.out
            have z6 := cell_of_row _ _ 6 _ _ _ HX3.out
            clear hat
            go_wp2_with fail
            refine HEY.out.mono ?_
            rintro e w4 ⟨vp, rfl, hop, hb4⟩
            obtain ⟨Ap, cp, rfl, _, _, hbp, _, _⟩ := hop.form
            have hsz34 := hb4.size
            have HBL4 := Lib.hid (HBL3.out.trans (hb4.mono HBL3.out.size))
            have HBS4 := Lib.hid ((HBS3.out.below hb4).wider hb4.size)
            have HOW4 : Hid (k = 0 → Own w4 ob (.slice Ar lr.length cr) lr) := fun h => (HOW3.out h).below hb4 (Nat.le_refl _)
            have s1 := hbp.str (P := Try.prog) Try.underlying25 Try.underlying5 Try.underlying9 cp
            have s2 := HBS4.out.str (P := Try.prog) Try.underlying25 Try.underlying5 Try.underlying9 cr
            have hself : (lr == lr) = true := by simp
            clear z0 z1 z2 z3 z4 z5 z6 hop hbp hb4 HEY HX3 HBL3 HBS3 HOW3 HRX3
            have hs34 : w3.heap.size ≤ w4.heap.size := hsz34
            go_upto_if 104 with fail
            by_cases hk0 : k = 0
            · have hd0 : ((k : Int) == 0) = true := by rw [hk0]; rfl
              have hown := HOW4.out hk0
              have hl0 := HK0.out hk0
              have hobn : ob ≤ w4.heap.size := by omega
              have hsrc : Bs w4 ob A3 m (l3.take m) := ((HM.out w4 HBL4.out).take m hm1).wider hz2
              have hlm : (l3.take m).length = m := hsrc.len
              go_wp2_with (at_builtin; go_loud (refine wpList_append_src _ rfl (.tmp 105) (.tmp 106) 25 rfl ob 5 i0 _ 1 Try.underlying25 hi0 hy0 hy1 hy2 rfl _ lr.length (bvs lr) rfl hown ob A3 m c3 (bvs (l3.take m)) rfl (by rw [bvs_length]; exact hlm) hsrc.lies (bvs_one _) (by unfold maxLen; omega) (by omega) hobn ?_))
              intro v9 w9 hown9 hg9 _
              have hb9 := grown_below hown hg9 hobn
              have R : Own w9 ob v9 (lr ++ l3.take m) := by
                unfold Own
                rw [bvs_append, List.length_append, hlm]
                exact hown9
              have HB9 := Lib.hid (HBL4.out.trans (hb9.mono hz2))
              have hz9 : ob ≤ w9.heap.size := Nat.le_trans hobn hb9.size
              have hll : (lr ++ l3.take m).length ≤ 1048700 := by rw [List.length_append]; omega
              obtain ⟨A9, c9, rfl, hc9, hm9, hbs9, _, _⟩ := R.form
              have HBS9 := Lib.hid hbs9
              clear hown9 hg9 hown hb9 R hbs9 hsrc
              go_wp2
              go_roundw
              case rel => exact ⟨k + 1, lr ++ l3.take m, A9, c9, by omega, by go_num, rfl, hc9, hm9, hll, fun h => absurd h (by omega), hz9, HBS9, fun h => absurd h (by omega), HB9⟩
              case measure => simp [intOf]; omega
            · have hd0 : ((k : Int) == 0) = false := by rw [beq_eq_false_iff_ne]; omega
              have hobn : ob ≤ w4.heap.size := by omega
              have hsrc : Bs w4 w.heap.size A3 m (l3.take m) := (HM.out w4 HBL4.out).take m hm1
              have hlm : (l3.take m).length = m := hsrc.len
              have HBS9 : Hid (Bs w4 w4.heap.size A3 (l3.take m).length (l3.take m)) := by rw [hlm]; exact hsrc.wider (by omega)
              clear hsrc
              go_wp2_with fail
              go_roundw
              case rel => exact ⟨k + 1, l3.take m, A3, c3, by omega, by go_num, by rw [hlm], by omega, hm3, by omega, fun h => absurd h (by omega), hobn, HBS9, fun h => absurd h (by omega), HBL4⟩
              case measure => simp [intOf]; omega
          · clear hno heq HX3 HRX3
            go_upto_if 104 with fail
            by_cases hk0 : k = 0
            · have hd0 : ((k : Int) == 0) = true := by rw [hk0]; rfl
              have hown := HOW3.out hk0
              have hl0 := HK0.out hk0
              have hobn : ob ≤ w3.heap.size := by omega
              have hsrc : Bs w3 ob A3 m (l3.take m) := ((HM.out w3 HBL3.out).take m hm1).wider hz2
              have hlm : (l3.take m).length = m := hsrc.len
              go_wp2_with (at_builtin; go_loud (refine wpList_append_src _ rfl (.tmp 105) (.tmp 106) 25 rfl ob 5 i0 _ 1 Try.underlying25 hi0 hy0 hy1 hy2 rfl _ lr.length (bvs lr) rfl hown ob A3 m c3 (bvs (l3.take m)) rfl (by rw [bvs_length]; exact hlm) hsrc.lies (bvs_one _) (by unfold maxLen; omega) (by omega) hobn ?_))
              intro v9 w9 hown9 hg9 _
              have hb9 := grown_below hown hg9 hobn
              have R : Own w9 ob v9 (lr ++ l3.take m) := by
                unfold Own
                rw [bvs_append, List.length_append, hlm]
                exact hown9
              have HB9 := Lib.hid (HBL3.out.trans (hb9.mono hz2))
              have hz9 : ob ≤ w9.heap.size := Nat.le_trans hobn hb9.size
              have hll : (lr ++ l3.take m).length ≤ 1048700 := by rw [List.length_append]; omega
              obtain ⟨A9, c9, rfl, hc9, hm9, hbs9, _, _⟩ := R.form
              have HBS9 := Lib.hid hbs9
              clear hown9 hg9 hown hb9 R hbs9 hsrc
              go_wp2
              go_roundw
              case rel => exact ⟨k + 1, lr ++ l3.take m, A9, c9, by omega, by go_num, rfl, hc9, hm9, hll, fun h => absurd h (by omega), hz9, HBS9, fun h => absurd h (by omega), HB9⟩
              case measure => simp [intOf]; omega
            · have hd0 : ((k : Int) == 0) = false := by rw [beq_eq_false_iff_ne]; omega
              have hobn : ob ≤ w3.heap.size := by omega
              have hsrc : Bs w3 w.heap.size A3 m (l3.take m) := (HM.out w3 HBL3.out).take m hm1
              have hlm : (l3.take m).length = m := hsrc.len
              have HBS9 : Hid (Bs w3 w3.heap.size A3 (l3.take m).length (l3.take m)) := by rw [hlm]; exact hsrc.wider (by omega)
              clear hsrc
              go_wp2_with fail
              go_roundw
              case rel => exact ⟨k + 1, l3.take m, A3, c3, by omega, by go_num, by rw [hlm], by omega, hm3, by omega, fun h => absurd h (by omega), hobn, HBS9, fun h => absurd h (by omega), HBL3⟩
              case measure => simp [intOf]; omega
        · have hk3 : k = 3 := by omega
          subst hk3
          have HA := Lib.hid (HAW.out wr)
          go_wp2_with fail
          refine HA.out.mono ?_
          rintro e w9 ⟨rfl, hb9⟩
          have HB9 := Lib.hid (HBL.out.trans (hb9.mono HBL.out.size))
          go_wp2_with fail
          go_ret
          exact ⟨rfl, HB9.out⟩
end Go.Proofs.Ytniopekkfnkipaa
