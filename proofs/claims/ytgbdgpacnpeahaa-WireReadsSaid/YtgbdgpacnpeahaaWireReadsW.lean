/-
  The walk through WireReads.
-/
import Derived.Test.YtgbdgpacnpeahaaWrS
import Derived.Test.YtgbdgpacnpeahaaPhase
import Derived.Test.YtgbdgpacnpeahaaWireAwake
import Derived.Test.YtgbdgpacnpeahaaItemV
import Derived.Test.YtgbdgpacnpeahaaOwnSet
namespace Go.Proofs.Ytgbdgpacnpeahaa
open Go.RowKit Go.Lib Go.Sort
set_option linter.unusedVariables false
set_option linter.unusedSimpArgs false

set_option maxHeartbeats 1000000 in
/-- NewReader, and where the reader's bytes lie -/
theorem newReader2_any (A : Option Addr) (n c B : Nat) (l : List UInt8) (w : World) (h : Bs w B A n l) (hn : n ≤ 1099511627776) (hB : B ≤ w.heap.size) :
    Calls Try.prog 10 #[.slice A n c] w fun e w' => ∃ g A' c', e = .returned (.pointer (some ⟨g, 0, none⟩)) ∧ w.heap.size ≤ g ∧ (∀ q, A' = some q → w.heap.size ≤ q.block ∧ q.block < w'.heap.size) ∧ Rd w' g A' c' l 0 0 ∧ Below w.heap.size w w' := by
  obtain rfl : l.length = n := h.len
  have HC := Lib.hid (cloneB_any A l.length c B l w h hn hB)
  clear h
  go_enter Try.func10, Try.ntmps10
  go_wp2_with fail
  refine HC.out.mono ?_
  rintro e w1 ⟨v1, rfl, ho1, hb1⟩
  clear HC
  obtain ⟨A1, c1, rfl, hc1, hm1, hbs1, hk1, _⟩ := ho1.form
  have hz := hb1.size
  go_wp2_with fail
  go_ret
  refine ⟨w1.heap.size, A1, c1, rfl, hz, fun q e => ⟨(hk1 q.block (by rw [e]; rfl)).1, by have := (hk1 q.block (by rw [e]; rfl)).2; simp; omega⟩, ⟨heap_alloc_new w1 _, hc1, hm1, hbs1.alloc (Nat.le_refl _) _, by omega, by omega⟩, hb1.alloc hz _⟩
theorem xor_u8 (a b : Int) : ∃ y : UInt8, bits .xor .u8 a b = (y.toNat : Int) := by
  refine ⟨UInt8.ofNat (BitVec.ofInt 8 a ^^^ BitVec.ofInt 8 b).toNat, ?_⟩
  show IntKind.u8.wrap (((BitVec.ofInt 8 a ^^^ BitVec.ofInt 8 b).toNat : Nat) : Int) = _
  have := (BitVec.ofInt 8 a ^^^ BitVec.ofInt 8 b).isLt
  rw [UInt8.toNat_ofNat']
  simp only [IntKind.wrap, IntKind.bits, IntKind.signed]
  simp
theorem own_empty (w : World) : Own (w.alloc (.cells #[] 5)) w.heap.size (.slice (some ⟨w.heap.size, 0, none⟩) 0 0) [] :=
  ⟨rfl, .inr ⟨w.heap.size, 0, #[], rfl, Nat.le_refl _, heap_alloc_new w _, by simp, by unfold maxLen; omega, rfl, rfl⟩⟩
set_option maxRecDepth 100000 in
set_option maxHeartbeats 60000000 in
theorem wireReads_any (A : Option Addr) (n c : Nat) (l : List UInt8) (IA : Option Addr) (iN ic : Nat) (Y : List Item) (w : World) (h : Bs w w.heap.size A n l) (hn : n ≤ c) (hc : c ≤ maxLen) (hI : Its w w.heap.size IA iN Y) (hi : iN ≤ maxLen) :
    Calls Try.prog 4 #[.slice A n c, .slice IA iN ic] w fun e w' => e = .returned (.bool true) ∧ Below w.heap.size w w' := by
  obtain ⟨i0, hi0, hz0, hz1, hz2⟩ := info_parts byte_info
  unfold maxLen at hc hi
  have HY := Lib.hid hI
  have HAW : Hid (∀ W, Calls Try.prog 16 #[] W fun e w' => e = .returned (.bool true) ∧ Below W.heap.size W w') := awake1_any
  have hl := h.len
  obtain ⟨m, l2, hm, hb2⟩ : ∃ m l2, (m = if 2000 < n then 2000 else n) ∧ Bs w w.heap.size A m l2 := by
    by_cases h1 : 2000 < n
    · exact ⟨2000, l.take 2000, by rw [if_pos h1], h.take 2000 (by omega)⟩
    · exact ⟨n, l, by rw [if_neg h1], h⟩
  have HB2 := Lib.hid hb2
  have hm2 : m ≤ 2000 := by rw [hm]; split <;> omega
  have HM := Lib.hid hm
  clear hm h hI
  go_enter Try.func4, Try.ntmps4
  go_upto_if 13 with fail
  go_cut [0] (fun s0 wx => (∃ c', s0 = .slice A m c') ∧ wx = w)
  case first =>
    by_cases h1 : 2000 < n
    · have hd : decide ((2000 : Int) < (n : Int)) = true := by rw [decide_eq_true_iff]; omega
      have hd2 : decide (2000 < n) = true := decide_eq_true h1
      have hmm : 2000 = m := by rw [HM.out, if_pos h1]
      subst hmm
      have hcc : (2000 : Int) ≤ (c : Int) := by omega
      have hcc2 : 2000 ≤ c := by omega
      go_wp2_with fail
      go_meet
      exact ⟨⟨_, rfl⟩, rfl⟩
    · have hd : decide ((2000 : Int) < (n : Int)) = false := by rw [decide_eq_false_iff_not]; omega
      have hd2 : decide (2000 < n) = false := decide_eq_false h1
      have hmm : n = m := by rw [HM.out, if_neg h1]
      subst hmm
      go_wp2_with fail
      go_meet
      exact ⟨⟨_, rfl⟩, rfl⟩
  case rest =>
  obtain ⟨⟨c', rfl⟩, hwc⟩ := hcut
  have hwc' := hwc.symm
  subst hwc'
  have hl2 : l2.length = m := HB2.out.len
  have HL2 := Lib.hid hl2
  clear hl hl2
  have ho0 := own_empty w
  have hb1 : Bs (w.alloc (.cells #[] 5)) w.heap.size A m l2 := HB2.out.alloc (Nat.le_refl _) _
  go_upto_region 4 with (at_builtin; go_loud (refine wpList_append_src _ rfl (.tmp 16) (.tmp 17) 23 rfl w.heap.size 5 i0 _ 1 Try.underlying23 hi0 hz0 hz1 hz2 rfl _ 0 [] rfl ho0 w.heap.size A m c' (bvs l2) rfl (by rw [bvs_length]; exact HL2.out) hb1.lies (bvs_one l2) (by unfold maxLen; omega) (by omega) (by simp) ?_))
  intro v1 w1 ho1 hg1 _
  have hbel1 : Below w.heap.size w w1 := ((Below.refl _ _).alloc (Nat.le_refl _) _).trans (grown_below ho0 hg1 (by simp))
  have hown1 : Own w1 w.heap.size v1 l2 := by
    unfold Own
    rw [HL2.out]
    simpa using ho1
  clear ho1 hg1 ho0 hb1
  have hf1 := hown1.form
  rw [HL2.out] at hf1
  obtain ⟨A1, c1, rfl, hc1, hcm1, hbs1, hk1, _⟩ := hf1
  have HO1 := Lib.hid hown1
  have HBE1 := Lib.hid hbel1
  have HNR := Lib.hid (newReader2_any A1 m c1 w1.heap.size l2 w1 hbs1 (by omega) (Nat.le_refl _))
  have HLT1 : Hid (∀ q, A1 = some q → w.heap.size ≤ q.block ∧ q.block < w1.heap.size) := fun q e => hk1 q.block (by rw [e]; rfl)
  clear hown1 hbel1 hbs1 hk1
  go_upto_region 5 with (first
    | (go_at_call 10; (with_reducible refine HNR.out.mono ?_); rintro e w2 ⟨g, Aq, cq, rfl, hg, haq, hrd, hb2⟩; have hbw2 : Below w.heap.size w w2 := HBE1.out.trans (hb2.mono HBE1.out.size); have ho2 := own_empty w2; have hb3 : Bs (w2.alloc (.cells #[] 5)) w.heap.size A m l2 := (HB2.out.below hbw2).alloc hbw2.size _)
    | (at_builtin; go_loud (refine wpList_append_src _ rfl (.tmp 21) (.tmp 22) 23 rfl w2.heap.size 5 i0 _ 1 Try.underlying23 hi0 hz0 hz1 hz2 rfl _ 0 [] rfl ho2 w.heap.size A m c' (bvs l2) rfl (by rw [bvs_length]; exact HL2.out) hb3.lies (bvs_one l2) (by unfold maxLen; omega) (by omega) (by simp) ?_)))
  intro v4 w4 ho4 hg4 _
  have hb24 : Below w2.heap.size w2 w4 := ((Below.refl _ _).alloc (Nat.le_refl _) _).trans (grown_below ho2 hg4 (by simp))
  have hown4 : Own w4 w2.heap.size v4 l2 := by
    unfold Own
    rw [HL2.out]
    simpa using ho4
  clear ho4 hg4 ho2 hb3
  have hf4 := hown4.form
  rw [HL2.out] at hf4
  obtain ⟨A4, c4, rfl, hc4, hcm4, hbs4, hk4, _⟩ := hf4
  have hN5 := heap_alloc_new w4 (.cells #[.slice A4 m c4, .int .i64 0, .int .i64 0] 42)
  have hb45 : Below w4.heap.size w4 (w4.alloc (.cells #[.slice A4 m c4, .int .i64 0, .int .i64 0] 42)) := (Below.refl _ _).alloc (Nat.le_refl _) _
  obtain ⟨w5, hw5⟩ : ∃ w5, w4.alloc (.cells #[.slice A4 m c4, .int .i64 0, .int .i64 0] 42) = w5 := ⟨_, rfl⟩
  rw [hw5] at hN5 hb45
  have HW5 := Lib.hid hw5
  have hz4 := hb24.size
  have hz5 := hb45.size
  have HQ5 : Hid (Rq w5 w4.heap.size A4 c4 l2 0 0) := ⟨by rw [HL2.out]; exact hN5, by rw [HL2.out]; exact hc4, hcm4, by rw [HL2.out]; exact hbs4.below hb45, Nat.zero_le _, by rw [HL2.out]; omega⟩
  have HD5 : Hid (Rd w5 g Aq cq l2 0 0) := (hrd.below hb24 hrd.lt).below hb45 (Nat.lt_of_lt_of_le hrd.lt hz4)
  have HO5 : Hid (Own w5 w.heap.size (.slice A1 m c1) l2) := ((HO1.out.below hb2 (Nat.le_refl _)).below hb24 (Nat.le_refl _)).below hb45 (Nat.le_refl _)
  have HB5 : Hid (Below w.heap.size w w5) := (hbw2.trans (hb24.mono hbw2.size)).trans (hb45.mono (Nat.le_trans hbw2.size hz4))
  have HSP : Hid (Sep2 g w4.heap.size Aq A4) := ⟨by have := hrd.lt; omega, fun q e => by have := (haq q e).2; omega, fun q e => by have := (hk4 q.block (by rw [e]; rfl)).1; have := hrd.lt; omega⟩
  have HA4 : Hid (∀ q, A4 = some q → w2.heap.size ≤ q.block) := fun q e => (hk4 q.block (by rw [e]; rfl)).1
  have HGG : Hid (w1.heap.size ≤ g ∧ g < w2.heap.size) := ⟨hg, hrd.lt⟩
  have HAQ : Hid (∀ q, Aq = some q → w1.heap.size ≤ q.block) := fun q e => (haq q e).1
  have HZ2 : Hid (w2.heap.size ≤ w4.heap.size) := hz4
  clear hN5 hb45 hb24 hown4 hbs4 hk4 hrd haq hbw2 hb2 hw5 HNR
  go_upto_region 5 with fail
  rw [HW5.out]
  generalize w4.heap.size = g2 at *
  go_wp2_with fail
  go_loopw [30] (fun iv wr => ∃ k : Nat, k ≤ m ∧ iv = .int .i64 k ∧ ∃ L : List UInt8, Hid (L.length = m) ∧ Hid (Own wr w.heap.size (.slice A1 m c1) L) ∧ Hid (Rd wr g Aq cq l2 0 0) ∧ Hid (Rq wr g2 A4 c4 l2 0 0) ∧ Hid (Below w.heap.size w wr)) (fun iv _ => m - (RowKit.intOf iv).toNat)
  case atStart => exact ⟨0, by omega, rfl, l2, HL2.out, HO5.out, HD5.out, HQ5.out, HB5.out⟩
  case round =>
    obtain ⟨k, hk, rfl, L, HLL, HO, HD, HQ, HB⟩ := hrel
    by_cases hlt : k < m
    · obtain ⟨gm, rfl, hgm⟩ := HO.out.head (by rw [HLL.out]; omega)
      have hgm1 : gm < w1.heap.size := (HLT1.out _ rfl).2
      have hcell := HO.out.cell_ HLL.out k hlt
      have hfree := HO.out.free_ HLL.out k
      have hkz : (k : Int) < (m : Int) := by omega
      have hgg := HGG.out
      have hz2' := HZ2.out
      obtain ⟨y, hx⟩ := xor_u8 ((L.getD k 0).toNat : Int) 255
      have HOS := Lib.hid (HO.out.set_ HLL.out k y)
      have HLS : Hid ((L.set k y).length = m) := by show _ = _; rw [List.length_set]; exact HLL.out
      have hgs := grown_set wr gm k (.int .u8 (y.toNat : Int))
      have HDS := Lib.hid (HD.out.far (A2 := none) ⟨by omega, fun q e => by have := HAQ.out q e; omega, fun q e => (by cases e)⟩ hgs)
      have HQS := Lib.hid (HQ.out.far (A := none) ⟨by omega, fun q e => (by cases e), fun q e => by have := HA4.out q e; omega⟩ hgs)
      have HBS := Lib.hid (HB.out.setCell (p := ⟨gm, k, none⟩) (by show w.heap.size ≤ gm; exact hgm) (.int .u8 (y.toNat : Int)))
      have hb8 := (L.getD k 0).toNat_lt
      clear hgs
      generalize (L.getD k 0).toNat = bx at *
      generalize y.toNat = yn at *
      go_wp2_with fail
      go_roundw
      case rel => exact ⟨k + 1, by omega, by go_num, L.set k y, HLS, HOS, HDS, HQS, HBS⟩
      case measure => simp [RowKit.intOf]; omega
    · have d8 : decide ((k : Int) < (m : Int)) = false := by rw [decide_eq_false_iff_not]; omega
      have d9 : decide (k < m) = false := by rw [decide_eq_false_iff_not]; omega
      clear HO HLL
      go_wp2_with fail
      generalize wr = wq at *
      go_loopw [42] (fun iv ws => ∃ j : Nat, j ≤ iN ∧ iv = .int .i64 j ∧ ∃ p err : Nat, Hid (Rd ws g Aq cq l2 p err) ∧ Hid (Rq ws g2 A4 c4 l2 p err) ∧ Hid (Below w.heap.size w ws)) (fun iv _ => iN - (RowKit.intOf iv).toNat)
      case atStart => exact ⟨0, by omega, rfl, 0, 0, HD.out, HQ.out, HB.out⟩
      case round =>
        obtain ⟨j, hj, rfl, p, err, HD6, HQ6, HB6⟩ := hrel
        by_cases hjt : j < iN
        · obtain ⟨pp, LA, lc, IB, icc, rfl, hit⟩ := (HY.out.below HB6.out).row j hjt
          have k0 := hit.c0
          have k1 := hit.c1
          have k2 := hit.c2
          have k3 := hit.c3
          have k4 := hit.c4
          have k5 := hit.c5
          have k6 := hit.c6
          have k7 := hit.c7
          have hok := hit.ok
          rw [add_pos _ _ (by omega)] at k1 k2 k3 k4 k5 k6 k7
          clear hit
          generalize Y.getD j default = it at *
          obtain ⟨kind, u, n9, m9, s9, on9, L9, I9⟩ := it
          simp only at k0 k1 k2 k3 k4 k5 k6 k7
          have HOK := Lib.hid hok
          clear hok
          generalize L9.length = ln9 at *
          generalize I9.length = in9 at *
          have hjz : (j : Int) < (iN : Int) := by omega
          by_cases h60 : j < 60
          · have d60 : decide ((60 : Int) ≤ (j : Int)) = false := by rw [decide_eq_false_iff_not]; omega
            have d61 : decide (60 ≤ j) = false := by rw [decide_eq_false_iff_not]; omega
            have hB6 := (Below.refl wr.heap.size wr).alloc (Nat.le_refl _) (.cells #[.int .i64 kind, .int .u64 (u : Int), .int .i64 n9, .int .i64 m9, .string s9, .bool on9, .slice LA ln9 lc, .slice IB in9 icc] 28)
            have hN6 := heap_alloc_new wr (.cells #[.int .i64 kind, .int .u64 (u : Int), .int .i64 n9, .int .i64 m9, .string s9, .bool on9, .slice LA ln9 lc, .slice IB in9 icc] 28)
            obtain ⟨w6, hw6⟩ : ∃ w6, wr.alloc (.cells #[.int .i64 kind, .int .u64 (u : Int), .int .i64 n9, .int .i64 m9, .string s9, .bool on9, .slice LA ln9 lc, .slice IB in9 icc] 28) = w6 := ⟨_, rfl⟩
            rw [hw6] at hB6 hN6
            have HW6 := Lib.hid hw6
            have HDX := Lib.hid (HD6.out.below hB6 HD6.out.lt)
            have HQX := Lib.hid (HQ6.out.below hB6 HQ6.out.lt)
            have HBX := Lib.hid (HB6.out.trans (hB6.mono HB6.out.size))
            have HN6 := Lib.hid hN6
            clear hw6 hB6 hN6
            go_upto_region 16 with fail
            rw [HW6.out]
            clear k0 k1 k2 k3 k4 k5 k6 k7 d60 d61
            have x0 := cell_of_row _ _ 0 _ _ _ HN6.out
            have x1 := cell_of_row _ _ 1 _ _ _ HN6.out
            have x2 := cell_of_row _ _ 2 _ _ _ HN6.out
            have x3 := cell_of_row _ _ 3 _ _ _ HN6.out
            have x4 := cell_of_row _ _ 4 _ _ _ HN6.out
            have x5 := cell_of_row _ _ 5 _ _ _ HN6.out
            have x6 := cell_of_row _ _ 6 _ _ _ HN6.out
            have x7 := cell_of_row _ _ 7 _ _ _ HN6.out
            have HBO := Lib.hid (both_any g g2 cq c4 p err Aq A4 l2 kind u n9 m9 s9 on9 (.slice LA ln9 lc) (.slice IB in9 icc) w6.drew HDX.out.drew HQX.out.drew HSP.out HOK.out.n1 HOK.out.n2 HOK.out.m1 HOK.out.m2)
            have HL9 : Hid (l2.length ≤ 1099511627776) := HD6.out.small
            -- R16
            refine wp_region_held_drew (S := fun _ => True) (by kernel_rfl) trivial (fun hHeld => ?_)
            refine wpAnyH_take (i := 0) (oi := _) (v := ?q16v0_) rfl (by kernel_rfl) (by kernel_rfl) (by kernel_rfl) (fun _ _ _ h => h) (Or.inl ⟨by rfl, ?q16y0_⟩) hHeld ?q16r0_
            case q16y0_ => (intro w hSw; (try dsimp only at hSw); go_simp; (first | done | with_reducible rfl))
            case q16r0_ =>
            (try simp only [Act.put, List.setIfInBounds_toArray, List.set_cons_zero, List.set_cons_succ, List.getElem_toArray, List.getElem_cons_succ, List.getElem_cons_zero])
            refine wpAnyH_take (i := 1) (oi := _) (v := ?q16v1_) rfl (by kernel_rfl) (by kernel_rfl) (by kernel_rfl) (fun _ _ _ h => h) (Or.inl ⟨by rfl, ?q16y1_⟩) hHeld ?q16r1_
            case q16y1_ => (intro w hSw; (try dsimp only at hSw); go_simp; (first | done | with_reducible rfl))
            case q16r1_ =>
            (try simp only [Act.put, List.setIfInBounds_toArray, List.set_cons_zero, List.set_cons_succ, List.getElem_toArray, List.getElem_cons_succ, List.getElem_cons_zero])
            refine wpAnyH_ready (rs := [2]) (by kernel_rfl) (by simp) ?_
            refine AllReadyH.cons (o := _) rfl (fun K hK => ?_) AllReadyH.nil
            go_simp
            go_wp2_with fail
            refine hK.out _ _ ?q16s2_ (fun hNow => ?q16r2_)
            case q16s2_ => exact trivial
            case q16r2_ =>
            clear hK K hHeld
            have hHeld := hNow
            clear hNow
            (try simp only [Act.put, List.setIfInBounds_toArray, List.set_cons_zero, List.set_cons_succ, List.getElem_toArray, List.getElem_cons_succ, List.getElem_cons_zero])
            refine wpAnyH_ready (rs := [3]) (by kernel_rfl) (by simp) ?_
            refine AllReadyH.cons (o := _) rfl (fun K hK => ?_) AllReadyH.nil
            go_simp
            (go_at_call 17; refine HBO.out.mono ?_; rintro e w8 ⟨rfl, p8, e8, hr8, hq8, hg8⟩)
            go_wp2_with fail
            refine hK.out _ _ ?q16s3_ (fun hNow => ?q16r3_)
            case q16s3_ => exact trivial
            case q16r3_ =>
            clear hK K hHeld
            have hHeld := hNow
            clear hNow
            clear x0 x1 x2 x3 x4 x5 x6 x7
            have hp8 := hr8.pos
            have hl9 := HL9.out
            have ew8 : IntKind.i64.wrap ((l2.length : Int) - (p8 : Int)) = (l2.length : Int) - (p8 : Int) := by rw [IntKind.wrap_i64]; omega
            have hy0 := hq8.c0
            have hy1 := hq8.c1
            have hy2 := hq8.c2
            have HR8 := Lib.hid hr8
            have HQ8 := Lib.hid hq8
            have HG8 := Lib.hid hg8
            have HEF := Lib.hid (err_any g cq p8 e8 Aq l2 w8 hr8)
            have HTF := Lib.hid (at_any g cq p8 e8 Aq l2 w8 hr8)
            have HLF : Hid (Calls Try.prog 13 #[.pointer (some ⟨g, 0, none⟩)] w8 fun e w' => e = .returned (.int .i64 ((l2.length : Int) - (p8 : Int))) ∧ ∃ k, w' = w8.drewN k) := by
              have := pLeft_any g cq p8 e8 Aq l2 w8 hr8
              rw [show ((l2.length - p8 : Nat) : Int) = (l2.length : Int) - (p8 : Int) by omega] at this
              exact this
            clear hr8 hq8 hg8
            refine wpAnyH_weak (S' := fun w' => w'.cell? ⟨g2, 0, none⟩ = some (.slice A4 l2.length c4) ∧ w'.cell? ⟨g2, 1, none⟩ = some (.int .i64 (p8 : Int)) ∧ w'.cell? ⟨g2, 2, none⟩ = some (.int .i64 (e8 : Int))) (fun _ _ => trivial) _ _ _ _ ?_
            clear hHeld
            have hHeld : w8.cell? ⟨g2, 0, none⟩ = some (.slice A4 l2.length c4) ∧ w8.cell? ⟨g2, 1, none⟩ = some (.int .i64 (p8 : Int)) ∧ w8.cell? ⟨g2, 2, none⟩ = some (.int .i64 (e8 : Int)) := ⟨hy0, hy1, hy2⟩
            (try simp only [Act.put, List.setIfInBounds_toArray, List.set_cons_zero, List.set_cons_succ, List.getElem_toArray, List.getElem_cons_succ, List.getElem_cons_zero])
            refine wpAnyH_take (i := 4) (oi := _) (v := ?q16v4_) rfl (by kernel_rfl) (by kernel_rfl) (by kernel_rfl) (fun _ _ _ h => h) (Or.inl ⟨by rfl, ?q16y4_⟩) hHeld ?q16r4_
            case q16y4_ => (intro w hSw; (try dsimp only at hSw); go_simp; (first | done | with_reducible rfl))
            case q16r4_ =>
            (try simp only [Act.put, List.setIfInBounds_toArray, List.set_cons_zero, List.set_cons_succ, List.getElem_toArray, List.getElem_cons_succ, List.getElem_cons_zero])
            refine wpAnyH_take (i := 5) (oi := _) (v := ?q16v5_) rfl (by kernel_rfl) (by kernel_rfl) (by kernel_rfl) (fun _ _ _ h => h) (Or.inl ⟨by rfl, ?q16y5_⟩) hHeld ?q16r5_
            case q16y5_ => (intro w hSw; (try dsimp only at hSw); go_simp; (first | done | with_reducible rfl))
            case q16r5_ =>
            (try simp only [Act.put, List.setIfInBounds_toArray, List.set_cons_zero, List.set_cons_succ, List.getElem_toArray, List.getElem_cons_succ, List.getElem_cons_zero])
            refine wpAnyH_take (i := 6) (oi := _) (v := ?q16v6_) rfl (by kernel_rfl) (by kernel_rfl) (by kernel_rfl) (fun _ _ _ h => h) (Or.inl ⟨by rfl, ?q16y6_⟩) hHeld ?q16r6_
            case q16y6_ => (intro w hSw; (try dsimp only at hSw); go_simp; (first | done | with_reducible rfl))
            case q16r6_ =>
            (try simp only [Act.put, List.setIfInBounds_toArray, List.set_cons_zero, List.set_cons_succ, List.getElem_toArray, List.getElem_cons_succ, List.getElem_cons_zero])
            refine wpAnyH_take (i := 8) (oi := _) (v := ?q16v8_) rfl (by kernel_rfl) (by kernel_rfl) (by kernel_rfl) (fun _ _ _ h => h) (Or.inl ⟨by rfl, ?q16y8_⟩) hHeld ?q16r8_
            case q16y8_ => (intro w hSw; (try dsimp only at hSw); go_simp; (first | done | with_reducible rfl))
            case q16r8_ =>
            (try simp only [Act.put, List.setIfInBounds_toArray, List.set_cons_zero, List.set_cons_succ, List.getElem_toArray, List.getElem_cons_succ, List.getElem_cons_zero])
            refine wpAnyH_take (i := 9) (oi := _) (v := ?q16v9_) rfl (by kernel_rfl) (by kernel_rfl) (by kernel_rfl) (fun _ _ _ h => h) (Or.inl ⟨by rfl, ?q16y9_⟩) hHeld ?q16r9_
            case q16y9_ => (intro w hSw; (try dsimp only at hSw); go_simp; (first | done | with_reducible rfl))
            case q16r9_ =>
            (try simp only [Act.put, List.setIfInBounds_toArray, List.set_cons_zero, List.set_cons_succ, List.getElem_toArray, List.getElem_cons_succ, List.getElem_cons_zero])
            refine wpAnyH_take (i := 10) (oi := _) (v := ?q16v10_) rfl (by kernel_rfl) (by kernel_rfl) (by kernel_rfl) (fun _ _ _ h => h) (Or.inl ⟨by rfl, ?q16y10_⟩) hHeld ?q16r10_
            case q16y10_ => (intro w hSw; (try dsimp only at hSw); go_simp; (first | done | with_reducible rfl))
            case q16r10_ =>
            (try simp only [Act.put, List.setIfInBounds_toArray, List.set_cons_zero, List.set_cons_succ, List.getElem_toArray, List.getElem_cons_succ, List.getElem_cons_zero])
            refine wpAnyH_take (i := 11) (oi := _) (v := ?q16v11_) rfl (by kernel_rfl) (by kernel_rfl) (by kernel_rfl) (fun _ _ _ h => h) (Or.inl ⟨by rfl, ?q16y11_⟩) hHeld ?q16r11_
            case q16y11_ => (intro w hSw; (try dsimp only at hSw); go_simp; (first | done | with_reducible rfl))
            case q16r11_ =>
            (try simp only [Act.put, List.setIfInBounds_toArray, List.set_cons_zero, List.set_cons_succ, List.getElem_toArray, List.getElem_cons_succ, List.getElem_cons_zero])
            refine wpAnyH_ready (rs := [7]) (by kernel_rfl) (by simp) ?_
            refine AllReadyH.cons (o := _) rfl (fun K hK => ?_) AllReadyH.nil
            go_simp
            (go_at_call 12; refine HEF.out.mono ?_; rintro e wa ⟨rfl, hwa⟩; have hwa' := hwa.symm; subst hwa'; clear hwa)
            go_wp2_with fail
            refine hK.out _ _ ?q16s7_ (fun hNow => ?q16r7_)
            case q16s7_ => exact ⟨hy0, hy1, hy2⟩
            case q16r7_ =>
            clear hK K hHeld
            have hHeld := hNow
            clear hNow
            (try simp only [Act.put, List.setIfInBounds_toArray, List.set_cons_zero, List.set_cons_succ, List.getElem_toArray, List.getElem_cons_succ, List.getElem_cons_zero])
            refine wpAnyH_take (i := 12) (oi := _) (v := ?q16v12_) rfl (by kernel_rfl) (by kernel_rfl) (by kernel_rfl) (fun _ _ _ h => h) (Or.inl ⟨by rfl, ?q16y12_⟩) hHeld ?q16r12_
            case q16y12_ => (intro w hSw; (try dsimp only at hSw); go_simp; (first | done | with_reducible rfl))
            case q16r12_ =>
            (try simp only [Act.put, List.setIfInBounds_toArray, List.set_cons_zero, List.set_cons_succ, List.getElem_toArray, List.getElem_cons_succ, List.getElem_cons_zero])
            refine wpAnyH_take (i := 13) (oi := _) (v := ?q16v13_) rfl (by kernel_rfl) (by kernel_rfl) (by kernel_rfl) (fun _ _ _ h => h) (Or.inl ⟨by rfl, ?q16y13_⟩) hHeld ?q16r13_
            case q16y13_ => (intro w hSw; (try dsimp only at hSw); go_simp; (first | done | with_reducible rfl))
            case q16r13_ =>
            (try simp only [Act.put, List.setIfInBounds_toArray, List.set_cons_zero, List.set_cons_succ, List.getElem_toArray, List.getElem_cons_succ, List.getElem_cons_zero])
            refine wpAnyH_take (i := 14) (oi := _) (v := ?q16v14_) rfl (by kernel_rfl) (by kernel_rfl) (by kernel_rfl) (fun _ _ _ h => h) (Or.inl ⟨by rfl, ?q16y14_⟩) hHeld ?q16r14_
            case q16y14_ => (intro w hSw; (try dsimp only at hSw); go_simp; (first | done | with_reducible rfl))
            case q16r14_ =>
            (try simp only [Act.put, List.setIfInBounds_toArray, List.set_cons_zero, List.set_cons_succ, List.getElem_toArray, List.getElem_cons_succ, List.getElem_cons_zero])
            refine wpAnyH_take (i := 15) (oi := _) (v := ?q16v15_) rfl (by kernel_rfl) (by kernel_rfl) (by kernel_rfl) (fun _ _ _ h => h) (Or.inl ⟨by rfl, ?q16y15_⟩) hHeld ?q16r15_
            case q16y15_ => (intro w hSw; (try dsimp only at hSw); go_simp; (first | done | with_reducible rfl))
            case q16r15_ =>
            (try simp only [Act.put, List.setIfInBounds_toArray, List.set_cons_zero, List.set_cons_succ, List.getElem_toArray, List.getElem_cons_succ, List.getElem_cons_zero])
            refine wpAnyH_take (i := 17) (oi := _) (v := ?q16v17_) rfl (by kernel_rfl) (by kernel_rfl) (by kernel_rfl) (fun _ _ _ h => h) (Or.inl ⟨by rfl, ?q16y17_⟩) hHeld ?q16r17_
            case q16y17_ => (intro w hSw; (try dsimp only at hSw); go_simp; (first | done | with_reducible rfl))
            case q16r17_ =>
            (try simp only [Act.put, List.setIfInBounds_toArray, List.set_cons_zero, List.set_cons_succ, List.getElem_toArray, List.getElem_cons_succ, List.getElem_cons_zero])
            refine wpAnyH_take (i := 18) (oi := _) (v := ?q16v18_) rfl (by kernel_rfl) (by kernel_rfl) (by kernel_rfl) (fun _ _ _ h => h) (Or.inl ⟨by rfl, ?q16y18_⟩) hHeld ?q16r18_
            case q16y18_ => (intro w hSw; (try dsimp only at hSw); go_simp; (first | done | with_reducible rfl))
            case q16r18_ =>
            (try simp only [Act.put, List.setIfInBounds_toArray, List.set_cons_zero, List.set_cons_succ, List.getElem_toArray, List.getElem_cons_succ, List.getElem_cons_zero])
            refine wpAnyH_take (i := 19) (oi := _) (v := ?q16v19_) rfl (by kernel_rfl) (by kernel_rfl) (by kernel_rfl) (fun _ _ _ h => h) (Or.inl ⟨by rfl, ?q16y19_⟩) hHeld ?q16r19_
            case q16y19_ => (intro w hSw; (try dsimp only at hSw); go_simp; (first | done | with_reducible rfl))
            case q16r19_ =>
            (try simp only [Act.put, List.setIfInBounds_toArray, List.set_cons_zero, List.set_cons_succ, List.getElem_toArray, List.getElem_cons_succ, List.getElem_cons_zero])
            refine wpAnyH_take (i := 20) (oi := _) (v := ?q16v20_) rfl (by kernel_rfl) (by kernel_rfl) (by kernel_rfl) (fun _ _ _ h => h) (Or.inl ⟨by rfl, ?q16y20_⟩) hHeld ?q16r20_
            case q16y20_ => (intro w hSw; (try dsimp only at hSw); go_simp; (first | done | with_reducible rfl))
            case q16r20_ =>
            (try simp only [Act.put, List.setIfInBounds_toArray, List.set_cons_zero, List.set_cons_succ, List.getElem_toArray, List.getElem_cons_succ, List.getElem_cons_zero])
            refine wpAnyH_ready (rs := [16]) (by kernel_rfl) (by simp) ?_
            refine AllReadyH.cons (o := _) rfl (fun K hK => ?_) AllReadyH.nil
            go_simp
            (go_at_call 14; refine HTF.out.mono ?_; rintro e wa ⟨rfl, hwa⟩; have hwa' := hwa.symm; subst hwa'; clear hwa)
            go_wp2_with fail
            refine hK.out _ _ ?q16s16_ (fun hNow => ?q16r16_)
            case q16s16_ => exact ⟨hy0, hy1, hy2⟩
            case q16r16_ =>
            clear hK K hHeld
            have hHeld := hNow
            clear hNow
            (try simp only [Act.put, List.setIfInBounds_toArray, List.set_cons_zero, List.set_cons_succ, List.getElem_toArray, List.getElem_cons_succ, List.getElem_cons_zero])
            refine wpAnyH_take (i := 21) (oi := _) (v := ?q16v21_) rfl (by kernel_rfl) (by kernel_rfl) (by kernel_rfl) (fun _ _ _ h => h) (Or.inl ⟨by rfl, ?q16y21_⟩) hHeld ?q16r21_
            case q16y21_ => (intro w hSw; (try dsimp only at hSw); go_simp; (first | done | with_reducible rfl))
            case q16r21_ =>
            (try simp only [Act.put, List.setIfInBounds_toArray, List.set_cons_zero, List.set_cons_succ, List.getElem_toArray, List.getElem_cons_succ, List.getElem_cons_zero])
            refine wpAnyH_take (i := 22) (oi := _) (v := ?q16v22_) rfl (by kernel_rfl) (by kernel_rfl) (by kernel_rfl) (fun _ _ _ h => h) (Or.inl ⟨by rfl, ?q16y22_⟩) hHeld ?q16r22_
            case q16y22_ => (intro w hSw; (try dsimp only at hSw); go_simp; (first | done | with_reducible rfl))
            case q16r22_ =>
            (try simp only [Act.put, List.setIfInBounds_toArray, List.set_cons_zero, List.set_cons_succ, List.getElem_toArray, List.getElem_cons_succ, List.getElem_cons_zero])
            refine wpAnyH_take (i := 23) (oi := _) (v := ?q16v23_) rfl (by kernel_rfl) (by kernel_rfl) (by kernel_rfl) (fun _ _ _ h => h) (Or.inl ⟨by rfl, ?q16y23_⟩) hHeld ?q16r23_
            case q16y23_ => (intro w hSw; (try dsimp only at hSw); go_simp; (first | done | with_reducible rfl))
            case q16r23_ =>
            (try simp only [Act.put, List.setIfInBounds_toArray, List.set_cons_zero, List.set_cons_succ, List.getElem_toArray, List.getElem_cons_succ, List.getElem_cons_zero])
            refine wpAnyH_take (i := 24) (oi := _) (v := ?q16v24_) rfl (by kernel_rfl) (by kernel_rfl) (by kernel_rfl) (fun _ _ _ h => h) (Or.inl ⟨by rfl, ?q16y24_⟩) hHeld ?q16r24_
            case q16y24_ => (intro w hSw; (try dsimp only at hSw); go_simp; (first | done | with_reducible rfl))
            case q16r24_ =>
            (try simp only [Act.put, List.setIfInBounds_toArray, List.set_cons_zero, List.set_cons_succ, List.getElem_toArray, List.getElem_cons_succ, List.getElem_cons_zero])
            refine wpAnyH_take (i := 26) (oi := _) (v := ?q16v26_) rfl (by kernel_rfl) (by kernel_rfl) (by kernel_rfl) (fun _ _ _ h => h) (Or.inl ⟨by rfl, ?q16y26_⟩) hHeld ?q16r26_
            case q16y26_ => (intro w hSw; (try dsimp only at hSw); go_simp; (first | done | with_reducible rfl))
            case q16r26_ =>
            (try simp only [Act.put, List.setIfInBounds_toArray, List.set_cons_zero, List.set_cons_succ, List.getElem_toArray, List.getElem_cons_succ, List.getElem_cons_zero])
            refine wpAnyH_take (i := 27) (oi := _) (v := ?q16v27_) rfl (by kernel_rfl) (by kernel_rfl) (by kernel_rfl) (fun _ _ _ h => h) (Or.inl ⟨by rfl, ?q16y27_⟩) hHeld ?q16r27_
            case q16y27_ => (intro w hSw; (try dsimp only at hSw); go_simp; (first | done | with_reducible rfl))
            case q16r27_ =>
            (try simp only [Act.put, List.setIfInBounds_toArray, List.set_cons_zero, List.set_cons_succ, List.getElem_toArray, List.getElem_cons_succ, List.getElem_cons_zero])
            refine wpAnyH_take (i := 28) (oi := _) (v := ?q16v28_) rfl (by kernel_rfl) (by kernel_rfl) (by kernel_rfl) (fun _ _ _ h => h) (Or.inl ⟨by rfl, ?q16y28_⟩) hHeld ?q16r28_
            case q16y28_ => (intro w hSw; (try dsimp only at hSw); go_simp; (first | done | with_reducible rfl))
            case q16r28_ =>
            (try simp only [Act.put, List.setIfInBounds_toArray, List.set_cons_zero, List.set_cons_succ, List.getElem_toArray, List.getElem_cons_succ, List.getElem_cons_zero])
            refine wpAnyH_take (i := 29) (oi := _) (v := ?q16v29_) rfl (by kernel_rfl) (by kernel_rfl) (by kernel_rfl) (fun _ _ _ h => h) (Or.inl ⟨by rfl, ?q16y29_⟩) hHeld ?q16r29_
            case q16y29_ => (intro w hSw; (try dsimp only at hSw); go_simp; (first | done | with_reducible rfl))
            case q16r29_ =>
            (try simp only [Act.put, List.setIfInBounds_toArray, List.set_cons_zero, List.set_cons_succ, List.getElem_toArray, List.getElem_cons_succ, List.getElem_cons_zero])
            refine wpAnyH_take (i := 30) (oi := _) (v := ?q16v30_) rfl (by kernel_rfl) (by kernel_rfl) (by kernel_rfl) (fun _ _ _ h => h) (Or.inl ⟨by rfl, ?q16y30_⟩) hHeld ?q16r30_
            case q16y30_ => (intro w hSw; (try dsimp only at hSw); go_simp; (first | done | with_reducible rfl))
            case q16r30_ =>
            (try simp only [Act.put, List.setIfInBounds_toArray, List.set_cons_zero, List.set_cons_succ, List.getElem_toArray, List.getElem_cons_succ, List.getElem_cons_zero])
            refine wpAnyH_take (i := 31) (oi := _) (v := ?q16v31_) rfl (by kernel_rfl) (by kernel_rfl) (by kernel_rfl) (fun _ _ _ h => h) (Or.inl ⟨by rfl, ?q16y31_⟩) hHeld ?q16r31_
            case q16y31_ => (intro w hSw; (try dsimp only at hSw); go_simp; (first | done | with_reducible rfl))
            case q16r31_ =>
            (try simp only [Act.put, List.setIfInBounds_toArray, List.set_cons_zero, List.set_cons_succ, List.getElem_toArray, List.getElem_cons_succ, List.getElem_cons_zero])
            refine wpAnyH_take (i := 32) (oi := _) (v := ?q16v32_) rfl (by kernel_rfl) (by kernel_rfl) (by kernel_rfl) (fun _ _ _ h => h) (Or.inl ⟨by rfl, ?q16y32_⟩) hHeld ?q16r32_
            case q16y32_ => (intro w hSw; (try dsimp only at hSw); go_simp; (first | done | with_reducible rfl))
            case q16r32_ =>
            (try simp only [Act.put, List.setIfInBounds_toArray, List.set_cons_zero, List.set_cons_succ, List.getElem_toArray, List.getElem_cons_succ, List.getElem_cons_zero])
            refine wpAnyH_take (i := 33) (oi := _) (v := ?q16v33_) rfl (by kernel_rfl) (by kernel_rfl) (by kernel_rfl) (fun _ _ _ h => h) (Or.inl ⟨by rfl, ?q16y33_⟩) hHeld ?q16r33_
            case q16y33_ => (intro w hSw; (try dsimp only at hSw); go_simp; (first | done | with_reducible rfl))
            case q16r33_ =>
            (try simp only [Act.put, List.setIfInBounds_toArray, List.set_cons_zero, List.set_cons_succ, List.getElem_toArray, List.getElem_cons_succ, List.getElem_cons_zero])
            refine wpAnyH_take (i := 34) (oi := _) (v := ?q16v34_) rfl (by kernel_rfl) (by kernel_rfl) (by kernel_rfl) (fun _ _ _ h => h) (Or.inl ⟨by rfl, ?q16y34_⟩) hHeld ?q16r34_
            case q16y34_ => (intro w hSw; (try dsimp only at hSw); go_simp; (first | done | with_reducible rfl))
            case q16r34_ =>
            (try simp only [Act.put, List.setIfInBounds_toArray, List.set_cons_zero, List.set_cons_succ, List.getElem_toArray, List.getElem_cons_succ, List.getElem_cons_zero])
            refine wpAnyH_take (i := 35) (oi := _) (v := ?q16v35_) rfl (by kernel_rfl) (by kernel_rfl) (by kernel_rfl) (fun _ _ _ h => h) (Or.inl ⟨by rfl, ?q16y35_⟩) hHeld ?q16r35_
            case q16y35_ => (intro w hSw; (try dsimp only at hSw); go_simp; (first | done | with_reducible rfl))
            case q16r35_ =>
            (try simp only [Act.put, List.setIfInBounds_toArray, List.set_cons_zero, List.set_cons_succ, List.getElem_toArray, List.getElem_cons_succ, List.getElem_cons_zero])
            refine wpAnyH_ready (rs := [25]) (by kernel_rfl) (by simp) ?_
            refine AllReadyH.cons (o := _) rfl (fun K hK => ?_) AllReadyH.nil
            go_simp
            (go_at_call 13; refine HLF.out.mono ?_; rintro e wa ⟨rfl, kk, rfl⟩)
            go_wp2_with fail
            refine hK.out _ _ ?q16s25_ (fun hNow => ?q16r25_)
            case q16s25_ => exact ⟨(HQ8.out.drewN kk).c0, (HQ8.out.drewN kk).c1, (HQ8.out.drewN kk).c2⟩
            case q16r25_ =>
            clear hK K hHeld
            have hHeld := hNow
            clear hNow
            (try simp only [Act.put, List.setIfInBounds_toArray, List.set_cons_zero, List.set_cons_succ, List.getElem_toArray, List.getElem_cons_succ, List.getElem_cons_zero])
            refine wpAnyH_take (i := 36) (oi := _) (v := ?q16v36_) rfl (by kernel_rfl) (by kernel_rfl) (by kernel_rfl) (fun _ _ _ h => h) (Or.inl ⟨by rfl, ?q16y36_⟩) hHeld ?q16r36_
            case q16y36_ => (intro w hSw; (try dsimp only at hSw); go_simp; (first | done | with_reducible rfl))
            case q16r36_ =>
            (try simp only [Act.put, List.setIfInBounds_toArray, List.set_cons_zero, List.set_cons_succ, List.getElem_toArray, List.getElem_cons_succ, List.getElem_cons_zero])
            refine wpAnyH_take (i := 37) (oi := _) (v := ?q16v37_) rfl (by kernel_rfl) (by kernel_rfl) (by kernel_rfl) (fun _ _ _ h => h) (Or.inl ⟨by rfl, ?q16y37_⟩) hHeld ?q16r37_
            case q16y37_ => (intro w hSw; (try dsimp only at hSw); go_simp; (first | done | with_reducible rfl))
            case q16r37_ =>
            (try simp only [Act.put, List.setIfInBounds_toArray, List.set_cons_zero, List.set_cons_succ, List.getElem_toArray, List.getElem_cons_succ, List.getElem_cons_zero])
            refine wpAnyH_done (by kernel_rfl) ?_ _
            -- END16
            all_goals
              have HRN := Lib.hid (HR8.out.drewN kk)
              have HQN := Lib.hid (HQ8.out.drewN kk)
              have HBN : Hid (Below w.heap.size w (w8.drewN kk)) := below_draws ⟨HG8.out.os.trans HBX.out.drew.os, HG8.out.tape.trans HBX.out.drew.tape, HG8.out.output.trans HBX.out.drew.output, Nat.le_trans HBX.out.drew.size HG8.out.size, fun i hi => by
                have h1 := HGG.out
                have h2 := HZ2.out
                have h3 := HBE1.out.size
                exact (HG8.out.block i (Nat.lt_of_lt_of_le hi HBX.out.drew.size) (by omega) (by omega)).trans (HBX.out.drew.block i hi)⟩ kk
              go_wp2_with fail
              go_roundw
              case rel => exact ⟨j + 1, by omega, by go_num, p8, e8, HRN, HQN, HBN⟩
              case measure => simp [RowKit.intOf]; omega
          · have d60 : decide ((60 : Int) ≤ (j : Int)) = true := by rw [decide_eq_true_iff]; omega
            have d61 : decide (60 ≤ j) = true := by rw [decide_eq_true_iff]; omega
            go_wp2_with fail
            refine (HAW.out _).mono ?_
            rintro e w9 ⟨rfl, hb9⟩
            clear k0 k1 k2 k3 k4 k5 k6 k7
            go_wp2_with fail
            go_ret
            exact ⟨rfl, (HB6.out.alloc HB6.out.size _).trans (hb9.mono (by have := HB6.out.size; simp; omega))⟩
        · have d8 : decide ((j : Int) < (iN : Int)) = false := by rw [decide_eq_false_iff_not]; omega
          go_wp2_with (go_at_call 16; (with_reducible refine (HAW.out _).mono ?_); rintro e w9 ⟨rfl, hb9⟩)
          go_ret
          exact ⟨rfl, HB6.out.trans (hb9.mono HB6.out.size)⟩
end Go.Proofs.Ytgbdgpacnpeahaa
