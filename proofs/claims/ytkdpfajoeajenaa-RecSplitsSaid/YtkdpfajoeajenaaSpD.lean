/-
  What towpathref03.Split does.
-/
import Derived.Test.YtkdpfajoeajenaaGe
import Derived.Test.YtkdpfajoeajenaaGc
namespace Go.Proofs.Ytkdpfajoeajenaa
open Go.RowKit Go.Lib
set_option linter.unusedVariables false
set_option linter.unusedSimpArgs false

/-- what the document's Split answers -/
def RSplitP (b : Bat) (n : Int) (w : World) (e : Ending) (w' : World) : Prop := ∃ v M, e = .returned v ∧ M.map BA.b = splitB b n ∧ Ml w w' v M
theorem Ml.down {w w0 wr : World} {v : Value} {M : List BA} (h : Ml w0 wr v M) (hb : Below w.heap.size w w0) : Ml w wr v M :=
  ⟨row_base5 h.own hb.size, h.each, h.far, hb.trans (h.bel.mono hb.size)⟩
theorem piece_part_any {b : Bat} (hF : Fine b) (i j : Nat) : pieceB b i j = partB b i j := by
  unfold pieceB partB
  have hp := hF.p1
  by_cases h : b.pid = 0
  · rw [if_pos h, if_neg (by omega), fine_seq hF h]
  · rw [if_neg h, if_pos (by omega)]
theorem Ml.one {w wr : World} {x : BA} (hb : Below w.heap.size w wr) (hx : x.b.L = []) (hc : x.c ≤ maxLen) :
    Ml w (wr.alloc (.cells (x.b.cells x.A x.c) 24)) (.slice (some ⟨wr.heap.size, 0, none⟩) 1 1) [x] := by
  refine ⟨?_, fun y hy => ?_, fun y hy hL => ?_, hb.alloc hb.size _⟩
  · have := World.ownsRow_lit (base := w.heap.size) (e := 24) (size := 7) wr (x.b.cells x.A x.c) 1 hb.size (by unfold maxLen; omega) rfl
    simpa [bcells, BA.cells] using this
  · obtain rfl : y = x := by simpa using hy
    rw [hx]
    exact ⟨Rcs.nil_, by simp, by simp, hc⟩
  · obtain rfl : y = x := by simpa using hy
    exact absurd hx hL
theorem own_rcs {w : World} {base n c : Nat} {A : Option Addr} {L : List Rec} (h : w.ownsRow base 38 4 (.slice A n c) n (rcells L)) (hn : L.length = n) (ho : ∀ r ∈ L, i64_ r.time) : Rcs w w.heap.size A n L ∧ n ≤ c ∧ c ≤ maxLen := by
  obtain ⟨A', c', hv, h1, h2, h3, _⟩ := Rcs.of_own h hn ho
  injection hv with e1 _ e2
  subst e1 e2
  exact ⟨h3, h1, h2⟩
set_option maxRecDepth 100000 in
set_option maxHeartbeats 4000000 in
theorem rsplit_any (b : Bat) (A : Option Addr) (c : Nat) (n : Int) (w : World) (hL : Rcs w w.heap.size A b.L.length b.L) (hl : b.L.length ≤ 80) (hc : b.L.length ≤ c) (hcm : c ≤ maxLen) (hn : -9223372036854775808 ≤ n ∧ n ≤ 9223372036854775807) :
    Calls Try.prog 9 #[.agg (b.cells A c), .int .i64 n] w fun e w' => RSplitP b n w e w' := by
  obtain ⟨j0, qj0, qy0, qy1, qy2⟩ := info_parts zero_batQ
  have HVA : Hid (∀ W, Below w.heap.size w W → Calls Try.prog 31 #[.agg (b.cells A c)] W fun e w' => e = .returned (.int .i64 (validE b)) ∧ Below W.heap.size W w') := fun W h => rvalid_any b A c w.heap.size W (hL.below h) h.size (by unfold maxLen; omega)
  have HMK : Hid (∀ W, Calls Try.prog 32 #[.agg (b.cells A c)] W fun e w' => e = .returned (.bool (markB b)) ∧ Below W.heap.size W w') := fun W => rmark_any b A c W
  have HSP : Hid (splitB b n = if validE b = 0 ∧ 1 ≤ n then (if markB b = true then [b] else chunks b n.toNat) else []) := rfl
  have HFI : Hid (validE b = 0 → Fine b) := fun h => (fine_iff b).1 h
  have HPT0 : Hid (Fine b → ∀ i j W, Below w.heap.size w W → i ≤ j → j ≤ b.L.length → i < b.L.length → Calls Try.prog 33 #[.agg (b.cells A c), .int .i64 (i : Int), .int .i64 (j : Int)] W fun e w' => ∃ A' c', e = .returned (.agg ((pieceB b i j).cells A' c')) ∧ w'.ownsRow W.heap.size 38 4 (.slice A' (j - i) c') (j - i) (rcells (pieceB b i j).L) ∧ (∀ p, A' = some p → W.heap.size ≤ p.block) ∧ Below W.heap.size W w') := fun hF i j W h h1 h2 h3 =>
    piece_any b A c w.heap.size i j W (hL.below h) h.size hF.len h1 h2 hF.b1 hF.b2 hF.s1 hF.s2
  have HOK : Hid (∀ r ∈ b.L, i64_ r.time) := hL.ok
  have HMKE : Hid (∀ hF : Fine b, markB b = true → b.L = []) := fun hF => mark_empty hF
  have HCE : Hid (Fine b → markB b = false → 0 < b.L.length) := fun hF hm => (form_fine hF hm).2
  unfold RSplitP
  obtain ⟨X, hX⟩ : ∃ X : Ending → World → Prop, (fun e w' => ∃ v M, e = .returned v ∧ M.map BA.b = splitB b n ∧ Ml w w' v M) = X := ⟨_, rfl⟩
  have HX : Hid (∀ v M w', M.map BA.b = splitB b n → Ml w w' v M → X (.returned v) w') := fun v M w' h1 h2 => by rw [← hX]; exact ⟨v, M, rfl, h1, h2⟩
  rw [hX]
  clear hX
  obtain ⟨bo, hbo⟩ : ∃ bo, b = bo := ⟨_, rfl⟩
  obtain ⟨W0, hW0⟩ : ∃ W0, w.alloc (.cells (b.cells A c) 24) = W0 := ⟨_, rfl⟩
  have hB0 : Below w.heap.size w W0 := by rw [← hW0]; exact (Below.refl _ _).alloc (Nat.le_refl _) _
  have hN0 : W0.heap[w.heap.size]? = some (.cells (b.cells A c) 24 (0, 0)) := by rw [← hW0]; exact heap_alloc_new w _
  have hz0 : W0.heap.size = w.heap.size + 1 := by rw [← hW0]; simp
  have HVN := HVA
  obtain ⟨bb, bp, be, bs, bk, bt, bL⟩ := b
  simp only [Bat.cells] at *
  have HB0 := Lib.hid hB0
  have HN0 := Lib.hid hN0
  have HZ0 := Lib.hid hz0
  have HW0 := Lib.hid hW0
  clear hW0 hB0 hN0 hz0 hbo HVN
  have x0 := cell_of_row _ _ 0 _ _ _ HN0.out
  have x1 := cell_of_row _ _ 1 _ _ _ HN0.out
  have x2 := cell_of_row _ _ 2 _ _ _ HN0.out
  have x3 := cell_of_row _ _ 3 _ _ _ HN0.out
  have x4 := cell_of_row _ _ 4 _ _ _ HN0.out
  have x5 := cell_of_row _ _ 5 _ _ _ HN0.out
  have x6 := cell_of_row _ _ 6 _ _ _ HN0.out
  go_enter Try.func9, Try.ntmps9
  go_upto_region 1 with fail
  rw [HW0.out]
  go_wp2_with fail
  refine (HVA.out _ HB0.out).mono ?_
  rintro e w1 ⟨rfl, hb1⟩
  have HB1 := Lib.hid hb1
  have hN1 := (hb1.block w.heap.size (by have := HZ0.out; omega)).trans HN0.out
  have HN1 := Lib.hid hN1
  have HBW1 := Lib.hid (HB0.out.trans (hb1.mono (by have := HZ0.out; omega)))
  clear hb1 x0 x1 x2 x3 x4 x5 x6 HVA
  obtain ⟨V, hV⟩ : ∃ V, validE ⟨bb, bp, be, bs, bk, bt, bL⟩ = V := ⟨_, rfl⟩
  rw [hV] at HSP HFI ⊢
  clear hV
  by_cases hv0 : V = 0
  rotate_left
  · have hvd : (V != 0) = true := by simpa using hv0
    have HE := Lib.hid (HX.out (.slice none 0 0) [] w1 (by rw [HSP.out, if_neg (fun h => hv0 h.1)]; rfl) (Ml.nil_q HBW1.out))
    clear hN1 HX
    go_wp2_with fail
    exact HE.out
  subst hv0
  by_cases hn1 : n < 1
  · have hnd : decide (n < 1) = true := decide_eq_true hn1
    have HE := Lib.hid (HX.out (.slice none 0 0) [] w1 (by rw [HSP.out, if_neg (fun h => by omega)]; rfl) (Ml.nil_q HBW1.out))
    clear hN1 HX
    go_wp2_with fail
    exact HE.out
  have hnd : decide (n < 1) = false := decide_eq_false hn1
  obtain ⟨mo, rfl⟩ : ∃ mo : Nat, n = (mo : Int) := ⟨n.toNat, by omega⟩
  have hF := HFI.out rfl
  have HFF := Lib.hid hF
  rw [Int.toNat_natCast] at HSP
  have HSP2 := Lib.hid (HSP.out.trans (if_pos ⟨rfl, by omega⟩))
  have x0 := cell_of_row _ _ 0 _ _ _ hN1
  have x1 := cell_of_row _ _ 1 _ _ _ hN1
  have x2 := cell_of_row _ _ 2 _ _ _ hN1
  have x3 := cell_of_row _ _ 3 _ _ _ hN1
  have x4 := cell_of_row _ _ 4 _ _ _ hN1
  have x5 := cell_of_row _ _ 5 _ _ _ hN1
  have x6 := cell_of_row _ _ 6 _ _ _ hN1
  clear hN1 HSP HFI hF
  go_wp2_with fail
  refine (HMK.out _).mono ?_
  rintro e w2 ⟨rfl, hb2⟩
  have hz1 : w.heap.size < w1.heap.size := (Array.getElem?_eq_some_iff.1 HN1.out).1
  have HN2 := Lib.hid ((hb2.block w.heap.size hz1).trans HN1.out)
  have HBW2 := Lib.hid (HBW1.out.trans (hb2.mono HBW1.out.size))
  have HB2 := Lib.hid (HB1.out.trans (hb2.mono HB1.out.size))
  clear hb2 x0 x1 x2 x3 x4 x5 x6 HMK HB1 HN1 HBW1 hz1
  cases hmk : markB ⟨bb, bp, be, bs, bk, bt, bL⟩ with
  | true =>
    have x0 := cell_of_row _ _ 0 _ _ _ HN2.out
    have x1 := cell_of_row _ _ 1 _ _ _ HN2.out
    have x2 := cell_of_row _ _ 2 _ _ _ HN2.out
    have x3 := cell_of_row _ _ 3 _ _ _ HN2.out
    have x4 := cell_of_row _ _ 4 _ _ _ HN2.out
    have x5 := cell_of_row _ _ 5 _ _ _ HN2.out
    have x6 := cell_of_row _ _ 6 _ _ _ HN2.out
    rw [hmk] at HSP2
    have HE := Lib.hid (HX.out _ [⟨⟨bb, bp, be, bs, bk, bt, bL⟩, A, c⟩] _ (by rw [HSP2.out]; rfl) (Ml.one (w := w) (wr := w2) (x := ⟨⟨bb, bp, be, bs, bk, bt, bL⟩, A, c⟩) HBW2.out (HMKE.out HFF.out hmk) hcm))
    go_wp2_with fail
    exact HE.out
  | false =>
    rw [hmk] at HSP2
    have HLP := Lib.hid (HCE.out HFF.out hmk)
    have HSP3 : Hid (splitB ⟨bb, bp, be, bs, bk, bt, bL⟩ (mo : Int) = chunks ⟨bb, bp, be, bs, bk, bt, bL⟩ mo) := HSP2.out
    have HL64 : Hid (bL.length ≤ 64) := HFF.out.len
    clear HSP2 hmk
    go_upto_if 20 with fail
    go_cut [1] (fun s1 wx => ∃ m : Nat, s1 = .int .i64 m ∧ 1 ≤ m ∧ m ≤ 64 ∧ Hid (splitB ⟨bb, bp, be, bs, bk, bt, bL⟩ (mo : Int) = chunks ⟨bb, bp, be, bs, bk, bt, bL⟩ m) ∧ wx = w2)
    case first =>
      by_cases h6 : 64 < mo
      · have hd : decide ((64 : Int) < (mo : Int)) = true := by rw [decide_eq_true_iff]; omega
        go_wp2_with fail
        go_meet
        exact ⟨64, rfl, by omega, by omega, HSP3.out.trans (chunks_cap _ mo HLP.out HL64.out h6), rfl⟩
      · have hd : decide ((64 : Int) < (mo : Int)) = false := by rw [decide_eq_false_iff_not]; omega
        go_wp2_with fail
        go_meet
        exact ⟨mo, rfl, by omega, by omega, HSP3.out, rfl⟩
    case rest =>
    obtain ⟨m, rfl, hm1, hm64, HSP4, hwc⟩ := hcut
    have hwc' := hwc.symm
    subst hwc'
    have HCI : Hid (∀ k, k < cnt ⟨bb, bp, be, bs, bk, bt, bL⟩ m ↔ k * m < bL.length) := fun k => cnt_iff _ m k hm1
    go_wp2_with fail
    go_loopw [5, 6] (fun v iv wr => ∃ (k i : Nat) (M : List BA), iv = .int .i64 i ∧ Hid (i = k * m) ∧ i ≤ 9223372036854775807 ∧ k ≤ cnt ⟨bb, bp, be, bs, bk, bt, bL⟩ m ∧ M.length = k ∧ k ≤ 64 ∧ Hid (M.map BA.b = (chunks ⟨bb, bp, be, bs, bk, bt, bL⟩ m).take k) ∧ Hid (Ml W0 wr v M)) (fun _ iv _ => 64 - (RowKit.intOf iv).toNat)
    case atStart => exact ⟨0, 0, [], rfl, by show _ = _; simp, by omega, by omega, rfl, by omega, by show _ = _; simp, Ml.nil_q HB2.out⟩
    case round =>
      obtain ⟨k, i, M, rfl, HIK, hi63, hkc, hMk, hk64, HMM, HPT⟩ := hrel
      have HMK := Lib.hid hMk
      have hM64 : M.length ≤ 64 := by omega
      clear hMk
      have hN := (HPT.out.bel.block w.heap.size (by have := HZ0.out; omega)).trans HN0.out
      have x0 := cell_of_row _ _ 0 _ _ _ hN
      have x1 := cell_of_row _ _ 1 _ _ _ hN
      have x2 := cell_of_row _ _ 2 _ _ _ hN
      have x3 := cell_of_row _ _ 3 _ _ _ hN
      have x4 := cell_of_row _ _ 4 _ _ _ hN
      have x5 := cell_of_row _ _ 5 _ _ _ hN
      have x6 := cell_of_row _ _ 6 _ _ _ hN
      clear hN
      by_cases hlt : i < bL.length
      · have hkl : k < cnt ⟨bb, bp, be, bs, bk, bt, bL⟩ m := (HCI.out k).2 (by rw [← HIK.out]; exact hlt)
        have hd7 : decide ((i : Int) < (bL.length : Int)) = true := by rw [decide_eq_true_iff]; omega
        have hsb : i + m ≤ 9223372036854775807 := by have := HL64.out; omega
        have hsz : (i : Int) + (m : Int) ≤ 9223372036854775807 := by omega
        have hz0 : (0 : Int) ≤ (i : Int) + (m : Int) := by omega
        have hJ : ∃ j : Nat, j = min (i + m) bL.length := ⟨_, rfl⟩
        obtain ⟨j, hj⟩ := hJ
        have hjz : min ((i : Int) + (m : Int)) (bL.length : Int) = (j : Int) := by omega
        have hil : i ≤ j := by omega
        have hjl : j ≤ bL.length := by omega
        have HCK : Hid (chunk ⟨bb, bp, be, bs, bk, bt, bL⟩ m k = partB ⟨bb, bp, be, bs, bk, bt, bL⟩ i j) := by show partB _ _ _ = _; rw [← HIK.out, hj]
        have HTK := Lib.hid (take_chunks ⟨bb, bp, be, bs, bk, bt, bL⟩ m k hkl)
        have HLZ : Hid ((partB ⟨bb, bp, be, bs, bk, bt, bL⟩ i j).L.length = j - i) := part_len _ i j hjl
        have HPA : Hid (Calls Try.prog 33 #[.agg #[.int .i64 bb, .int .i64 bp, .int .i64 be, .int .i64 bs, .int .i64 bk, .int .i64 bt, .slice A bL.length c], .int .i64 (i : Int), .int .i64 (j : Int)] wr fun e w' => ∃ A' c', e = .returned (.agg ((partB ⟨bb, bp, be, bs, bk, bt, bL⟩ i j).cells A' c')) ∧ w'.ownsRow wr.heap.size 38 4 (.slice A' (j - i) c') (j - i) (rcells (partB ⟨bb, bp, be, bs, bk, bt, bL⟩ i j).L) ∧ (∀ p, A' = some p → wr.heap.size ≤ p.block) ∧ Below wr.heap.size wr w') := by
          have e := HPT0.out HFF.out i j wr (HB0.out.trans (HPT.out.bel.mono (by have := HZ0.out; omega))) hil hjl hlt
          rw [piece_part_any HFF.out] at e
          exact e
        have HPO : Hid (∀ r ∈ (partB ⟨bb, bp, be, bs, bk, bt, bL⟩ i j).L, i64_ r.time) := fun r hr => HOK.out r (List.mem_of_mem_take (List.mem_of_mem_drop hr))
        generalize hPB : partB ⟨bb, bp, be, bs, bk, bt, bL⟩ i j = PB at *
        obtain ⟨pb, pp, pe, ps, pk, pt, pL⟩ := PB
        simp only [Bat.cells] at HPA HLZ HPO
        have hlz := HLZ.out
        rw [← hlz] at HPA
        have hlz64 : pL.length ≤ 64 := by have := HL64.out; omega
        have HIM : Hid (i + m = (k + 1) * m) := by show _ = _; rw [Nat.succ_mul, ← HIK.out]
        have HLO : Hid (∀ q, u5.ownBlock = some q → q < wr.heap.size) := fun q hq => (World.ownsRow.lt HPT.out.own q hq).2
        have hk1 : k + 1 ≤ 64 := by have h1 : k * 1 ≤ k * m := Nat.mul_le_mul_left k hm1; rw [← HIK.out] at h1; have := HL64.out; omega
        have hme : 64 - (i + m) < 64 - i := by have := HL64.out; omega
        clear hPB hlz hsb
        go_upto_if 36 with fail
        go_cut [7] (fun s7 wx => s7 = .int .i64 (j : Int) ∧ wx = wr)
        case first =>
          by_cases hto : bL.length < i + m
          · have hd : decide ((bL.length : Int) < (i : Int) + (m : Int)) = true := by rw [decide_eq_true_iff]; omega
            have hjj : (bL.length : Int) = (j : Int) := by omega
            go_wp2_with fail
            go_meet
            exact ⟨by first | (rw [hj]; done) | (rw [hjj]; done) | (have e9 : (i : Int) + (m : Int) = ((min (i + m) bL.length : Nat) : Int) := (by omega); rw [e9, hj]; done) | (have e9 : (i : Int) + (m : Int) = ((min (i + m) bL.length : Nat) : Int) := (by omega); rw [e9]; done), rfl⟩
          · have hd : decide ((bL.length : Int) < (i : Int) + (m : Int)) = false := by rw [decide_eq_false_iff_not]; omega
            have hjj : (i : Int) + (m : Int) = (j : Int) := by omega
            go_wp2_with fail
            go_meet
            exact ⟨by first | (rw [hj]; done) | (rw [hjj]; done) | (have e9 : (i : Int) + (m : Int) = ((min (i + m) bL.length : Nat) : Int) := (by omega); rw [e9, hj]; done) | (have e9 : (i : Int) + (m : Int) = ((min (i + m) bL.length : Nat) : Int) := (by omega); rw [e9]; done), rfl⟩
        case rest =>
        obtain ⟨rfl, hwc⟩ := hcut
        have hwc' := hwc.symm
        subst hwc'
        clear hj hjz
        go_wp2_with (first
          | (go_at_call 33; (with_reducible refine HPA.out.mono ?_); rintro e w3 ⟨A', c', rfl, ho3, hf3, hb3⟩; have HP3 := Lib.hid (HPT.out.below hb3); have HO3 := Lib.hid (own_rcs ho3 rfl HPO.out); have HF3 := Lib.hid hf3; have hown8 := HP3.out.own.alloc (.cells #[.int .i64 pb, .int .i64 pp, .int .i64 pe, .int .i64 ps, .int .i64 pk, .int .i64 pt, .slice A' pL.length c'] 24); have hz3 : W0.heap.size ≤ w3.heap.size := HP3.out.bel.size; clear ho3 hf3 hb3)
          | (at_builtin; go_loud (refine wpList_append_own_at _ rfl (.tmp 40) (.tmp 45) 26 rfl W0.heap.size 24 j0 _ 7 72 Try.underlying26 qj0 qy0 qy1 qy2 rfl (by decide) _ M.length (bcells M) rfl hown8 ⟨w3.heap.size, 0, none⟩ 1 1 [.int .i64 pb, .int .i64 pp, .int .i64 pe, .int .i64 ps, .int .i64 pk, .int .i64 pt, .slice A' pL.length c'] rfl rfl (new_cells5 w3 [.int .i64 pb, .int .i64 pp, .int .i64 pe, .int .i64 ps, .int .i64 pk, .int .i64 pt, .slice A' pL.length c'] _) ?g1 ?g2 ?g3 ?g4 ?_)))
        case g1 => first | exact ⟨rfl, rfl, rfl, rfl, rfl, rfl, rfl⟩ | (intro u hu; simp at hu; rcases hu with rfl | rfl | rfl | rfl | rfl | rfl | rfl <;> rfl)
        case g2 => unfold maxLen; omega
        case g3 => omega
        case g4 => first | omega | (simp; omega)
        intro va w7 hown7 hg7 _ hat7
        have hala := (Below.refl w3.heap.size w3).alloc (Nat.le_refl _) (.cells #[.int .i64 pb, .int .i64 pp, .int .i64 pe, .int .i64 ps, .int .i64 pk, .int .i64 pt, .slice A' pL.length c'] 24)
        have HFR : Hid (pL ≠ [] → ∀ p, A' = some p → u5.ownBlock ≠ some p.block) := fun _ p hp e => by have h1 := HF3.out p hp; have h2 := HLO.out _ e; omega
        have HPU := Lib.hid ((HP3.out.below hala).push (x := ⟨⟨pb, pp, pe, ps, pk, pt, pL⟩, A', c'⟩) ⟨(HO3.out.1.below hala).wider hala.size, by show pL.length ≤ 80; omega, HO3.out.2.1, HO3.out.2.2⟩ HFR.out hown7 hg7 (by simpa using hat7))
        clear hown7 hg7 hat7 hown8 hala x0 x1 x2 x3 x4 x5 x6
        go_wp2_with fail
        go_roundw
        case rel => exact ⟨k + 1, i + m, M ++ [⟨⟨pb, pp, pe, ps, pk, pt, pL⟩, A', c'⟩], by go_num, HIM, by omega, by omega, by simp [HMK.out], hk1, by show _ = _; rw [HTK.out, List.map_append, HMM.out, HCK.out]; rfl, HPU⟩
        case measure => simp [RowKit.intOf]; omega
      · have hd7 : decide ((i : Int) < (bL.length : Int)) = false := by rw [decide_eq_false_iff_not]; omega
        have hkl : ¬ k < cnt ⟨bb, bp, be, bs, bk, bt, bL⟩ m := fun h => by have := (HCI.out k).1 h; rw [← HIK.out] at this; exact hlt this
        have HE := Lib.hid (HX.out _ M _ (by rw [HSP4.out, HMM.out, List.take_of_length_le (by rw [chunks_len]; omega)]) (HPT.out.down HB0.out))
        go_wp2_with fail
        exact HE.out
end Go.Proofs.Ytkdpfajoeajenaa
