/-
  DedupOnce, walked.
-/
import Derived.Test.YtofakehnadpebaaDdV
namespace Go.Proofs.Ytofakehnadpebaa
open Go.RowKit Go.Maps
set_option linter.unusedVariables false
set_option linter.unusedSimpArgs false

set_option maxRecDepth 100000 in
set_option maxHeartbeats 8000000 in
theorem once_any (X : List Po) (lo : List Int) (A1 A2 : Option Addr) (n1 c1 n2 c2 : Nat) (w : World) (hX : Ops w w.heap.size A1 n1 X) (hO : Ins w w.heap.size A2 n2 lo) (h1 : n1 ≤ c1) (h2 : c1 ≤ maxLen) (h3 : n2 ≤ c2) (h4 : c2 ≤ maxLen) :
    Calls Try.prog 6 #[.slice A1 n1 c1, .slice A2 n2 c2] w fun e w' => e = .returned (.bool true) ∧ Below w.heap.size w w' := by
  obtain ⟨j0, qj0, qy0, qy1, qy2⟩ := info_parts zero_bat
  unfold maxLen at *
  have HN := Lib.hid (fun W => dnew_any 4096 W (by decide) (by decide))
  have HX := Lib.hid hX
  have HO := Lib.hid hO
  clear hX hO
  go_enter Try.func6, Try.ntmps6
  go_wp2_with fail
  refine (HN.out _).mono ?_
  rintro e w1 ⟨g, m, rfl, ht1, hg1, hm1, hb1⟩
  have H1 : Hid (O1 w w1 w1.heap.size g m 0 (.slice none 0 0) [] [] 0) := ⟨ht1, World.ownsRow_nil _ _ _ _, hb1, inv_nil, good_nil, Nat.le_refl _, Nat.le_refl _, by decide, ⟨hg1, hm1⟩, ⟨ht1.lg, ht1.mi.lt, Nat.le_refl _⟩, fun x hx => by cases hx⟩
  clear ht1 hg1 hm1 hb1
  go_wp2_with fail
  go_loopw [7, 8] (fun v i wr => ∃ (j : Nat) (M : List TA) (L : List Rw) (next : Int), i = .int .i64 j ∧ j ≤ 80 ∧ Hid (O1 w wr w1.heap.size g m j v M L next)) (fun _ i _ => 80 - (intOf i).toNat)
  case atStart => exact ⟨0, [], [], 0, rfl, by omega, H1.out⟩
  case round =>
    obtain ⟨j, M, L, next, rfl, hj, HJ⟩ := hrel
    by_cases hgo : j < n2 ∧ j < 80 ∧ 0 < n1
    · obtain ⟨hj2, hj8, hn1⟩ := hgo
      obtain ⟨p2, rfl, hp2, hc2, _, _⟩ := (HO.out.below HJ.out.below).row j hj2
      generalize lo.getD j 0 = o at *
      obtain ⟨K, hK, hKc⟩ := tmod_abs o n1 hn1
      obtain ⟨p1, rfl, hp1, hcx⟩ := (HX.out.below HJ.out.below).row K hK
      obtain ⟨hrx, hrc, hrm⟩ := (HX.out.below HJ.out.below).recs K hK
      generalize X.getD K default = y at *
      obtain ⟨kd, ⟨⟨xb, xp, xe, xs, xk, xt, xl⟩, xA, xc⟩, near, tm⟩ := y
      simp only [opC] at *
      have x1 := hcx 1 _ rfl
      have x2 := hcx 2 _ rfl
      have x3 := hcx 3 _ rfl
      have x4 := hcx 4 _ rfl
      have x5 := hcx 5 _ rfl
      have x6 := hcx 6 _ rfl
      have x7 := hcx 7 _ rfl
      rw [add_pos' _ _ (by omega)] at x1 x2 x3 x4 x5 x6 x7
      clear hcx
      have HRX := Lib.hid hrx
      have hw9 := HJ.out.below.size
      have hn0 : ((n1 : Int) == 0) = false := by rw [beq_eq_false_iff_ne]; omega
      have hg0 : ((n1 : Int) > 0) := by omega
      clear hrx
      have HNX : Hid (∀ W, Below wr.heap.size wr W → Calls Try.prog 27 #[.pointer (some ⟨g, 0, none⟩)] W fun e w' => e = .returned (.int .i64 next) ∧ W = w') := fun W h => dnext_any g m 4096 next L W (HJ.out.tb.below h)
      have hpb : (p1.add (K * 10)).block < wr.heap.size := by rw [add_block]; omega
      have HSM : Hid (∀ W, Below wr.heap.size wr W → Calls Try.prog 32 #[.agg #[.int .i64 0, .int .i64 xb, .int .i64 xp, .int .i64 xe, .int .i64 xs, .int .i64 xk, .int .i64 xt, .slice xA xl.length xc, .bool true, .int .i64 0], .int .i64 next] W fun e w' => ∃ A' c', e = .returned (.agg ((small8 ⟨xb, xp, xe, xs, xk, xt, xl⟩ true next).cells A' c')) ∧ Rcs w' w'.heap.size A' (small8 ⟨xb, xp, xe, xs, xk, xt, xl⟩ true next).L.length (small8 ⟨xb, xp, xe, xs, xk, xt, xl⟩ true next).L ∧ Below wr.heap.size wr w' ∧ (∀ p, A' = some p → W.heap.size ≤ p.block) ∧ Below W.heap.size W w' ∧ (w'.cell? ⟨(p1.add (K * 10)).block, (p1.add (K * 10)).off + 1, none⟩ = some (.int .i64 xb) ∧ w'.cell? ⟨(p1.add (K * 10)).block, (p1.add (K * 10)).off + 2, none⟩ = some (.int .i64 xp) ∧ w'.cell? ⟨(p1.add (K * 10)).block, (p1.add (K * 10)).off + 3, none⟩ = some (.int .i64 xe) ∧ w'.cell? ⟨(p1.add (K * 10)).block, (p1.add (K * 10)).off + 4, none⟩ = some (.int .i64 xs) ∧ w'.cell? ⟨(p1.add (K * 10)).block, (p1.add (K * 10)).off + 5, none⟩ = some (.int .i64 xk) ∧ w'.cell? ⟨(p1.add (K * 10)).block, (p1.add (K * 10)).off + 6, none⟩ = some (.int .i64 xt) ∧ w'.cell? ⟨(p1.add (K * 10)).block, (p1.add (K * 10)).off + 7, none⟩ = some (.slice xA xl.length xc))) := fun W h =>
        (small8_any 0 0 next ⟨xb, xp, xe, xs, xk, xt, xl⟩ xA xc w.heap.size true W (HRX.out.below (h.mono HJ.out.below.size)) (Nat.le_trans HJ.out.below.size h.size) (by unfold maxLen; exact Nat.le_trans hrc hrm) (by have := HJ.out.nx; omega) (by have := HJ.out.nx; omega)).mono fun e w' ⟨A', c', he, _, _, hR, hlo, hb⟩ => by
          have hz := h.trans (hb.mono h.size)
          exact ⟨A', c', he, hR, hz, hlo, hb, (hz.cell (p := ⟨(p1.add (K * 10)).block, (p1.add (K * 10)).off + 1, none⟩) hpb).trans x1, (hz.cell (p := ⟨(p1.add (K * 10)).block, (p1.add (K * 10)).off + 2, none⟩) hpb).trans x2, (hz.cell (p := ⟨(p1.add (K * 10)).block, (p1.add (K * 10)).off + 3, none⟩) hpb).trans x3, (hz.cell (p := ⟨(p1.add (K * 10)).block, (p1.add (K * 10)).off + 4, none⟩) hpb).trans x4, (hz.cell (p := ⟨(p1.add (K * 10)).block, (p1.add (K * 10)).off + 5, none⟩) hpb).trans x5, (hz.cell (p := ⟨(p1.add (K * 10)).block, (p1.add (K * 10)).off + 6, none⟩) hpb).trans x6, (hz.cell (p := ⟨(p1.add (K * 10)).block, (p1.add (K * 10)).off + 7, none⟩) hpb).trans x7⟩
      have HSL : Hid ((small8 ⟨xb, xp, xe, xs, xk, xt, xl⟩ true next).L.length ≤ 8) := by show (List.map _ _).length ≤ 8; rw [List.length_map, List.length_take]; omega
      have HSD : Hid (small8 ⟨xb, xp, xe, xs, xk, xt, xl⟩ true next = ⟨nearI xb true next, xp, xe, xs, xk, xt, (xl.take 8).map cut8R⟩) := rfl
      generalize hsm : small8 ⟨xb, xp, xe, xs, xk, xt, xl⟩ true next = sb at *
      clear hsm
      rcases hKc with hke | ⟨hke, hk0⟩
      all_goals
        go_upto_region 11 with fail
        go_cut [10] (fun s10 wx => ∃ b10 A' c', s10 = .pointer (some ⟨b10, 0, none⟩) ∧ Hid (wx.heap[b10]? = some (.cells (sb.cells A' c') 26 (0, 0)) ∧ (∀ u, Rcs (wx.setCell ⟨b10, 0, none⟩ u) (wx.setCell ⟨b10, 0, none⟩ u).heap.size A' sb.L.length sb.L) ∧ wr.heap.size ≤ b10 ∧ Below wr.heap.size wr wx))
        case first =>
          clear HSD HSL HX HO HN H1 HJ HRX hc2 hp2 hj2 hj8 hn1 hn0 hg0 hrc hrm hw9
          have nWb : (p1.add (K * 10)).block ≠ wr.heap.size := by omega
          obtain ⟨sb0, sp, se, ss, sk, st, sl⟩ := sb
          simp only [Bat.cells] at *
          go_region_held3 (fun w' => w'.cell? ⟨(p1.add (K * 10)).block, (p1.add (K * 10)).off + 1, none⟩ = some (.int .i64 xb) ∧ w'.cell? ⟨(p1.add (K * 10)).block, (p1.add (K * 10)).off + 2, none⟩ = some (.int .i64 xp) ∧ w'.cell? ⟨(p1.add (K * 10)).block, (p1.add (K * 10)).off + 3, none⟩ = some (.int .i64 xe) ∧ w'.cell? ⟨(p1.add (K * 10)).block, (p1.add (K * 10)).off + 4, none⟩ = some (.int .i64 xs) ∧ w'.cell? ⟨(p1.add (K * 10)).block, (p1.add (K * 10)).off + 5, none⟩ = some (.int .i64 xk) ∧ w'.cell? ⟨(p1.add (K * 10)).block, (p1.add (K * 10)).off + 6, none⟩ = some (.int .i64 xt) ∧ w'.cell? ⟨(p1.add (K * 10)).block, (p1.add (K * 10)).off + 7, none⟩ = some (.slice xA xl.length xc)) (first | (with_reducible exact ⟨x1, x2, x3, x4, x5, x6, x7⟩) | (with_reducible exact ⟨cd x1, cd x2, cd x3, cd x4, cd x5, cd x6, cd x7⟩) | (with_reducible exact ⟨z1, z2, z3, z4, z5, z6, z7⟩) | (with_reducible exact ⟨cad hpb x1, cad hpb x2, cad hpb x3, cad hpb x4, cad hpb x5, cad hpb x6, cad hpb x7⟩) | (with_reducible exact ⟨cda hpb x1, cda hpb x2, cda hpb x3, cda hpb x4, cda hpb x5, cda hpb x6, cda hpb x7⟩) | (with_reducible exact ⟨ca hpb x1, ca hpb x2, ca hpb x3, ca hpb x4, ca hpb x5, ca hpb x6, ca hpb x7⟩) | (with_reducible exact ⟨ca hp3 z1, ca hp3 z2, ca hp3 z3, ca hp3 z4, ca hp3 z5, ca hp3 z6, ca hp3 z7⟩) | (with_reducible exact ⟨set7_far nWb z1, set7_far nWb z2, set7_far nWb z3, set7_far nWb z4, set7_far nWb z5, set7_far nWb z6, set7_far nWb z7⟩) | (with_reducible exact ⟨set7_far nWc (ca hp3 z1), set7_far nWc (ca hp3 z2), set7_far nWc (ca hp3 z3), set7_far nWc (ca hp3 z4), set7_far nWc (ca hp3 z5), set7_far nWc (ca hp3 z6), set7_far nWc (ca hp3 z7)⟩) | go_keep)
            (first
              | (go_at_call 27; refine Calls.mono (HNX.out _ ?_) ?_ <;> first | (rintro e w' ⟨rfl, rfl⟩) | (go_grown; done))
              | (go_at_call 32; refine Calls.mono (HSM.out _ ?_) ?_ <;> first | (rintro e w3 ⟨A', c', rfl, hR', hB', hlo', hb', z1, z2, z3, z4, z5, z6, z7⟩; have HR := Lib.hid hR'; have HB := Lib.hid hB'; have hp3 : (p1.add (K * 10)).block < w3.heap.size := Nat.lt_of_lt_of_le hpb hB'.size; have nWc : (p1.add (K * 10)).block ≠ w3.heap.size := (by omega); have HLO := Lib.hid hlo'; have HBB := Lib.hid hb'; first | ((with_reducible have hk2 := blk_ad hb'); have HK2 := Lib.hid hk2; obtain ⟨⟨d0, d1, d2, d3, d4, d5, d6⟩, ⟨f0, f1, f2, f3, f4, f5, f6⟩⟩ := seven hk2; clear hR' hB' hlo' hb' hk2) | clear hR' hB' hlo' hb') | (go_grown; done)))
          all_goals
            go_wp2_with fail
            go_meet
            first
              | (refine ⟨w3.heap.size, A', c', ?_, ?_⟩
                 · with_reducible rfl
                 · exact ⟨heap_alloc_new _ _, fun u => (HR.out.below ((((Below.refl w3.heap.size w3).alloc (Nat.le_refl _) _).setCell (Nat.le_refl _) u))).wider (by simp), HB.out.size, HB.out.alloc HB.out.size _⟩)
              | (refine ⟨wr.heap.size, A', c', ?_, ?_⟩
                 · with_reducible rfl
                 · refine ⟨set7_same _ _ _ _ _ _ _ HK2.out, fun u => ?_, Nat.le_refl _, ?_⟩
                   · refine Rcs.wider (B := w3.heap.size) ⟨HR.out.len, HR.out.lies.far_ fun p hp i => ?_, HR.out.ok⟩ (by simp)
                     have hlo := lo_ad (HLO.out p hp)
                     have hpi := add_block p i
                     have n0 : ¬ wr.heap.size = (p.add i).block := by rw [hpi]; omega
                     simp only [World.cell?_setCell_far, ne_eq, n0, not_false_eq_true]
                   · repeat refine Below.setCell ?_ (by simp) _
                     exact HB.out)
        case rest =>
          obtain ⟨b10, A', c', rfl, HC⟩ := hcut
          obtain ⟨sb0, sp, se, ss, sk, st, sl⟩ := sb
          simp only [Bat.cells] at *
          have hlo := HJ.out.lo
          have hhi := HJ.out.hi
          have hb10 := HC.out.2.2.1
          have hbl := (Array.getElem?_eq_some_iff.1 HC.out.1).1
          have y0 := cell_of_row wc b10 0 _ _ _ HC.out.1
          have f0 := frozen_of_row wc b10 0 _ _ HC.out.1
          go_upto_region 13 with (go_at_call 27; (with_reducible refine (HNX.out _ HC.out.2.2.2).mono ?_); rintro e w' ⟨rfl, rfl⟩)
          have HD1 : Hid ((wc.setCell ⟨b10, 0, none⟩ (.int .i64 next)).heap[b10]? = some (.cells #[.int .i64 next, .int .i64 sp, .int .i64 se, .int .i64 ss, .int .i64 sk, .int .i64 st, .slice A' sl.length c'] 26 (0, 0))) := by show _ = _; rw [heap_setCell_same wc b10 0 _ _ _ HC.out.1]; rfl
          have HT1 : Hid (Tb (wc.setCell ⟨b10, 0, none⟩ (.int .i64 next)) g m 4096 next L) := (HJ.out.tb.below HC.out.2.2.2).kept ((grown_set wc b10 0 _).block g (by omega) (fun e => by injection e with e; omega)) ((grown_set wc b10 0 _).block m (by omega) (fun e => by injection e with e; omega))
          have HR1 := Lib.hid (HC.out.2.1 (.int .i64 next))
          have HB1 : Hid (Below wr.heap.size wr (wc.setCell ⟨b10, 0, none⟩ (.int .i64 next))) := HC.out.2.2.2.setCell HC.out.2.2.1 _
          generalize wc.setCell ⟨b10, 0, none⟩ (.int .i64 next) = wd at *
          clear y0 f0 x1 x2 x3 x4 x5 x6 x7
          obtain ⟨⟨y0, y1, y2, y3, y4, y5, y6⟩, _⟩ := seven HD1.out
          have hs8 : sl.length ≤ 8 := HSL.out
          have HTK : Hid (Calls Try.prog 22 #[.pointer (some ⟨g, 0, none⟩), .agg #[.int .i64 next, .int .i64 sp, .int .i64 se, .int .i64 ss, .int .i64 sk, .int .i64 st, .slice A' sl.length c']] wd fun e w' => TakeP wd g m 4096 next L ⟨next, sp, se, ss, sk, st, sl⟩ e w') := take_any ⟨next, sp, se, ss, sk, st, sl⟩ A' c' wd.heap.size g m 4096 next L wd HT1.out HR1.out (Nat.le_refl _) (by show sl.length ≤ _; unfold maxLen; omega) (by have := HJ.out.nx; omega) (by have := HJ.out.nx; omega) (by have := HJ.out.len; omega) (by show i64_ next; unfold i64_; have := HJ.out.nx; omega)
          obtain ⟨TE, hTE⟩ : ∃ TE, takeE 4096 next L ⟨next, sp, se, ss, sk, st, sl⟩ = TE := ⟨_, rfl⟩
          have HE := Lib.hid hTE
          have HTK2 : Hid (Calls Try.prog 22 #[.pointer (some ⟨g, 0, none⟩), .agg #[.int .i64 next, .int .i64 sp, .int .i64 se, .int .i64 ss, .int .i64 sk, .int .i64 st, .slice A' sl.length c']] wd fun e w' => e = .returned (.int .i64 TE) ∧ Tb w' g m 4096 (takeN 4096 next L ⟨next, sp, se, ss, sk, st, sl⟩) (takeL 4096 next L ⟨next, sp, se, ss, sk, st, sl⟩) ∧ Two g m wd w') := HTK.out.mono fun e w' ⟨he, h1, h2⟩ => ⟨by rw [he, hTE], h1, h2⟩
          clear hTE HTK
          by_cases hgo : TE = 0 ∧ 0 < sp
          · obtain ⟨hte, hsp⟩ := hgo
            have hte' : (TE == 0) = true := by simp [hte]
            have hsp' : decide (0 < sp) = true := by simpa using hsp
            have HZ := Lib.hid (HE.out.trans hte)
            have HSP := Lib.hid hsp
            clear hte hsp
            have HST := Lib.hid (inv_step HJ.out.inv HJ.out.tb.mi.rise HZ.out HSP.out)
            go_wp2_with (first
              | (go_at_call 22; (with_reducible refine HTK2.out.mono ?_); rintro e we ⟨rfl, ht2, h2⟩; have hk2 := (h2.block b10 (Array.getElem?_eq_some_iff.1 HD1.out).1 (by omega) (by omega)).trans HD1.out; obtain ⟨⟨u0, u1, u2, u3, u4, u5, u6⟩, _⟩ := seven hk2; have HT2 := Lib.hid ht2; have H22 := Lib.hid h2; have HO2 := Lib.hid (row_two HJ.out.own ((Two.of_below (g := g) (d := m) HB1.out).trans h2) hhi.1 hhi.2.1); clear ht2 h2 hk2)
              | (at_builtin; refine wpList_append_own_at _ rfl (.tmp 69) (.tmp 71) 22 rfl w1.heap.size 26 j0 _ 7 72 Try.underlying22 qj0 qy0 qy1 qy2 rfl (by decide) _ M.length (tcells M) rfl (HO2.out.alloc _) ⟨we.heap.size, 0, none⟩ 1 1 [.int .i64 next, .int .i64 sp, .int .i64 se, .int .i64 ss, .int .i64 sk, .int .i64 st, .slice A' sl.length c'] rfl rfl (new_cells0 we [.int .i64 next, .int .i64 sp, .int .i64 se, .int .i64 ss, .int .i64 sk, .int .i64 st, .slice A' sl.length c'] _) ?g1 ?g2 ?g3 ?g4 ?_))
            case g1 => intro u hu; simp at hu; rcases hu with rfl | rfl | rfl | rfl | rfl | rfl | rfl <;> rfl
            case g2 => unfold maxLen; have := HJ.out.ml; omega
            case g3 => have := HJ.out.ml; omega
            case g4 => have := H22.out.size; have := HB1.out.size; simp; omega
            intro v4 w4 hown4 hg4 _ _
            have hltv := World.ownsRow.lt (HO2.out)
            have HN1 : Hid (O1 w w4 w1.heap.size g m (j + 1) v4 (M ++ [⟨⟨next, sp, se, ss, sk, st, sl⟩, A', c'⟩]) (takeL 4096 next L ⟨next, sp, se, ss, sk, st, sl⟩) (takeN 4096 next L ⟨next, sp, se, ss, sk, st, sl⟩)) := by
              have hwe := (Below.refl we.heap.size we).alloc (Nat.le_refl _) (.cells [.int .i64 next, .int .i64 sp, .int .i64 se, .int .i64 ss, .int .i64 sk, .int .i64 st, .slice A' sl.length c'].toArray 26)
              have hze := H22.out.size
              have hzd := HB1.out.size
              have hgt : Two g m wr we := (Two.of_below HB1.out).trans H22.out
              refine ⟨(HT2.out.alloc (.cells [.int .i64 next, .int .i64 sp, .int .i64 se, .int .i64 ss, .int .i64 sk, .int .i64 st, .slice A' sl.length c'].toArray 26)).kept (hg4.block g (by simp; omega) (fun e => by have := (hltv _ e.symm).1; omega)) (hg4.block m (by simp; omega) (fun e => by have := (hltv _ e.symm).1; omega)), ?_, ?_, by rw [List.map_append]; exact HST.out.2, by rw [List.map_append]; exact good_snoc HJ.out.good HST.out.1, Nat.le_trans (take_len HJ.out.tb.mi.rise) (by have := HJ.out.len; omega), by rw [List.length_append]; have := HJ.out.ml; simp; omega, takeN_bd HJ.out.nx.1 HJ.out.nx.2, HJ.out.lo, ⟨hhi.1, hhi.2.1, ?_⟩, fun x hx => by rcases List.mem_append.1 hx with hx | hx; exact HJ.out.ls x hx; simp only [List.mem_singleton] at hx; rw [hx]; exact hs8⟩
              · rw [tcells_snoc, List.length_append, List.length_singleton]; exact hown4
              · have hb1 : Below w.heap.size w we := HJ.out.below.trans (hgt.below (by omega) (by omega) HJ.out.below.size)
                have hb2 := hb1.alloc hb1.size (.cells [.int .i64 next, .int .i64 sp, .int .i64 se, .int .i64 ss, .int .i64 sk, .int .i64 st, .slice A' sl.length c'].toArray 26)
                exact ⟨hg4.os.trans hb2.os, hg4.tape.trans hb2.tape, hg4.output.trans hb2.output, Nat.le_trans hb2.size hg4.size, fun i hi => (hg4.block i (Nat.lt_of_lt_of_le hi hb2.size) (fun e => by have := (hltv _ e.symm).1; omega)).trans (hb2.block i hi)⟩
              · have := hg4.size; simp at this; omega
            clear hown4 hg4 hltv
            go_wp2
            go_roundw
            case rel => exact ⟨j + 1, _, _, _, by go_num, by omega, HN1.out⟩
            case measure => simp [intOf]; omega
          · have HGO := Lib.hid hgo
            have HREST := Lib.hid (take_rest (most := 4096) (next := next) (L := L) (b := ⟨next, sp, se, ss, sk, st, sl⟩) (fun h => HGO.out ⟨HE.out.symm.trans h.1, h.2⟩) (fun h => take_pid h))
            by_cases hte : TE = 0
            · have hte' : (TE == 0) = true := by simp [hte]
              have hsp' : decide (0 < sp) = false := by simp; have := hgo; omega
              clear hgo hte
              go_wp2_with (go_at_call 22; (with_reducible refine HTK2.out.mono ?_); rintro e we ⟨rfl, ht2, h2⟩; have hk2 := (h2.block b10 (Array.getElem?_eq_some_iff.1 HD1.out).1 (by omega) (by omega)).trans HD1.out; obtain ⟨⟨u0, u1, u2, u3, u4, u5, u6⟩, _⟩ := seven hk2; have HT2 := Lib.hid ht2; have H22 := Lib.hid h2; have HO2 := Lib.hid (row_two HJ.out.own ((Two.of_below (g := g) (d := m) HB1.out).trans h2) hhi.1 hhi.2.1); clear ht2 h2 hk2)
              have hgt : Two g m wr we := (Two.of_below HB1.out).trans H22.out
              have HN1 := Lib.hid (O1.mk (w := w) (j := j + 1) HT2.out HO2.out (HJ.out.below.trans (hgt.below (by omega) (by omega) HJ.out.below.size)) (HREST.out.symm ▸ HJ.out.inv) HJ.out.good (by rw [HREST.out]; have := HJ.out.len; omega) (by have := HJ.out.ml; omega) (takeN_bd HJ.out.nx.1 HJ.out.nx.2) HJ.out.lo ⟨hhi.1, hhi.2.1, by have := hgt.size; omega⟩ HJ.out.ls)
              clear hgt
              go_wp2
              go_roundw
              case rel => exact ⟨j + 1, _, _, _, by go_num, by omega, HN1.out⟩
              case measure => simp [intOf]; omega
            · have hte' : (TE == 0) = false := by simp [hte]
              clear hgo hte
              go_wp2_with (go_at_call 22; (with_reducible refine HTK2.out.mono ?_); rintro e we ⟨rfl, ht2, h2⟩; have hk2 := (h2.block b10 (Array.getElem?_eq_some_iff.1 HD1.out).1 (by omega) (by omega)).trans HD1.out; obtain ⟨⟨u0, u1, u2, u3, u4, u5, u6⟩, _⟩ := seven hk2; have HT2 := Lib.hid ht2; have H22 := Lib.hid h2; have HO2 := Lib.hid (row_two HJ.out.own ((Two.of_below (g := g) (d := m) HB1.out).trans h2) hhi.1 hhi.2.1); clear ht2 h2 hk2)
              have hgt : Two g m wr we := (Two.of_below HB1.out).trans H22.out
              have HN1 := Lib.hid (O1.mk (w := w) (j := j + 1) HT2.out HO2.out (HJ.out.below.trans (hgt.below (by omega) (by omega) HJ.out.below.size)) (HREST.out.symm ▸ HJ.out.inv) HJ.out.good (by rw [HREST.out]; have := HJ.out.len; omega) (by have := HJ.out.ml; omega) (takeN_bd HJ.out.nx.1 HJ.out.nx.2) HJ.out.lo ⟨hhi.1, hhi.2.1, by have := hgt.size; omega⟩ HJ.out.ls)
              clear hgt
              go_wp2
              go_roundw
              case rel => exact ⟨j + 1, _, _, _, by go_num, by omega, HN1.out⟩
              case measure => simp [intOf]; omega
    · have hno : (decide ((j : Int) < (n2 : Int)) = false ∨ (decide ((j : Int) < 80) = false ∧ j < n2)) ∨ (n1 = 0 ∧ j < n2 ∧ j < 80) := by
        by_cases h5 : j < n2
        · by_cases h6 : j < 80
          · exact .inr ⟨by omega, h5, h6⟩
          · exact .inl (.inr ⟨by simp; omega, h5⟩)
        · exact .inl (.inl (by simp; omega))
      have hml := HJ.out.ml
      obtain ⟨A7, c7, rfl, hc7, hm7, hl7⟩ := t_lies HJ.out.own rfl
      have HL7 := Lib.hid hl7
      have HAW : Hid (∀ W, Calls Try.prog 30 #[] W fun e w' => e = .returned (.bool true) ∧ Below W.heap.size W w') := awake7_any
      have HMK : Hid (∀ W (b : Bat) (A : Option Addr) (c : Nat), Calls Try.prog 33 #[.agg (b.cells A c)] W fun e w' => e = .returned (.bool (markB b)) ∧ Below W.heap.size W w') := fun W b A c => rmark_any b A c W
      have HGD := Lib.hid HJ.out.good
      have HLS := Lib.hid HJ.out.ls
      have HBW := Lib.hid HJ.out.below
      clear hl7 HJ HX HO HN H1 hgo
      unfold maxLen at hm7
      rcases hno with (hno | ⟨hno, hyes⟩) | hno
      · have hd1 : decide (j < n2) = false := by simpa using hno
        generalize wr = wq at *
        go_wp2_with fail
        go_loopw [75] (fun i2 wr2 => ∃ i : Nat, i ≤ M.length ∧ i2 = .int .i64 i ∧ Hid (Below wq.heap.size wq wr2)) (fun i2 _ => M.length - (intOf i2).toNat)
        case atStart => exact ⟨0, by omega, rfl, Below.refl _ _⟩
        case round =>
          obtain ⟨i, hi, rfl, HR2⟩ := hrel
          generalize wr = wr2 at *
          by_cases hlt : i < M.length
          · have hz2 := HR2.out.size
            obtain ⟨p7, rfl, hp7, r0, r1, r2, r3, r4, r5, r6⟩ := t_row rfl (HL7.out.keep fun _ hp => HR2.out.cell hp) hlt
            have HOK := Lib.hid (HGD.out i (by rw [List.length_map]; exact hlt))
            rw [getT] at HOK
            have HTM := Lib.hid (fun k hk => mem_take_map M k i hk (Nat.le_of_lt hlt))
            have HWB := Lib.hid (fun k pid ep => want_bd ((M.map TA.b).take k) pid ep (len_take M k HLS.out))
            generalize M.getD i default = x at *
            obtain ⟨⟨b0, bp, be, bs, bk, bt, bl⟩, bA, bc⟩ := x
            simp only at r0 r1 r2 r3 r4 r5 r6
            have HD2 := Lib.hid (heap_alloc_new wr2 (.cells #[.int .i64 b0, .int .i64 bp, .int .i64 be, .int .i64 bs, .int .i64 bk, .int .i64 bt, .slice bA bl.length bc] 26))
            have HB2 := Lib.hid (HR2.out.alloc hz2 (.cells #[.int .i64 b0, .int .i64 bp, .int .i64 be, .int .i64 bs, .int .i64 bk, .int .i64 bt, .slice bA bl.length bc] 26))
            have HMB := Lib.hid (fun W => HMK.out W ⟨b0, bp, be, bs, bk, bt, bl⟩ bA bc)
            simp only [Bat.cells] at HMB
            go_wp2_with fail
            go_loopw [13, 14] (fun wt k2 wr3 => ∃ kk : Nat, kk ≤ i ∧ k2 = .int .i64 kk ∧ wt = .int .i64 (wantPE ((M.map TA.b).take kk) bp be) ∧ Hid (Below (wr2.heap.size + 1) (wr2.alloc (.cells #[.int .i64 b0, .int .i64 bp, .int .i64 be, .int .i64 bs, .int .i64 bk, .int .i64 bt, .slice bA bl.length bc] 26)) wr3)) (fun _ k2 _ => i - (intOf k2).toNat)
            case atStart => exact ⟨0, by omega, rfl, rfl, Below.refl _ _⟩
            case round =>
              obtain ⟨kk, hkk, rfl, rfl, HR3⟩ := hrel
              generalize wr = wr3 at *
              have hz3 := HR3.out.size
              simp only [World.size_alloc] at hz3
              have HD3 := Lib.hid ((HR3.out.block wr2.heap.size (by omega)).trans HD2.out)
              have HB3 : Hid (Below wq.heap.size wq wr3) := HB2.out.trans (HR3.out.mono (by omega))
              obtain ⟨⟨p0, p1, p2, p3, p4, p5, p6⟩, _⟩ := seven HD3.out
              by_cases hlk : kk < i
              · obtain ⟨p8, he8, hp8, s0, s1, s2, s3, s4, s5, s6⟩ := t_row rfl (HL7.out.keep fun _ hp => HB3.out.cell hp) (Nat.lt_trans hlk hlt)
                injection he8 with he8
                subst he8
                have HTK := Lib.hid (HTM.out kk hlk)
                have HWS := Lib.hid (take_map M kk (Nat.lt_trans hlk hlt))
                have HL8 : Hid ((M.getD kk default).b.L.length ≤ 8) := len_take M i HLS.out _ HTK.out
                have hwb := HWB.out kk bp be
                rw [List.length_take, List.length_map] at hwb
                obtain ⟨wv, hwv⟩ : ∃ wv, wantPE ((M.map TA.b).take kk) bp be = wv := ⟨_, rfl⟩
                have HWN : Hid (wantPE ((M.map TA.b).take (kk + 1)) bp be = wv + if (M.getD kk default).b.pid = bp ∧ (M.getD kk default).b.epoch = be then ((M.getD kk default).b.L.length : Int) else 0) := by show _ = _; rw [HWS.out, want_snoc, hwv]
                rw [hwv] at hwb
                rw [hwv]
                clear hwv HWS
                have HEP := Lib.hid (HOK.out.ep _ HTK.out)
                generalize M.getD kk default = y at *
                obtain ⟨⟨a0, ap, ae, as_, ak, at_, al⟩, aA, ac⟩ := y
                simp only at s0 s1 s2 s3 s4 s5 s6 HWN HEP HL8
                have hl8 : al.length ≤ 8 := HL8.out
                have HMA := Lib.hid (fun W => HMK.out W ⟨a0, ap, ae, as_, ak, at_, al⟩ aA ac)
                simp only [Bat.cells] at HMA
                have hkc : decide (kk < i) = true := by simpa using hlk
                have HB5 := Lib.hid (HR3.out.alloc (by omega) (.cells #[.int .i64 a0, .int .i64 ap, .int .i64 ae, .int .i64 as_, .int .i64 ak, .int .i64 at_, .slice aA al.length ac] 26))
                have hl2 : wr2.heap.size < wr3.heap.size := by omega
                by_cases hpe : ap = bp
                · have e1 : (ap != bp) = false := by simp [hpe]
                  obtain ⟨hn1, hn2⟩ := HEP.out hpe
                  have e2 : decide (be < ae) = false := by simpa using hn1
                  generalize markB ⟨a0, ap, ae, as_, ak, at_, al⟩ = ma at *
                  cases ma with
                  | true =>
                    have hne : ¬ ae = be := fun h => hn2 ⟨rfl, h⟩
                    have e3 : (ae == be) = false := by simp [hne]
                    have HWZ : Hid (wantPE ((M.map TA.b).take (kk + 1)) bp be = wv) := by show _ = _; rw [HWN.out, if_neg (fun h => hne h.2)]; omega
                    clear hn1 hn2 hne hpe
                    go_wp2_with (first | (go_at_call 33; (with_reducible refine (HMA.out _).mono ?_); rintro e w4 ⟨rfl, hb4⟩; obtain ⟨⟨q0, q1, q2, q3, q4, q5, q6⟩, _⟩ := seven ((hb4.block wr3.heap.size (by simp)).trans (heap_alloc_new wr3 (.cells #[.int .i64 a0, .int .i64 ap, .int .i64 ae, .int .i64 as_, .int .i64 ak, .int .i64 at_, .slice aA al.length ac] 26))); obtain ⟨⟨p0, p1, p2, p3, p4, p5, p6⟩, _⟩ := seven ((hb4.block wr2.heap.size (by simp; omega)).trans ((((Below.refl wr3.heap.size wr3).alloc (Nat.le_refl _) (.cells #[.int .i64 a0, .int .i64 ap, .int .i64 ae, .int .i64 as_, .int .i64 ak, .int .i64 at_, .slice aA al.length ac] 26)).block wr2.heap.size (by omega)).trans HD3.out)); have HB4 := Lib.hid (((HR3.out.alloc (by omega) (.cells #[.int .i64 a0, .int .i64 ap, .int .i64 ae, .int .i64 as_, .int .i64 ak, .int .i64 at_, .slice aA al.length ac] 26)).trans (hb4.mono (by simp; omega)))); clear hb4))
                    go_roundw
                    case rel => exact ⟨kk + 1, by omega, by go_num, by rw [HWZ.out], HB4.out⟩
                    case measure => simp [intOf]; omega
                  | false =>
                    by_cases hee : ae = be
                    · have e3 : (ae == be) = true := by simp [hee]
                      have HWZ : Hid (wantPE ((M.map TA.b).take (kk + 1)) bp be = wv + (al.length : Int)) := by show _ = _; rw [HWN.out, if_pos ⟨hpe, hee⟩]
                      clear hn1 hn2 hpe hee
                      go_wp2_with (first | (go_at_call 33; (with_reducible refine (HMA.out _).mono ?_); rintro e w4 ⟨rfl, hb4⟩; obtain ⟨⟨q0, q1, q2, q3, q4, q5, q6⟩, _⟩ := seven ((hb4.block wr3.heap.size (by simp)).trans (heap_alloc_new wr3 (.cells #[.int .i64 a0, .int .i64 ap, .int .i64 ae, .int .i64 as_, .int .i64 ak, .int .i64 at_, .slice aA al.length ac] 26))); obtain ⟨⟨p0, p1, p2, p3, p4, p5, p6⟩, _⟩ := seven ((hb4.block wr2.heap.size (by simp; omega)).trans ((((Below.refl wr3.heap.size wr3).alloc (Nat.le_refl _) (.cells #[.int .i64 a0, .int .i64 ap, .int .i64 ae, .int .i64 as_, .int .i64 ak, .int .i64 at_, .slice aA al.length ac] 26)).block wr2.heap.size (by omega)).trans HD3.out)); have HB4 := Lib.hid (((HR3.out.alloc (by omega) (.cells #[.int .i64 a0, .int .i64 ap, .int .i64 ae, .int .i64 as_, .int .i64 ak, .int .i64 at_, .slice aA al.length ac] 26)).trans (hb4.mono (by simp; omega)))); clear hb4))
                      go_roundw
                      case rel => exact ⟨kk + 1, by omega, by go_num, by rw [HWZ.out], HB4.out⟩
                      case measure => simp [intOf]; omega
                    · have e3 : (ae == be) = false := by simp [hee]
                      have HWZ : Hid (wantPE ((M.map TA.b).take (kk + 1)) bp be = wv) := by show _ = _; rw [HWN.out, if_neg (fun h => hee h.2)]; omega
                      clear hn1 hn2 hpe hee
                      go_wp2_with (first | (go_at_call 33; (with_reducible refine (HMA.out _).mono ?_); rintro e w4 ⟨rfl, hb4⟩; obtain ⟨⟨q0, q1, q2, q3, q4, q5, q6⟩, _⟩ := seven ((hb4.block wr3.heap.size (by simp)).trans (heap_alloc_new wr3 (.cells #[.int .i64 a0, .int .i64 ap, .int .i64 ae, .int .i64 as_, .int .i64 ak, .int .i64 at_, .slice aA al.length ac] 26))); obtain ⟨⟨p0, p1, p2, p3, p4, p5, p6⟩, _⟩ := seven ((hb4.block wr2.heap.size (by simp; omega)).trans ((((Below.refl wr3.heap.size wr3).alloc (Nat.le_refl _) (.cells #[.int .i64 a0, .int .i64 ap, .int .i64 ae, .int .i64 as_, .int .i64 ak, .int .i64 at_, .slice aA al.length ac] 26)).block wr2.heap.size (by omega)).trans HD3.out)); have HB4 := Lib.hid (((HR3.out.alloc (by omega) (.cells #[.int .i64 a0, .int .i64 ap, .int .i64 ae, .int .i64 as_, .int .i64 ak, .int .i64 at_, .slice aA al.length ac] 26)).trans (hb4.mono (by simp; omega)))); clear hb4))
                      go_roundw
                      case rel => exact ⟨kk + 1, by omega, by go_num, by rw [HWZ.out], HB4.out⟩
                      case measure => simp [intOf]; omega
                · have e1 : (ap != bp) = true := by simp [hpe]
                  have HWZ : Hid (wantPE ((M.map TA.b).take (kk + 1)) bp be = wv) := by show _ = _; rw [HWN.out, if_neg (fun h => hpe h.1)]; omega
                  clear hpe
                  go_wp2_with fail
                  go_roundw
                  case rel => exact ⟨kk + 1, by omega, by go_num, by rw [HWZ.out], HB5.out⟩
                  case measure => simp [intOf]; omega
              · have hke : kk = i := by omega
                subst hke
                have hkc : decide (kk < kk) = false := by simp
                have hkd : decide ((kk : Int) < (kk : Int)) = false := by simp
                have HSQ := Lib.hid (HOK.out.seq)
                obtain ⟨wv, hwv⟩ : ∃ wv, wantPE ((M.map TA.b).take kk) bp be = wv := ⟨_, rfl⟩
                rw [hwv]
                simp only at HSQ
                rw [hwv] at HSQ
                clear hwv hlk
                generalize markB ⟨b0, bp, be, bs, bk, bt, bl⟩ = mb at *
                cases mb with
                | true =>
                  go_wp2_with (first | (go_at_call 33; (with_reducible refine (HMB.out _).mono ?_); rintro e w4 ⟨rfl, hb4⟩; have HB4 := Lib.hid (HB3.out.trans (hb4.mono HB3.out.size)); clear hb4))
                  go_roundw
                  case rel => exact ⟨kk + 1, by omega, by go_num, HB4.out⟩
                  case measure => simp [intOf]; omega
                | false =>
                  have hsw := HSQ.out rfl
                  have e4 : (bs != wv) = false := by simp [hsw]
                  clear hsw
                  go_wp2_with (first | (go_at_call 33; (with_reducible refine (HMB.out _).mono ?_); rintro e w4 ⟨rfl, hb4⟩; obtain ⟨⟨q0, q1, q2, q3, q4, q5, q6⟩, _⟩ := seven ((hb4.block wr2.heap.size (by omega)).trans HD3.out); have HB4 := Lib.hid (HB3.out.trans (hb4.mono HB3.out.size)); clear hb4))
                  go_roundw
                  case rel => exact ⟨kk + 1, by omega, by go_num, HB4.out⟩
                  case measure => simp [intOf]; omega
          · have hie : i = M.length := by omega
            have hkd : decide ((i : Int) < (M.length : Int)) = false := by simp; omega
            have hke : decide (i < M.length) = false := by simp; omega
            clear hlt hie
            go_wp2_with (go_at_call 30; (with_reducible refine (HAW.out _).mono ?_); rintro e w5 ⟨rfl, hb5⟩; have HB5 := Lib.hid (hb5); clear hb5)
            go_ret
            exact ⟨rfl, (HBW.out.trans (HR2.out.mono HBW.out.size)).trans (HB5.out.mono (by have := HBW.out.size; have := HR2.out.size; omega))⟩
      · have hd1 : decide (j < n2) = true := by simpa using hyes
        have hd2 : decide ((j : Int) < (n2 : Int)) = true := by simpa using hyes
        generalize wr = wq at *
        go_wp2_with fail
        go_loopw [75] (fun i2 wr2 => ∃ i : Nat, i ≤ M.length ∧ i2 = .int .i64 i ∧ Hid (Below wq.heap.size wq wr2)) (fun i2 _ => M.length - (intOf i2).toNat)
        case atStart => exact ⟨0, by omega, rfl, Below.refl _ _⟩
        case round =>
          obtain ⟨i, hi, rfl, HR2⟩ := hrel
          generalize wr = wr2 at *
          by_cases hlt : i < M.length
          · have hz2 := HR2.out.size
            obtain ⟨p7, rfl, hp7, r0, r1, r2, r3, r4, r5, r6⟩ := t_row rfl (HL7.out.keep fun _ hp => HR2.out.cell hp) hlt
            have HOK := Lib.hid (HGD.out i (by rw [List.length_map]; exact hlt))
            rw [getT] at HOK
            have HTM := Lib.hid (fun k hk => mem_take_map M k i hk (Nat.le_of_lt hlt))
            have HWB := Lib.hid (fun k pid ep => want_bd ((M.map TA.b).take k) pid ep (len_take M k HLS.out))
            generalize M.getD i default = x at *
            obtain ⟨⟨b0, bp, be, bs, bk, bt, bl⟩, bA, bc⟩ := x
            simp only at r0 r1 r2 r3 r4 r5 r6
            have HD2 := Lib.hid (heap_alloc_new wr2 (.cells #[.int .i64 b0, .int .i64 bp, .int .i64 be, .int .i64 bs, .int .i64 bk, .int .i64 bt, .slice bA bl.length bc] 26))
            have HB2 := Lib.hid (HR2.out.alloc hz2 (.cells #[.int .i64 b0, .int .i64 bp, .int .i64 be, .int .i64 bs, .int .i64 bk, .int .i64 bt, .slice bA bl.length bc] 26))
            have HMB := Lib.hid (fun W => HMK.out W ⟨b0, bp, be, bs, bk, bt, bl⟩ bA bc)
            simp only [Bat.cells] at HMB
            go_wp2_with fail
            go_loopw [13, 14] (fun wt k2 wr3 => ∃ kk : Nat, kk ≤ i ∧ k2 = .int .i64 kk ∧ wt = .int .i64 (wantPE ((M.map TA.b).take kk) bp be) ∧ Hid (Below (wr2.heap.size + 1) (wr2.alloc (.cells #[.int .i64 b0, .int .i64 bp, .int .i64 be, .int .i64 bs, .int .i64 bk, .int .i64 bt, .slice bA bl.length bc] 26)) wr3)) (fun _ k2 _ => i - (intOf k2).toNat)
            case atStart => exact ⟨0, by omega, rfl, rfl, Below.refl _ _⟩
            case round =>
              obtain ⟨kk, hkk, rfl, rfl, HR3⟩ := hrel
              generalize wr = wr3 at *
              have hz3 := HR3.out.size
              simp only [World.size_alloc] at hz3
              have HD3 := Lib.hid ((HR3.out.block wr2.heap.size (by omega)).trans HD2.out)
              have HB3 : Hid (Below wq.heap.size wq wr3) := HB2.out.trans (HR3.out.mono (by omega))
              obtain ⟨⟨p0, p1, p2, p3, p4, p5, p6⟩, _⟩ := seven HD3.out
              by_cases hlk : kk < i
              · obtain ⟨p8, he8, hp8, s0, s1, s2, s3, s4, s5, s6⟩ := t_row rfl (HL7.out.keep fun _ hp => HB3.out.cell hp) (Nat.lt_trans hlk hlt)
                injection he8 with he8
                subst he8
                have HTK := Lib.hid (HTM.out kk hlk)
                have HWS := Lib.hid (take_map M kk (Nat.lt_trans hlk hlt))
                have HL8 : Hid ((M.getD kk default).b.L.length ≤ 8) := len_take M i HLS.out _ HTK.out
                have hwb := HWB.out kk bp be
                rw [List.length_take, List.length_map] at hwb
                obtain ⟨wv, hwv⟩ : ∃ wv, wantPE ((M.map TA.b).take kk) bp be = wv := ⟨_, rfl⟩
                have HWN : Hid (wantPE ((M.map TA.b).take (kk + 1)) bp be = wv + if (M.getD kk default).b.pid = bp ∧ (M.getD kk default).b.epoch = be then ((M.getD kk default).b.L.length : Int) else 0) := by show _ = _; rw [HWS.out, want_snoc, hwv]
                rw [hwv] at hwb
                rw [hwv]
                clear hwv HWS
                have HEP := Lib.hid (HOK.out.ep _ HTK.out)
                generalize M.getD kk default = y at *
                obtain ⟨⟨a0, ap, ae, as_, ak, at_, al⟩, aA, ac⟩ := y
                simp only at s0 s1 s2 s3 s4 s5 s6 HWN HEP HL8
                have hl8 : al.length ≤ 8 := HL8.out
                have HMA := Lib.hid (fun W => HMK.out W ⟨a0, ap, ae, as_, ak, at_, al⟩ aA ac)
                simp only [Bat.cells] at HMA
                have hkc : decide (kk < i) = true := by simpa using hlk
                have HB5 := Lib.hid (HR3.out.alloc (by omega) (.cells #[.int .i64 a0, .int .i64 ap, .int .i64 ae, .int .i64 as_, .int .i64 ak, .int .i64 at_, .slice aA al.length ac] 26))
                have hl2 : wr2.heap.size < wr3.heap.size := by omega
                by_cases hpe : ap = bp
                · have e1 : (ap != bp) = false := by simp [hpe]
                  obtain ⟨hn1, hn2⟩ := HEP.out hpe
                  have e2 : decide (be < ae) = false := by simpa using hn1
                  generalize markB ⟨a0, ap, ae, as_, ak, at_, al⟩ = ma at *
                  cases ma with
                  | true =>
                    have hne : ¬ ae = be := fun h => hn2 ⟨rfl, h⟩
                    have e3 : (ae == be) = false := by simp [hne]
                    have HWZ : Hid (wantPE ((M.map TA.b).take (kk + 1)) bp be = wv) := by show _ = _; rw [HWN.out, if_neg (fun h => hne h.2)]; omega
                    clear hn1 hn2 hne hpe
                    go_wp2_with (first | (go_at_call 33; (with_reducible refine (HMA.out _).mono ?_); rintro e w4 ⟨rfl, hb4⟩; obtain ⟨⟨q0, q1, q2, q3, q4, q5, q6⟩, _⟩ := seven ((hb4.block wr3.heap.size (by simp)).trans (heap_alloc_new wr3 (.cells #[.int .i64 a0, .int .i64 ap, .int .i64 ae, .int .i64 as_, .int .i64 ak, .int .i64 at_, .slice aA al.length ac] 26))); obtain ⟨⟨p0, p1, p2, p3, p4, p5, p6⟩, _⟩ := seven ((hb4.block wr2.heap.size (by simp; omega)).trans ((((Below.refl wr3.heap.size wr3).alloc (Nat.le_refl _) (.cells #[.int .i64 a0, .int .i64 ap, .int .i64 ae, .int .i64 as_, .int .i64 ak, .int .i64 at_, .slice aA al.length ac] 26)).block wr2.heap.size (by omega)).trans HD3.out)); have HB4 := Lib.hid (((HR3.out.alloc (by omega) (.cells #[.int .i64 a0, .int .i64 ap, .int .i64 ae, .int .i64 as_, .int .i64 ak, .int .i64 at_, .slice aA al.length ac] 26)).trans (hb4.mono (by simp; omega)))); clear hb4))
                    go_roundw
                    case rel => exact ⟨kk + 1, by omega, by go_num, by rw [HWZ.out], HB4.out⟩
                    case measure => simp [intOf]; omega
                  | false =>
                    by_cases hee : ae = be
                    · have e3 : (ae == be) = true := by simp [hee]
                      have HWZ : Hid (wantPE ((M.map TA.b).take (kk + 1)) bp be = wv + (al.length : Int)) := by show _ = _; rw [HWN.out, if_pos ⟨hpe, hee⟩]
                      clear hn1 hn2 hpe hee
                      go_wp2_with (first | (go_at_call 33; (with_reducible refine (HMA.out _).mono ?_); rintro e w4 ⟨rfl, hb4⟩; obtain ⟨⟨q0, q1, q2, q3, q4, q5, q6⟩, _⟩ := seven ((hb4.block wr3.heap.size (by simp)).trans (heap_alloc_new wr3 (.cells #[.int .i64 a0, .int .i64 ap, .int .i64 ae, .int .i64 as_, .int .i64 ak, .int .i64 at_, .slice aA al.length ac] 26))); obtain ⟨⟨p0, p1, p2, p3, p4, p5, p6⟩, _⟩ := seven ((hb4.block wr2.heap.size (by simp; omega)).trans ((((Below.refl wr3.heap.size wr3).alloc (Nat.le_refl _) (.cells #[.int .i64 a0, .int .i64 ap, .int .i64 ae, .int .i64 as_, .int .i64 ak, .int .i64 at_, .slice aA al.length ac] 26)).block wr2.heap.size (by omega)).trans HD3.out)); have HB4 := Lib.hid (((HR3.out.alloc (by omega) (.cells #[.int .i64 a0, .int .i64 ap, .int .i64 ae, .int .i64 as_, .int .i64 ak, .int .i64 at_, .slice aA al.length ac] 26)).trans (hb4.mono (by simp; omega)))); clear hb4))
                      go_roundw
                      case rel => exact ⟨kk + 1, by omega, by go_num, by rw [HWZ.out], HB4.out⟩
                      case measure => simp [intOf]; omega
                    · have e3 : (ae == be) = false := by simp [hee]
                      have HWZ : Hid (wantPE ((M.map TA.b).take (kk + 1)) bp be = wv) := by show _ = _; rw [HWN.out, if_neg (fun h => hee h.2)]; omega
                      clear hn1 hn2 hpe hee
                      go_wp2_with (first | (go_at_call 33; (with_reducible refine (HMA.out _).mono ?_); rintro e w4 ⟨rfl, hb4⟩; obtain ⟨⟨q0, q1, q2, q3, q4, q5, q6⟩, _⟩ := seven ((hb4.block wr3.heap.size (by simp)).trans (heap_alloc_new wr3 (.cells #[.int .i64 a0, .int .i64 ap, .int .i64 ae, .int .i64 as_, .int .i64 ak, .int .i64 at_, .slice aA al.length ac] 26))); obtain ⟨⟨p0, p1, p2, p3, p4, p5, p6⟩, _⟩ := seven ((hb4.block wr2.heap.size (by simp; omega)).trans ((((Below.refl wr3.heap.size wr3).alloc (Nat.le_refl _) (.cells #[.int .i64 a0, .int .i64 ap, .int .i64 ae, .int .i64 as_, .int .i64 ak, .int .i64 at_, .slice aA al.length ac] 26)).block wr2.heap.size (by omega)).trans HD3.out)); have HB4 := Lib.hid (((HR3.out.alloc (by omega) (.cells #[.int .i64 a0, .int .i64 ap, .int .i64 ae, .int .i64 as_, .int .i64 ak, .int .i64 at_, .slice aA al.length ac] 26)).trans (hb4.mono (by simp; omega)))); clear hb4))
                      go_roundw
                      case rel => exact ⟨kk + 1, by omega, by go_num, by rw [HWZ.out], HB4.out⟩
                      case measure => simp [intOf]; omega
                · have e1 : (ap != bp) = true := by simp [hpe]
                  have HWZ : Hid (wantPE ((M.map TA.b).take (kk + 1)) bp be = wv) := by show _ = _; rw [HWN.out, if_neg (fun h => hpe h.1)]; omega
                  clear hpe
                  go_wp2_with fail
                  go_roundw
                  case rel => exact ⟨kk + 1, by omega, by go_num, by rw [HWZ.out], HB5.out⟩
                  case measure => simp [intOf]; omega
              · have hke : kk = i := by omega
                subst hke
                have hkc : decide (kk < kk) = false := by simp
                have hkd : decide ((kk : Int) < (kk : Int)) = false := by simp
                have HSQ := Lib.hid (HOK.out.seq)
                obtain ⟨wv, hwv⟩ : ∃ wv, wantPE ((M.map TA.b).take kk) bp be = wv := ⟨_, rfl⟩
                rw [hwv]
                simp only at HSQ
                rw [hwv] at HSQ
                clear hwv hlk
                generalize markB ⟨b0, bp, be, bs, bk, bt, bl⟩ = mb at *
                cases mb with
                | true =>
                  go_wp2_with (first | (go_at_call 33; (with_reducible refine (HMB.out _).mono ?_); rintro e w4 ⟨rfl, hb4⟩; have HB4 := Lib.hid (HB3.out.trans (hb4.mono HB3.out.size)); clear hb4))
                  go_roundw
                  case rel => exact ⟨kk + 1, by omega, by go_num, HB4.out⟩
                  case measure => simp [intOf]; omega
                | false =>
                  have hsw := HSQ.out rfl
                  have e4 : (bs != wv) = false := by simp [hsw]
                  clear hsw
                  go_wp2_with (first | (go_at_call 33; (with_reducible refine (HMB.out _).mono ?_); rintro e w4 ⟨rfl, hb4⟩; obtain ⟨⟨q0, q1, q2, q3, q4, q5, q6⟩, _⟩ := seven ((hb4.block wr2.heap.size (by omega)).trans HD3.out); have HB4 := Lib.hid (HB3.out.trans (hb4.mono HB3.out.size)); clear hb4))
                  go_roundw
                  case rel => exact ⟨kk + 1, by omega, by go_num, HB4.out⟩
                  case measure => simp [intOf]; omega
          · have hie : i = M.length := by omega
            have hkd : decide ((i : Int) < (M.length : Int)) = false := by simp; omega
            have hke : decide (i < M.length) = false := by simp; omega
            clear hlt hie
            go_wp2_with (go_at_call 30; (with_reducible refine (HAW.out _).mono ?_); rintro e w5 ⟨rfl, hb5⟩; have HB5 := Lib.hid (hb5); clear hb5)
            go_ret
            exact ⟨rfl, (HBW.out.trans (HR2.out.mono HBW.out.size)).trans (HB5.out.mono (by have := HBW.out.size; have := HR2.out.size; omega))⟩
      · obtain ⟨rfl, hy1, hy2⟩ := hno
        have hd1 : decide (j < n2) = true := by simpa using hy1
        have hd2 : decide ((j : Int) < (n2 : Int)) = true := by simpa using hy1
        have hd3 : decide ((j : Int) < 80) = true := by simp; omega
        generalize wr = wq at *
        go_wp2_with fail
        go_loopw [75] (fun i2 wr2 => ∃ i : Nat, i ≤ M.length ∧ i2 = .int .i64 i ∧ Hid (Below wq.heap.size wq wr2)) (fun i2 _ => M.length - (intOf i2).toNat)
        case atStart => exact ⟨0, by omega, rfl, Below.refl _ _⟩
        case round =>
          obtain ⟨i, hi, rfl, HR2⟩ := hrel
          generalize wr = wr2 at *
          by_cases hlt : i < M.length
          · have hz2 := HR2.out.size
            obtain ⟨p7, rfl, hp7, r0, r1, r2, r3, r4, r5, r6⟩ := t_row rfl (HL7.out.keep fun _ hp => HR2.out.cell hp) hlt
            have HOK := Lib.hid (HGD.out i (by rw [List.length_map]; exact hlt))
            rw [getT] at HOK
            have HTM := Lib.hid (fun k hk => mem_take_map M k i hk (Nat.le_of_lt hlt))
            have HWB := Lib.hid (fun k pid ep => want_bd ((M.map TA.b).take k) pid ep (len_take M k HLS.out))
            generalize M.getD i default = x at *
            obtain ⟨⟨b0, bp, be, bs, bk, bt, bl⟩, bA, bc⟩ := x
            simp only at r0 r1 r2 r3 r4 r5 r6
            have HD2 := Lib.hid (heap_alloc_new wr2 (.cells #[.int .i64 b0, .int .i64 bp, .int .i64 be, .int .i64 bs, .int .i64 bk, .int .i64 bt, .slice bA bl.length bc] 26))
            have HB2 := Lib.hid (HR2.out.alloc hz2 (.cells #[.int .i64 b0, .int .i64 bp, .int .i64 be, .int .i64 bs, .int .i64 bk, .int .i64 bt, .slice bA bl.length bc] 26))
            have HMB := Lib.hid (fun W => HMK.out W ⟨b0, bp, be, bs, bk, bt, bl⟩ bA bc)
            simp only [Bat.cells] at HMB
            go_wp2_with fail
            go_loopw [13, 14] (fun wt k2 wr3 => ∃ kk : Nat, kk ≤ i ∧ k2 = .int .i64 kk ∧ wt = .int .i64 (wantPE ((M.map TA.b).take kk) bp be) ∧ Hid (Below (wr2.heap.size + 1) (wr2.alloc (.cells #[.int .i64 b0, .int .i64 bp, .int .i64 be, .int .i64 bs, .int .i64 bk, .int .i64 bt, .slice bA bl.length bc] 26)) wr3)) (fun _ k2 _ => i - (intOf k2).toNat)
            case atStart => exact ⟨0, by omega, rfl, rfl, Below.refl _ _⟩
            case round =>
              obtain ⟨kk, hkk, rfl, rfl, HR3⟩ := hrel
              generalize wr = wr3 at *
              have hz3 := HR3.out.size
              simp only [World.size_alloc] at hz3
              have HD3 := Lib.hid ((HR3.out.block wr2.heap.size (by omega)).trans HD2.out)
              have HB3 : Hid (Below wq.heap.size wq wr3) := HB2.out.trans (HR3.out.mono (by omega))
              obtain ⟨⟨p0, p1, p2, p3, p4, p5, p6⟩, _⟩ := seven HD3.out
              by_cases hlk : kk < i
              · obtain ⟨p8, he8, hp8, s0, s1, s2, s3, s4, s5, s6⟩ := t_row rfl (HL7.out.keep fun _ hp => HB3.out.cell hp) (Nat.lt_trans hlk hlt)
                injection he8 with he8
                subst he8
                have HTK := Lib.hid (HTM.out kk hlk)
                have HWS := Lib.hid (take_map M kk (Nat.lt_trans hlk hlt))
                have HL8 : Hid ((M.getD kk default).b.L.length ≤ 8) := len_take M i HLS.out _ HTK.out
                have hwb := HWB.out kk bp be
                rw [List.length_take, List.length_map] at hwb
                obtain ⟨wv, hwv⟩ : ∃ wv, wantPE ((M.map TA.b).take kk) bp be = wv := ⟨_, rfl⟩
                have HWN : Hid (wantPE ((M.map TA.b).take (kk + 1)) bp be = wv + if (M.getD kk default).b.pid = bp ∧ (M.getD kk default).b.epoch = be then ((M.getD kk default).b.L.length : Int) else 0) := by show _ = _; rw [HWS.out, want_snoc, hwv]
                rw [hwv] at hwb
                rw [hwv]
                clear hwv HWS
                have HEP := Lib.hid (HOK.out.ep _ HTK.out)
                generalize M.getD kk default = y at *
                obtain ⟨⟨a0, ap, ae, as_, ak, at_, al⟩, aA, ac⟩ := y
                simp only at s0 s1 s2 s3 s4 s5 s6 HWN HEP HL8
                have hl8 : al.length ≤ 8 := HL8.out
                have HMA := Lib.hid (fun W => HMK.out W ⟨a0, ap, ae, as_, ak, at_, al⟩ aA ac)
                simp only [Bat.cells] at HMA
                have hkc : decide (kk < i) = true := by simpa using hlk
                have HB5 := Lib.hid (HR3.out.alloc (by omega) (.cells #[.int .i64 a0, .int .i64 ap, .int .i64 ae, .int .i64 as_, .int .i64 ak, .int .i64 at_, .slice aA al.length ac] 26))
                have hl2 : wr2.heap.size < wr3.heap.size := by omega
                by_cases hpe : ap = bp
                · have e1 : (ap != bp) = false := by simp [hpe]
                  obtain ⟨hn1, hn2⟩ := HEP.out hpe
                  have e2 : decide (be < ae) = false := by simpa using hn1
                  generalize markB ⟨a0, ap, ae, as_, ak, at_, al⟩ = ma at *
                  cases ma with
                  | true =>
                    have hne : ¬ ae = be := fun h => hn2 ⟨rfl, h⟩
                    have e3 : (ae == be) = false := by simp [hne]
                    have HWZ : Hid (wantPE ((M.map TA.b).take (kk + 1)) bp be = wv) := by show _ = _; rw [HWN.out, if_neg (fun h => hne h.2)]; omega
                    clear hn1 hn2 hne hpe
                    go_wp2_with (first | (go_at_call 33; (with_reducible refine (HMA.out _).mono ?_); rintro e w4 ⟨rfl, hb4⟩; obtain ⟨⟨q0, q1, q2, q3, q4, q5, q6⟩, _⟩ := seven ((hb4.block wr3.heap.size (by simp)).trans (heap_alloc_new wr3 (.cells #[.int .i64 a0, .int .i64 ap, .int .i64 ae, .int .i64 as_, .int .i64 ak, .int .i64 at_, .slice aA al.length ac] 26))); obtain ⟨⟨p0, p1, p2, p3, p4, p5, p6⟩, _⟩ := seven ((hb4.block wr2.heap.size (by simp; omega)).trans ((((Below.refl wr3.heap.size wr3).alloc (Nat.le_refl _) (.cells #[.int .i64 a0, .int .i64 ap, .int .i64 ae, .int .i64 as_, .int .i64 ak, .int .i64 at_, .slice aA al.length ac] 26)).block wr2.heap.size (by omega)).trans HD3.out)); have HB4 := Lib.hid (((HR3.out.alloc (by omega) (.cells #[.int .i64 a0, .int .i64 ap, .int .i64 ae, .int .i64 as_, .int .i64 ak, .int .i64 at_, .slice aA al.length ac] 26)).trans (hb4.mono (by simp; omega)))); clear hb4))
                    go_roundw
                    case rel => exact ⟨kk + 1, by omega, by go_num, by rw [HWZ.out], HB4.out⟩
                    case measure => simp [intOf]; omega
                  | false =>
                    by_cases hee : ae = be
                    · have e3 : (ae == be) = true := by simp [hee]
                      have HWZ : Hid (wantPE ((M.map TA.b).take (kk + 1)) bp be = wv + (al.length : Int)) := by show _ = _; rw [HWN.out, if_pos ⟨hpe, hee⟩]
                      clear hn1 hn2 hpe hee
                      go_wp2_with (first | (go_at_call 33; (with_reducible refine (HMA.out _).mono ?_); rintro e w4 ⟨rfl, hb4⟩; obtain ⟨⟨q0, q1, q2, q3, q4, q5, q6⟩, _⟩ := seven ((hb4.block wr3.heap.size (by simp)).trans (heap_alloc_new wr3 (.cells #[.int .i64 a0, .int .i64 ap, .int .i64 ae, .int .i64 as_, .int .i64 ak, .int .i64 at_, .slice aA al.length ac] 26))); obtain ⟨⟨p0, p1, p2, p3, p4, p5, p6⟩, _⟩ := seven ((hb4.block wr2.heap.size (by simp; omega)).trans ((((Below.refl wr3.heap.size wr3).alloc (Nat.le_refl _) (.cells #[.int .i64 a0, .int .i64 ap, .int .i64 ae, .int .i64 as_, .int .i64 ak, .int .i64 at_, .slice aA al.length ac] 26)).block wr2.heap.size (by omega)).trans HD3.out)); have HB4 := Lib.hid (((HR3.out.alloc (by omega) (.cells #[.int .i64 a0, .int .i64 ap, .int .i64 ae, .int .i64 as_, .int .i64 ak, .int .i64 at_, .slice aA al.length ac] 26)).trans (hb4.mono (by simp; omega)))); clear hb4))
                      go_roundw
                      case rel => exact ⟨kk + 1, by omega, by go_num, by rw [HWZ.out], HB4.out⟩
                      case measure => simp [intOf]; omega
                    · have e3 : (ae == be) = false := by simp [hee]
                      have HWZ : Hid (wantPE ((M.map TA.b).take (kk + 1)) bp be = wv) := by show _ = _; rw [HWN.out, if_neg (fun h => hee h.2)]; omega
                      clear hn1 hn2 hpe hee
                      go_wp2_with (first | (go_at_call 33; (with_reducible refine (HMA.out _).mono ?_); rintro e w4 ⟨rfl, hb4⟩; obtain ⟨⟨q0, q1, q2, q3, q4, q5, q6⟩, _⟩ := seven ((hb4.block wr3.heap.size (by simp)).trans (heap_alloc_new wr3 (.cells #[.int .i64 a0, .int .i64 ap, .int .i64 ae, .int .i64 as_, .int .i64 ak, .int .i64 at_, .slice aA al.length ac] 26))); obtain ⟨⟨p0, p1, p2, p3, p4, p5, p6⟩, _⟩ := seven ((hb4.block wr2.heap.size (by simp; omega)).trans ((((Below.refl wr3.heap.size wr3).alloc (Nat.le_refl _) (.cells #[.int .i64 a0, .int .i64 ap, .int .i64 ae, .int .i64 as_, .int .i64 ak, .int .i64 at_, .slice aA al.length ac] 26)).block wr2.heap.size (by omega)).trans HD3.out)); have HB4 := Lib.hid (((HR3.out.alloc (by omega) (.cells #[.int .i64 a0, .int .i64 ap, .int .i64 ae, .int .i64 as_, .int .i64 ak, .int .i64 at_, .slice aA al.length ac] 26)).trans (hb4.mono (by simp; omega)))); clear hb4))
                      go_roundw
                      case rel => exact ⟨kk + 1, by omega, by go_num, by rw [HWZ.out], HB4.out⟩
                      case measure => simp [intOf]; omega
                · have e1 : (ap != bp) = true := by simp [hpe]
                  have HWZ : Hid (wantPE ((M.map TA.b).take (kk + 1)) bp be = wv) := by show _ = _; rw [HWN.out, if_neg (fun h => hpe h.1)]; omega
                  clear hpe
                  go_wp2_with fail
                  go_roundw
                  case rel => exact ⟨kk + 1, by omega, by go_num, by rw [HWZ.out], HB5.out⟩
                  case measure => simp [intOf]; omega
              · have hke : kk = i := by omega
                subst hke
                have hkc : decide (kk < kk) = false := by simp
                have hkd : decide ((kk : Int) < (kk : Int)) = false := by simp
                have HSQ := Lib.hid (HOK.out.seq)
                obtain ⟨wv, hwv⟩ : ∃ wv, wantPE ((M.map TA.b).take kk) bp be = wv := ⟨_, rfl⟩
                rw [hwv]
                simp only at HSQ
                rw [hwv] at HSQ
                clear hwv hlk
                generalize markB ⟨b0, bp, be, bs, bk, bt, bl⟩ = mb at *
                cases mb with
                | true =>
                  go_wp2_with (first | (go_at_call 33; (with_reducible refine (HMB.out _).mono ?_); rintro e w4 ⟨rfl, hb4⟩; have HB4 := Lib.hid (HB3.out.trans (hb4.mono HB3.out.size)); clear hb4))
                  go_roundw
                  case rel => exact ⟨kk + 1, by omega, by go_num, HB4.out⟩
                  case measure => simp [intOf]; omega
                | false =>
                  have hsw := HSQ.out rfl
                  have e4 : (bs != wv) = false := by simp [hsw]
                  clear hsw
                  go_wp2_with (first | (go_at_call 33; (with_reducible refine (HMB.out _).mono ?_); rintro e w4 ⟨rfl, hb4⟩; obtain ⟨⟨q0, q1, q2, q3, q4, q5, q6⟩, _⟩ := seven ((hb4.block wr2.heap.size (by omega)).trans HD3.out); have HB4 := Lib.hid (HB3.out.trans (hb4.mono HB3.out.size)); clear hb4))
                  go_roundw
                  case rel => exact ⟨kk + 1, by omega, by go_num, HB4.out⟩
                  case measure => simp [intOf]; omega
          · have hie : i = M.length := by omega
            have hkd : decide ((i : Int) < (M.length : Int)) = false := by simp; omega
            have hke : decide (i < M.length) = false := by simp; omega
            clear hlt hie
            go_wp2_with (go_at_call 30; (with_reducible refine (HAW.out _).mono ?_); rintro e w5 ⟨rfl, hb5⟩; have HB5 := Lib.hid (hb5); clear hb5)
            go_ret
            exact ⟨rfl, (HBW.out.trans (HR2.out.mono HBW.out.size)).trans (HB5.out.mono (by have := HBW.out.size; have := HR2.out.size; omega))⟩
end Go.Proofs.Ytofakehnadpebaa
