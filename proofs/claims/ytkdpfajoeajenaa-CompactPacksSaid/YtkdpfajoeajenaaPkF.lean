/-
  What towpathref09.Pack does.
-/
import Derived.Test.YtkdpfajoeajenaaPkE
import Derived.Test.YtkdpfajoeajenaaRecV
import Derived.Deep.RegionLaw
import Derived.Deep.AppendLies
import Derived.Deep.CutBlock
namespace Go.Proofs.Ytkdpfajoeajenaa
open Go.RowKit Go.Lib Go.Sort
set_option linter.unusedVariables false
set_option linter.unusedSimpArgs false

structure Pr (w wx : World) (g : Nat) (xc : Value → Array Value) (v : Value) (M : List Rec) : Prop where
  x : wx.heap[g]? = some (.cells (xc v) 24 (0, 0))
  own : wx.ownsRow (g + 1) 38 4 v M.length (rcells M)
  lo : w.heap.size ≤ g
  below : Below w.heap.size w wx
section
variable {w wx wa w1 : World} {g : Nat} {xc : Value → Array Value} {v v' : Value} {n : Nat} {M : List Rec}
theorem Pr.below_ (h : Pr w wx g xc v M) (hb : Below wx.heap.size wx wa) : Pr w wa g xc v M := by
  have l3 := (Array.getElem?_eq_some_iff.1 h.x).1
  exact ⟨(hb.block _ l3).trans h.x, rowb5 h.own hb, h.lo, h.below.trans (hb.mono h.below.size)⟩
theorem Pr.heap (h : Pr w wx g xc v M) (W : World) (e : W.heap = wx.heap) (e1 : W.os = wx.os) (e2 : W.tape = wx.tape) (e3 : W.output = wx.output) : Pr w W g xc v M :=
  h.below_ ⟨e1, e2, e3, by rw [e]; exact Nat.le_refl _, fun i _ => by rw [e]⟩
/-- behind the append of a record -/
theorem Pr.step {r : Rec} (h : Pr w wa g xc v M) (hx : ∀ a u, (xc a).setIfInBounds 6 u = xc u) (ho : w1.ownsRow (g + 1) 38 4 v' (M.length + 1) (rcells M ++ r.cells)) (hg : wa.grownBy w1 v.ownBlock) (hat : v'.ownBlock = v.ownBlock ∨ v'.ownBlock = some wa.heap.size) :
    Pr w (w1.setCell ⟨g, 6, none⟩ v') g xc v' (M ++ [r]) := by
  have l3 := (Array.getElem?_eq_some_iff.1 h.x).1
  have hv := World.ownsRow.lt h.own
  have hlo := h.lo
  have nb : ∀ k, k ≤ g → some k ≠ v.ownBlock := fun k hk e => by have := (hv k e.symm).1; omega
  have s3 := hg.block _ l3 (nb _ (by omega))
  have hn : v'.ownBlock ≠ some g := by
    rcases hat with e | e
    · rw [e]; exact fun e2 => nb _ (Nat.le_refl _) e2.symm
    · rw [e]; intro e2; injection e2 with e2; omega
  refine ⟨?_, ?_, hlo, ?_⟩
  · rw [heap_setCell_same w1 _ 6 _ _ v' (s3.trans h.x), hx]
  · refine row_set5 ?_ hn
    rw [rcells_append, List.length_append]
    simpa [rcells] using ho
  · refine ((h.below.trans ⟨hg.os, hg.tape, hg.output, hg.size, fun i hi => hg.block i (by have := h.below.size; omega) (fun e => by have := (hv i e.symm).1; omega)⟩)).setCell (by show w.heap.size ≤ g; omega) v'
end
set_option maxRecDepth 100000 in
set_option maxHeartbeats 8000000 in
theorem rpack_any (A : Option Addr) (n c : Nat) (L : List AtC) (w : World) (h : Acs w w.heap.size A n L) (hn : n ≤ 150) (hc : n ≤ c) (hcm : c ≤ maxLen) :
    Calls Try.prog 18 #[.slice A n c] w fun e w' => PackP L w e w' := by
  obtain ⟨j0, qj0, qy0, qy1, qy2⟩ := info_parts zero_batP
  obtain ⟨k0, qk0, qz0, qz1, qz2⟩ := info_parts zero_rec
  have hlen := h.len
  have HIN : Hid (∀ W, Below w.heap.size w W → Calls Try.prog 47 #[.slice A n c] W fun e w' => e = .returned (.bool (incB L)) ∧ Below W.heap.size W w') := fun W hW => rise_any A n c L W ((h.below hW).wider hW.size) (by omega)
  have HPE : Hid (packE L = if incB L = true then badE (packs n L) else 8) := by show _ = _; unfold packE; rw [hlen]
  have HPM : Hid (packE L = 0 → packM L = packs n L) := fun e => by unfold packM; rw [if_pos e, hlen]
  have HPN : Hid (packE L ≠ 0 → packM L = []) := fun e => by unfold packM; rw [if_neg e]
  have HOK := Lib.hid h.fit
  have HL := Lib.hid h
  unfold PackP
  generalize packE L = PE at *
  generalize packM L = PM at *
  generalize incB L = IB at *
  obtain ⟨PK, hPK⟩ : ∃ PK, packs n L = PK := ⟨_, rfl⟩
  have HPK := Lib.hid hPK
  rw [hPK] at HPE HPM
  have HLEN := Lib.hid hlen
  clear hPK h hlen
  unfold maxLen at hcm
  go_enter Try.func18, Try.ntmps18
  go_wp2_with fail
  refine (HIN.out _ (Below.refl _ _)).mono ?_
  rintro e w1 ⟨rfl, hb1⟩
  have HB1 := Lib.hid hb1
  clear hb1
  cases IB with
  | false =>
    have HE : Hid (PE = 8) := by show _ = _; rw [HPE.out]; rfl
    have HM : Hid (PM = []) := HPN.out (by rw [HE.out]; decide)
    go_wp2_with fail
    go_ret2
    exact ⟨_, [], by rw [HE.out]; rfl, by rw [HM.out]; rfl, Ml.nil_at HB1.out⟩
  | true =>
    have HE : Hid (PE = badE PK) := by show _ = _; rw [HPE.out]; rfl
    go_wp2_with fail
    go_loopw [4, 5] (fun v iv wr => ∃ (i f : Nat) (M : List BA), iv = .int .i64 i ∧ i ≤ n ∧ n - i ≤ f ∧ M.length ≤ i ∧ Hid (M.map BA.b ++ packs f (L.drop i) = PK) ∧ Hid (∀ x ∈ M.map BA.b, validE x = 0) ∧ Hid (Ml w wr v M)) (fun _ iv _ => n - (RowKit.intOf iv).toNat)
    case atStart => exact ⟨0, n, [], rfl, by omega, by omega, by simp, HPK.out, (fun x h => by cases h), Ml.nil_at HB1.out⟩
    case round =>
      obtain ⟨i, f, M, rfl, hin, hif, hMi, HPC, HVD, HML⟩ := hrel
      by_cases hlt : i < n
      · obtain ⟨p, rfl, hp, r0, r1, r2, r3, r4⟩ := (HL.out.below HML.out.bel).row hlt
        obtain ⟨f', rfl, hpk, hdl⟩ := packs_cons f (L.drop i) (by rw [List.length_drop, HLEN.out]; omega) (by rw [List.length_drop, HLEN.out]; omega)
        have hrp := runN_pos (L.drop i)
        have hrl := runN_le (L.drop i) (by rw [List.length_drop, HLEN.out]; omega)
        rw [List.length_drop, HLEN.out] at hrl
        rw [List.length_drop, List.length_drop, HLEN.out] at hdl
        have HPK2 : Hid (M.map BA.b ++ batchOf ((L.drop i).take (runN (L.drop i))) :: packs f' (L.drop (i + runN (L.drop i))) = PK) := by show _ = _; rw [← List.drop_drop, ← hpk]; exact HPC.out
        have HST : Hid (∀ k, i ≤ k → k + 1 - i ≤ 64 → runF (L.drop i) (65 - (k - i + 1)) (k - i + 1) = if k + 1 < n ∧ k + 1 - i < 64 ∧ adjB (L.getD k default) (L.getD (k + 1) default) = true then runF (L.drop i) (65 - (k + 1 - i + 1)) (k + 1 - i + 1) else k + 1 - i) := fun k h1 h2 => by
          have e := run_step (L.drop i) (k - i + 1) (by omega)
          rw [List.length_drop, HLEN.out, Nat.add_sub_cancel, getD_drop, getD_drop, show i + (k - i) = k by omega, show i + (k - i + 1) = k + 1 by omega] at e
          rw [e, show k + 1 - i = k - i + 1 by omega]
          by_cases h3 : k + 1 < n ∧ k - i + 1 < 64 ∧ adjB (L.getD k default) (L.getD (k + 1) default) = true
          · rw [if_pos h3, if_pos ⟨by omega, h3.2⟩]
          · rw [if_neg h3, if_neg (fun h => h3 ⟨by omega, h.2⟩)]
        have H0 : Hid (runF (L.drop i) (65 - (i - i + 1)) (i - i + 1) = runN (L.drop i)) := by show _ = _; rw [Nat.sub_self]; rfl
        have HBO : Hid (∀ q, q = runN (L.drop i) → batchOf ((L.drop i).take (runN (L.drop i))) = ⟨(L.getD i default).off, 0, 0, 0, 0, (L.getD i default).time, ((L.drop i).take q).map AtC.r⟩) := fun q hq => by
          subst hq
          unfold batchOf
          rw [getD_take _ _ _ (by omega), getD_drop, Nat.add_zero]
        generalize runN (L.drop i) = R at *
        have HCR : Hid (∃ D : Nat → Nat, ∀ k, D k = runF (L.drop i) (65 - (k - i + 1)) (k - i + 1)) := ⟨_, fun _ => rfl⟩
        obtain ⟨D, hD⟩ := HCR.out
        have HST2 : Hid (∀ k, i ≤ k → k + 1 - i ≤ 64 → D k = if k + 1 < n ∧ k + 1 - i < 64 ∧ adjB (L.getD k default) (L.getD (k + 1) default) = true then D (k + 1) else k + 1 - i) := fun k h1 h2 => by
          show _ = _; rw [hD, hD]; exact HST.out k h1 h2
        have H00 : Hid (D i = R) := by show _ = _; rw [hD]; exact H0.out
        clear HCR hD HST H0 HPC hpk
        generalize hre : L.getD i default = re at *
        obtain ⟨o0, key, value, gone, t0⟩ := re
        simp only at r0 r1 r2 r3 r4 HBO
        clear hre
        have hkz : (i : Int) < (n : Int) := by omega
        have hdm : decide ((i : Int) < (n : Int)) = true := by rw [decide_eq_true_iff]; exact hkz
        have hpz : p.block < wr.heap.size := Nat.lt_of_lt_of_le hp HML.out.bel.size
        have hpa : (p.add (i * 5)).block < wr.heap.size := by rw [add_block]; exact hpz
        have r4' : wr.cell? ⟨(p.add (i * 5)).block, (p.add (i * 5)).off + 1 + 3, none⟩ = some (.int .i64 t0) := r4
        have q0 : ∀ o, (wr.alloc o).cell? (p.add (i * 5)) = some (.int .i64 o0) := fun o => (World.cell?_alloc_lt _ _ _ hpa).trans r0
        have q4 : ∀ o, (wr.alloc o).cell? ⟨(p.add (i * 5)).block, (p.add (i * 5)).off + 1 + 3, none⟩ = some (.int .i64 t0) := fun o => (World.cell?_alloc_lt _ _ ⟨(p.add (i * 5)).block, (p.add (i * 5)).off + 1 + 3, none⟩ hpa).trans r4
        clear r1 r2 r3 r4
        go_upto_region 6 with fail
        go_region
        clear r0 r4' q0 q4 hpa
        have HP0 : Hid (Pr wr (wr.alloc (.cells #[.int .i64 o0, .int .i64 0, .int .i64 0, .int .i64 0, .int .i64 0, .int .i64 t0, .slice none 0 0] 24)).drew wr.heap.size (fun u => #[.int .i64 o0, .int .i64 0, .int .i64 0, .int .i64 0, .int .i64 0, .int .i64 t0, u]) (.slice none 0 0) []) := by
          have hal := ((Below.refl wr.heap.size wr).alloc (Nat.le_refl _) (.cells #[.int .i64 o0, .int .i64 0, .int .i64 0, .int .i64 0, .int .i64 0, .int .i64 t0, .slice none 0 0] 24)).drew
          exact ⟨heap_alloc_new wr _, World.ownsRow_nil _ _ _ _, by omega, hal⟩
        generalize (wr.alloc (.cells #[.int .i64 o0, .int .i64 0, .int .i64 0, .int .i64 0, .int .i64 0, .int .i64 t0, .slice none 0 0] 24)).drew = W1 at *
        generalize hge : wr.heap.size = g at *
        have HGE := Lib.hid hge
        clear hge hpz
        generalize wr = wq at *
        go_wp2_with fail
        go_loopw [7] (fun kv wx => ∃ k : Nat, i ≤ k ∧ k ≤ n ∧ k - i ≤ 64 ∧ kv = .int .i64 k ∧ Hid (D (k - 1) = R ∨ k = i) ∧ ∃ v, Hid (Pr wq wx g (fun u => #[.int .i64 o0, .int .i64 0, .int .i64 0, .int .i64 0, .int .i64 0, .int .i64 t0, u]) v (((L.drop i).take (k - i)).map AtC.r))) (fun kv _ => n - (RowKit.intOf kv).toNat)
        case atStart => exact ⟨i, by omega, by omega, by omega, rfl, .inr rfl, .slice none 0 0, by rw [Nat.sub_self, List.take_zero]; exact HP0.out⟩
        case round =>
          obtain ⟨k, hik, hkn, hk64, rfl, HD, v, HP⟩ := hrel
          have HML' : Hid (((L.drop i).take (k - i)).length = k - i) := by show _ = _; rw [List.length_take, List.length_drop, HLEN.out]; omega
          have HTS : Hid (k < n → ((L.drop i).take (k + 1 - i)).map AtC.r = ((L.drop i).take (k - i)).map AtC.r ++ [(L.getD k default).r]) := fun h => by
            show _ = _
            rw [show k + 1 - i = k - i + 1 by omega, map_take_r _ _ (by rw [List.length_drop, HLEN.out]; omega), getD_drop, show i + (k - i) = k by omega]
          go_upto_region 8 with fail
          go_cut [58] (fun s58 wx => ∃ b : Bool, s58 = .bool b ∧ Hid (b = true → k < n ∧ D k = R ∧ k + 1 - i ≤ 64) ∧ Hid (b = false → i < k ∧ R = k - i) ∧ Hid (Pr wq wx g (fun u => #[.int .i64 o0, .int .i64 0, .int .i64 0, .int .i64 0, .int .i64 0, .int .i64 t0, u]) v (((L.drop i).take (k - i)).map AtC.r)))
          case first =>
            generalize ((L.drop i).take (k - i)).map AtC.r = RM at *
            rcases Nat.lt_or_ge i k with hlt2 | hge2
            · obtain ⟨k, rfl⟩ : ∃ k', k = k' + 1 := ⟨k - 1, by omega⟩
              rw [show (((k + 1 : Nat) : Int)) = (k : Int) + 1 from by omega] at *
              have HDD : Hid (D k = R) := by
                rcases HD.out with e | e
                · rw [Nat.add_sub_cancel] at e; exact e
                · omega
              have HS := Lib.hid (HST2.out k (by omega) (by omega))
              have e3 : ((k : Int) + 1 == (i : Int)) = false := by rw [beq_eq_false_iff_ne]; omega
              by_cases hc1 : k + 1 < n
              · have e1 : decide ((k : Int) + 1 < (n : Int)) = true := by rw [decide_eq_true_iff]; omega
                by_cases hc2 : k + 1 - i < 64
                · have e2 : decide ((k : Int) + 1 - (i : Int) < 64) = true := by rw [decide_eq_true_iff]; omega
                  have hbz := HML.out.bel.trans (HP.out.below.mono HML.out.bel.size)
                  obtain ⟨p1, hp1, _, r0, _⟩ := (HL.out.below hbz).row (show k < n by omega)
                  obtain ⟨p2, hp2, _, r1, _⟩ := (HL.out.below hbz).row hc1
                  injection hp1 with hp1
                  subst hp1
                  injection hp2 with hp2
                  subst hp2
                  have HAD : Hid (adjB (L.getD k default) (L.getD (k + 1) default) = ((L.getD (k + 1) default).off == wrap64 ((L.getD k default).off + 1))) := rfl
                  generalize adjB (L.getD k default) (L.getD (k + 1) default) = AD at *
                  generalize (L.getD k default).off = oa at *
                  generalize (L.getD (k + 1) default).off = ob at *
                  have g0 := cell_regrown r0
                  have g1 := cell_regrown r1
                  have hkz1 : (k : Int) + 1 < (n : Int) := by omega
                  have hkz0 : (k : Int) < (n : Int) := by omega
                  have hk1 : ((k : Int) + 1).toNat = k + 1 := by omega
                  have hk0 : (0 : Int) ≤ (k : Int) + 1 := by omega
                  have hkn' : k < n := by omega
                  clear r0 r1 hbz
                  cases hAD : (ob == wrap64 (oa + 1)) with
                  | true =>
                    have HX : Hid (D (k + 1) = R) := by have e := HS.out; rw [HDD.out, HAD.out, hAD, if_pos ⟨hc1, hc2, rfl⟩] at e; exact e.symm
                    go_wp2_with fail
                    refine wp_region_quiet_below (by kernel_rfl) (by kernel_rfl) ?_
                    repeat (go_big_quiet_step (fail))
                    refine wpQuiet_nil ?_
                    intro _ hw'
                    obtain ⟨⟨dq, osq⟩, hw''⟩ := hw'
                    subst hw''
                    go_wp2_with fail
                    go_meet
                    exact ⟨true, rfl, (fun _ => ⟨hc1, HX.out, by omega⟩), (fun h => by cases h), HP.out.below_ (below_regrown wr dq osq)⟩
                  | false =>
                    have HX : Hid (R = k + 1 - i) := by have e := HS.out; rw [HDD.out, HAD.out, hAD, if_neg (by simp)] at e; exact e
                    go_wp2_with fail
                    refine wp_region_quiet_below (by kernel_rfl) (by kernel_rfl) ?_
                    repeat (go_big_quiet_step (fail))
                    refine wpQuiet_nil ?_
                    intro _ hw'
                    obtain ⟨⟨dq, osq⟩, hw''⟩ := hw'
                    subst hw''
                    go_wp2_with fail
                    go_meet
                    exact ⟨false, rfl, (fun h => by cases h), (fun _ => ⟨hlt2, HX.out⟩), HP.out.below_ (below_regrown wr dq osq)⟩
                · have e2 : decide ((k : Int) + 1 - (i : Int) < 64) = false := by rw [decide_eq_false_iff_not]; omega
                  have HX : Hid (R = k + 1 - i) := by have e := HS.out; rw [HDD.out, if_neg (fun h => hc2 h.2.1)] at e; exact e
                  go_wp2_with fail
                  refine wp_region_quiet_below (by kernel_rfl) (by kernel_rfl) ?_
                  repeat (go_big_quiet_step (fail))
                  refine wpQuiet_nil ?_
                  intro _ hw'
                  obtain ⟨⟨dq, osq⟩, hw''⟩ := hw'
                  subst hw''
                  go_wp2_with fail
                  go_meet
                  exact ⟨false, rfl, (fun h => by cases h), (fun _ => ⟨hlt2, HX.out⟩), HP.out.below_ (below_regrown wr dq osq)⟩
              · have e1 : decide ((k : Int) + 1 < (n : Int)) = false := by rw [decide_eq_false_iff_not]; omega
                have HX : Hid (R = k + 1 - i) := by have e := HS.out; rw [HDD.out, if_neg (fun h => hc1 h.1)] at e; exact e
                go_wp2_with fail
                refine wp_region_quiet_below (by kernel_rfl) (by kernel_rfl) ?_
                repeat (go_big_quiet_step (fail))
                refine wpQuiet_nil ?_
                intro _ hw'
                obtain ⟨⟨dq, osq⟩, hw''⟩ := hw'
                subst hw''
                go_wp2_with fail
                go_meet
                exact ⟨false, rfl, (fun h => by cases h), (fun _ => ⟨hlt2, HX.out⟩), HP.out.below_ (below_regrown wr dq osq)⟩
            · obtain rfl : k = i := by omega
              go_wp2_with fail
              refine wp_region_quiet_below (by kernel_rfl) (by kernel_rfl) ?_
              repeat (go_big_quiet_step (fail))
              refine wpQuiet_nil ?_
              intro _ hw'
              obtain ⟨⟨dq, osq⟩, hw''⟩ := hw'
              subst hw''
              go_wp2_with fail
              go_meet
              exact ⟨true, rfl, (fun _ => ⟨hlt, H00.out, by omega⟩), (fun h => by cases h), HP.out.below_ (below_regrown wr dq osq)⟩
          case rest =>
            obtain ⟨b, rfl, HBT, HBF, HPB⟩ := hcut
            have hzw : w.heap.size ≤ wc.heap.size := Nat.le_trans HML.out.bel.size HPB.out.below.size
            clear HP HD
            cases b with
            | true =>
              obtain ⟨hkn2, hDk, hk64'⟩ := HBT.out rfl
              obtain ⟨p', hpA, hpb, r0, r1, r2, r3, r4⟩ := (HL.out.below (HML.out.bel.trans (HPB.out.below.mono HML.out.bel.size))).row hkn2
              injection hpA with hpA
              subst hpA
              have HTS2 := Lib.hid (HTS.out hkn2)
              have HDK := Lib.hid hDk
              have hml := HML'.out
              clear HTS HML' HBT HBF hDk
              generalize hM0 : ((L.drop i).take (k - i)).map AtC.r = RM at *
              have hRM : RM.length ≤ 64 := by rw [← hM0, List.length_map, hml]; omega
              generalize L.getD k default = re at *
              obtain ⟨off, key, value, gone, rt⟩ := re
              simp only at r0 r1 r2 r3 r4
              clear hM0 r0 hml
              have hkz1 : (k : Int) < (n : Int) := by omega
              have s2 : wc.cell? ⟨(p.add (k * 5)).block, (p.add (k * 5)).off + 1 + 1, none⟩ = some (.string value) := r2
              have s3 : wc.cell? ⟨(p.add (k * 5)).block, (p.add (k * 5)).off + 1 + 2, none⟩ = some (.bool gone) := r3
              have s4 : wc.cell? ⟨(p.add (k * 5)).block, (p.add (k * 5)).off + 1 + 3, none⟩ = some (.int .i64 rt) := r4
              have x6 := cell_of_row _ _ 6 _ _ _ HPB.out.x
              have fx6 := frozen_of_row _ _ 6 _ _ HPB.out.x
              have hzr : g < wc.heap.size := (Array.getElem?_eq_some_iff.1 HPB.out.x).1
              have HPA : Hid (∀ W : World, W.heap = (wc.alloc (.cells #[.string key, .string value, .bool gone, .int .i64 rt] 38)).heap → W.os = wc.os → W.tape = wc.tape → W.output = wc.output → Pr wq W g (fun u => #[.int .i64 o0, .int .i64 0, .int .i64 0, .int .i64 0, .int .i64 0, .int .i64 t0, u]) v RM) := fun W e e1 e2 e3 => (HPB.out.below_ ((Below.refl _ _).alloc (Nat.le_refl _) (.cells #[.string key, .string value, .bool gone, .int .i64 rt] 38))).heap W e e1 e2 e3
              have ng1 : ∀ q cs, ((wc.drewN q).alloc (.cells cs 38)).cell? ⟨g, 6, none⟩ = some v := fun q cs => (World.cell?_alloc_lt _ _ _ (by exact hzr)).trans x6
              have hvn : some g ≠ v.ownBlock := fun e => by have := (World.ownsRow.lt HPB.out.own _ e.symm).1; omega
              have HVN := Lib.hid hvn
              have HGZ := Lib.hid hzr
              clear hvn r2 r3 r4
              go_wp2_with fail
              go_region_law (refine step_append_lies _ (by rfl) (.tmp 60) (.tmp 66) 22 (by rfl) (g + 1) 38 k0 _ 4 48 Try.underlying22 qk0 qz0 qz1 qz2 (by rfl) (by decide) v RM.length (rcells RM) (by rfl) (HPA.out _ (by rfl) (by rfl) (by rfl) (by rfl)).own ⟨wc.heap.size, 0, none⟩ 1 1 [.string key, .string value, .bool gone, .int .i64 rt] (by rfl) (by rfl) (new_cells5 _ [.string key, .string value, .bool gone, .int .i64 rt] _) (by simp [Value.oneCell']) (by omega) (by unfold maxLen; omega) (by omega) (by simp; omega) (wc.heap.size + 1) (by simp) ?_; intro gg cap w1 hown1 hgrow hat hlt'; have y6' := (hgrow.cell_far ⟨g, 6, none⟩ (by show _ < _; simp; omega) HVN.out).trans (cell_of_row _ _ 6 _ _ _ (HPA.out _ (by rfl) (by rfl) (by rfl) (by rfl)).x); have f6' := (hgrow.frozen_far ⟨g, 6, none⟩ (by show _ < _; simp; omega) HVN.out).trans (frozen_of_row _ _ 6 _ _ (HPA.out _ (by rfl) (by rfl) (by rfl) (by rfl)).x); have HS1 := Lib.hid ((HPA.out _ (by rfl) (by rfl) (by rfl) (by rfl)).step (r := ⟨key, value, gone, rt⟩) (v' := .slice (some ⟨gg, 0, none⟩) (RM.length + 1) cap) (fun _ _ => rfl) hown1 hgrow (by simpa [Value.ownBlock, eq_comm] using hat)); clear hgrow hown1)
              all_goals (go_wp2_with fail; go_roundw)
              all_goals first | exact ⟨k + 1, by omega, by omega, by omega, by go_num, .inl (by rw [Nat.add_sub_cancel]; exact HDK.out), _, by rw [HTS2.out]; exact HS1.out⟩ | (simp [RowKit.intOf]; omega)
            | false =>
              obtain ⟨hik2, hRk⟩ := HBF.out rfl
              have HBO2 := Lib.hid (HBO.out (k - i) hRk.symm)
              have HLD := Lib.hid hdl
              rw [hRk] at HPK2 HBO2
              rw [HBO2.out, show i + (k - i) = k by omega] at HPK2
              have hl1 := HML'.out
              have hro : ∀ r ∈ (L.drop i).take (k - i), r.ok := fun r hr => HOK.out r (List.mem_of_mem_drop (List.mem_of_mem_take hr))
              have HRL : Hid ((((L.drop i).take (k - i)).map AtC.r).length = k - i) := by show _ = _; rw [List.length_map]; exact hl1
              obtain ⟨A', c', rfl, hc1, hc2⟩ := row_any HPB.out.own
              have hown1 := HPB.out.own
              rw [HRL.out] at hown1
              obtain ⟨hr1, hr2, hr3⟩ := batch_rcs hown1 hl1 hro
              have hlt2 := World.ownsRow.lt HPB.out.own
              have HFA : Hid (((L.drop i).take (k - i)).map AtC.r ≠ [] → ∀ p, A' = some p → u4.ownBlock ≠ some p.block) := fun _ p hp e => by
                have h1 := (hlt2 p.block (by rw [hp]; rfl)).1
                have h2 := (World.ownsRow.lt HML.out.own _ e).2
                have := HGE.out
                omega
              have HM1 := Lib.hid (HML.out.below HPB.out.below)
              have hX := HPB.out.x
              clear hlt2 hown1 hro HTS HML' HBT HBF HBO HBO2 HST2 H00 HPB HML
              generalize hRL : ((L.drop i).take (k - i)).map AtC.r = RL at *
              obtain ⟨m, hm⟩ : ∃ m, k - i = m := ⟨_, rfl⟩
              have hlm : RL.length = k - i := HRL.out
              rw [← hlm] at hr1 hr2
              have hRL64 : RL.length ≤ 64 := by omega
              have HR1 := Lib.hid hr1
              clear hRL hm hr1 hl1 hRk hlm
              have x0 := cell_of_row _ _ 0 _ _ _ hX
              have x1 := cell_of_row _ _ 1 _ _ _ hX
              have x2 := cell_of_row _ _ 2 _ _ _ hX
              have x3 := cell_of_row _ _ 3 _ _ _ hX
              have x4 := cell_of_row _ _ 4 _ _ _ hX
              have x5 := cell_of_row _ _ 5 _ _ _ hX
              have x6 := cell_of_row _ _ 6 _ _ _ hX
              have hzg : g < wc.heap.size := (Array.getElem?_eq_some_iff.1 hX).1
              have HX := Lib.hid hX
              have HVA : Hid (Calls Try.prog 31 #[.agg #[.int .i64 o0, .int .i64 0, .int .i64 0, .int .i64 0, .int .i64 0, .int .i64 t0, .slice A' RL.length c']] wc fun e w' => e = .returned (.int .i64 (validE ⟨o0, 0, 0, 0, 0, t0, RL⟩)) ∧ Below wc.heap.size wc w') := rvalid_any ⟨o0, 0, 0, 0, 0, t0, RL⟩ A' c' wc.heap.size wc HR1.out (Nat.le_refl _) (by unfold maxLen; show RL.length ≤ _; omega)
              obtain ⟨V, hV⟩ : ∃ V, validE ⟨o0, 0, 0, 0, 0, t0, RL⟩ = V := ⟨_, rfl⟩
              have HV := Lib.hid hV
              rw [hV] at HVA
              clear hV hX
              go_upto_region 12 with (go_at_call 31; (with_reducible refine HVA.out.mono ?_); rintro e w5 ⟨rfl, hb5⟩)
              have HM5 := Lib.hid (HM1.out.below hb5)
              have HR5 := Lib.hid ((HR1.out.below hb5).wider hb5.size)
              have hN5 := (hb5.block g hzg).trans HX.out
              clear hb5 HM1 HR1 HVA x0 x1 x2 x3 x4 x5 x6 HX
              by_cases hv0 : V = 0
              · have hvd : (V != 0) = false := by rw [hv0]; rfl
                have HV0 : Hid (validE ⟨o0, 0, 0, 0, 0, t0, RL⟩ = 0) := by show _ = _; rw [HV.out, hv0]
                have x0 := cell_of_row _ _ 0 _ _ _ hN5
                have x1 := cell_of_row _ _ 1 _ _ _ hN5
                have x2 := cell_of_row _ _ 2 _ _ _ hN5
                have x3 := cell_of_row _ _ 3 _ _ _ hN5
                have x4 := cell_of_row _ _ 4 _ _ _ hN5
                have x5 := cell_of_row _ _ 5 _ _ _ hN5
                have x6 := cell_of_row _ _ 6 _ _ _ hN5
                have hzw : w.heap.size ≤ w5.heap.size := HM5.out.bel.size
                have hown8 := HM5.out.own.alloc (.cells #[.int .i64 o0, .int .i64 0, .int .i64 0, .int .i64 0, .int .i64 0, .int .i64 t0, .slice A' RL.length c'] 24)
                have hM150 : M.length ≤ 150 := by omega
                clear hN5 HV hv0
                go_wp2_with (at_builtin; go_loud (refine wpList_append_own_at _ rfl (.tmp 76) (.tmp 78) 26 rfl w.heap.size 24 j0 _ 7 72 Try.underlying26 qj0 qy0 qy1 qy2 rfl (by decide) _ M.length (bcells M) rfl hown8 ⟨w5.heap.size, 0, none⟩ 1 1 [.int .i64 o0, .int .i64 0, .int .i64 0, .int .i64 0, .int .i64 0, .int .i64 t0, .slice A' RL.length c'] rfl rfl (new_cells5 w5 [.int .i64 o0, .int .i64 0, .int .i64 0, .int .i64 0, .int .i64 0, .int .i64 t0, .slice A' RL.length c'] _) ?g1 ?g2 ?g3 ?g4 ?_))
                case g1 => first | exact ⟨rfl, rfl, rfl, rfl, rfl, rfl, rfl⟩ | (intro u hu; simp at hu; rcases hu with rfl | rfl | rfl | rfl | rfl | rfl | rfl <;> rfl)
                case g2 => unfold maxLen; omega
                case g3 => omega
                case g4 => first | omega | (simp; omega)
                intro va w7 hown7 hg7 _ hat7
                have hala := (Below.refl w5.heap.size w5).alloc (Nat.le_refl _) (.cells #[.int .i64 o0, .int .i64 0, .int .i64 0, .int .i64 0, .int .i64 0, .int .i64 t0, .slice A' RL.length c'] 24)
                have HPU := Lib.hid ((HM5.out.below hala).push (x := ⟨⟨o0, 0, 0, 0, 0, t0, RL⟩, A', c'⟩) ⟨(HR5.out.below hala).wider hala.size, by show RL.length ≤ 80; omega, hr2, hr3⟩ HFA.out hown7 hg7 (by simpa using hat7))
                clear hown7 hg7 hat7 hown8 hala x0 x1 x2 x3 x4 x5 x6
                go_wp2_with fail
                go_roundw
                case rel => exact ⟨k, f', M ++ [⟨⟨o0, 0, 0, 0, 0, t0, RL⟩, A', c'⟩], rfl, by omega, by have := HLD.out; omega, by simp; omega, by show _ = _; rw [List.map_append, List.append_assoc]; exact HPK2.out, (fun x hx => by rw [List.map_append] at hx; rcases List.mem_append.1 hx with hx | hx; exact HVD.out x hx; (simp at hx; subst hx; exact HV0.out)), HPU⟩
                case measure => simp [RowKit.intOf]; omega
              · have hvd : (V != 0) = true := by simpa using hv0
                have HBE : Hid (PE = V) := by
                  show _ = _
                  rw [HE.out, ← HPK2.out, bad_app _ _ _ HVD.out (by rw [HV.out]; exact hv0), HV.out]
                have HM : Hid (PM = []) := HPN.out (by rw [HBE.out]; exact hv0)
                clear hN5 HV
                go_wp2_with fail
                go_ret2
                exact ⟨_, [], by rw [HBE.out]; rfl, by rw [HM.out]; rfl, Ml.nil_at HM5.out.bel⟩
      · obtain rfl : i = n := by omega
        have d8 : decide ((i : Int) < (i : Int)) = false := by simp
        have HPC2 : Hid (M.map BA.b = PK) := by have e := HPC.out; rw [List.drop_eq_nil_of_le (by rw [HLEN.out]; exact Nat.le_refl _), packs_nil, List.append_nil] at e; exact e
        have HE0 : Hid (PE = 0) := by show _ = _; rw [HE.out, ← HPC2.out]; exact bad_none _ HVD.out
        go_wp2_with fail
        go_ret2
        exact ⟨_, M, by rw [HE0.out]; rfl, by rw [HPM.out HE0.out]; exact HPC2.out, HML.out⟩
end Go.Proofs.Ytkdpfajoeajenaa
