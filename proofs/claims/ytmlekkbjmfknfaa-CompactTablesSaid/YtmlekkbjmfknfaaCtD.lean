/-
  What the document's table's Range does.
-/
import Derived.Test.YtmlekkbjmfknfaaCtC
namespace Go.Proofs.Ytmlekkbjmfknfaa
open Go.RowKit Go.Lib Go.Sort
set_option linter.unusedVariables false
set_option linter.unusedSimpArgs false

def lenS : Value → Nat
  | .slice _ n _ => n
  | _ => 0
def bestI : Option Nat → Int
  | none => -1
  | some b => b
theorem least_step (f t : ByteArray) (F R : List AtC) (j n : Nat) : leastP f t F R j (n + 1) = if elig f t F j (R.getD n default) = true then
      (match leastP f t F R j n with
      | none => some n
      | some b => if lessB (R.getD n default).key (R.getD b default).key = true then some n else some b)
    else leastP f t F R j n := rfl
theorem least_lt {f t : ByteArray} {F R : List AtC} {j n b : Nat} (h : leastP f t F R j n = some b) : b < n := (least_some n b h).1
def aheadK (F : List AtC) (j : Nat) : ByteArray := if j = 0 then ⟨#[]⟩ else (F.getD (j - 1) default).key
theorem leq_not (a b : ByteArray) : (Op.bytesLess a.toList b.toList || a.toList == b.toList) = !(Op.bytesLess b.toList a.toList) := by
  cases h1 : Op.bytesLess a.toList b.toList with
  | true =>
    cases h2 : Op.bytesLess b.toList a.toList with
    | true => have := lessB_trans (a := a) (b := b) (c := a) h1 h2; rw [lessB_irr] at this; cases this
    | false => rfl
  | false =>
    cases h2 : Op.bytesLess b.toList a.toList with
    | true =>
      by_cases e : a.toList = b.toList
      · have hi := lessB_irr a; unfold lessB at hi; rw [← e] at h2; rw [h2] at hi; cases hi
      · simpa using e
    | false =>
      have e : a = b := lessB_tri h1 h2
      subst e
      simp
theorem rng_len (f t : ByteArray) (L : List AtC) : (rngL f t L).length ≤ L.length := List.length_filter_le _ _
set_option maxRecDepth 100000 in
set_option maxHeartbeats 4000000 in
theorem rrange_any (base g : Nat) (next : Int) (v : Value) (L R : List AtC) (f t : ByteArray) (most : Int) (w : World) (hT : Rt w base g next v R) (h : Alk L R) (hs : Srt L) (hR : R.length ≤ 100000) (hL : L.length ≤ 100000) :
    Calls Try.prog 52 #[.pointer (some ⟨g, 0, none⟩), .string f, .string t, .int .i64 most] w fun e w' => ∃ v', e = .returned v' ∧ w'.ownsRow w.heap.size 90 5 v' ((rngL f t L).take most.toNat).length (ccells ((rngL f t L).take most.toNat)) ∧ Below w.heap.size w w' := by
  obtain ⟨k0, qk0, qz0, qz1, qz2⟩ := info_parts zero_rat
  have HT := Lib.hid hT
  have HLN : Hid (∀ j, j ≤ (rngL f t L).length → (j < (rngL f t L).length → ∃ b, leastP f t (rngL f t L) R j R.length = some b ∧ b < R.length ∧ R.getD b default = (rngL f t L).getD j default) ∧ (j = (rngL f t L).length → leastP f t (rngL f t L) R j R.length = none)) := fun j hj => least_next h hs hj
  have HFL : Hid ((rngL f t L).length ≤ 100000) := Nat.le_trans (rng_len f t L) hL
  generalize rngL f t L = F at *
  obtain ⟨A, c, rfl, _, _, hA⟩ := Acs.of_row hT.row rfl hT.ok
  have HA := Lib.hid hA
  have HBX := Lib.hid hT.box
  have hgl := (Array.getElem?_eq_some_iff.1 hT.box).1
  clear hT hA h hs HT
  go_enter Try.func52, Try.ntmps52
  go_wp2_with fail
  go_loopw [9, 10] (fun o a wr => ∃ j : Nat, j ≤ F.length ∧ j ≤ most.toNat ∧ lenS o = j ∧ a = .string (aheadK F j) ∧ Hid (wr.ownsRow w.heap.size 90 5 o j (ccells (F.take j))) ∧ Hid (Below w.heap.size w wr)) (fun o _ _ => F.length + 1 - lenS o)
  case atStart => exact ⟨0, by omega, by omega, rfl, rfl, World.ownsRow_nil _ _ _ _, Below.refl _ _⟩
  case round =>
    obtain ⟨j, hj, hjm, hlo, rfl, HO, HB⟩ := hrel
    have HB0 := HB
    obtain ⟨oA, oc, rfl, _, _⟩ := row_any HO.out
    clear hlo
    have c1 : wr.cell? ⟨g, 1, none⟩ = some (.slice A R.length c) := cell_of_row _ _ 1 _ _ _ ((HB.out.block g hgl).trans HBX.out)
    go_wp2_with fail
    clear c1
    generalize wr = wq at *
    go_loopw [11, 19] (fun bv iv ws => ∃ i : Nat, i ≤ R.length ∧ iv = .int .i64 i ∧ bv = .int .i64 (bestI (leastP f t F R j i)) ∧ Hid (Below wq.heap.size wq ws)) (fun _ iv _ => R.length - (RowKit.intOf iv).toNat)
    case atStart => exact ⟨0, by omega, rfl, rfl, Below.refl _ _⟩
    case round =>
      obtain ⟨i, hi, rfl, rfl, HBI⟩ := hrel
      have HBW := Lib.hid (HB.out.trans (HBI.out.mono HB.out.size))
      by_cases hit : i < R.length
      · obtain ⟨p, rfl, _, r0, r1, r2, r3, r4⟩ := (HA.out.below HBW.out).row hit
        have HLS := Lib.hid (least_step f t F R j i)
        have hkz : (i : Int) < (R.length : Int) := by omega
        obtain ⟨re, hre⟩ : ∃ re, R.getD i default = re := ⟨_, rfl⟩
        rw [hre] at r0 r1 r2 r3 r4 HLS
        clear hre
        obtain ⟨off, xk, value, gone, time⟩ := re
        simp only at r0 r1 r2 r3 r4 HLS
        have hal := (Below.refl wr.heap.size wr).alloc (Nat.le_refl _) (.cells #[.int .i64 off, .string xk, .string value, .bool gone, .int .i64 time] 90)
        have hN := heap_alloc_new wr (.cells #[.int .i64 off, .string xk, .string value, .bool gone, .int .i64 time] 90)
        obtain ⟨w5, hw5⟩ : ∃ w5, wr.alloc (.cells #[.int .i64 off, .string xk, .string value, .bool gone, .int .i64 time] 90) = w5 := ⟨_, rfl⟩
        rw [hw5] at hal hN
        have HW5 := Lib.hid hw5
        have HBI5 := Lib.hid (HBI.out.trans (hal.mono HBI.out.size))
        have HBW5 := Lib.hid (HBW.out.trans (hal.mono HBW.out.size))
        have HN5 := Lib.hid hN
        clear hw5 hal
        go_upto_region 7 with fail
        rw [HW5.out]
        clear r0 r1 r2 r3 r4
        have n1 := cell_of_row _ _ 1 _ _ _ hN
        clear hN
        obtain ⟨el, hel⟩ : ∃ el, elig f t F j ⟨off, xk, value, gone, time⟩ = el := ⟨_, rfl⟩
        have HEL : Hid (el = (!(Op.bytesLess xk.toList f.toList) && (decide (t = ⟨#[]⟩) || Op.bytesLess xk.toList t.toList) && (decide (j = 0) || Op.bytesLess (aheadK F j).toList xk.toList))) := by
          show _ = _
          rw [← hel]
          unfold elig inR lessB aheadK
          by_cases h0 : j = 0
          · simp [h0]
          · rw [if_neg h0]
        rw [hel] at HLS
        clear hel
        go_cut [51] (fun s51 wx => s51 = .bool (!el) ∧ wx = w5)
        case first =>
          generalize aheadK F j = ah at *
          have hj1 : decide (0 < (j : Int)) = !decide (j = 0) := by rcases Nat.eq_zero_or_pos j with h | h; (subst h; rfl); (rw [decide_eq_true (by omega : (0 : Int) < (j : Int)), decide_eq_false (by omega : ¬ j = 0)]; rfl)
          have hj2 : decide (0 < j) = !decide (j = 0) := by rcases Nat.eq_zero_or_pos j with h | h; (subst h; rfl); (rw [decide_eq_true h, decide_eq_false (by omega : ¬ j = 0)]; rfl)
          have hz : (⟨#[]⟩ : ByteArray).toList = [] := by rw [ByteArray.toList_eq]
          have ht0 : (t.toList == ([] : List UInt8)) = decide (t = ⟨#[]⟩) := by
            by_cases he : t = ⟨#[]⟩
            · rw [decide_eq_true he, he, hz]; rfl
            · have hne : t.toList ≠ [] := fun e => he (bytes_ext (by rw [e, hz]))
              rw [decide_eq_false he]; simpa using hne
          have ht1 : (t.toList != ([] : List UInt8)) = !decide (t = ⟨#[]⟩) := by rw [bne, ht0]
          generalize decide (t = ⟨#[]⟩) = te at *
          generalize decide (j = 0) = jz at *
          have HE := HEL.out
          clear HEL hz HLS
          have e4 := leq_not xk ah
          have fin : ∀ s wx, s = Value.bool (!el) → wx = w5 → s = Value.bool (!el) ∧ wx = w5 := fun _ _ a b => ⟨a, b⟩
          rcases Bool.eq_false_or_eq_true (Op.bytesLess xk.toList f.toList) with e1 | e1
          · rw [e1] at HE
            obtain rfl : el = false := HE
            clear fin
            go_wp2_with fail
            go_meet
            exact ⟨rfl, rfl⟩
          · rcases Bool.eq_false_or_eq_true (Op.bytesLess xk.toList t.toList) with e2 | e2
            · rcases Bool.eq_false_or_eq_true (Op.bytesLess ah.toList xk.toList) with e3 | e3
              · rw [e1, e2, e3] at HE
                rw [e3] at e4
                cases te <;> cases jz <;> simp only [Bool.not_true, Bool.not_false, Bool.and_true, Bool.and_false, Bool.true_and, Bool.false_and, Bool.or_true, Bool.or_false, Bool.true_or, Bool.false_or] at HE ht0 ht1 hj1 hj2 e4 <;> subst HE <;> clear fin <;> (go_wp2_with fail; go_meet; exact ⟨by first | rfl | (rw [e4]; rfl) | (simp [e4]; done), rfl⟩)
              · rw [e1, e2, e3] at HE
                rw [e3] at e4
                cases te <;> cases jz <;> simp only [Bool.not_true, Bool.not_false, Bool.and_true, Bool.and_false, Bool.true_and, Bool.false_and, Bool.or_true, Bool.or_false, Bool.true_or, Bool.false_or] at HE ht0 ht1 hj1 hj2 e4 <;> subst HE <;> clear fin <;> (go_wp2_with fail; go_meet; exact ⟨by first | rfl | (rw [e4]; rfl) | (simp [e4]; done), rfl⟩)
            · rcases Bool.eq_false_or_eq_true (Op.bytesLess ah.toList xk.toList) with e3 | e3
              · rw [e1, e2, e3] at HE
                rw [e3] at e4
                cases te <;> cases jz <;> simp only [Bool.not_true, Bool.not_false, Bool.and_true, Bool.and_false, Bool.true_and, Bool.false_and, Bool.or_true, Bool.or_false, Bool.true_or, Bool.false_or] at HE ht0 ht1 hj1 hj2 e4 <;> subst HE <;> clear fin <;> (go_wp2_with fail; go_meet; exact ⟨by first | rfl | (rw [e4]; rfl) | (simp [e4]; done), rfl⟩)
              · rw [e1, e2, e3] at HE
                rw [e3] at e4
                cases te <;> cases jz <;> simp only [Bool.not_true, Bool.not_false, Bool.and_true, Bool.and_false, Bool.true_and, Bool.false_and, Bool.or_true, Bool.or_false, Bool.true_or, Bool.false_or] at HE ht0 ht1 hj1 hj2 e4 <;> subst HE <;> clear fin <;> (go_wp2_with fail; go_meet; exact ⟨by first | rfl | (rw [e4]; rfl) | (simp [e4]; done), rfl⟩)
        case rest =>
          obtain ⟨rfl, hwc⟩ := hcut
          have hwc' := hwc.symm
          subst hwc'
          clear HEL
          cases el with
          | false =>
            have HX : Hid (leastP f t F R j (i + 1) = leastP f t F R j i) := by have e := HLS.out; rw [if_neg (by simp)] at e; exact e
            go_wp2_with fail
            go_roundw
            case rel => exact ⟨i + 1, by omega, by go_num, by rw [HX.out], HBI5⟩
            case measure => simp [RowKit.intOf]; omega
          | true =>
            have HX : Hid (leastP f t F R j (i + 1) = (match leastP f t F R j i with | none => some i | some b => if lessB xk (R.getD b default).key = true then some i else some b)) := by have e := HLS.out; rw [if_pos rfl] at e; exact e
            have m1 := cell_regrown n1
            cases hl : leastP f t F R j i with
            | none =>
              rw [hl] at HX
              have HX2 : Hid (leastP f t F R j (i + 1) = some i) := HX.out
              clear hl HX HLS
              simp only [bestI]
              go_wp2_with fail
              refine wp_region_quiet_below (by kernel_rfl) (by kernel_rfl) ?_
              repeat (go_big_quiet_step (fail))
              refine wpQuiet_nil ?_
              intro _ hw'
              obtain ⟨⟨dq, osq⟩, hw''⟩ := hw'
              subst hw''
              have HB9 := Lib.hid (HBI5.out.trans ((below_regrown w5 dq osq).mono HBI5.out.size))
              go_wp2_with fail
              go_roundw
              case rel => exact ⟨i + 1, by omega, by go_num, by rw [HX2.out]; rfl, HB9⟩
              case measure => simp [RowKit.intOf]; omega
            | some b =>
              have hbi := least_lt hl
              obtain ⟨p', hp', _, s0, s1, _⟩ := (HA.out.below HBW5.out).row (show b < R.length by omega)
              injection hp' with hp'
              subst hp'
              rw [hl] at HX
              have HX2 : Hid (leastP f t F R j (i + 1) = if lessB xk (R.getD b default).key = true then some i else some b) := HX.out
              generalize (R.getD b default).key = bk at *
              have c1 : w5.cell? ⟨g, 1, none⟩ = some (.slice (some p) R.length c) := cell_of_row _ _ 1 _ _ _ ((HBW5.out.block g hgl).trans HBX.out)
              have m2 := cell_regrown c1
              have m3 := cell_regrown s1
              have hb0 : decide ((b : Int) < 0) = false := by rw [decide_eq_false_iff_not]; omega
              have hbz : (b : Int) < (R.length : Int) := by omega
              clear hl HX HLS s0 s1 c1
              simp only [bestI]
              go_wp2_with fail
              refine wp_region_quiet_below (by kernel_rfl) (by kernel_rfl) ?_
              repeat (go_big_quiet_step (fail))
              refine wpQuiet_nil ?_
              intro _ hw'
              obtain ⟨⟨dq, osq⟩, hw''⟩ := hw'
              subst hw''
              have HB9 := Lib.hid (HBI5.out.trans ((below_regrown w5 dq osq).mono HBI5.out.size))
              cases hlt : Op.bytesLess xk.toList bk.toList with
              | true =>
                have HX3 : Hid (leastP f t F R j (i + 1) = some i) := by have e := HX2.out; unfold lessB at e; rw [hlt, if_pos rfl] at e; exact e
                go_wp2_with fail
                go_roundw
                case rel => exact ⟨i + 1, by omega, by go_num, by rw [HX3.out]; rfl, HB9⟩
                case measure => simp [RowKit.intOf]; omega
              | false =>
                have HX3 : Hid (leastP f t F R j (i + 1) = some b) := by have e := HX2.out; unfold lessB at e; rw [hlt, if_neg (by simp)] at e; exact e
                go_wp2_with fail
                go_roundw
                case rel => exact ⟨i + 1, by omega, by go_num, by rw [HX3.out]; rfl, HB9⟩
                case measure => simp [RowKit.intOf]; omega
      · have d9 : decide ((i : Int) < (R.length : Int)) = false := by rw [decide_eq_false_iff_not]; omega
        have d10 : decide (i < R.length) = false := by rw [decide_eq_false_iff_not]; omega
        have hil : R.length = i := by omega
        have HLJ := Lib.hid (HLN.out j hj)
        rw [hil] at HLJ
        have HOI := Lib.hid (rowb5 HO.out HBI.out)
        clear hil
        by_cases hjF : j < F.length
        · obtain ⟨b, hlb, hbl, hrow⟩ := HLJ.out.1 hjF
          rw [hlb]
          have hb0 : decide ((b : Int) < 0) = false := by rw [decide_eq_false_iff_not]; omega
          by_cases hm : most ≤ (j : Int)
          · have hmd : decide (most ≤ (j : Int)) = true := decide_eq_true hm
            have HT9 : Hid (F.take most.toNat = F.take j) := by show _ = _; rw [show most.toNat = j by omega]
            have hlen : (F.take j).length = j := by rw [List.length_take]; omega
            have HFN : Hid (wr.ownsRow w.heap.size 90 5 (.slice oA j oc) (F.take most.toNat).length (ccells (F.take most.toNat))) := by show World.ownsRow _ _ _ _ _ _ _; rw [HT9.out, hlen]; exact HOI.out
            clear hlb hrow HLJ hlen
            simp only [bestI]
            go_wp2_with fail
            go_ret
            exact ⟨_, rfl, HFN.out, HBW.out⟩
          · have hmd : decide (most ≤ (j : Int)) = false := decide_eq_false hm
            obtain ⟨p, rfl, _, r0, r1, r2, r3, r4⟩ := (HA.out.below HBW.out).row (show b < R.length by omega)
            have HTK : Hid (F.take (j + 1) = F.take j ++ [F.getD j default]) := by show _ = _; rw [List.take_succ_eq_append_getElem hjF, List.getD_eq_getElem?_getD, List.getElem?_eq_getElem hjF]; rfl
            have HAH : Hid (aheadK F (j + 1) = (F.getD j default).key) := by show _ = _; unfold aheadK; rw [if_neg (by omega), Nat.add_sub_cancel]
            rw [hrow] at r0 r1 r2 r3 r4
            generalize F.getD j default = re at *
            obtain ⟨off, xk, value, gone, time⟩ := re
            simp only at r0 r1 r2 r3 r4 HAH
            have c1 : wr.cell? ⟨g, 1, none⟩ = some (.slice (some p) R.length c) := cell_of_row _ _ 1 _ _ _ ((HBW.out.block g hgl).trans HBX.out)
            have hbz : (b : Int) < (R.length : Int) := by omega
            have hzw := HBW.out.size
            have hj5 : j ≤ 100000 := by have := HFL.out; omega
            have HROW := Lib.hid hrow
            have hbl2 : b < R.length := by omega
            have hown8 := HOI.out.alloc (.cells [.int .i64 off, .string xk, .string value, .bool gone, .int .i64 time].toArray 90)
            clear hlb hrow HLJ
            simp only [bestI]
            go_wp2_with (at_builtin; go_loud (refine wpList_append_own_at _ rfl (.tmp 80) (.tmp 88) 26 rfl w.heap.size 90 k0 _ 5 56 Try.underlying26 qk0 qz0 qz1 qz2 rfl (by decide) _ j (ccells (F.take j)) rfl hown8 ⟨wr.heap.size, 0, none⟩ 1 1 [.int .i64 off, .string xk, .string value, .bool gone, .int .i64 time] rfl rfl (new_cells5 wr [.int .i64 off, .string xk, .string value, .bool gone, .int .i64 time] _) ?g1 ?g2 ?g3 ?g4 ?_))
            case g1 => first | exact ⟨rfl, rfl, rfl, rfl, rfl⟩ | (intro u hu; simp at hu; rcases hu with rfl | rfl | rfl | rfl | rfl <;> rfl)
            case g2 => unfold maxLen; omega
            case g3 => omega
            case g4 => first | omega | (simp; omega)
            intro va w7 hown7 hg7 _ _
            have HB7 := Lib.hid ((HBW.out.alloc HBW.out.size _).trans ((Below.refl _ _).grown hg7 (by have := HBW.out.size; simp; omega) (fun q hq => (World.ownsRow.lt hown8 q hq).1)))
            obtain ⟨A7, c7, rfl, _, _⟩ := row_any hown7
            have HO7 : Hid (w7.ownsRow w.heap.size 90 5 (.slice A7 (j + 1) c7) (j + 1) (ccells (F.take (j + 1)))) := by show World.ownsRow _ _ _ _ _ _ _; rw [HTK.out, ccells_append]; simpa [ccells, AtC.cells] using hown7
            clear hown8 hown7 hg7 r0 r1 r2 r3 r4 c1
            have c1 : w7.cell? ⟨g, 1, none⟩ = some (.slice (some p) R.length c) := cell_of_row _ _ 1 _ _ _ ((HB7.out.block g hgl).trans HBX.out)
            obtain ⟨p', hp', _, _, r1, _⟩ := (HA.out.below HB7.out).row hbl2
            injection hp' with hp'
            subst hp'
            rw [HROW.out] at r1
            simp only at r1
            go_wp2_with fail
            go_roundw
            case rel => exact ⟨j + 1, by omega, by omega, rfl, by rw [HAH.out], HO7.out, HB7.out⟩
            case measure => simp [lenS]; omega
        · have hjE : j = F.length := by omega
          have hl := HLJ.out.2 hjE
          rw [hl]
          have HT9 : Hid (F.take most.toNat = F.take j) := by show _ = _; rw [List.take_of_length_le (by omega), List.take_of_length_le (by omega)]
          have hlen : (F.take j).length = j := by rw [List.length_take]; omega
          have HFN : Hid (wr.ownsRow w.heap.size 90 5 (.slice oA j oc) (F.take most.toNat).length (ccells (F.take most.toNat))) := by show World.ownsRow _ _ _ _ _ _ _; rw [HT9.out, hlen]; exact HOI.out
          clear hl HLJ hlen hjE
          simp only [bestI]
          go_wp2_with fail
          go_ret
          exact ⟨_, rfl, HFN.out, HBW.out⟩
end Go.Proofs.Ytmlekkbjmfknfaa
