/-
  What the reader's Ints and Texts do.
-/
import Derived.Test.YtgbdgpacnpeahaaWrK
import Derived.Shelf.Abstract
namespace Go.Proofs.Ytgbdgpacnpeahaa
open Go.RowKit Go.Lib Go.Sort
set_option linter.unusedVariables false
set_option linter.unusedSimpArgs false

/-- a list as the document reads it, as what a decoder comes to -/
def dList {α : Type} (f : Nat → α × Nat × Nat) (n p0 e0 : Nat) : Dl α := if e0 ≠ 0 then .bad e0 else if (manyS f n p0 0).2.2 ≠ 0 then .bad (manyS f n p0 0).2.2 else .ok (manyS f n p0 0).1 (manyS f n p0 0).2.1
theorem size_m (l : List UInt8) (p : Nat) (count : Int) : dSize l p count = if mE l p 0 count ≠ 0 then .bad (mE l p 0 count) else .ok (.int .u64 ((uR l p 0).1 : Int)) (uR l p 0).2.1 := by
  unfold dSize mE uR
  rw [if_pos rfl]
  unfold numP
  cases hn : Wn.num (l.drop p) with
  | none => rfl
  | some x =>
    have h0 := (Wn.num_le hn).2.1
    have hx : (if (((some x).getD (0, 0)).2 = 0) then 6 else 0) = 0 := if_neg (by show ¬ x.2 = 0; omega)
    simp only [hx]
    show (if count.toNat < x.1 then Dr.bad 7 else _) = _
    simp only [Option.getD_some]
    by_cases hc : count.toNat < x.1
    · simp [hc]
    · simp [hc]
theorem int_m (l : List UInt8) (p : Nat) : dInt l p = if (iR l p 0).2.2 ≠ 0 then .bad (iR l p 0).2.2 else .ok (.int .i64 (iR l p 0).1) (iR l p 0).2.1 := by
  unfold dInt iR uR
  rw [if_pos rfl]
  unfold numP
  cases hn : Wn.num (l.drop p) with
  | none => rfl
  | some x =>
    have h0 := (Wn.num_le hn).2.1
    have hx : (if (((some x).getD (0, 0)).2 = 0) then 6 else 0) = 0 := if_neg (by show ¬ x.2 = 0; omega)
    simp only [hx]
    rfl
theorem text_m (l : List UInt8) (p : Nat) (most : Int) : dText l p most = if (textR l p 0 most).2.2 ≠ 0 then .bad (textR l p 0 most).2.2 else .ok (.string ⟨(textR l p 0 most).1.toArray⟩) (textR l p 0 most).2.1 := by
  unfold textR textE mE dText uR
  rw [if_pos rfl]
  unfold numP
  cases hn : Wn.num (l.drop p) with
  | none => rfl
  | some x =>
    have h0 := (Wn.num_le hn).2.1
    have hx : (if (((some x).getD (0, 0)).2 = 0) then 6 else 0) = 0 := if_neg (by show ¬ x.2 = 0; omega)
    simp only [hx]
    show (if most.toNat < x.1 then Dr.bad 7 else if l.length - (p + x.2) < x.1 then Dr.bad 6 else _) = _
    simp only [Option.getD_some]
    by_cases hc : most.toNat < x.1
    · simp [hc]
    · by_cases hd : l.length - (p + x.2) < x.1
      · simp [hc, hd]
      · simp [hc, hd]
set_option maxHeartbeats 1000000 in
theorem iIn_any (bx g c p err : Nat) (A : Option Addr) (l : List UInt8) (w : World) (h : Rd w g A c l p err) (hbx : w.cell? ⟨bx, 0, none⟩ = some (.pointer (some ⟨g, 0, none⟩))) :
    Calls Try.prog 131 #[.pointer (some ⟨bx, 0, none⟩)] w (DPost w g c err A l (dInt l p)) := by
  have HU := Lib.hid (signed_d g c p err A l w h)
  generalize dInt l p = r at *
  go_enter Try.func131, Try.ntmps131
  go_wp2_with fail
  refine HU.out.mono ?_
  intro e w1 hp
  cases r with
  | ok x q =>
    obtain ⟨rfl, hr, hg⟩ := hp
    have HR := Lib.hid hr
    clear hr
    go_wp2_with fail
    go_ret2
    exact ⟨rfl, HR.out, hg⟩
  | bad er =>
    obtain ⟨y, q, rfl, her, hr, hg⟩ := hp
    have HR := Lib.hid hr
    clear hr
    go_wp2_with fail
    go_ret2
    exact ⟨y, q, rfl, her, HR.out, hg⟩
set_option maxHeartbeats 1000000 in
theorem tIn_any (bx by_ g c p err : Nat) (A : Option Addr) (l : List UInt8) (most : Int) (w : World) (h : Rd w g A c l p err) (hbx : w.cell? ⟨bx, 0, none⟩ = some (.pointer (some ⟨g, 0, none⟩))) (hby : w.cell? ⟨by_, 0, none⟩ = some (.int .i64 most)) (hm1 : -9223372036854775808 ≤ most) (hm2 : most ≤ 9223372036854775807) :
    Calls Try.prog 127 #[.pointer (some ⟨bx, 0, none⟩), .pointer (some ⟨by_, 0, none⟩)] w (DPost w g c err A l (dText l p most)) := by
  have HU := Lib.hid (text_d g c p err A l most w.drew h.drew hm1 hm2)
  have HGD := Lib.hid (grown_of_below ((Below.refl w.heap.size w).drew) (some g))
  generalize dText l p most = r at *
  clear h
  cases r with
  | ok x q =>
    go_enter Try.func127, Try.ntmps127
    go_wp2_with fail
    go_region_with ((go_at_call 120; refine HU.out.mono ?_; rintro e w1 ⟨rfl, hr, hg⟩; have HR := Lib.hid hr; have HG := Lib.hid hg; clear hr hg))
    all_goals
      go_wp2_with fail
      go_ret2
      exact ⟨rfl, HR.out, grown_trans HGD.out HG.out⟩
  | bad er =>
    go_enter Try.func127, Try.ntmps127
    go_wp2_with fail
    go_region_with ((go_at_call 120; refine HU.out.mono ?_; rintro e w1 ⟨y, q, rfl, her, hr, hg⟩; have HR := Lib.hid hr; have HG := Lib.hid hg; clear hr hg))
    all_goals
      go_wp2_with fail
      go_ret2
      exact ⟨_, _, rfl, her, HR.out, grown_trans HGD.out HG.out⟩

set_option maxRecDepth 100000 in
set_option maxHeartbeats 8000000 in
theorem listI_d (bx g c p err : Nat) (A : Option Addr) (l : List UInt8) (count : Int)  (w : World) (h : Rd w g A c l p err) (hbx : w.cell? ⟨bx, 0, none⟩ = some (.pointer (some ⟨g, 0, none⟩))) (nbx : bx ≠ g) (hm1 : -9223372036854775808 ≤ count) (hm2 : count ≤ 9223372036854775807) :
    Calls Try.prog 130 #[.pointer (some ⟨g, 0, none⟩), .int .i64 count, .func (.func 131) #[] #[.pointer (some ⟨bx, 0, none⟩)]] w (DLp 2 encI w g c err A l (dList (fun q => iR l q 0) (uR l p 0).1 (uR l p 0).2.1 (mE l p 0 count))) := by
  obtain ⟨j0, qj0, qy0, qy1, qy2⟩ := info_parts int_info
  have lbx := World.block_lt_of_cell? w ⟨bx, 0, none⟩ hbx
  have hlt := h.lt
  have hsm := h.small
  have HSZ := Lib.hid (size_d g c p err A l count w h hm1 hm2)
  rw [size_m] at HSZ
  have hnl := uR_lt l p 0
  have HEL : Hid (∀ q W, Rd W g A c l q err → w.grownBy W (some g) → Calls Try.prog 131 #[.pointer (some ⟨bx, 0, none⟩)] W (DPost W g c err A l (if ((fun q => iR l q 0) q).2.2 ≠ 0 then .bad ((fun q => iR l q 0) q).2.2 else .ok (.int .i64 (((fun q => iR l q 0) q).1)) ((fun q => iR l q 0) q).2.1))) := fun q W hW hg => by
    have := iIn_any bx g c q err A l W hW ((hg.cell_far ⟨bx, 0, none⟩ lbx (fun e => by injection e with e; exact nbx e)).trans hbx)
    rw [int_m] at this
    exact this
  have ec : ∀ args w, (callFunc 131 args).run Try.prog w = .ok (.enter 131 args) w := enters_of Try.func131 (by kernel_rfl) rfl
  have HON : Hid (∀ q, ((fun q => iR l q 0) q).2.2 = 0 → q < ((fun q => iR l q 0) q).2.1) := fun q hq => iR_on hq
  generalize mE l p 0 count = e0 at *
  generalize (fun q => iR l q 0) = f at *
  generalize uR l p 0 = t at *
  obtain ⟨n, p0, e1⟩ := t
  simp only at HSZ hnl ⊢
  unfold dList
  have HST : Hid (∀ m q, manyS f (m + 1) q 0 = ((f q).1 :: (manyS f m (f q).2.1 (f q).2.2).1, (manyS f m (f q).2.1 (f q).2.2).2)) := fun m q => manyS_step f m q
  have HEN : Hid (∀ m q e, (m = 0 ∨ e ≠ 0) → manyS f m q e = ([], q, e)) := fun m q e hq => manyS_end f m q e hq
  have HCD : Hid (∃ D : Nat → Nat → Nat → List Int × Nat × Nat, ∀ a b d, D a b d = manyS f a b d) := ⟨_, fun _ _ _ => rfl⟩
  obtain ⟨D, hD⟩ := HCD.out
  simp only [← hD] at HST HEN ⊢
  clear hD HCD h
  obtain ⟨F, hF⟩ : ∃ F, D n p0 0 = F := ⟨_, rfl⟩
  have HF0 : Hid (F = ([] ++ (D (n - 0) p0 0).1, (D (n - 0) p0 0).2)) := by show _ = _; rw [Nat.sub_zero, hF]; rfl
  rw [hF]
  clear hF
  obtain ⟨X, hX⟩ : ∃ X : Ending → World → Prop, DLp 2 encI w g c err A l (if e0 ≠ 0 then .bad e0 else if F.2.2 ≠ 0 then .bad F.2.2 else .ok F.1 F.2.1) = X := ⟨_, rfl⟩
  have HXB : Hid (∀ er y q w', (e0 = er ∨ (e0 = 0 ∧ F.2.2 = er)) → 0 < er → Rd w' g A c l q err → w.grownBy w' (some g) → X (.returned (.tuple #[y, .int .i64 (er : Int)])) w') := fun er y q w' he h0 h1 h2 => by
    rw [← hX]
    rcases he with rfl | ⟨rfl, rfl⟩
    · rw [if_pos (by omega)]; exact ⟨y, q, rfl, h0, h1, h2⟩
    · rw [if_neg (by omega), if_pos (by omega)]; exact ⟨y, q, rfl, h0, h1, h2⟩
  have HXO : Hid (∀ v (L : List Int) q w', e0 = 0 → F = (L, q, 0) → w'.ownsRow w.heap.size 2 1 v L.length (L.map encI) → Rd w' g A c l q err → w.grownBy w' (some g) → X (.returned (.tuple #[v, .int .i64 0])) w') := fun v L q w' h0 hF ho h1 h2 => by
    rw [← hX, if_neg (by omega), hF, if_neg (by simp)]
    exact ⟨v, rfl, ho, h1, h2⟩
  rw [hX]
  clear hX
  go_enter Try.func130, Try.ntmps130
  by_cases he0 : e0 ≠ 0
  · rw [if_pos he0] at HSZ
    have z1 : ((e0 : Int) != 0) = true := by rw [bne_iff_ne]; omega
    have HE := Lib.hid (HXB.out e0 (.slice none 0 0))
    have HP0 : Hid (0 < e0) := by show _ < _; omega
    clear he0
    go_wp2_with fail
    refine HSZ.out.mono ?_
    rintro e w1 ⟨y, q, rfl, _, hr, hg⟩
    have HR := Lib.hid hr
    clear hr
    go_wp2_with fail
    exact HE.out q _ (.inl (by first | rfl | trivial)) HP0.out HR.out hg
  · obtain rfl : e0 = 0 := by omega
    rw [if_neg he0] at HSZ
    clear he0
    go_wp2_with fail
    refine HSZ.out.mono ?_
    rintro e w1 ⟨rfl, hr, hg⟩
    have HR1 := Lib.hid hr
    have HG1 := Lib.hid hg
    clear hr hg HSZ
    go_wp2_with fail
    go_loopw [10, 23] (fun ov iv wr => ∃ k : Nat, k ≤ n ∧ iv = .int .u64 (k : Int) ∧ ∃ (C : List Int) (pk : Nat), Hid (F = (C ++ (D (n - k) pk 0).1, (D (n - k) pk 0).2)) ∧ Hid (wr.ownsRow w.heap.size 2 1 ov C.length (C.map encI)) ∧ Hid (Rd wr g A c l pk err) ∧ Hid (p0 + C.length ≤ pk) ∧ Hid (w.grownBy wr (some g))) (fun _ iv _ => n - (RowKit.intOf iv).toNat)
    case atStart => exact ⟨0, by omega, rfl, [], p0, HF0.out, World.ownsRow_nil _ _ _ _, HR1.out, Nat.le_refl _, HG1.out⟩
    case round =>
      obtain ⟨k, hk, rfl, C, pk, HF, HO, HR, HL2, HG⟩ := hrel
      obtain ⟨A2, c2, rfl, _, _⟩ := row_anyW HO.out
      have hzw := HG.out.size
      by_cases hkn : k < n
      · have HF2 : Hid (F = ((C ++ [(f pk).1]) ++ (D (n - (k + 1)) (f pk).2.1 (f pk).2.2).1, (D (n - (k + 1)) (f pk).2.1 (f pk).2.2).2)) := by
          show _ = _
          rw [HF.out, show n - k = (n - (k + 1)) + 1 by omega, HST.out]
          simp
        have HON2 := Lib.hid (HON.out pk)
        have HEL2 := Lib.hid (HEL.out pk wr HR.out HG.out)
        have hpk : Hid (pk ≤ l.length) := HR.out.pos
        generalize f pk = x at *
        obtain ⟨xv, xp, xe⟩ := x
        simp only at HF2 HON2 HEL2
        have hcl : C.length ≤ 1099511627776 := by have := HL2.out; have := hpk.out; omega
        have q1 : IntKind.u64.wrap ((k : Int) + 1) = (k : Int) + 1 := by rw [IntKind.wrap_u64]; omega
        have d1 : decide ((k : Int) < (n : Int)) = true := by rw [decide_eq_true_iff]; omega
        have d2 : decide (k < n) = true := decide_eq_true hkn
        clear HF
        by_cases hx : xe ≠ 0
        · rw [if_pos hx] at HEL2
          have z1 : ((xe : Int) != 0) = true := by rw [bne_iff_ne]; omega
          have HFE : Hid (F.2.2 = xe) := by show _ = _; rw [HF2.out, HEN.out _ _ _ (.inr hx)]
          have HE := Lib.hid (HXB.out xe (.slice none 0 0))
          have HP0 : Hid (0 < xe) := by show _ < _; omega
          clear hx
          go_wp2_with ((first | go_at_fn 131 | go_at_call 131); refine HEL2.out.mono ?_; rintro e w2 ⟨y, q, rfl, _, hr2, hg2⟩)
          exact HE.out q _ (.inr ⟨(by first | rfl | trivial), HFE.out⟩) HP0.out hr2 (grown_trans HG.out hg2)
        · obtain rfl : xe = 0 := by omega
          rw [if_neg hx] at HEL2
          clear hx
          go_wp2_with (first
            | ((first | go_at_fn 131 | go_at_call 131); refine HEL2.out.mono ?_; rintro e w2 ⟨rfl, hr2, hg2⟩; have hO2 := row_grown HO.out hg2 hlt; have hO3 := hO2.alloc (.cells #[.int .i64 (xv)] 2); have hz2 : w.heap.size ≤ w2.heap.size := Nat.le_trans hzw hg2.size)
            | (at_builtin; go_loud (refine wpList_append_own_at _ rfl (.tmp 33) (.tmp 35) 26 rfl w.heap.size 2 j0 _ 1 8 Try.underlying26 qj0 qy0 qy1 qy2 rfl (by decide) _ C.length (C.map encI) rfl hO3 ⟨w2.heap.size, 0, none⟩ 1 1 [.int .i64 (xv)] rfl rfl (new_cellsW w2 [.int .i64 (xv)] _) ?g1 ?g2 ?g3 ?g4 ?_)))
          case g1 => first | exact ⟨rfl⟩ | (intro u hu; simp at hu; rcases hu with rfl; rfl) | simp [Value.oneCell']
          case g2 => unfold maxLen; omega
          case g3 => omega
          case g4 => first | omega | (simp; omega)
          intro va w4 hown4 hg4 _ _
          have HO4 : Hid (w4.ownsRow w.heap.size 2 1 va (C ++ [xv]).length ((C ++ [xv]).map encI)) := by show World.ownsRow _ _ _ _ _ _ _; rw [List.map_append, List.length_append]; exact hown4
          have hb4 : Below w.heap.size w2 w4 := ((Below.refl _ _).alloc hz2 _).trans ((Below.refl _ _).grown hg4 (by simp; omega) (fun q hq => (World.ownsRow.lt hO3 q hq).1))
          have HR4 := Lib.hid (hr2.below hb4 hlt)
          have HG4 : Hid (w.grownBy w4 (some g)) := ⟨hb4.os.trans (hg2.os.trans HG.out.os), hb4.tape.trans (hg2.tape.trans HG.out.tape), hb4.output.trans (hg2.output.trans HG.out.output), Nat.le_trans hz2 hb4.size, fun i hi hne => (hb4.block i hi).trans ((hg2.block i (Nat.lt_of_lt_of_le hi hzw) hne).trans (HG.out.block i hi hne))⟩
          have HL4 : Hid (p0 + (C ++ [xv]).length ≤ xp) := by have h8 := HON2.out (by first | rfl | trivial); have h9 := HL2.out; show _ ≤ _; rw [List.length_append, List.length_singleton]; omega
          clear hown4 hg4 hb4 hr2 hg2 hO2 hO3 hz2
          go_wp2_with fail
          go_roundw
          case rel => exact ⟨k + 1, by omega, by go_num, C ++ [xv], xp, HF2, HO4, HR4, HL4, HG4⟩
          case measure => simp [RowKit.intOf]; omega
      · have HF3 : Hid (F = (C, pk, 0)) := by
          show _ = _
          rw [HF.out, HEN.out (n - k) pk 0 (by omega)]
          simp
        have d1 : decide ((k : Int) < (n : Int)) = false := by rw [decide_eq_false_iff_not]; omega
        have d2 : decide (k < n) = false := decide_eq_false hkn
        have HE := Lib.hid (HXO.out (.slice A2 C.length c2) C pk wr (by first | rfl | trivial) HF3.out HO.out HR.out HG.out)
        clear hkn HF
        go_wp2_with fail
        exact HE.out
end Go.Proofs.Ytgbdgpacnpeahaa
