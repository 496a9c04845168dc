/-
  What the list of wire does, of texts.
-/
import Derived.Test.YtgbdgpacnpeahaaWrL
namespace Go.Proofs.Ytgbdgpacnpeahaa
open Go.RowKit Go.Lib Go.Sort
set_option linter.unusedVariables false
set_option linter.unusedSimpArgs false

set_option maxRecDepth 100000 in
set_option maxHeartbeats 8000000 in
theorem listT_d (bx by_ g c p err : Nat) (A : Option Addr) (l : List UInt8) (count : Int) (most : Int) (hx1 : -9223372036854775808 ≤ most) (hx2 : most ≤ 9223372036854775807) (w : World) (h : Rd w g A c l p err) (hbx : w.cell? ⟨bx, 0, none⟩ = some (.pointer (some ⟨g, 0, none⟩))) (nbx : bx ≠ g) (hby_ : w.cell? ⟨by_, 0, none⟩ = some (.int .i64 most)) (nby_ : by_ ≠ g) (hm1 : -9223372036854775808 ≤ count) (hm2 : count ≤ 9223372036854775807) :
    Calls Try.prog 126 #[.pointer (some ⟨g, 0, none⟩), .int .i64 count, .func (.func 127) #[] #[.pointer (some ⟨bx, 0, none⟩), .pointer (some ⟨by_, 0, none⟩)]] w (DLp 9 encS w g c err A l (dList (fun q => textR l q 0 most) (uR l p 0).1 (uR l p 0).2.1 (mE l p 0 count))) := by
  obtain ⟨j0, qj0, qy0, qy1, qy2⟩ := info_parts str_info
  have lbx := World.block_lt_of_cell? w ⟨bx, 0, none⟩ hbx; have lby_ := World.block_lt_of_cell? w ⟨by_, 0, none⟩ hby_
  have hlt := h.lt
  have hsm := h.small
  have HSZ := Lib.hid (size_d g c p err A l count w h hm1 hm2)
  rw [size_m] at HSZ
  have hnl := uR_lt l p 0
  have HEL : Hid (∀ q W, Rd W g A c l q err → w.grownBy W (some g) → Calls Try.prog 127 #[.pointer (some ⟨bx, 0, none⟩), .pointer (some ⟨by_, 0, none⟩)] W (DPost W g c err A l (if ((fun q => textR l q 0 most) q).2.2 ≠ 0 then .bad ((fun q => textR l q 0 most) q).2.2 else .ok (.string ⟨(((fun q => textR l q 0 most) q).1).toArray⟩) ((fun q => textR l q 0 most) q).2.1))) := fun q W hW hg => by
    have := tIn_any bx by_ g c q err A l most W hW ((hg.cell_far ⟨bx, 0, none⟩ lbx (fun e => by injection e with e; exact nbx e)).trans hbx) ((hg.cell_far ⟨by_, 0, none⟩ lby_ (fun e => by injection e with e; exact nby_ e)).trans hby_) hx1 hx2
    rw [text_m] at this
    exact this
  have ec : ∀ args w, (callFunc 127 args).run Try.prog w = .ok (.enter 127 args) w := enters_of Try.func127 (by kernel_rfl) rfl
  have HON : Hid (∀ q, ((fun q => textR l q 0 most) q).2.2 = 0 → q < ((fun q => textR l q 0 most) q).2.1) := fun q hq => textR_on hq
  generalize mE l p 0 count = e0 at *
  generalize (fun q => textR l q 0 most) = f at *
  generalize uR l p 0 = t at *
  obtain ⟨n, p0, e1⟩ := t
  simp only at HSZ hnl ⊢
  unfold dList
  have HST : Hid (∀ m q, manyS f (m + 1) q 0 = ((f q).1 :: (manyS f m (f q).2.1 (f q).2.2).1, (manyS f m (f q).2.1 (f q).2.2).2)) := fun m q => manyS_step f m q
  have HEN : Hid (∀ m q e, (m = 0 ∨ e ≠ 0) → manyS f m q e = ([], q, e)) := fun m q e hq => manyS_end f m q e hq
  have HCD : Hid (∃ D : Nat → Nat → Nat → List (List UInt8) × Nat × Nat, ∀ a b d, D a b d = manyS f a b d) := ⟨_, fun _ _ _ => rfl⟩
  obtain ⟨D, hD⟩ := HCD.out
  simp only [← hD] at HST HEN ⊢
  clear hD HCD h
  obtain ⟨F, hF⟩ : ∃ F, D n p0 0 = F := ⟨_, rfl⟩
  have HF0 : Hid (F = ([] ++ (D (n - 0) p0 0).1, (D (n - 0) p0 0).2)) := by show _ = _; rw [Nat.sub_zero, hF]; rfl
  rw [hF]
  clear hF
  obtain ⟨X, hX⟩ : ∃ X : Ending → World → Prop, DLp 9 encS w g c err A l (if e0 ≠ 0 then .bad e0 else if F.2.2 ≠ 0 then .bad F.2.2 else .ok F.1 F.2.1) = X := ⟨_, rfl⟩
  have HXB : Hid (∀ er y q w', (e0 = er ∨ (e0 = 0 ∧ F.2.2 = er)) → 0 < er → Rd w' g A c l q err → w.grownBy w' (some g) → X (.returned (.tuple #[y, .int .i64 (er : Int)])) w') := fun er y q w' he h0 h1 h2 => by
    rw [← hX]
    rcases he with rfl | ⟨rfl, rfl⟩
    · rw [if_pos (by omega)]; exact ⟨y, q, rfl, h0, h1, h2⟩
    · rw [if_neg (by omega), if_pos (by omega)]; exact ⟨y, q, rfl, h0, h1, h2⟩
  have HXO : Hid (∀ v (L : List (List UInt8)) q w', e0 = 0 → F = (L, q, 0) → w'.ownsRow w.heap.size 9 1 v L.length (L.map encS) → Rd w' g A c l q err → w.grownBy w' (some g) → X (.returned (.tuple #[v, .int .i64 0])) w') := fun v L q w' h0 hF ho h1 h2 => by
    rw [← hX, if_neg (by omega), hF, if_neg (by simp)]
    exact ⟨v, rfl, ho, h1, h2⟩
  rw [hX]
  clear hX
  go_enter Try.func126, Try.ntmps126
  by_cases he0 : e0 ≠ 0
  · rw [if_pos he0] at HSZ
    have z1 : ((e0 : Int) != 0) = true := by rw [bne_iff_ne]; omega
    have HE := Lib.hid (HXB.out e0 (.slice none 0 0))
    have HP0 : Hid (0 < e0) := by show _ < _; omega
    clear he0
    go_wp2_with fail
    refine HSZ.out.mono ?_
    rintro e w1 ⟨y, q, rfl, _, hr, hg⟩
    have HR := Lib.hid hr
    clear hr
    go_wp2_with fail
    exact HE.out q _ (.inl (by first | rfl | trivial)) HP0.out HR.out hg
  · obtain rfl : e0 = 0 := by omega
    rw [if_neg he0] at HSZ
    clear he0
    go_wp2_with fail
    refine HSZ.out.mono ?_
    rintro e w1 ⟨rfl, hr, hg⟩
    have HR1 := Lib.hid hr
    have HG1 := Lib.hid hg
    clear hr hg HSZ
    go_wp2_with fail
    go_loopw [10, 23] (fun ov iv wr => ∃ k : Nat, k ≤ n ∧ iv = .int .u64 (k : Int) ∧ ∃ (C : List (List UInt8)) (pk : Nat), Hid (F = (C ++ (D (n - k) pk 0).1, (D (n - k) pk 0).2)) ∧ Hid (wr.ownsRow w.heap.size 9 1 ov C.length (C.map encS)) ∧ Hid (Rd wr g A c l pk err) ∧ Hid (p0 + C.length ≤ pk) ∧ Hid (w.grownBy wr (some g))) (fun _ iv _ => n - (RowKit.intOf iv).toNat)
    case atStart => exact ⟨0, by omega, rfl, [], p0, HF0.out, World.ownsRow_nil _ _ _ _, HR1.out, Nat.le_refl _, HG1.out⟩
    case round =>
      obtain ⟨k, hk, rfl, C, pk, HF, HO, HR, HL2, HG⟩ := hrel
      obtain ⟨A2, c2, rfl, _, _⟩ := row_anyW HO.out
      have hzw := HG.out.size
      by_cases hkn : k < n
      · have HF2 : Hid (F = ((C ++ [(f pk).1]) ++ (D (n - (k + 1)) (f pk).2.1 (f pk).2.2).1, (D (n - (k + 1)) (f pk).2.1 (f pk).2.2).2)) := by
          show _ = _
          rw [HF.out, show n - k = (n - (k + 1)) + 1 by omega, HST.out]
          simp
        have HON2 := Lib.hid (HON.out pk)
        have HEL2 := Lib.hid (HEL.out pk wr HR.out HG.out)
        have hpk : Hid (pk ≤ l.length) := HR.out.pos
        generalize f pk = x at *
        obtain ⟨xv, xp, xe⟩ := x
        simp only at HF2 HON2 HEL2
        have hcl : C.length ≤ 1099511627776 := by have := HL2.out; have := hpk.out; omega
        have q1 : IntKind.u64.wrap ((k : Int) + 1) = (k : Int) + 1 := by rw [IntKind.wrap_u64]; omega
        have d1 : decide ((k : Int) < (n : Int)) = true := by rw [decide_eq_true_iff]; omega
        have d2 : decide (k < n) = true := decide_eq_true hkn
        clear HF
        by_cases hx : xe ≠ 0
        · rw [if_pos hx] at HEL2
          have z1 : ((xe : Int) != 0) = true := by rw [bne_iff_ne]; omega
          have HFE : Hid (F.2.2 = xe) := by show _ = _; rw [HF2.out, HEN.out _ _ _ (.inr hx)]
          have HE := Lib.hid (HXB.out xe (.slice none 0 0))
          have HP0 : Hid (0 < xe) := by show _ < _; omega
          clear hx
          go_wp2_with ((first | go_at_fn 127 | go_at_call 127); refine HEL2.out.mono ?_; rintro e w2 ⟨y, q, rfl, _, hr2, hg2⟩)
          exact HE.out q _ (.inr ⟨(by first | rfl | trivial), HFE.out⟩) HP0.out hr2 (grown_trans HG.out hg2)
        · obtain rfl : xe = 0 := by omega
          rw [if_neg hx] at HEL2
          clear hx
          go_wp2_with (first
            | ((first | go_at_fn 127 | go_at_call 127); refine HEL2.out.mono ?_; rintro e w2 ⟨rfl, hr2, hg2⟩; have hO2 := row_grown HO.out hg2 hlt; have hO3 := hO2.alloc (.cells #[.string ⟨(xv).toArray⟩] 9); have hz2 : w.heap.size ≤ w2.heap.size := Nat.le_trans hzw hg2.size)
            | (at_builtin; go_loud (refine wpList_append_own_at _ rfl (.tmp 33) (.tmp 35) 25 rfl w.heap.size 9 j0 _ 1 16 Try.underlying25 qj0 qy0 qy1 qy2 rfl (by decide) _ C.length (C.map encS) rfl hO3 ⟨w2.heap.size, 0, none⟩ 1 1 [.string ⟨(xv).toArray⟩] rfl rfl (new_cellsW w2 [.string ⟨(xv).toArray⟩] _) ?g1 ?g2 ?g3 ?g4 ?_)))
          case g1 => first | exact ⟨rfl⟩ | (intro u hu; simp at hu; rcases hu with rfl; rfl) | simp [Value.oneCell']
          case g2 => unfold maxLen; omega
          case g3 => omega
          case g4 => first | omega | (simp; omega)
          intro va w4 hown4 hg4 _ _
          have HO4 : Hid (w4.ownsRow w.heap.size 9 1 va (C ++ [xv]).length ((C ++ [xv]).map encS)) := by show World.ownsRow _ _ _ _ _ _ _; rw [List.map_append, List.length_append]; exact hown4
          have hb4 : Below w.heap.size w2 w4 := ((Below.refl _ _).alloc hz2 _).trans ((Below.refl _ _).grown hg4 (by simp; omega) (fun q hq => (World.ownsRow.lt hO3 q hq).1))
          have HR4 := Lib.hid (hr2.below hb4 hlt)
          have HG4 : Hid (w.grownBy w4 (some g)) := ⟨hb4.os.trans (hg2.os.trans HG.out.os), hb4.tape.trans (hg2.tape.trans HG.out.tape), hb4.output.trans (hg2.output.trans HG.out.output), Nat.le_trans hz2 hb4.size, fun i hi hne => (hb4.block i hi).trans ((hg2.block i (Nat.lt_of_lt_of_le hi hzw) hne).trans (HG.out.block i hi hne))⟩
          have HL4 : Hid (p0 + (C ++ [xv]).length ≤ xp) := by have h8 := HON2.out (by first | rfl | trivial); have h9 := HL2.out; show _ ≤ _; rw [List.length_append, List.length_singleton]; omega
          clear hown4 hg4 hb4 hr2 hg2 hO2 hO3 hz2
          go_wp2_with fail
          go_roundw
          case rel => exact ⟨k + 1, by omega, by go_num, C ++ [xv], xp, HF2, HO4, HR4, HL4, HG4⟩
          case measure => simp [RowKit.intOf]; omega
      · have HF3 : Hid (F = (C, pk, 0)) := by
          show _ = _
          rw [HF.out, HEN.out (n - k) pk 0 (by omega)]
          simp
        have d1 : decide ((k : Int) < (n : Int)) = false := by rw [decide_eq_false_iff_not]; omega
        have d2 : decide (k < n) = false := decide_eq_false hkn
        have HE := Lib.hid (HXO.out (.slice A2 C.length c2) C pk wr (by first | rfl | trivial) HF3.out HO.out HR.out HG.out)
        clear hkn HF
        go_wp2_with fail
        exact HE.out
end Go.Proofs.Ytgbdgpacnpeahaa
