/-
  What the document's Append does.
-/
import Derived.Test.YtebkgcnldbkgeaaDpG
namespace Go.Proofs.Ytebkgcnldbkgeaa
open Go.RowKit Go.Lib Go.Sort Go.Maps
set_option linter.unusedVariables false
set_option linter.unusedSimpArgs false

theorem chg_err {p : PD} {E : Nat} {F : List Fl} (hb : p.burnt = false) (h : E ≠ 0) : p.chg E F = (E, p) := by unfold PD.chg; rw [hb, if_neg (by decide), if_neg h]
theorem chg_ok {p : PD} {F : List Fl} (hb : p.burnt = false) : p.chg 0 F = (0, PD.burn { p with F := F }) := by unfold PD.chg; rw [hb, if_neg (by decide), if_pos rfl]
theorem chg_gone {p : PD} {E : Nat} {F : List Fl} (hb : p.burnt = true) : p.chg E F = (9, p) := by unfold PD.chg; rw [if_pos hb]
/-- what a call of the document's disk that answers the pair q comes to -/
def RAns (base r : Nat) (w : World) (v : Value) (q : Nat × PD) (e : Ending) (w' : World) : Prop := e = .returned (.int .i64 (q.1 : Int)) ∧ ∃ v', RT base r w w' v v' q.2
theorem str_len (b : ByteArray) : b.data.toList.length = b.size := by rw [Array.length_toList]; rfl
set_option maxRecDepth 100000 in
set_option maxHeartbeats 8000000 in
theorem rappend_any (base r : Nat) (v : Value) (p : PD) (s b : ByteArray) (w : World) (h : Rk w base r v p) (hp : p.Ok) (hb : base ≤ w.heap.size) (hs : s.size ≤ 1099511627776) (hbs : b.size ≤ 1099511627776) :
    Calls Try.prog 41 #[.pointer (some ⟨r, 0, none⟩), .string s, .string b] w (RAns base r w v (p.append s b.data.toList)) := by
  obtain ⟨X, hX⟩ : ∃ X : Ending → World → Prop, RAns base r w v (p.append s b.data.toList) = X := ⟨_, rfl⟩
  have HX9 : Hid (p.burnt = true → X (.returned (.int .i64 9)) w) := fun h9 => by rw [← hX]; unfold RAns PD.append; rw [chg_gone h9]; exact ⟨rfl, v, RT.refl h⟩
  have HXE : Hid (p.burnt = false → ∀ (E : Nat) w', p.appE s b.size = E → E ≠ 0 → Below w.heap.size w w' → X (.returned (.int .i64 (E : Int))) w') := fun h9 E w' hE h0 h1 => by
    rw [← hX]; unfold RAns PD.append; rw [str_len, hE, chg_err h9 h0]; exact ⟨rfl, v, RT.of_below h h1⟩
  have HXY : Hid (p.burnt = false → p.appE s b.size = 0 → ∀ F v' w', addF s b.data.toList (mkF s p.F) = F → RT base r w w' v v' (PD.burn { p with F := F }) → X (.returned (.int .i64 0)) w') := fun h9 hE F v' w' hF h1 => by
    rw [← hX]; unfold RAns PD.append; rw [str_len, hE, chg_ok h9, hF]; exact ⟨rfl, v', h1⟩
  rw [hX]
  clear hX
  have c3 := h.c3
  cases hbu : p.burnt with
  | true =>
    have HE := Lib.hid (HX9.out hbu)
    rw [hbu] at c3
    clear HXE HXY hbu
    go_enter Try.func41, Try.ntmps41
    go_wp2_with fail
    first
      | exact HE.out
      | (go_ret; exact HE.out)
  | false =>
    have HXE := Lib.hid (HXE.out hbu)
    have HXY := Lib.hid (HXY.out hbu)
    rw [hbu] at c3
    have HNM := Lib.hid (rname_any s w hs)
    cases hnm : nameB s with
    | false =>
      have HE := Lib.hid (HXE.out 2 w (by unfold PD.appE; rw [if_pos hnm]) (by decide) (Below.refl _ _))
      rw [hnm] at HNM
      clear HXE HXY HX9 hbu hnm
      go_enter Try.func41, Try.ntmps41
      go_wp2_with (go_at_call 61; (with_reducible refine HNM.out.mono ?_); rintro e w1 ⟨rfl, hw1⟩; have hw1' := hw1.symm; subst hw1')
      first
        | exact HE.out
        | (go_ret; exact HE.out)
    | true =>
      rw [hnm] at HNM
      have HAT := Lib.hid (rat_any base r v p s w h hp)
      have HFR := Lib.hid (rfree_any base r v p w h hp)
      have hfr : p.free ≤ 4194304 := by unfold PD.free; have := hp.r2; omega
      have hap : p.appE s b.size = if p.free < b.size ∨ ((getT Fl.key p.F s.data.toList).isNone = true ∧ 128 ≤ p.F.length) then 5 else 0 := by unfold PD.appE; rw [if_neg (by rw [hnm]; decide)]
      have HAP := Lib.hid hap
      clear hap
      by_cases h1 : p.free < b.size
      · have d1 : decide ((p.free : Int) < (b.size : Int)) = true := by rw [decide_eq_true_iff]; omega
        have d1' : decide (p.free < b.size) = true := decide_eq_true h1
        have HE := Lib.hid (fun w' hw => HXE.out 5 w' (by rw [HAP.out, if_pos (.inl h1)]) (by decide) hw)
        generalize p.free = fr at *
        clear HXE HXY HX9 hbu hnm h1 HAP
        go_enter Try.func41, Try.ntmps41
        go_wp2_with (first
          | (go_at_call 61; (with_reducible refine HNM.out.mono ?_); rintro e w1 ⟨rfl, hw1⟩; have hw1' := hw1.symm; subst hw1')
          | (go_at_call 62; (with_reducible refine HAT.out.mono ?_); rintro e w1 ⟨x, rfl, _, hw1⟩; have hw1' := hw1.symm; subst hw1')
          | (go_at_call 23; (with_reducible refine HFR.out.mono ?_); rintro e w2 ⟨rfl, hb2⟩))
        first
          | exact HE.out _ hb2
          | (go_ret; exact HE.out _ hb2)
      · have d1 : decide ((p.free : Int) < (b.size : Int)) = false := by rw [decide_eq_false_iff_not]; omega
        have d1' : decide (p.free < b.size) = false := decide_eq_false h1
        obtain ⟨A, c, rfl, hc, hcm, hF⟩ := Ths.of_row h.row rfl
        have hl := hp.len
        have H1 := Lib.hid h1
        cases hg : getT Fl.key p.F s.data.toList with
        | none =>
          have HATN : Hid (Calls Try.prog 62 #[.pointer (some ⟨r, 0, none⟩), .string s] w fun e w' => e = .returned (.int .i64 (-1)) ∧ w' = w) := HAT.out.mono fun e w' hh => by
            obtain ⟨x, he, hx, hw⟩ := hh
            unfold AtP at hx
            rw [hg] at hx
            exact ⟨by rw [he, hx], hw⟩
          have HC1 : Hid (∀ W, Below w.heap.size w W → W.cell? ⟨r, 1, none⟩ = some (.slice A p.F.length c)) := fun W hW => (hW.cell (p := ⟨r, 1, none⟩) h.rlt).trans h.c1
          by_cases h2 : 128 ≤ p.F.length
          · have d2 : decide ((128 : Int) ≤ (p.F.length : Int)) = true := by rw [decide_eq_true_iff]; omega
            have d2' : decide (128 ≤ p.F.length) = true := decide_eq_true h2
            have HE := Lib.hid (fun w' hw => HXE.out 5 w' (by rw [HAP.out, if_pos (.inr ⟨by rw [hg]; rfl, h2⟩)]) (by decide) hw)
            generalize p.free = fr at *
            generalize p.F.length = n at *
            clear HXE HXY HX9 hbu hnm h1 HAP H1 h hF hg h2
            go_enter Try.func41, Try.ntmps41
            go_wp2_with (first
              | (go_at_call 61; (with_reducible refine HNM.out.mono ?_); rintro e w1 ⟨rfl, hw1⟩; have hw1' := hw1.symm; subst hw1')
              | (go_at_call 62; (with_reducible refine HATN.out.mono ?_); rintro e w1 ⟨rfl, hw1⟩; have hw1' := hw1.symm; subst hw1')
              | (go_at_call 23; (with_reducible refine HFR.out.mono ?_); rintro e w2 ⟨rfl, hb2⟩; have c1 := HC1.out w2 hb2))
            first
              | exact HE.out _ hb2
              | (go_ret; exact HE.out _ hb2)
          · have d2 : decide ((128 : Int) ≤ (p.F.length : Int)) = false := by rw [decide_eq_false_iff_not]; omega
            have d2' : decide (128 ≤ p.F.length) = false := decide_eq_false h2
            have HE := Lib.hid (HXY.out (by rw [HAP.out, if_neg (by rw [hg]; rintro (h | ⟨_, h⟩) <;> omega)]) (insF ⟨s, b.data.toList, 0⟩ p.F))
            have HAD := Lib.hid (add_none b.data.toList hg)
            have HWI : Hid (∀ W, Below w.heap.size w W → Calls Try.prog 63 #[.pointer (some ⟨r, 0, none⟩), .agg #[.string s, .string b, .int .i64 0]] W fun e w' => e = .returned (.tuple #[]) ∧ ∃ v', RT base r w w' (.slice A p.F.length c) v' { p with F := insF ⟨s, b.data.toList, 0⟩ p.F }) := fun W hW => by
              have h3 := rwith_any base r _ p ⟨s, b.data.toList, 0⟩ W (h.below hW (Nat.le_refl _)) (by omega) (Nat.le_trans hb hW.size)
              rw [show bst (Fl.mk s b.data.toList 0).b = b from bst_of b] at h3
              refine Calls.mono h3 fun e w' hh => ?_
              obtain ⟨he, v', ht⟩ := hh
              exact ⟨he, v', (RT.of_below h hW).trans ht⟩
            have HDN : Hid (∀ W v', RT base r w W (.slice A p.F.length c) v' { p with F := insF ⟨s, b.data.toList, 0⟩ p.F } → Calls Try.prog 64 #[.pointer (some ⟨r, 0, none⟩)] W fun e w' => e = .returned (.int .i64 0) ∧ RT base r w w' (.slice A p.F.length c) v' (PD.burn { p with F := insF ⟨s, b.data.toList, 0⟩ p.F })) := fun W v' ht =>
              (rdone_any base r v' _ W ht.rk hp.l1 hp.l2 hbu).mono fun e w' hh => ⟨hh.1, ht.trans hh.2⟩
            generalize p.free = fr at *
            generalize (PD.burn { p with F := insF ⟨s, b.data.toList, 0⟩ p.F }) = p2 at *
            generalize ({ p with F := insF ⟨s, b.data.toList, 0⟩ p.F } : PD) = p1 at *
            generalize p.F.length = n at *
            clear HXE HXY HX9 hbu hnm h1 HAP H1 h hF hg h2
            go_enter Try.func41, Try.ntmps41
            go_wp2_with (first
              | (go_at_call 61; (with_reducible refine HNM.out.mono ?_); rintro e w1 ⟨rfl, hw1⟩; have hw1' := hw1.symm; subst hw1')
              | (go_at_call 62; (with_reducible refine HATN.out.mono ?_); rintro e w1 ⟨rfl, hw1⟩; have hw1' := hw1.symm; subst hw1')
              | (go_at_call 23; (with_reducible refine HFR.out.mono ?_); rintro e w2 ⟨rfl, hb2⟩; have c1 := HC1.out w2 hb2)
              | (go_at_call 63; (with_reducible refine (HWI.out _ hb2).mono ?_); rintro e w3 ⟨rfl, v3, ht3⟩; clear c1)
              | (go_at_call 64; (with_reducible refine (HDN.out _ _ ht3).mono ?_); rintro e w4 ⟨rfl, ht4⟩))
            first
              | exact HE.out _ _ HAD.out ht4
              | (go_ret; exact HE.out _ _ HAD.out ht4)
        | some f =>
          have HATN : Hid (Calls Try.prog 62 #[.pointer (some ⟨r, 0, none⟩), .string s] w fun e w' => ∃ i : Nat, i < p.F.length ∧ p.F.getD i default = f ∧ e = .returned (.int .i64 (i : Int)) ∧ w' = w) := HAT.out.mono fun e w' hh => by
            obtain ⟨x, he, hx, hw⟩ := hh
            unfold AtP at hx
            rw [hg] at hx
            obtain ⟨i, h1, h2, h3⟩ := hx
            exact ⟨i, h1, h2, by rw [he, h3], hw⟩
          have HE := Lib.hid (HXY.out (by rw [HAP.out, if_neg (by rw [hg]; rintro (h | ⟨h, _⟩); omega; cases h)]))
          have HAD : Hid (∀ i, i < p.F.length → p.F.getD i default = f → addF s b.data.toList (mkF s p.F) = p.F.set i { f with b := f.b ++ b.data.toList }) := fun i hi hf => add_some hp.rise b.data.toList hg hi hf
          have hfb : f.b.length ≤ 4194304 := Nat.le_trans (len_le_sum (getT_mem _ hg)) hp.tot
          have HST : Hid (∀ W i, Below w.heap.size w W → i < p.F.length → p.F.getD i default = f → W.cell? ⟨r, 1, none⟩ = some (.slice A p.F.length c) ∧ ∃ q, A = some q ∧ W.cell? ⟨(q.add (i * 3)).block, (q.add (i * 3)).off + 1, none⟩ = some (.string (bst f.b)) ∧ W.frozen? ⟨(q.add (i * 3)).block, (q.add (i * 3)).off + 1, none⟩ = false ∧ RT base r w (W.setCell ⟨(q.add (i * 3)).block, (q.add (i * 3)).off + 1, none⟩ (.string (bst f.b ++ b))) (.slice A p.F.length c) (.slice A p.F.length c) { p with F := p.F.set i { f with b := f.b ++ b.data.toList } }) := fun W i hW hi hf => by
            have hK := h.below hW (Nat.le_refl _)
            obtain ⟨q, e, _, s0, s1, s2⟩ := Fs.row (hF.below hW) hi
            obtain ⟨q2, e2, hz, ht⟩ := hK.elem (f' := { f with b := f.b ++ b.data.toList }) (u := .string (bst f.b ++ b)) rfl hi (show 1 < 3 by omega) (by rw [hf, bst_append]; rfl)
            rw [e] at e2
            injection e2 with e2
            subst e2
            rw [hf] at s1
            exact ⟨(hW.cell (p := ⟨r, 1, none⟩) h.rlt).trans h.c1, q, e, s1, hz, (RT.of_below h hW).trans ht⟩
          have HDN : Hid (∀ i W v', RT base r w W (.slice A p.F.length c) v' { p with F := p.F.set i { f with b := f.b ++ b.data.toList } } → Calls Try.prog 64 #[.pointer (some ⟨r, 0, none⟩)] W fun e w' => e = .returned (.int .i64 0) ∧ RT base r w w' (.slice A p.F.length c) v' (PD.burn { p with F := p.F.set i { f with b := f.b ++ b.data.toList } })) := fun i W v' ht =>
            (rdone_any base r v' _ W ht.rk hp.l1 hp.l2 hbu).mono fun e w' hh => ⟨hh.1, ht.trans hh.2⟩
          obtain ⟨P1, hP1⟩ : ∃ P1 : Nat → PD, ∀ i, P1 i = { p with F := p.F.set i { f with b := f.b ++ b.data.toList } } := ⟨_, fun _ => rfl⟩
          simp only [← hP1] at HST HDN
          have HE2 : Hid (∀ i v' w', i < p.F.length → p.F.getD i default = f → RT base r w w' (.slice A p.F.length c) v' (PD.burn (P1 i)) → X (.returned (.int .i64 0)) w') := fun i v' w' h1 h2 h3 => HE.out _ v' w' (HAD.out i h1 h2) (by rw [hP1] at h3; exact h3)
          obtain ⟨bf, hbf⟩ : ∃ bf, bst f.b = bf := ⟨_, rfl⟩
          have hbz : bf.size ≤ 4194304 := by rw [← hbf, bst_size]; exact hfb
          rw [hbf] at HST
          generalize p.free = fr at *
          obtain ⟨n, hn⟩ : ∃ n, p.F.length = n := ⟨_, rfl⟩
          rw [hn] at HATN HST HDN HE2 hl hc
          clear HXE HXY HX9 hbu hnm h1 HAP H1 h hF hg hP1 HE HAD hbf hn hfb
          go_enter Try.func41, Try.ntmps41
          go_upto_region 10 with (first
            | (go_at_call 61; (with_reducible refine HNM.out.mono ?_); rintro e w1 ⟨rfl, hw1⟩; have hw1' := hw1.symm; subst hw1')
            | (go_at_call 62; (with_reducible refine HATN.out.mono ?_); rintro e w1 ⟨i, hi, hif, rfl, hw1⟩; have hw1' := hw1.symm; subst hw1'; have HIF := Lib.hid hif; clear hif; have hiz : (i : Int) < (n : Int) := (by omega); have d3 : decide ((i : Int) < 0) = false := (by rw [decide_eq_false_iff_not]; omega))
            | (go_at_call 23; (with_reducible refine HFR.out.mono ?_); rintro e w2 ⟨rfl, hb2⟩))
          obtain ⟨c1, q, rfl, s1, z1, ht2⟩ := HST.out w2 i hb2 hi HIF.out
          have HT2 := Lib.hid ht2
          clear ht2
          have esz : ¬ (9223372036854775807 < ((bf.size : Int) + (b.size : Int))) := by omega
          go_wp2_with (go_at_call 64; (with_reducible refine (HDN.out i _ _ HT2.out).mono ?_); rintro e w4 ⟨rfl, ht4⟩)
          first
            | exact HE2.out i _ _ hi HIF.out ht4
            | (go_ret; exact HE2.out i _ _ hi HIF.out ht4)
end Go.Proofs.Ytebkgcnldbkgeaa
