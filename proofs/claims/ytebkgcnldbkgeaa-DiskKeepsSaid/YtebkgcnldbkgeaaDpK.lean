/-
  What the document's Cut does.
-/
import Derived.Test.YtebkgcnldbkgeaaDpJ
import Derived.StillTailTactics
namespace Go.Proofs.Ytebkgcnldbkgeaa
open Go.RowKit Go.Lib Go.Sort Go.Maps
set_option linter.unusedVariables false
set_option linter.unusedSimpArgs false

theorem bst_take (l : List UInt8) (m : Nat) : (bst l).extract 0 m = bst (l.take m) := by
  refine ByteArray.ext ?_
  rw [ByteArray.data_extract]
  unfold bst
  refine Array.toList_inj.1 ?_
  simp
set_option maxRecDepth 100000 in
set_option maxHeartbeats 8000000 in
theorem rcut_any (base r : Nat) (v : Value) (p : PD) (s : ByteArray) (n : Int) (w : World) (h : Rk w base r v p) (hp : p.Ok) (hb : base ≤ w.heap.size) :
    Calls Try.prog 44 #[.pointer (some ⟨r, 0, none⟩), .string s, .int .i64 n] w (RAns base r w v (p.cut s n)) := by
  obtain ⟨X, hX⟩ : ∃ X : Ending → World → Prop, RAns base r w v (p.cut s n) = X := ⟨_, rfl⟩
  have HX9 : Hid (p.burnt = true → X (.returned (.int .i64 9)) w) := fun h9 => by rw [← hX]; unfold RAns PD.cut; rw [chg_gone h9]; exact ⟨rfl, v, RT.refl h⟩
  have HX3 : Hid (p.burnt = false → getT Fl.key p.F s.data.toList = none → X (.returned (.int .i64 3)) w) := fun h9 hg => by
    rw [← hX]; unfold RAns PD.cut cutE; rw [hg]; simp only; rw [chg_err h9 (by decide)]; exact ⟨rfl, v, RT.refl h⟩
  have HX2 : Hid (p.burnt = false → ∀ f, getT Fl.key p.F s.data.toList = some f → (n < 0 ∨ (f.b.length : Int) < n) → ∀ w', Below w.heap.size w w' → X (.returned (.int .i64 2)) w') := fun h9 f hg hn w' hw => by
    rw [← hX]; unfold RAns PD.cut cutE; rw [hg]; simp only; rw [if_pos hn, chg_err h9 (by decide)]; exact ⟨rfl, v, RT.of_below h hw⟩
  have HXY : Hid (p.burnt = false → ∀ f, getT Fl.key p.F s.data.toList = some f → ¬ (n < 0 ∨ (f.b.length : Int) < n) → ∀ F v' w', cutF s n.toNat p.F = F → RT base r w w' v v' (PD.burn { p with F := F }) → X (.returned (.int .i64 0)) w') := fun h9 f hg hn F v' w' hF h1 => by
    rw [← hX]; unfold RAns PD.cut cutE; rw [hg]; simp only; rw [if_neg hn, chg_ok h9, hF]; exact ⟨rfl, v', h1⟩
  rw [hX]
  clear hX
  have c3 := h.c3
  cases hbu : p.burnt with
  | true =>
    have HE := Lib.hid (HX9.out hbu)
    rw [hbu] at c3
    clear HX3 HX2 HXY hbu
    go_enter Try.func44, Try.ntmps44
    go_wp2_with fail
    first
      | exact HE.out
      | (go_ret; exact HE.out)
  | false =>
    have HX3 := Lib.hid (HX3.out hbu)
    have HX2 := Lib.hid (HX2.out hbu)
    have HXY := Lib.hid (HXY.out hbu)
    rw [hbu] at c3
    have HAT := Lib.hid (rat_any base r v p s w h hp)
    cases hg : getT Fl.key p.F s.data.toList with
    | none =>
      have HATN : Hid (Calls Try.prog 62 #[.pointer (some ⟨r, 0, none⟩), .string s] w fun e w' => e = .returned (.int .i64 (-1)) ∧ w' = w) := HAT.out.mono fun e w' hh => by
        obtain ⟨x, he, hx, hw⟩ := hh
        unfold AtP at hx
        rw [hg] at hx
        exact ⟨by rw [he, hx], hw⟩
      have HE := Lib.hid (HX3.out hg)
      clear HX3 HX2 HXY HX9 hbu hg h hp HAT
      go_enter Try.func44, Try.ntmps44
      go_wp2_with (go_at_call 62; (with_reducible refine HATN.out.mono ?_); rintro e w1 ⟨rfl, hw1⟩; have hw1' := hw1.symm; subst hw1')
      first
        | exact HE.out
        | (go_ret; exact HE.out)
    | some f =>
      have HATN : Hid (Calls Try.prog 62 #[.pointer (some ⟨r, 0, none⟩), .string s] w fun e w' => ∃ i : Nat, i < p.F.length ∧ p.F.getD i default = f ∧ e = .returned (.int .i64 (i : Int)) ∧ w' = w) := HAT.out.mono fun e w' hh => by
        obtain ⟨x, he, hx, hw⟩ := hh
        unfold AtP at hx
        rw [hg] at hx
        obtain ⟨i, h1, h2, h3⟩ := hx
        exact ⟨i, h1, h2, by rw [he, h3], hw⟩
      have hl := hp.len
      obtain ⟨A, c, rfl, hc, hcm, hF⟩ := Ths.of_row h.row rfl
      have c1 := h.c1
      have hfb : f.b.length ≤ 4194304 := Nat.le_trans (len_le_sum (getT_mem _ hg)) hp.tot
      have hkf : f.kept ≤ f.b.length := hp.kept f (getT_mem _ hg)
      have HRW : Hid (∀ i, i < p.F.length → p.F.getD i default = f → ∃ q, A = some q ∧ w.cell? ⟨(q.add (i * 3)).block, (q.add (i * 3)).off + 1, none⟩ = some (.string (bst f.b))) := fun i hi hf => by
        obtain ⟨q, e, _, s0, s1, s2⟩ := Fs.row hF hi
        rw [hf] at s1
        exact ⟨q, e, s1⟩
      have hbz : (bst f.b).size = f.b.length := bst_size _
      by_cases h1 : n < 0
      · have d1 : decide (n < 0) = true := decide_eq_true h1
        have HE := Lib.hid (HX2.out f hg (.inl h1) w (Below.refl _ _))
        generalize p.F.length = k at *
        clear HX3 HX2 HXY HX9 hbu hg h hp HAT hF hbz h1 HRW hfb
        go_enter Try.func44, Try.ntmps44
        go_wp2_with (go_at_call 62; (with_reducible refine HATN.out.mono ?_); rintro e w1 ⟨i, hi, hif, rfl, hw1⟩; have hw1' := hw1.symm; subst hw1'; clear hif; have d3 : decide ((i : Int) < 0) = false := (by rw [decide_eq_false_iff_not]; omega))
        first
          | exact HE.out
          | (go_ret; exact HE.out)
      · have d1 : decide (n < 0) = false := decide_eq_false h1
        obtain ⟨m, rfl⟩ : ∃ m : Nat, n = (m : Int) := ⟨n.toNat, by omega⟩
        by_cases h2 : f.b.length < m
        · have HE := Lib.hid (HX2.out f hg (.inr (by omega)) w (Below.refl _ _))
          obtain ⟨bf, hbf⟩ : ∃ x, bst f.b = x := ⟨_, rfl⟩
          rw [hbf] at HRW hbz
          rw [← hbz] at h2 hfb
          have d4 : decide ((bf.size : Int) < (m : Int)) = true := by rw [decide_eq_true_iff]; omega
          have d4' : decide (bf.size < m) = true := decide_eq_true h2
          generalize p.F.length = k at *
          clear HX3 HX2 HXY HX9 hbu hg h hp HAT hF hbz h1 hbf h2
          go_enter Try.func44, Try.ntmps44
          go_upto_region 6 with (go_at_call 62; (with_reducible refine HATN.out.mono ?_); rintro e w1 ⟨i, hi, hif, rfl, hw1⟩; have hw1' := hw1.symm; subst hw1'; have HIF := Lib.hid hif; clear hif; have hiz : (i : Int) < (k : Int) := (by omega); have d3 : decide ((i : Int) < 0) = false := (by rw [decide_eq_false_iff_not]; omega))
          obtain ⟨q, rfl, s1⟩ := HRW.out i hi HIF.out
          go_wp2_with fail
          first
            | exact HE.out
            | (go_ret; exact HE.out)
        · have hm : m ≤ f.b.length := by omega
          have HE := Lib.hid (HXY.out f hg (by omega))
          -- what is stored
          have HST : Hid (∀ W i, Below w.heap.size w W → i < p.F.length → p.F.getD i default = f → W.cell? ⟨r, 1, none⟩ = some (.slice A p.F.length c) ∧ ∃ q, A = some q ∧ W.cell? ⟨(q.add (i * 3)).block, (q.add (i * 3)).off + 1, none⟩ = some (.string (bst f.b)) ∧ W.frozen? ⟨(q.add (i * 3)).block, (q.add (i * 3)).off + 1, none⟩ = false ∧ RT base r w (W.setCell ⟨(q.add (i * 3)).block, (q.add (i * 3)).off + 1, none⟩ (.string ((bst f.b).extract 0 m))) (.slice A p.F.length c) (.slice A p.F.length c) { p with F := p.F.set i { f with b := f.b.take m } }) := fun W i hW hi hf => by
            have hK := h.below hW (Nat.le_refl _)
            obtain ⟨q, e, _, s0, s1, s2⟩ := Fs.row (hF.below hW) hi
            obtain ⟨q2, e2, hz, ht⟩ := hK.elem (f' := { f with b := f.b.take m }) (u := .string ((bst f.b).extract 0 m)) rfl hi (show 1 < 3 by omega) (by rw [hf, bst_take]; rfl)
            rw [e] at e2
            injection e2 with e2
            subst e2
            rw [hf] at s1
            exact ⟨(hW.cell (p := ⟨r, 1, none⟩) h.rlt).trans h.c1, q, e, s1, hz, (RT.of_below h hW).trans ht⟩
          have HST2 : Hid (∀ W i, RT base r w W (.slice A p.F.length c) (.slice A p.F.length c) { p with F := p.F.set i { f with b := f.b.take m } } → i < p.F.length → W.cell? ⟨r, 1, none⟩ = some (.slice A p.F.length c) ∧ ∃ q, A = some q ∧ W.cell? ⟨(q.add (i * 3)).block, (q.add (i * 3)).off + 2, none⟩ = some (.int .i64 (f.kept : Int)) ∧ W.frozen? ⟨(q.add (i * 3)).block, (q.add (i * 3)).off + 2, none⟩ = false ∧ RT base r w (W.setCell ⟨(q.add (i * 3)).block, (q.add (i * 3)).off + 2, none⟩ (.int .i64 (m : Int))) (.slice A p.F.length c) (.slice A p.F.length c) { p with F := p.F.set i { f with b := f.b.take m, kept := m } }) := fun W i hT hi => by
            have hgd : (p.F.set i { f with b := f.b.take m }).getD i default = { f with b := f.b.take m } := by rw [List.getD_eq_getElem?_getD, List.getElem?_set_self (by omega)]; rfl
            have hlen : (p.F.set i { f with b := f.b.take m }).length = p.F.length := List.length_set
            obtain ⟨A', c', e', _, _, hF'⟩ := Ths.of_row hT.rk.row rfl
            injection e' with e1 e2 e3
            subst e1
            obtain ⟨q, e, _, s0, s1, s2⟩ := Fs.row hF' (k := i) (by show i < (p.F.set i _).length; omega)
            obtain ⟨q2, eq2, hz, ht⟩ := hT.rk.elem (i := i) (j := 2) (f' := { f with b := f.b.take m, kept := m }) (u := .int .i64 (m : Int)) hlen hi (by omega) (by show _ = (((p.F.set i _).getD i default).cells).set 2 _; rw [hgd]; rfl)
            rw [e] at eq2
            injection eq2 with eq2
            subst eq2
            have s2' : W.cell? ⟨(q.add (i * 3)).block, (q.add (i * 3)).off + 2, none⟩ = some (.int .i64 (((p.F.set i { f with b := f.b.take m }).getD i default).kept : Int)) := s2
            rw [hgd] at s2'
            refine ⟨hT.rk.c1, q, e, s2', hz, hT.trans ?_⟩
            have e9 : (p.F.set i { f with b := f.b.take m }).set i { f with b := f.b.take m, kept := m } = p.F.set i { f with b := f.b.take m, kept := m } := List.set_set ..
            have ht' := ht
            simp only [e9] at ht'
            exact ht'
          have HCF : Hid (∀ i, i < p.F.length → p.F.getD i default = f → cutF s m p.F = p.F.set i { f with b := f.b.take m, kept := min f.kept m }) := fun i hi hf => by
            unfold cutF
            rw [map_one hp.rise hi (by rw [hf]; exact getT_name hg) (fun f => { f with b := f.b.take m, kept := min f.kept m }), hf]
          have HDN : Hid (∀ F W v', RT base r w W (.slice A p.F.length c) v' { p with F := F } → Calls Try.prog 64 #[.pointer (some ⟨r, 0, none⟩)] W fun e w' => e = .returned (.int .i64 0) ∧ RT base r w w' (.slice A p.F.length c) v' (PD.burn { p with F := F })) := fun F W v' ht =>
            (rdone_any base r v' _ W ht.rk hp.l1 hp.l2 hbu).mono fun e w' hh => ⟨hh.1, ht.trans hh.2⟩
          obtain ⟨P1, hP1⟩ : ∃ P1 : Nat → PD, ∀ i, P1 i = { p with F := p.F.set i { f with b := f.b.take m } } := ⟨_, fun _ => rfl⟩
          obtain ⟨P2, hP2⟩ : ∃ P2 : Nat → PD, ∀ i, P2 i = { p with F := p.F.set i { f with b := f.b.take m, kept := m } } := ⟨_, fun _ => rfl⟩
          have HD1 : Hid (∀ i W v', RT base r w W (.slice A p.F.length c) v' (P1 i) → Calls Try.prog 64 #[.pointer (some ⟨r, 0, none⟩)] W fun e w' => e = .returned (.int .i64 0) ∧ RT base r w w' (.slice A p.F.length c) v' (PD.burn (P1 i))) := fun i W v' ht => by rw [hP1] at ht ⊢; exact HDN.out _ W v' ht
          have HD2 : Hid (∀ i W v', RT base r w W (.slice A p.F.length c) v' (P2 i) → Calls Try.prog 64 #[.pointer (some ⟨r, 0, none⟩)] W fun e w' => e = .returned (.int .i64 0) ∧ RT base r w w' (.slice A p.F.length c) v' (PD.burn (P2 i))) := fun i W v' ht => by rw [hP2] at ht ⊢; exact HDN.out _ W v' ht
          have HE1 : Hid (f.kept ≤ m → ∀ i v' w', i < p.F.length → p.F.getD i default = f → RT base r w w' (.slice A p.F.length c) v' (PD.burn (P1 i)) → X (.returned (.int .i64 0)) w') := fun hk i v' w' h1 h2 h3 => HE.out _ v' w' (by rw [Int.toNat_natCast, HCF.out i h1 h2, Nat.min_eq_left hk]) (by rw [hP1] at h3; exact h3)
          have HE2 : Hid (m ≤ f.kept → ∀ i v' w', i < p.F.length → p.F.getD i default = f → RT base r w w' (.slice A p.F.length c) v' (PD.burn (P2 i)) → X (.returned (.int .i64 0)) w') := fun hk i v' w' h1 h2 h3 => HE.out _ v' w' (by rw [Int.toNat_natCast, HCF.out i h1 h2, Nat.min_eq_right hk]) (by rw [hP2] at h3; exact h3)
          simp only [← hP1, ← hP2] at HST HST2
          obtain ⟨bf, hbf⟩ : ∃ bf, bst f.b = bf := ⟨_, rfl⟩
          rw [hbf] at HRW hbz HST
          rw [← hbz] at hm hfb
          obtain ⟨kf, hke⟩ : ∃ x, f.kept = x := ⟨_, rfl⟩
          rw [hke] at HST2 HE1 HE2 hkf
          have d4 : decide ((bf.size : Int) < (m : Int)) = false := by rw [decide_eq_false_iff_not]; omega
          have d4' : decide (bf.size < m) = false := by rw [decide_eq_false_iff_not]; omega
          have hmz : (m : Int) ≤ (bf.size : Int) := by omega
          obtain ⟨k, hk⟩ : ∃ k, p.F.length = k := ⟨_, rfl⟩
          rw [hk] at HATN HRW HST HST2 HD1 HD2 HE1 HE2 hl hc c1
          clear HX3 HX2 HXY HX9 hbu hg h hp HAT hF hbz h1 hbf h2 hP1 hP2 HE HCF HDN hk hke
          go_enter Try.func44, Try.ntmps44
          go_upto_region 6 with (go_at_call 62; (with_reducible refine HATN.out.mono ?_); rintro e w1 ⟨i, hi, hif, rfl, hw1⟩; have hw1' := hw1.symm; subst hw1'; have HIF := Lib.hid hif; clear hif; have hiz : (i : Int) < (k : Int) := (by omega); have d3 : decide ((i : Int) < 0) = false := (by rw [decide_eq_false_iff_not]; omega))
          obtain ⟨q, rfl, s1⟩ := HRW.out i hi HIF.out
          go_upto_region 8 with fail
          go_still_tail 17, (by kernel_rfl)
          change wpList _ _ _ _ _ w.drew
          obtain ⟨y1, q', hq', s1', z1, ht1⟩ := HST.out w.drew i ((Below.refl _ _).drew) hi HIF.out
          injection hq' with hq'
          subst hq'
          have HT1 := Lib.hid ht1
          clear ht1 c1 s1 c3
          generalize w.drew = w2 at *
          obtain ⟨w3, hw3⟩ : ∃ w3, w2.setCell ⟨(q.add (i * 3)).block, (q.add (i * 3)).off + 1, none⟩ (.string (bf.extract 0 m)) = w3 := ⟨_, rfl⟩
          rw [hw3] at HT1
          have HW3 := Lib.hid hw3
          clear hw3
          go_upto_region 9 with fail
          rw [HW3.out]
          clear y1 s1' z1
          obtain ⟨y1, q', hq', s2, z2, ht2⟩ := HST2.out w3 i HT1.out hi
          injection hq' with hq'
          subst hq'
          have HT2 := Lib.hid ht2
          clear ht2
          by_cases hk : m < kf
          · have d5 : decide ((m : Int) < (kf : Int)) = true := by rw [decide_eq_true_iff]; omega
            have d5' : decide (m < kf) = true := decide_eq_true hk
            have HEE := Lib.hid (HE2.out (by omega) i)
            clear hk
            go_wp2_with (go_at_call 64; (with_reducible refine (HD2.out i _ _ HT2.out).mono ?_); rintro e w4 ⟨rfl, ht4⟩)
            first
              | exact HEE.out _ _ hi HIF.out ht4
              | (go_ret; exact HEE.out _ _ hi HIF.out ht4)
          · have d5 : decide ((m : Int) < (kf : Int)) = false := by rw [decide_eq_false_iff_not]; omega
            have d5' : decide (m < kf) = false := decide_eq_false hk
            have HEE := Lib.hid (HE1.out (by omega) i)
            clear hk
            go_wp2_with (go_at_call 64; (with_reducible refine (HD1.out i _ _ HT1.out).mono ?_); rintro e w4 ⟨rfl, ht4⟩)
            first
              | exact HEE.out _ _ hi HIF.out ht4
              | (go_ret; exact HEE.out _ _ hi HIF.out ht4)
end Go.Proofs.Ytebkgcnldbkgeaa
