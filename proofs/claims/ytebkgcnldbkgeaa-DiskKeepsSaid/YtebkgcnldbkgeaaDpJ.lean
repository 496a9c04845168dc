/-
  What the document's Rename does.
-/
import Derived.Test.YtebkgcnldbkgeaaDpI
namespace Go.Proofs.Ytebkgcnldbkgeaa
open Go.RowKit Go.Lib Go.Sort Go.Maps
set_option linter.unusedVariables false
set_option linter.unusedSimpArgs false

theorem delF_none {s : ByteArray} {F : List Fl} (h : ∀ f ∈ F, f.name ≠ s) : delF s F = F := List.filter_eq_self.2 fun f hf => by rw [decide_eq_false (fun e => h f hf (key_iff.1 e))]; rfl
theorem ins_head {g : Fl} {l : List Fl} (h : ∀ x ∈ l, ltT g.key x.key) : insF g l = g :: l := by
  unfold insF
  cases l with
  | nil => rfl
  | cons z l => unfold insT; rw [if_pos (h z (by simp))]
theorem del_ins {F : List Fl} (hr : RiseT Fl.key F) {g : Fl} (hg : g ∈ F) : insF g (delF g.name F) = F := by
  induction F with
  | nil => cases hg
  | cons y l ih =>
    obtain ⟨h1, h2⟩ := List.pairwise_cons.1 hr
    by_cases e : y.name = g.name
    · have hyg : y = g := rise_inj Fl.key hr (by simp) hg (by unfold Fl.key; rw [e])
      subst hyg
      have hd : delF y.name (y :: l) = l := by
        show List.filter _ _ = _
        rw [List.filter_cons, decide_eq_true (show y.key = y.name.data.toList from rfl)]
        show List.filter _ l = l
        exact delF_none fun f hf e2 => ltT_ne (h1 f hf) (by unfold Fl.key; rw [e2])
      rw [hd, ins_head h1]
    · have hl : g ∈ l := by
        rcases List.mem_cons.1 hg with rfl | h
        · exact absurd rfl e
        · exact h
      have hd : delF g.name (y :: l) = y :: delF g.name l := by
        show List.filter _ _ = _
        rw [List.filter_cons, decide_eq_false (fun e2 => e (key_iff.1 e2))]
        rfl
      rw [hd]
      have hb : bytesBefore g.key y.key = false := by
        cases hb : bytesBefore g.key y.key with
        | false => rfl
        | true =>
          have := WideShapes.bytes_trans _ _ _ (h1 g hl) hb
          rw [WideAt.bytes_irrefl] at this
          cases this
      show insT _ _ (y :: _) = _
      unfold insT
      rw [if_neg (by rw [hb]; simp)]
      congr 1
      exact ih h2 hl
theorem delF_twice (s : ByteArray) (F : List Fl) : delF s (delF s F) = delF s F := delF_none fun f hf e => by
  have := (List.mem_filter.1 hf).2
  rw [decide_eq_true (key_iff.2 e)] at this
  cases this
theorem ren_self {F : List Fl} (hr : RiseT Fl.key F) {s : ByteArray} {g : Fl} (hg : getT Fl.key F s.data.toList = some g) : renF g s F = F := by
  have hn := getT_name hg
  subst hn
  unfold renF
  rw [delF_twice]
  exact del_ins hr (getT_mem _ hg)
theorem RT.keeps {base r : Nat} {w w' : World} {v v' : Value} {p' : PD} (h : RT base r w w' v v' p') {k : Nat} (hk : k < w.heap.size) (hn : k ∉ rfoot r v) : w'.heap[k]? = w.heap[k]? := h.tu.block k hk hn
theorem foot_out {r k : Nat} {v : Value} (h1 : k ≠ r) (h2 : v.ownBlock ≠ some k) : k ∉ rfoot r v := fun h => by
  unfold rfoot at h
  rcases List.mem_cons.1 h with e | h
  · exact h1 e
  · exact h2 (Option.mem_toList.1 h)
theorem RT.out_ {base r : Nat} {w w' : World} {v v' : Value} {p' : PD} (h : RT base r w w' v v' p') {k : Nat} (hk : k < w.heap.size) (hn : k ∉ rfoot r v) : k ∉ rfoot r v' := fun h2 => (h.foot k h2).elim hn (fun h3 => by omega)
set_option maxRecDepth 100000 in
set_option maxHeartbeats 8000000 in
theorem rrename_any (base r : Nat) (v : Value) (p : PD) (fr tn : ByteArray) (w : World) (h : Rk w base r v p) (hp : p.Ok) (hb : base ≤ w.heap.size) (ht : tn.size ≤ 1099511627776) :
    Calls Try.prog 46 #[.pointer (some ⟨r, 0, none⟩), .string fr, .string tn] w (RAns base r w v (p.rename fr tn)) := by
  obtain ⟨X, hX⟩ : ∃ X : Ending → World → Prop, RAns base r w v (p.rename fr tn) = X := ⟨_, rfl⟩
  have HX9 : Hid (p.burnt = true → X (.returned (.int .i64 9)) w) := fun h9 => by rw [← hX]; unfold RAns PD.rename; rw [chg_gone h9]; exact ⟨rfl, v, RT.refl h⟩
  have HX3 : Hid (p.burnt = false → getT Fl.key p.F fr.data.toList = none → X (.returned (.int .i64 3)) w) := fun h9 hg => by
    rw [← hX]; unfold RAns PD.rename PD.renE; rw [hg]; rw [show (if (none : Option Fl).isNone = true then 3 else if nameB tn = false then 2 else 0) = 3 from rfl, chg_err h9 (by decide)]; exact ⟨rfl, v, RT.refl h⟩
  have HX2 : Hid (p.burnt = false → ∀ f, getT Fl.key p.F fr.data.toList = some f → nameB tn = false → X (.returned (.int .i64 2)) w) := fun h9 f hg hn => by
    rw [← hX]; unfold RAns PD.rename PD.renE; rw [hg]; rw [show (if (some f).isNone = true then 3 else if nameB tn = false then 2 else 0) = 2 by rw [if_neg (by simp), if_pos hn], chg_err h9 (by decide)]; exact ⟨rfl, v, RT.refl h⟩
  have HXY : Hid (p.burnt = false → ∀ f, getT Fl.key p.F fr.data.toList = some f → nameB tn = true → ∀ F v' w', renF f tn p.F = F → RT base r w w' v v' (PD.burn { p with F := F }) → X (.returned (.int .i64 0)) w') := fun h9 f hg hn F v' w' hF h1 => by
    rw [← hX]; unfold RAns PD.rename PD.renE PD.renF; rw [hg]; rw [show (if (some f).isNone = true then 3 else if nameB tn = false then 2 else 0) = 0 by rw [if_neg (by simp), if_neg (by rw [hn]; simp)], chg_ok h9]; simp only; rw [hF]; exact ⟨rfl, v', h1⟩
  rw [hX]
  clear hX
  have c3 := h.c3
  cases hbu : p.burnt with
  | true =>
    have HE := Lib.hid (HX9.out hbu)
    rw [hbu] at c3
    clear HX3 HX2 HXY hbu
    go_enter Try.func46, Try.ntmps46
    go_wp2_with fail
    first
      | exact HE.out
      | (go_ret; exact HE.out)
  | false =>
    have HX3 := Lib.hid (HX3.out hbu)
    have HX2 := Lib.hid (HX2.out hbu)
    have HXY := Lib.hid (HXY.out hbu)
    rw [hbu] at c3
    have HAT := Lib.hid (rat_any base r v p fr w h hp)
    have HNM := Lib.hid (rname_any tn w ht)
    cases hg : getT Fl.key p.F fr.data.toList with
    | none =>
      have HATN : Hid (Calls Try.prog 62 #[.pointer (some ⟨r, 0, none⟩), .string fr] w fun e w' => e = .returned (.int .i64 (-1)) ∧ w' = w) := HAT.out.mono fun e w' hh => by
        obtain ⟨x, he, hx, hw⟩ := hh
        unfold AtP at hx
        rw [hg] at hx
        exact ⟨by rw [he, hx], hw⟩
      have HE := Lib.hid (HX3.out hg)
      clear HX3 HX2 HXY HX9 hbu hg h hp HAT
      go_enter Try.func46, Try.ntmps46
      go_wp2_with (go_at_call 62; (with_reducible refine HATN.out.mono ?_); rintro e w1 ⟨rfl, hw1⟩; have hw1' := hw1.symm; subst hw1')
      first
        | exact HE.out
        | (go_ret; exact HE.out)
    | some f =>
      have HATN : Hid (Calls Try.prog 62 #[.pointer (some ⟨r, 0, none⟩), .string fr] w fun e w' => ∃ i : Nat, i < p.F.length ∧ p.F.getD i default = f ∧ e = .returned (.int .i64 (i : Int)) ∧ w' = w) := HAT.out.mono fun e w' hh => by
        obtain ⟨x, he, hx, hw⟩ := hh
        unfold AtP at hx
        rw [hg] at hx
        obtain ⟨i, h1, h2, h3⟩ := hx
        exact ⟨i, h1, h2, by rw [he, h3], hw⟩
      cases hnm : nameB tn with
      | false =>
        have HE := Lib.hid (HX2.out f hg hnm)
        rw [hnm] at HNM
        have hl := hp.len
        generalize p.F.length = n at *
        clear HX3 HX2 HXY HX9 hbu hg h hp HAT hnm
        go_enter Try.func46, Try.ntmps46
        go_wp2_with (first
          | (go_at_call 62; (with_reducible refine HATN.out.mono ?_); rintro e w1 ⟨i, hi, hif, rfl, hw1⟩; have hw1' := hw1.symm; subst hw1'; clear hif; have d3 : decide ((i : Int) < 0) = false := (by rw [decide_eq_false_iff_not]; omega))
          | (go_at_call 61; (with_reducible refine HNM.out.mono ?_); rintro e w1 ⟨rfl, hw1⟩; have hw1' := hw1.symm; subst hw1'))
        first
          | exact HE.out
          | (go_ret; exact HE.out)
      | true =>
        rw [hnm] at HNM
        have HE := Lib.hid (HXY.out f hg hnm)
        have hl := hp.len
        by_cases hft : fr = tn
        · have e1 : (fr.toList == tn.toList) = true := by rw [hft]; simp
          have e2 : (fr.toList != tn.toList) = false := by rw [hft]; simp
          have HE2 := Lib.hid (fun w' => HE.out p.F v w' (by rw [← hft]; exact ren_self hp.rise hg))
          have HDN : Hid (Calls Try.prog 64 #[.pointer (some ⟨r, 0, none⟩)] w fun e w' => e = .returned (.int .i64 0) ∧ RT base r w w' v v (PD.burn { p with F := p.F })) := rdone_any base r v p w h hp.l1 hp.l2 hbu
          generalize (PD.burn { p with F := p.F }) = p2 at *
          generalize p.F.length = n at *
          clear HX3 HX2 HXY HX9 hbu hg h hp HAT hnm hft HE
          go_enter Try.func46, Try.ntmps46
          go_wp2_with (first
            | (go_at_call 62; (with_reducible refine HATN.out.mono ?_); rintro e w1 ⟨i, hi, hif, rfl, hw1⟩; have hw1' := hw1.symm; subst hw1'; clear hif; have d3 : decide ((i : Int) < 0) = false := (by rw [decide_eq_false_iff_not]; omega))
            | (go_at_call 61; (with_reducible refine HNM.out.mono ?_); rintro e w1 ⟨rfl, hw1⟩; have hw1' := hw1.symm; subst hw1')
            | (go_at_call 64; (with_reducible refine HDN.out.mono ?_); rintro e w4 ⟨rfl, ht4⟩))
          first
            | exact HE2.out _ ht4
            | (go_ret; exact HE2.out _ ht4)
        · have e1 : (fr.toList == tn.toList) = false := by rw [beq_eq_false_iff_ne]; exact fun e => hft (str_eq.1 e)
          have e2 : (fr.toList != tn.toList) = true := by simp only [bne, e1]; rfl
          obtain ⟨A, c, rfl, hc, hcm, hF⟩ := Ths.of_row h.row rfl
          have HF := Lib.hid hF
          have c1 := h.c1
          have hn := getT_name hg
          obtain ⟨bf, hbf⟩ : ∃ x, bst f.b = x := ⟨_, rfl⟩
          obtain ⟨kf, hkf⟩ : ∃ x, f.kept = x := ⟨_, rfl⟩
          have HRW : Hid (∀ i, i < p.F.length → p.F.getD i default = f → ∃ q, A = some q ∧ w.cell? (q.add (i * 3)) = some (.string fr) ∧ w.cell? ⟨(q.add (i * 3)).block, (q.add (i * 3)).off + 1, none⟩ = some (.string bf) ∧ w.cell? ⟨(q.add (i * 3)).block, (q.add (i * 3)).off + 2, none⟩ = some (.int .i64 (kf : Int))) := fun i hi hf => by
            obtain ⟨q, e, _, s0, s1, s2⟩ := Fs.row hF hi
            rw [hf, hn] at s0
            rw [hf, hbf] at s1
            rw [hf, hkf] at s2
            exact ⟨q, e, s0, s1, s2⟩
          -- the box, and its name
          have hal := (Below.refl w.heap.size w).alloc (Nat.le_refl _) (.cells #[.string fr, .string bf, .int .i64 (kf : Int)] 84)
          have hN0 := heap_alloc_new w (.cells #[.string fr, .string bf, .int .i64 (kf : Int)] 84)
          have hb6 := hal.setCell (p := ⟨w.heap.size, 0, none⟩) (Nat.le_refl _) (.string tn)
          have hN6 : ((w.alloc (.cells #[.string fr, .string bf, .int .i64 (kf : Int)] 84)).setCell ⟨w.heap.size, 0, none⟩ (.string tn)).heap[w.heap.size]? = some (.cells #[.string tn, .string bf, .int .i64 (kf : Int)] 84 (0, 0)) := by rw [heap_setCell_same _ _ 0 _ _ _ hN0]; rfl
          obtain ⟨w5, hw5⟩ : ∃ w5, w.alloc (.cells #[.string fr, .string bf, .int .i64 (kf : Int)] 84) = w5 := ⟨_, rfl⟩
          rw [hw5] at hal hN0 hb6 hN6
          have HW5 := Lib.hid hw5
          have n0 := cell_of_row _ _ 0 _ _ _ hN0
          have g0 := frozen_of_row _ w.heap.size 0 _ _ hN0
          have hbx : ∀ k ∈ rfoot r (.slice A p.F.length c), k ≠ w.heap.size := fun k hk e => by have := h.lt k hk; omega
          obtain ⟨w6, hw6⟩ : ∃ w6, w5.setCell ⟨w.heap.size, 0, none⟩ (.string tn) = w6 := ⟨_, rfl⟩
          rw [hw6] at hb6 hN6
          have HW6 := Lib.hid hw6
          have h6l : w.heap.size < w6.heap.size := (Array.getElem?_eq_some_iff.1 hN6).1
          have HN6 := Lib.hid hN6
          have HK6 := Lib.hid (h.below hb6 (Nat.le_refl _))
          have HB6 := Lib.hid hb6
          obtain ⟨bx, hbxe⟩ : ∃ bx, w.heap.size = bx := ⟨_, rfl⟩
          have HO6 : Hid (bx ∉ rfoot r (.slice A p.F.length c)) := fun hk => hbx _ hk hbxe.symm
          rw [hbxe] at HN6 h6l n0 g0 HW6
          have HH := Lib.hid h
          have HHB := Lib.hid hb
          have d1l : (delF fr p.F).length ≤ p.F.length := List.length_filter_le _ _
          have d2l : (delF tn (delF fr p.F)).length ≤ (delF fr p.F).length := List.length_filter_le _ _
          have HC1 : Hid (Calls Try.prog 67 #[.pointer (some ⟨r, 0, none⟩), .string fr] w6 fun e w' => e = .returned (.tuple #[]) ∧ ∃ v', RT base r w6 w' (.slice A p.F.length c) v' { p with F := delF fr p.F }) :=
            rwithout_any base r _ p fr w6 HK6.out (by omega) (by have := HB6.out.size; omega)
          have HC2 : Hid (∀ W vv, RT base r w6 W (.slice A p.F.length c) vv { p with F := delF fr p.F } → Calls Try.prog 67 #[.pointer (some ⟨r, 0, none⟩), .string tn] W fun e w' => e = .returned (.tuple #[]) ∧ ∃ v', RT base r w6 w' (.slice A p.F.length c) v' { p with F := delF tn (delF fr p.F) } ∧ w'.heap[bx]? = some (.cells #[.string tn, .string bf, .int .i64 (kf : Int)] 84 (0, 0))) := fun W vv hT =>
            (rwithout_any base r vv _ tn W hT.rk (by show (delF fr p.F).length ≤ _; omega) (by have := HB6.out.size; have := hT.tu.size; omega)).mono fun e w' hh => by
              obtain ⟨he, v', h2⟩ := hh
              exact ⟨he, v', hT.trans h2, ((h2.keeps (Nat.lt_of_lt_of_le h6l hT.tu.size) (hT.out_ h6l HO6.out)).trans (hT.keeps h6l HO6.out)).trans HN6.out⟩
          have HC3 : Hid (∀ W vv, RT base r w6 W (.slice A p.F.length c) vv { p with F := delF tn (delF fr p.F) } → Calls Try.prog 63 #[.pointer (some ⟨r, 0, none⟩), .agg #[.string tn, .string bf, .int .i64 (kf : Int)]] W fun e w' => e = .returned (.tuple #[]) ∧ ∃ v', RT base r w6 w' (.slice A p.F.length c) v' { p with F := insF ⟨tn, f.b, kf⟩ (delF tn (delF fr p.F)) }) := fun W vv hT => by
            have h3 := rwith_any base r vv _ ⟨tn, f.b, kf⟩ W hT.rk (by show (delF tn (delF fr p.F)).length ≤ _; omega) (by have := HB6.out.size; have := hT.tu.size; omega)
            rw [show bst (Fl.mk tn f.b kf).b = bf from hbf] at h3
            refine Calls.mono h3 fun e w' hh => ?_
            obtain ⟨he, v', h2⟩ := hh
            exact ⟨he, v', hT.trans h2⟩
          have HC4 : Hid (∀ W vv, RT base r w6 W (.slice A p.F.length c) vv { p with F := insF ⟨tn, f.b, kf⟩ (delF tn (delF fr p.F)) } → Calls Try.prog 64 #[.pointer (some ⟨r, 0, none⟩)] W fun e w' => e = .returned (.int .i64 0) ∧ ∃ v', RT base r w w' (.slice A p.F.length c) v' (PD.burn { p with F := insF ⟨tn, f.b, kf⟩ (delF tn (delF fr p.F)) })) := fun W vv hT =>
            (rdone_any base r vv _ W hT.rk hp.l1 hp.l2 hbu).mono fun e w' hh => ⟨hh.1, vv, (RT.of_below HH.out HB6.out).trans (hT.trans hh.2)⟩
          have HE2 := Lib.hid (fun v' w' => HE.out (insF ⟨tn, f.b, kf⟩ (delF tn (delF fr p.F))) v' w' (by unfold renF insF; rw [hn, hkf]))
          generalize (PD.burn { p with F := insF ⟨tn, f.b, kf⟩ (delF tn (delF fr p.F)) }) = p4 at *
          generalize ({ p with F := insF ⟨tn, f.b, kf⟩ (delF tn (delF fr p.F)) } : PD) = p3 at *
          generalize ({ p with F := delF tn (delF fr p.F) } : PD) = p2 at *
          generalize ({ p with F := delF fr p.F } : PD) = p1 at *
          generalize p.F.length = n at *
          clear HX3 HX2 HXY HX9 hbu hg h hp HAT hnm hft HE hF hN0 hN6 hb6 hal hw5 hw6 hn hbf hkf hbx d1l d2l hb HF
          go_enter Try.func46, Try.ntmps46
          go_upto_region 9 with (first
            | (go_at_call 62; (with_reducible refine HATN.out.mono ?_); rintro e w1 ⟨i, hi, hif, rfl, hw1⟩; have hw1' := hw1.symm; subst hw1'; have HIF := Lib.hid hif; clear hif; have hiz : (i : Int) < (n : Int) := (by omega); have d3 : decide ((i : Int) < 0) = false := (by rw [decide_eq_false_iff_not]; omega))
            | (go_at_call 61; (with_reducible refine HNM.out.mono ?_); rintro e w1 ⟨rfl, hw1⟩; have hw1' := hw1.symm; subst hw1'))
          obtain ⟨q, rfl, s0, s1, s2⟩ := HRW.out i hi HIF.out
          go_upto_region 10 with fail
          rw [HW5.out]
          clear s0 s1 s2 c1
          go_upto_region 11 with fail
          rw [HW6.out]
          clear n0 g0
          go_wp2_with (first
            | (go_at_call 64; (with_reducible refine (HC4.out _ _ ht9).mono ?_); rintro e w10 ⟨rfl, v10, ht10⟩)
            | (go_at_call 63; (with_reducible refine (HC3.out _ _ ht8).mono ?_); rintro e w9 ⟨rfl, v9, ht9⟩)
            | (go_at_call 67; (with_reducible refine (HC2.out _ _ ht7).mono ?_); rintro e w8 ⟨rfl, v8, ht8, hx8⟩; have b0 := cell_of_row _ _ 0 _ _ _ hx8; have b1 := cell_of_row _ _ 1 _ _ _ hx8; have b2 := cell_of_row _ _ 2 _ _ _ hx8; clear hx8)
            | (go_at_call 67; (with_reducible refine HC1.out.mono ?_); rintro e w7 ⟨rfl, v7, ht7⟩))
          first
            | exact HE2.out _ _ ht10
            | (go_ret; exact HE2.out _ _ ht10)
end Go.Proofs.Ytebkgcnldbkgeaa
