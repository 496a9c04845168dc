/-
  What Cut does.
-/
import Derived.Test.YtebkgcnldbkgeaaDkW
import Derived.Deep.QuietTactic
import Derived.BigQuiet
namespace Go.Proofs.Ytebkgcnldbkgeaa
open Go.RowKit Go.Lib Go.Sort Go.Maps
set_option linter.unusedVariables false
set_option linter.unusedSimpArgs false

def cutF (s : ByteArray) (n : Nat) (F : List Fl) : List Fl := F.map fun f => if f.name = s then { f with b := f.b.take n, kept := min f.kept n } else f
def cutE (F : List Fl) (s : ByteArray) (n : Int) : Nat := match getT Fl.key F s.data.toList with
  | none => 3
  | some g => if n < 0 ∨ (g.b.length : Int) < n then 2 else 0
def CutQ (D : Dsk) (s : ByteArray) (n : Int) (er : Nat) (D1 : Dsk) : Prop := er = cutE (filesD D) s n ∧ filesD D1 = if er = 0 then cutF s n.toNat (filesD D) else filesD D
theorem row_cut {w : World} {base n m c : Nat} {e : TypeId} {A : Option Addr} {xs : List Value} (h : w.ownsRow base e 1 (.slice A n c) n xs) (hm : m ≤ n) : w.ownsRow base e 1 (.slice A m c) m (xs.take m) := by
  have h1 := h.1
  rcases h.2 with ⟨h2, h3⟩ | ⟨g, cap, cur, h2, hb, hh, hc, hcm, hs, ht⟩
  · injection h2 with e1 e2 e3
    have hm0 : m = 0 := by omega
    subst hm0
    refine ⟨by simp, .inl ⟨?_, rfl⟩⟩
    rw [e1, e3]
  · injection h2 with e1 e2 e3
    refine ⟨by rw [List.length_take]; omega, .inr ⟨g, cap, cur, ?_, hb, hh, by omega, hcm, hs, ?_⟩⟩
    · rw [e1, e3]
    · rw [← ht, List.take_take]
      congr 1
      omega
section
variable {w w' : World} {base d : Nat} {D : Dsk}
theorem cutted (h : Dk w base d D) {f : Hd} (hf : f ∈ D.H) {A : Option Addr} {c n : Nat} (hv : f.v = .slice A f.b.length c) (hn : n ≤ f.b.length) (hos : w'.os = w.os) (htp : w'.tape = w.tape) (hout : w'.output = w.output) (hsz : w.heap.size ≤ w'.heap.size)
    (hb1 : w'.heap[f.fb]? = some (.cells #[.slice A n c, .int .i64 ((min f.kept n : Nat) : Int)] 64 (0, 0))) (hk0 : ∀ k, k ≠ f.fb → w'.heap[k]? = w.heap[k]?) :
    ∃ D', Then base d w w' D D' ∧ filesD D' = cutF f.name n (filesD D) ∧ SameD D D' := by
  have hfl := h.fl f hf
  have hu : ∀ y ∈ D.H, y.fb = f.fb → y = f := fun y hy e => h.fb_inj hy hf e
  have hne : ∀ g, f.v.ownBlock = some g → g ≠ f.fb := fun g hg e => by
    obtain ⟨cur, hc⟩ := row_has hfl.row hg
    rw [e, hfl.blk] at hc
    injection hc with hc
    injection hc with _ hc
    exact absurd hc (by decide)
  have hob : (Value.slice A n c).ownBlock = f.v.ownBlock := by rw [hv]; cases A <;> rfl
  have hlt : (f.b.take n).length = n := by rw [List.length_take]; omega
  have hrow : w'.ownsRow base 5 1 (.slice A n c) n (bvs (f.b.take n)) := by
    have h1 := hfl.row
    rw [hv] at h1
    have h2 := row_cut h1 hn
    have h3 : bvs (f.b.take n) = (bvs f.b).take n := by unfold bvs; rw [List.map_take]
    rw [h3]
    exact row_same h2 fun g hg => hk0 g (hne g (by rw [← hob]; exact hg))
  have hnew : FileAt w' base { f with v := .slice A n c, b := f.b.take n, kept := min f.kept n } :=
    ⟨hfl.bf, hb1, by show w'.ownsRow base _ 1 _ (f.b.take n).length _; rw [hlt]; exact hrow, by show min f.kept n ≤ (f.b.take n).length; rw [hlt]; exact Nat.min_le_right _ _, hfl.name⟩
  have hdk := h.upd (w' := w') (f' := { f with v := .slice A n c, b := f.b.take n, kept := min f.kept n }) hf rfl rfl hnew (.inr (.inl hob)) (fun k _ h1 _ => hk0 k h1) (by have := h.tot; show _ + (f.b.take n).length ≤ _; rw [hlt]; omega)
  refine ⟨_, ⟨hdk, ⟨hos, htp, hout, hsz, fun k _ h1 => hk0 k (fun e => h1 (by rw [e]; exact foot_fl hf (by simp [Hd.foot])))⟩, fun k hk => (upd_foot (w := w) (f' := { f with v := .slice A n c, b := f.b.take n, kept := min f.kept n }) hf rfl (.inr (.inl hob)) k hk)⟩, ?_, ⟨rfl, rfl, rfl⟩⟩
  show (D.H.map _).map Hd.f = cutF _ _ (D.H.map Hd.f)
  unfold cutF
  rw [List.map_map, List.map_map]
  refine List.map_congr_left fun y hy => ?_
  simp only [Function.comp, repl]
  by_cases e : y.fb = f.fb
  · have := hu y hy e
    subst this
    rw [if_pos rfl, if_pos (by simp [Hd.f])]
    rfl
  · rw [if_neg e, if_neg]
    intro e2
    have e3 : y.key = f.key := by unfold Hd.key; rw [show y.name = f.name from e2]
    exact e (by rw [rise_inj Hd.key h.rise hy hf e3])
theorem two_set {fb : Nat} {x y x' y' : Value} {T : TypeId} {w1 w2 : World} (h : w.heap[fb]? = some (.cells #[x, y] T (0, 0))) (h1 : w1.heap = w.heap) (h2 : w2.heap = (w1.setCell ⟨fb, 0, none⟩ x').heap) :
    (w2.setCell ⟨fb, 1, none⟩ y').heap[fb]? = some (.cells #[x', y'] T (0, 0)) ∧ (∀ k, k ≠ fb → (w2.setCell ⟨fb, 1, none⟩ y').heap[k]? = w.heap[k]?) ∧ w.heap.size ≤ (w2.setCell ⟨fb, 1, none⟩ y').heap.size := by
  have e1 : (w1.setCell ⟨fb, 0, none⟩ x').heap[fb]? = some (.cells #[x', y] T (0, 0)) := by rw [heap_setCell_same w1 _ 0 _ _ _ (by rw [h1]; exact h)]; rfl
  refine ⟨by rw [heap_setCell_same w2 _ 1 _ _ _ (by rw [h2]; exact e1)]; rfl, fun k hk => ?_, ?_⟩
  · rw [Below.heap_setCell w2 _ _ k (fun e => hk e), h2, Below.heap_setCell w1 _ _ k (fun e => hk e), h1]
  · simp [h2, h1]
end
set_option maxRecDepth 100000 in
set_option maxHeartbeats 4000000 in
theorem cut1_any (base d db fb tb : Nat) (D : Dsk) (s : ByteArray) (n : Int) (w : World) (h : Dk w base d D) (hs : s.size ≤ maxLen)
    (x0 : w.cell? ⟨db, 0, none⟩ = some (.pointer (some ⟨d, 0, none⟩))) (x1 : w.cell? ⟨fb, 0, none⟩ = some (.string s)) (x2 : w.cell? ⟨tb, 0, none⟩ = some (.int .i64 n)) (hout : ∀ k, k = db ∨ k = fb ∨ k = tb → k ∉ D.foot d) :
    Calls Try.prog 65 #[.pointer (some ⟨db, 0, none⟩), .pointer (some ⟨fb, 0, none⟩), .pointer (some ⟨tb, 0, none⟩)] w (Ans base d w D (CutQ D s n)) := by
  obtain ⟨X, hX⟩ : ∃ X : Ending → World → Prop, Ans base d w D (CutQ D s n) = X := ⟨_, rfl⟩
  have hget : ∀ o, D.at_ s = o → getT Fl.key (filesD D) s.data.toList = o.map Hd.f := fun o e => by rw [get_files]; unfold Dsk.at_ at e; rw [e]
  have HX3 : Hid (D.at_ s = none → X (.returned (.int .i64 3)) w) := fun h3 => by
    rw [← hX]
    have h4 := hget _ h3
    exact ⟨3, D, rfl, Then.refl h, ⟨rfl, rfl, rfl⟩, by unfold cutE; rw [h4]; rfl, by rw [if_neg (by decide)]⟩
  have HX2 : Hid (∀ f w', D.at_ s = some f → (n < 0 ∨ (f.b.length : Int) < n) → Below w.heap.size w w' → X (.returned (.int .i64 2)) w') := fun f w' h3 h4 h5 => by
    rw [← hX]
    have h6 := hget _ h3
    exact ⟨2, D, rfl, Then.of_below h h5, ⟨rfl, rfl, rfl⟩, by unfold cutE; rw [h6]; simp only [Option.map_some]; rw [if_pos (show n < 0 ∨ (f.f.b.length : Int) < n from h4)], by rw [if_neg (by decide)]⟩
  have HXY : Hid (∀ f w' D', D.at_ s = some f → 0 ≤ n → n ≤ (f.b.length : Int) → Then base d w w' D D' → SameD D D' → filesD D' = cutF s n.toNat (filesD D) → X (.returned (.int .i64 0)) w') := fun f w' D' h3 h4 h5 h6 h7 h8 => by
    rw [← hX]
    have h9 := hget _ h3
    exact ⟨0, D', rfl, h6, h7, by unfold cutE; rw [h9]; simp only [Option.map_some]; rw [if_neg (show ¬ (n < 0 ∨ (f.f.b.length : Int) < n) by show ¬ (n < 0 ∨ (f.b.length : Int) < n); omega)], by rw [if_pos rfl]; exact h8⟩
  rw [hX]
  clear hX hget
  have HFI := Lib.hid (file_any base d D s w h hs)
  cases hat : D.at_ s with
  | none =>
    rw [hat] at HFI
    have HAT := Lib.hid hat
    unfold ptrO at HFI
    simp only at HFI
    clear hat h
    go_enter Try.func65, Try.ntmps65
    go_wp2_with (go_at_call 28; (with_reducible refine HFI.out.mono ?_); rintro e w4 ⟨rfl, hw4⟩; have hw4' := hw4.symm; subst hw4')
    first
      | exact HX3.out HAT.out
      | (go_ret; exact HX3.out HAT.out)
  | some f =>
    rw [hat] at HFI
    have hfm := at_mem hat
    have hfn := at_name hat
    have HAT := Lib.hid hat
    unfold ptrO Hd.ptr at HFI
    simp only at HFI
    clear hat
    have hfl := h.fl f hfm
    obtain ⟨A, c, hve, hlc, hcm⟩ := slice_of_row hfl.row
    have hblk := hfl.blk
    rw [hve] at hblk
    have hl32 : f.b.length ≤ 4194304 := Nat.le_trans (used_mem hfm) h.tot
    have hkl := hfl.kept
    have hno : ∀ k, k = db ∨ k = fb ∨ k = tb → k ≠ f.fb := fun k hk e => hout k hk (by rw [e]; exact foot_fl hfm (by simp [Hd.foot]))
    have n0 := hno db (.inl rfl)
    have n2 := hno tb (.inr (.inr rfl))
    have HCT : Hid (∀ w' m, m ≤ f.b.length → w'.os = w.os → w'.tape = w.tape → w'.output = w.output → w.heap.size ≤ w'.heap.size → w'.heap[f.fb]? = some (.cells #[.slice A m c, .int .i64 ((min f.kept m : Nat) : Int)] 64 (0, 0)) → (∀ k, k ≠ f.fb → w'.heap[k]? = w.heap[k]?) → ∃ D', Then base d w w' D D' ∧ filesD D' = cutF s m (filesD D) ∧ SameD D D') := fun w' m hm a1 a2 a3 a4 a5 a6 => by
      have := cutted (w' := w') (n := m) h hfm hve hm a1 a2 a3 a4 a5 a6
      rw [hfn] at this
      exact this
    obtain ⟨fl, hfl2⟩ : ∃ x, f.fb = x := ⟨_, rfl⟩
    obtain ⟨bl, hbl⟩ : ∃ x, f.b.length = x := ⟨_, rfl⟩
    obtain ⟨kp, hkp⟩ : ∃ x, f.kept = x := ⟨_, rfl⟩
    have HX2' : Hid (∀ w', (n < 0 ∨ (bl : Int) < n) → Below w.heap.size w w' → X (.returned (.int .i64 2)) w') := fun w' a1 a2 => HX2.out f w' HAT.out (by rw [hbl]; exact a1) a2
    have HXY' : Hid (∀ w' D', 0 ≤ n → n ≤ (bl : Int) → Then base d w w' D D' → SameD D D' → filesD D' = cutF s n.toNat (filesD D) → X (.returned (.int .i64 0)) w') := fun w' D' a1 a2 => HXY.out f w' D' HAT.out a1 (by rw [hbl]; exact a2)
    rw [hfl2] at HFI hblk HCT n0 n2
    rw [hbl] at hblk HCT hl32 hkl hlc
    rw [hkp] at hblk HCT hkl
    have e0 : w.cell? ⟨fl, 0, none⟩ = some (.slice A bl c) := cell_of_row _ _ 0 _ _ _ hblk
    have e1 : w.cell? ⟨fl, 1, none⟩ = some (.int .i64 (kp : Int)) := cell_of_row _ _ 1 _ _ _ hblk
    have f0 : w.frozen? ⟨fl, 0, none⟩ = false := frozen_of_row _ _ 0 _ _ hblk
    have f1 : w.frozen? ⟨fl, 1, none⟩ = false := frozen_of_row _ _ 1 _ _ hblk
    have HBLK := Lib.hid hblk
    have HBD : Hid (∀ k, Below w.heap.size w (w.drewN k)) := fun k => below_draws (Below.refl _ _) k
    unfold maxLen at hcm
    clear hve hfl hfm hfn hfl2 hbl hkp hblk HX2 HXY HX3 hno
    by_cases h1 : n < 0
    · have d1 : decide (n < 0) = true := decide_eq_true h1
      have HE := Lib.hid (fun w' hb => HX2'.out w' (.inl h1) hb)
      clear h HCT hout HXY' hlc hkl
      go_enter Try.func65, Try.ntmps65
      go_upto_region 4 with (go_at_call 28; (with_reducible refine HFI.out.mono ?_); rintro e w4 ⟨rfl, hw4⟩; have hw4' := hw4.symm; subst hw4')
      go_quiet (fail)
      go_wp2_with fail
      first
        | exact HE.out _ (HBD.out _)
        | (go_ret; exact HE.out _ (HBD.out _))
    · have d1 : decide (n < 0) = false := decide_eq_false h1
      by_cases h2 : (bl : Int) < n
      · have d2 : decide ((bl : Int) < n) = true := decide_eq_true h2
        have HE := Lib.hid (fun w' hb => HX2'.out w' (.inr h2) hb)
        clear h HCT hout HXY' hlc hkl
        go_enter Try.func65, Try.ntmps65
        go_upto_region 4 with (go_at_call 28; (with_reducible refine HFI.out.mono ?_); rintro e w4 ⟨rfl, hw4⟩; have hw4' := hw4.symm; subst hw4')
        go_quiet (fail)
        go_wp2_with fail
        first
          | exact HE.out _ (HBD.out _)
          | (go_ret; exact HE.out _ (HBD.out _))
      · obtain ⟨m, rfl⟩ : ∃ m : Nat, n = (m : Int) := ⟨n.toNat, by omega⟩
        have d2 : decide ((bl : Int) < (m : Int)) = false := decide_eq_false h2
        have hmb : m ≤ bl := by omega
        have hmc : (m : Int) ≤ (c : Int) := by omega
        have hm0 : (0 : Int) ≤ (m : Int) := by omega
        have HEND : Hid (∀ W : World, W.heap = ((w.setCell ⟨fl, 0, none⟩ (.slice A m c)).setCell ⟨fl, 1, none⟩ (.int .i64 ((min kp m : Nat) : Int))).heap → W.os = w.os → W.tape = w.tape → W.output = w.output → X (.returned (.int .i64 0)) W) := fun W a1 a3 a4 a5 => by
          obtain ⟨b1, b2, b3⟩ := two_set (w1 := w) (w2 := w.setCell ⟨fl, 0, none⟩ (.slice A m c)) (x' := .slice A m c) (y' := .int .i64 ((min kp m : Nat) : Int)) HBLK.out rfl rfl
          rw [← a1] at b1 b3
          obtain ⟨D', c1, c2, c3⟩ := HCT.out _ m hmb a3 a4 a5 b3 b1 (fun k hk => by rw [a1]; exact b2 k hk)
          exact HXY'.out _ D' hm0 (by omega) c1 c3 (by rw [Int.toNat_natCast]; exact c2)
        have hmin : (if (m : Int) < (kp : Int) then (m : Int) else (kp : Int)) = ((min kp m : Nat) : Int) := by split <;> omega
        have hmin2 : min (kp : Int) (m : Int) = ((min kp m : Nat) : Int) := by omega
        obtain ⟨mk, hmk⟩ : ∃ mk : Nat, min kp m = mk := ⟨_, rfl⟩
        rw [hmk] at HEND hmin hmin2
        clear h HCT hout HX2' HXY' hlc hkl hmk
        go_enter Try.func65, Try.ntmps65
        go_upto_region 4 with (go_at_call 28; (with_reducible refine HFI.out.mono ?_); rintro e w4 ⟨rfl, hw4⟩; have hw4' := hw4.symm; subst hw4')
        go_quiet (fail)
        go_upto_region 6 with fail
        go_region_with fail
        all_goals
          go_upto_region 7 with fail
          go_region_with fail
        all_goals
          go_wp2_with fail
          exact HEND.out _ rfl rfl rfl rfl
set_option maxRecDepth 100000 in
set_option maxHeartbeats 4000000 in
theorem cut_any4 (base d : Nat) (D : Dsk) (fr : ByteArray) (n : Int) (w : World) (h : Dk w base d D) (hs : fr.size ≤ maxLen) :
    Calls Try.prog 43 #[.pointer (some ⟨d, 0, none⟩), .string fr, .int .i64 n] w fun e w' => ∃ (er : Nat) (D' : Dsk), e = .returned (.int .i64 (er : Int)) ∧ Then base d w w' D D' ∧ ChgP D (CutQ D fr n) er D' := by
  have HS1 := Lib.hid (fun db fb tb W a1 a2 a3 a4 a5 => cut1_any base d db fb tb D fr n W a1 hs a2 a3 a4 a5)
  obtain ⟨Q, hQ⟩ : ∃ Q : Nat → Dsk → Prop, CutQ D fr n = Q := ⟨_, rfl⟩
  rw [hQ] at HS1 ⊢
  clear hQ
  have hal := (((Below.refl w.heap.size w).alloc (Nat.le_refl _) (.cells #[.pointer (some ⟨d, 0, none⟩)] 23)).alloc (by simp) (.cells #[.string fr] 9)).alloc (by simp; omega) (.cells #[.int .i64 n] 3)
  obtain ⟨w3, hw3⟩ : ∃ w3, ((w.alloc (.cells #[.pointer (some ⟨d, 0, none⟩)] 23)).alloc (.cells #[.string fr] 9)).alloc (.cells #[.int .i64 n] 3) = w3 := ⟨_, rfl⟩
  have hz3 : w3.heap.size = w.heap.size + 3 := by rw [← hw3]; simp
  have hb0 : w3.heap[w.heap.size]? = some (.cells #[.pointer (some ⟨d, 0, none⟩)] 23 (0, 0)) := by
    rw [← hw3, Below.heap_alloc _ _ _ (by simp; omega), Below.heap_alloc _ _ _ (by simp)]
    exact heap_alloc_new w _
  have hb1 : w3.heap[w.heap.size + 1]? = some (.cells #[.string fr] 9 (0, 0)) := by
    rw [← hw3, Below.heap_alloc _ _ _ (by simp)]
    have := heap_alloc_new (w.alloc (.cells #[.pointer (some ⟨d, 0, none⟩)] 23)) (.cells #[.string fr] 9)
    rwa [show (w.alloc (.cells #[.pointer (some ⟨d, 0, none⟩)] 23)).heap.size = w.heap.size + 1 by simp] at this
  have hb2 : w3.heap[w.heap.size + 2]? = some (.cells #[.int .i64 n] 3 (0, 0)) := by
    rw [← hw3]
    have := heap_alloc_new ((w.alloc (.cells #[.pointer (some ⟨d, 0, none⟩)] 23)).alloc (.cells #[.string fr] 9)) (.cells #[.int .i64 n] 3)
    rwa [show ((w.alloc (.cells #[.pointer (some ⟨d, 0, none⟩)] 23)).alloc (.cells #[.string fr] 9)).heap.size = w.heap.size + 2 by simp] at this
  rw [hw3] at hal
  have HW3 := Lib.hid hw3
  have HT3 := Lib.hid (Then.of_below h hal)
  have HLT := Lib.hid h.lt
  have y0 : w3.cell? ⟨w.heap.size, 0, none⟩ = some (.pointer (some ⟨d, 0, none⟩)) := cell_of_row _ _ 0 _ _ _ hb0
  have HCH := Lib.hid (change_cut base d w.heap.size (w.heap.size + 1) (w.heap.size + 2) D Q w3 HT3.out.dk (fun W hW => by
    have k : ∀ i, i < w3.heap.size → W.heap[i]? = w3.heap[i]? := fun i hi => hW.block i hi
    exact HS1.out w.heap.size (w.heap.size + 1) (w.heap.size + 2) W (HT3.out.dk.below hW (Nat.le_refl _)) (cell_of_row _ _ 0 _ _ _ ((k _ (by omega)).trans hb0)) (cell_of_row _ _ 0 _ _ _ ((k _ (by omega)).trans hb1)) (cell_of_row _ _ 0 _ _ _ ((k _ (by omega)).trans hb2)) (fun i hi h2 => by have := HLT.out _ h2; omega)))
  clear hw3 hal hb0 hb1 hb2 h HS1
  go_enter Try.func43, Try.ntmps43
  go_upto_region 1 with fail
  rw [HW3.out]
  go_wp2_with (go_at_call 38; (with_reducible refine HCH.out.mono ?_); rintro e w4 ⟨er, D4, rfl, ht4, hq4⟩)
  go_ret
  exact ⟨er, D4, rfl, HT3.out.trans ht4, hq4⟩
def PD.cut (p : PD) (s : ByteArray) (n : Int) : Nat × PD := p.chg (cutE p.F s n) (cutF s n.toNat p.F)
theorem cut_pd (base d : Nat) (D : Dsk) (s : ByteArray) (n : Int) (w : World) (h : Dk w base d D) (hs : s.size ≤ maxLen) :
    Calls Try.prog 43 #[.pointer (some ⟨d, 0, none⟩), .string s, .int .i64 n] w fun e w' => ∃ D', e = .returned (.int .i64 (((pd D).cut s n).1 : Int)) ∧ Then base d w w' D D' ∧ pd D' = ((pd D).cut s n).2 :=
  (cut_any4 base d D s n w h hs).mono fun e w' h => by
    obtain ⟨er, D', he, ht, hq⟩ := h
    have h2 : (er, pd D') = (pd D).cut s n := pd_chg hq
    exact ⟨D', by rw [he, ← h2], ht, by rw [← h2]⟩
end Go.Proofs.Ytebkgcnldbkgeaa
