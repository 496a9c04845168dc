/-
  What Rename does.
-/
import Derived.Test.YtebkgcnldbkgeaaDkV
namespace Go.Proofs.Ytebkgcnldbkgeaa
open Go.RowKit Go.Lib Go.Sort Go.Maps
set_option linter.unusedVariables false
set_option linter.unusedSimpArgs false

section
variable {w w' : World} {base d : Nat} {D : Dsk}
theorem used_without (q : Hd → Bool) {f : Hd} (hq : q f = false) (H : List Hd) (hf : f ∈ H) : usedH (H.filter q) + f.b.length ≤ usedH H ∧ (H.filter q).length + 1 ≤ H.length := by
  have e : ∀ z (L : List Hd), usedH (z :: L) = z.b.length + usedH L := fun z L => by unfold usedH; simp
  induction H with
  | nil => cases hf
  | cons y l ih =>
    rw [List.filter_cons]
    have h1 := used_filter q l
    have h2 := List.length_filter_le q l
    rcases List.mem_cons.1 hf with rfl | hf
    · rw [if_neg (by rw [hq]; decide), e]
      simp only [List.length_cons]
      omega
    · have h3 := ih hf
      split
      · rw [e, e]
        simp only [List.length_cons]
        omega
      · rw [e]
        simp only [List.length_cons]
        omega
/-- the files behind a rename -/
def renH (f : Hd) (tn : ByteArray) (H : List Hd) : List Hd := putT Hd.key { f with name := tn } (delT Hd.key f.key H)
theorem ren_mem {f : Hd} {tn : ByteArray} {H : List Hd} {x : Hd} (hx : x ∈ renH f tn H) : x = { f with name := tn } ∨ (x ∈ H ∧ x.key ≠ f.key) := by
  unfold renH putT at hx
  rcases (insT_mem _ _ _ _).1 hx with h | h
  · exact .inl h
  · have h1 := List.mem_filter.1 h
    have h2 := List.mem_filter.1 h1.1
    exact .inr ⟨h2.1, by simpa using h2.2⟩
theorem Dk.ren (h : Dk w base d D) {m : Nat} (hm : D.mp = some m) {f : Hd} (hf : f ∈ D.H) (tn : ByteArray) (hto : tn.size ≤ 24) (hM : Mt Hd.key Hd.ptr Try.prog 9 w' m (renH f tn D.H)) (hk : ∀ i, i < w.heap.size → i ≠ m → w'.heap[i]? = w.heap[i]?) : Dk w' base d { D with H := renH f tn D.H } := by
  have hmd : d ≠ m := fun e => h.d_out (by rw [e]; exact List.mem_append.2 (.inl (Option.mem_toList.2 hm)))
  have hkeep : ∀ x ∈ D.H, FileAt w' base x := fun x hx => (h.fl x hx).keep fun i hi => hk i (h.lt i (foot_fl hx hi)) fun e => by
    have h1 := h.mp_ne hx (m := m) hm
    subst e
    simp only [Hd.foot, List.mem_cons, Option.mem_toList] at hi
    rcases hi with e2 | e2
    · exact h1.1 e2
    · exact h1.2 e2.symm
  have hff := hkeep f hf
  have hsub : (delT Hd.key tn.data.toList (delT Hd.key f.key D.H)).Sublist D.H := List.filter_sublist.trans List.filter_sublist
  have hu := used_without (fun r => !decide (r.key = f.key)) (f := f) (by simp) D.H hf
  have hu2 := used_filter (fun r => !decide (r.key = tn.data.toList)) (delT Hd.key f.key D.H)
  have hl2 := List.length_filter_le (fun r : Hd => !decide (r.key = tn.data.toList)) (delT Hd.key f.key D.H)
  have e1 : renH f tn D.H = insT Hd.key { f with name := tn } (delT Hd.key tn.data.toList (delT Hd.key f.key D.H)) := rfl
  refine ⟨h.bd, by rw [hk d h.dlt hmd]; exact h.blk, fun e => (by rw [hm] at e; cases e), fun m' hm' => ?_, fun x hx => ?_, ?_, h.r1, h.r2, h.l1, h.l2, ?_, ?_⟩
  · have e : m = m' := by rw [hm] at hm'; injection hm'
    subst e
    exact ⟨(h.mp1 m hm).1, hM⟩
  · rcases ren_mem hx with rfl | ⟨hx, _⟩
    · exact ⟨hff.bf, hff.blk, hff.row, hff.kept, hto⟩
    · exact hkeep x hx
  · show (renH f tn D.H).Pairwise Apart
    rw [e1]
    refine pair_ins (h.nd.sublist hsub) fun x hx => ?_
    have h1 := List.mem_filter.1 (List.mem_filter.1 hx).1
    have h2 : f.key ≠ x.key := fun e => by have := h1.2; simp [e] at this
    exact (show Apart f x from h.apart hf h1.1 fun e => h2 (by rw [e]))
  · show (renH f tn D.H).length ≤ 128
    rw [e1, insT_length]
    have := h.len
    have h3 : (delT Hd.key f.key D.H).length + 1 ≤ D.H.length := hu.2
    have h4 : (delT Hd.key tn.data.toList (delT Hd.key f.key D.H)).length ≤ (delT Hd.key f.key D.H).length := hl2
    omega
  · show usedH (renH f tn D.H) ≤ 4194304
    rw [e1]
    have e2 : usedH (insT Hd.key { f with name := tn } (delT Hd.key tn.data.toList (delT Hd.key f.key D.H))) = f.b.length + usedH (delT Hd.key tn.data.toList (delT Hd.key f.key D.H)) := by
      unfold usedH
      rw [((insT_perm Hd.key { f with name := tn } (delT Hd.key tn.data.toList (delT Hd.key f.key D.H))).map fun h => h.b.length).sum_nat]
      simp
    rw [e2]
    have := h.tot
    have h3 : usedH (delT Hd.key f.key D.H) + f.b.length ≤ usedH D.H := hu.1
    have h4 : usedH (delT Hd.key tn.data.toList (delT Hd.key f.key D.H)) ≤ usedH (delT Hd.key f.key D.H) := hu2
    omega
theorem ren_foot {f : Hd} (hf : f ∈ D.H) (tn : ByteArray) : ∀ i ∈ ({ D with H := renH f tn D.H } : Dsk).foot d, i ∈ D.foot d := fun i hi => by
  simp only [Dsk.foot, List.mem_cons, List.mem_append, List.mem_flatMap] at hi ⊢
  rcases hi with h | h | ⟨x, hx, h⟩
  · exact .inl h
  · exact .inr (.inl h)
  · rcases ren_mem hx with rfl | ⟨hx, _⟩
    · exact .inr (.inr ⟨f, hf, h⟩)
    · exact .inr (.inr ⟨x, hx, h⟩)
def renF (g : Fl) (tn : ByteArray) (F : List Fl) : List Fl := insT Fl.key { g with name := tn } (delF tn (delF g.name F))
theorem ren_files (f : Hd) (tn : ByteArray) (D : Dsk) : (renH f tn D.H).map Hd.f = renF f.f tn (filesD D) := by
  unfold renH putT renF
  rw [ins_files]
  have e1 : (delT Hd.key tn.data.toList (delT Hd.key f.key D.H)).map Hd.f = delF tn (delF f.name (filesD D)) := by
    unfold delT delF filesD
    rw [List.filter_map, List.filter_map]
    rfl
  exact congrArg _ e1
end
def RenQ (D : Dsk) (fr tn : ByteArray) (er : Nat) (D1 : Dsk) : Prop := match getT Fl.key (filesD D) fr.data.toList with
  | none => er = 3 ∧ D1 = D
  | some g => if nameB tn = false then er = 2 ∧ D1 = D else er = 0 ∧ filesD D1 = renF g tn (filesD D)
set_option maxRecDepth 100000 in
set_option maxHeartbeats 8000000 in
theorem rename1_any (base d db fb tb : Nat) (D : Dsk) (fr tn : ByteArray) (w : World) (h : Dk w base d D) (hs : fr.size ≤ maxLen) (ht : tn.size ≤ 1099511627776)
    (x0 : w.cell? ⟨db, 0, none⟩ = some (.pointer (some ⟨d, 0, none⟩))) (x1 : w.cell? ⟨fb, 0, none⟩ = some (.string fr)) (x2 : w.cell? ⟨tb, 0, none⟩ = some (.string tn)) (hout : ∀ k, k = db ∨ k = fb ∨ k = tb → k ∉ D.foot d) :
    Calls Try.prog 66 #[.pointer (some ⟨db, 0, none⟩), .pointer (some ⟨fb, 0, none⟩), .pointer (some ⟨tb, 0, none⟩)] w (Ans base d w D (RenQ D fr tn)) := by
  obtain ⟨X, hX⟩ : ∃ X : Ending → World → Prop, Ans base d w D (RenQ D fr tn) = X := ⟨_, rfl⟩
  have HX3 : Hid (D.at_ fr = none → X (.returned (.int .i64 3)) w) := fun h3 => by
    rw [← hX]
    have h4 : getT Fl.key (filesD D) fr.data.toList = none := by rw [get_files]; unfold Dsk.at_ at h3; rw [h3]; rfl
    exact ⟨3, D, rfl, Then.refl h, ⟨rfl, rfl, rfl⟩, by unfold RenQ; rw [h4]; simp⟩
  have HX2 : Hid (∀ f, D.at_ fr = some f → nameB tn = false → X (.returned (.int .i64 2)) w) := fun f h3 h4 => by
    rw [← hX]
    have h5 : getT Fl.key (filesD D) fr.data.toList = some f.f := by rw [get_files]; unfold Dsk.at_ at h3; rw [h3]; rfl
    exact ⟨2, D, rfl, Then.refl h, ⟨rfl, rfl, rfl⟩, by unfold RenQ; rw [h5]; simp only; rw [if_pos h4]; simp⟩
  have HXY : Hid (∀ f w', D.at_ fr = some f → nameB tn = true → Then base d w w' D { D with H := renH f tn D.H } → X (.returned (.int .i64 0)) w') := fun f w' h3 h4 h6 => by
    rw [← hX]
    have h5 : getT Fl.key (filesD D) fr.data.toList = some f.f := by rw [get_files]; unfold Dsk.at_ at h3; rw [h3]; rfl
    exact ⟨0, _, rfl, h6, ⟨rfl, rfl, rfl⟩, by unfold RenQ; rw [h5]; simp only; rw [if_neg (by rw [h4]; decide)]; exact ⟨trivial, ren_files f tn D⟩⟩
  rw [hX]
  clear hX
  have HFI := Lib.hid (file_any base d D fr w h hs)
  have HNM := Lib.hid (name_any tn w ht)
  cases hat : D.at_ fr with
  | none =>
    rw [hat] at HFI
    have HAT := Lib.hid hat
    unfold ptrO at HFI
    simp only at HFI
    clear hat h
    go_enter Try.func66, Try.ntmps66
    go_wp2_with (go_at_call 28; (with_reducible refine HFI.out.mono ?_); rintro e w4 ⟨rfl, hw4⟩; have hw4' := hw4.symm; subst hw4')
    first
      | exact HX3.out HAT.out
      | (go_ret; exact HX3.out HAT.out)
  | some f =>
    rw [hat] at HFI
    have hfm := at_mem hat
    have hfn := at_name hat
    have HAT := Lib.hid hat
    unfold ptrO at HFI
    simp only at HFI
    clear hat
    cases hnm : nameB tn with
    | false =>
      rw [hnm] at HNM
      have HNB := Lib.hid hnm
      unfold Hd.ptr at HFI
      clear hnm h hfm hfn
      go_enter Try.func66, Try.ntmps66
      go_wp2_with (first
        | (go_at_call 28; (with_reducible refine HFI.out.mono ?_); rintro e w4 ⟨rfl, hw4⟩; have hw4' := hw4.symm; subst hw4')
        | (go_at_call 53; (with_reducible refine HNM.out.mono ?_); rintro e w4 ⟨rfl, hw4⟩; have hw4' := hw4.symm; subst hw4'))
      first
        | exact HX2.out f HAT.out HNB.out
        | (go_ret; exact HX2.out f HAT.out HNB.out)
    | true =>
      rw [hnm] at HNM
      have HNB := Lib.hid hnm
      have hto : tn.size ≤ 24 := by
        unfold nameB at hnm
        simp only [Bool.and_eq_true, decide_eq_true_eq] at hnm
        exact hnm.1.2
      clear hnm
      cases hm : D.mp with
      | none => rw [h.mp0 hm] at hfm; cases hfm
      | some m =>
        have c0 := h.c0
        rw [hm] at c0
        have hmd : m ≠ d := fun e => h.d_out (by rw [← e]; exact List.mem_append.2 (.inl (Option.mem_toList.2 hm)))
        have hdb := block_lt_of_cell x0
        have hfbl := block_lt_of_cell x1
        have htbl := block_lt_of_cell x2
        obtain ⟨w5, hdel, hM5, ht5⟩ := ((h.drew).mp1 m hm).2.drop (t := 55) (e := 60) keyed9 Try.underlying55 Try.underlying9 fr hs 0
        have hg5 := ht5.grown
        have hk5 : ∀ i, i < w.heap.size → i ≠ m → w5.heap[i]? = w.heap[i]? := fun i hi hne => hg5.block i hi (fun e => hne (by injection e with e))
        have hM6 : Mt Hd.key Hd.ptr Try.prog 9 w5.drew m (delT Hd.key fr.data.toList D.H) := hM5.kept rfl
        have hdl := h.dlt
        have hlen : (delT Hd.key fr.data.toList D.H).length ≤ 128 := Nat.le_trans (List.length_filter_le _ _) h.len
        obtain ⟨w7, hst, hM7, ht7⟩ := hM6.store (t := 55) (e := 60) keyed9 Try.underlying55 Try.underlying9 (by omega) { f with name := tn } tn (by unfold maxLen; omega) rfl
        have hg7 := ht7.grown
        have hfk : fr.data.toList = f.key := by unfold Hd.key; rw [hfn]
        have hk7 : ∀ i, i < w.heap.size → i ≠ m → w7.heap[i]? = w.heap[i]? := fun i hi hne => (hg7.block i (by have := hg5.size; simp at this ⊢; omega) (fun e => hne (by injection e with e))).trans (hk5 i hi hne)
        have hs7 : w.heap.size ≤ w7.heap.size := by
          have h1 := hg5.size
          have h2 := hg7.size
          simp at h1 h2
          omega
        rw [hfk] at hM7
        have HTH : Hid (Then base d w w7 D { D with H := renH f tn D.H }) := ⟨h.ren hm hfm tn hto hM7 hk7, ⟨by rw [hg7.os]; show w5.os = _; rw [hg5.os]; rfl, by rw [hg7.tape]; show w5.tape = _; rw [hg5.tape]; rfl, by rw [hg7.output]; show w5.output = _; rw [hg5.output]; rfl, hs7, fun i hi hne => hk7 i hi (fun e => hne (by rw [e]; exact foot_mp hm))⟩, fun i hi => .inl (ren_foot hfm tn i hi)⟩
        have z0 : w5.cell? ⟨db, 0, none⟩ = some (.pointer (some ⟨d, 0, none⟩)) := (World.cell?_of_block (a := ⟨db, 0, none⟩) (hk5 db hdb (fun e => hout db (.inl rfl) (by rw [e]; exact foot_mp hm)))).trans x0
        have z2 : w5.cell? ⟨tb, 0, none⟩ = some (.string tn) := (World.cell?_of_block (a := ⟨tb, 0, none⟩) (hk5 tb htbl (fun e => hout tb (.inr (.inr rfl)) (by rw [e]; exact foot_mp hm)))).trans x2
        have zc : w5.cell? ⟨d, 0, none⟩ = some (.map (some m)) := (World.cell?_of_block (a := ⟨d, 0, none⟩) (hk5 d hdl (fun e => hmd e.symm))).trans c0
        unfold Hd.ptr at HFI hst
        simp only at hst
        clear hM5 ht5 hg5 hM6 hM7 ht7 hg7 h hfm hfn hk5 hk7 hs7 hfk hlen hmd hout
        go_enter Try.func66, Try.ntmps66
        go_upto_region 6 with (first
          | (go_at_call 28; (with_reducible refine HFI.out.mono ?_); rintro e w4 ⟨rfl, hw4⟩; have hw4' := hw4.symm; subst hw4')
          | (go_at_call 53; (with_reducible refine HNM.out.mono ?_); rintro e w4 ⟨rfl, hw4⟩; have hw4' := hw4.symm; subst hw4'))
        go_region_with fail
        all_goals
          go_upto_region 7 with fail
          go_region_with fail
        all_goals
          first
            | exact HXY.out f w7 HAT.out HNB.out HTH.out
            | (go_wp2_with fail; exact HXY.out f w7 HAT.out HNB.out HTH.out)
            | (go_wp2_with fail; go_ret; exact HXY.out f w7 HAT.out HNB.out HTH.out)
set_option maxRecDepth 100000 in
set_option maxHeartbeats 4000000 in
theorem rename_any4 (base d : Nat) (D : Dsk) (fr tn : ByteArray) (w : World) (h : Dk w base d D) (hs : fr.size ≤ maxLen) (ht : tn.size ≤ 1099511627776) :
    Calls Try.prog 45 #[.pointer (some ⟨d, 0, none⟩), .string fr, .string tn] w fun e w' => ∃ (er : Nat) (D' : Dsk), e = .returned (.int .i64 (er : Int)) ∧ Then base d w w' D D' ∧ ChgP D (RenQ D fr tn) er D' := by
  have HS1 := Lib.hid (fun db fb tb W a1 a2 a3 a4 a5 => rename1_any base d db fb tb D fr tn W a1 hs ht a2 a3 a4 a5)
  obtain ⟨Q, hQ⟩ : ∃ Q : Nat → Dsk → Prop, RenQ D fr tn = Q := ⟨_, rfl⟩
  rw [hQ] at HS1 ⊢
  clear hQ
  have hal := (((Below.refl w.heap.size w).alloc (Nat.le_refl _) (.cells #[.pointer (some ⟨d, 0, none⟩)] 23)).alloc (by simp) (.cells #[.string fr] 9)).alloc (by simp; omega) (.cells #[.string tn] 9)
  obtain ⟨w3, hw3⟩ : ∃ w3, ((w.alloc (.cells #[.pointer (some ⟨d, 0, none⟩)] 23)).alloc (.cells #[.string fr] 9)).alloc (.cells #[.string tn] 9) = w3 := ⟨_, rfl⟩
  have hz3 : w3.heap.size = w.heap.size + 3 := by rw [← hw3]; simp
  have hb0 : w3.heap[w.heap.size]? = some (.cells #[.pointer (some ⟨d, 0, none⟩)] 23 (0, 0)) := by
    rw [← hw3, Below.heap_alloc _ _ _ (by simp; omega), Below.heap_alloc _ _ _ (by simp)]
    exact heap_alloc_new w _
  have hb1 : w3.heap[w.heap.size + 1]? = some (.cells #[.string fr] 9 (0, 0)) := by
    rw [← hw3, Below.heap_alloc _ _ _ (by simp)]
    have := heap_alloc_new (w.alloc (.cells #[.pointer (some ⟨d, 0, none⟩)] 23)) (.cells #[.string fr] 9)
    rwa [show (w.alloc (.cells #[.pointer (some ⟨d, 0, none⟩)] 23)).heap.size = w.heap.size + 1 by simp] at this
  have hb2 : w3.heap[w.heap.size + 2]? = some (.cells #[.string tn] 9 (0, 0)) := by
    rw [← hw3]
    have := heap_alloc_new ((w.alloc (.cells #[.pointer (some ⟨d, 0, none⟩)] 23)).alloc (.cells #[.string fr] 9)) (.cells #[.string tn] 9)
    rwa [show ((w.alloc (.cells #[.pointer (some ⟨d, 0, none⟩)] 23)).alloc (.cells #[.string fr] 9)).heap.size = w.heap.size + 2 by simp] at this
  rw [hw3] at hal
  have HW3 := Lib.hid hw3
  have HT3 := Lib.hid (Then.of_below h hal)
  have HLT := Lib.hid h.lt
  have y0 : w3.cell? ⟨w.heap.size, 0, none⟩ = some (.pointer (some ⟨d, 0, none⟩)) := cell_of_row _ _ 0 _ _ _ hb0
  have HCH := Lib.hid (change_rename base d w.heap.size (w.heap.size + 1) (w.heap.size + 2) D Q w3 HT3.out.dk (fun W hW => by
    have k : ∀ i, i < w3.heap.size → W.heap[i]? = w3.heap[i]? := fun i hi => hW.block i hi
    exact HS1.out w.heap.size (w.heap.size + 1) (w.heap.size + 2) W (HT3.out.dk.below hW (Nat.le_refl _)) (cell_of_row _ _ 0 _ _ _ ((k _ (by omega)).trans hb0)) (cell_of_row _ _ 0 _ _ _ ((k _ (by omega)).trans hb1)) (cell_of_row _ _ 0 _ _ _ ((k _ (by omega)).trans hb2)) (fun i hi h2 => by have := HLT.out _ h2; omega)))
  clear hw3 hal hb0 hb1 hb2 h HS1
  go_enter Try.func45, Try.ntmps45
  go_upto_region 1 with fail
  rw [HW3.out]
  go_wp2_with (go_at_call 38; (with_reducible refine HCH.out.mono ?_); rintro e w4 ⟨er, D4, rfl, ht4, hq4⟩)
  go_ret
  exact ⟨er, D4, rfl, HT3.out.trans ht4, hq4⟩
def PD.renE (p : PD) (fr tn : ByteArray) : Nat := if (getT Fl.key p.F fr.data.toList).isNone then 3 else if nameB tn = false then 2 else 0
def PD.renF (p : PD) (fr tn : ByteArray) : List Fl := match getT Fl.key p.F fr.data.toList with | none => p.F | some g => Go.Proofs.Ytebkgcnldbkgeaa.renF g tn p.F
def PD.rename (p : PD) (fr tn : ByteArray) : Nat × PD := p.chg (p.renE fr tn) (p.renF fr tn)
theorem rename_pd (base d : Nat) (D : Dsk) (fr tn : ByteArray) (w : World) (h : Dk w base d D) (hs : fr.size ≤ maxLen) (ht : tn.size ≤ 1099511627776) :
    Calls Try.prog 45 #[.pointer (some ⟨d, 0, none⟩), .string fr, .string tn] w fun e w' => ∃ D', e = .returned (.int .i64 (((pd D).rename fr tn).1 : Int)) ∧ Then base d w w' D D' ∧ pd D' = ((pd D).rename fr tn).2 :=
  (rename_any4 base d D fr tn w h hs ht).mono fun e w' h => by
    obtain ⟨er, D', he, ht, hq⟩ := h
    have h2 : (er, pd D') = (pd D).rename fr tn := by
      refine pd_chg (E := (pd D).renE fr tn) (F1 := (pd D).renF fr tn) ?_
      unfold ChgP at hq ⊢
      split at hq
      · rename_i hb; rw [if_pos hb]; exact hq
      · rename_i hb
        rw [if_neg hb]
        obtain ⟨D1, h1, h2, h3⟩ := hq
        refine ⟨D1, h1, ?_, h3⟩
        unfold RenQ at h2
        unfold PD.renE PD.renF
        show er = (if (getT Fl.key (filesD D) fr.data.toList).isNone then 3 else _) ∧ _
        have e0 : (pd D).F = filesD D := rfl
        rw [e0]
        cases hg : getT Fl.key (filesD D) fr.data.toList with
        | none =>
          rw [hg] at h2
          obtain ⟨rfl, rfl⟩ := h2
          exact ⟨rfl, by rw [if_neg (by decide)]⟩
        | some g =>
          rw [hg] at h2
          simp only at h2
          split at h2
          · rename_i hn
            obtain ⟨rfl, rfl⟩ := h2
            exact ⟨by simp [hn], by rw [if_neg (by decide)]⟩
          · rename_i hn
            obtain ⟨rfl, h4⟩ := h2
            exact ⟨by simp [hn], by rw [if_pos rfl]; exact h4⟩
    exact ⟨D', by rw [he, ← h2], ht, by rw [← h2]⟩
end Go.Proofs.Ytebkgcnldbkgeaa
