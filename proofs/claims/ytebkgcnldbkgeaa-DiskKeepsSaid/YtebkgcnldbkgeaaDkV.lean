/-
  What Remove does.
-/
import Derived.Test.YtebkgcnldbkgeaaDkQ
namespace Go.Proofs.Ytebkgcnldbkgeaa
open Go.RowKit Go.Lib Go.Sort Go.Maps
set_option linter.unusedVariables false
set_option linter.unusedSimpArgs false

section
variable {α : Type} {kf : α → List UInt8} {vf : α → Value} {P : Program} {kt : TypeId} {w w' : World} {m : Nat} {L : List α}
theorem Mt.drop {t e : TypeId} (h : Mt kf vf P kt w m L) (K : Keyed P kt) (ht : P.underlying t = some (.map kt e)) (hk : P.underlying kt = some .string) (s : ByteArray) (hs : s.size ≤ maxLen) (ty : TypeId) :
    ∃ w', (Builtin.delete_ #[t, kt] ty #[.map (some m), .string s]).run P w = .ok (.tuple #[]) w' ∧ Mt kf vf P kt w' m (delT kf s.data.toList L) ∧ w.mapTurned w' m := by
  obtain ⟨n, h0, h1⟩ := h.own
  obtain ⟨w', hr, ho, ht'⟩ := h1.drop K ht (WideMaps.keyOf_string_mk hk hs) ty
  rw [del_mapT] at ho
  exact ⟨w', hr, ⟨⟨n, h0, ho⟩, delT_rise kf _ L h.rise⟩, ht'⟩
end
/-- the files but one -/
def delF (s : ByteArray) (F : List Fl) : List Fl := F.filter fun f => !decide (f.key = s.data.toList)
section
variable {w w' : World} {base d : Nat} {D : Dsk}
theorem del_files (s : ByteArray) (D : Dsk) : (delT Hd.key s.data.toList D.H).map Hd.f = delF s (filesD D) := by
  unfold delT delF filesD
  rw [List.filter_map]
  rfl
theorem used_filter (q : Hd → Bool) (H : List Hd) : usedH (H.filter q) ≤ usedH H := by
  induction H with
  | nil => exact Nat.le_refl _
  | cons y l ih =>
    have e : ∀ z (L : List Hd), usedH (z :: L) = z.b.length + usedH L := fun z L => by unfold usedH; simp
    rw [List.filter_cons]
    split
    · rw [e, e]; omega
    · rw [e]; omega
theorem Dk.del (h : Dk w base d D) {m : Nat} (hm : D.mp = some m) (k : List UInt8) (hM : Mt Hd.key Hd.ptr Try.prog 9 w' m (delT Hd.key k D.H)) (hk : ∀ i, i < w.heap.size → i ≠ m → w'.heap[i]? = w.heap[i]?) : Dk w' base d { D with H := delT Hd.key k D.H } := by
  have hsub : (delT Hd.key k D.H).Sublist D.H := List.filter_sublist
  have hmd : d ≠ m := fun e => h.d_out (by rw [e]; exact List.mem_append.2 (.inl (Option.mem_toList.2 hm)))
  refine ⟨h.bd, by rw [hk d h.dlt hmd]; exact h.blk, fun e => (by rw [hm] at e; cases e), fun m' hm' => ?_, fun x hx => ?_, h.nd.sublist hsub, h.r1, h.r2, h.l1, h.l2, Nat.le_trans hsub.length_le h.len, Nat.le_trans ?_ h.tot⟩
  · have e : m = m' := by rw [hm] at hm'; injection hm'
    subst e
    exact ⟨(h.mp1 m hm).1, hM⟩
  · have hx2 := hsub.subset hx
    refine (h.fl x hx2).keep fun i hi => hk i (h.lt i (foot_fl hx2 hi)) fun e => ?_
    have h1 := h.mp_ne hx2 (m := m) hm
    subst e
    simp only [Hd.foot, List.mem_cons, Option.mem_toList] at hi
    rcases hi with e2 | e2
    · exact h1.1 e2
    · exact h1.2 e2.symm
  · exact used_filter _ D.H
theorem del_foot (k : List UInt8) : ∀ i ∈ ({ D with H := delT Hd.key k D.H } : Dsk).foot d, i ∈ D.foot d := fun i hi => by
  simp only [Dsk.foot, List.mem_cons, List.mem_append, List.mem_flatMap] at hi ⊢
  rcases hi with h | h | ⟨f, hf, h⟩
  · exact .inl h
  · exact .inr (.inl h)
  · exact .inr (.inr ⟨f, (List.filter_sublist.subset hf), h⟩)
end
set_option maxRecDepth 100000 in
set_option maxHeartbeats 4000000 in
theorem remove1_any (base d db nb : Nat) (D : Dsk) (s : ByteArray) (w : World) (h : Dk w base d D) (hs : s.size ≤ maxLen)
    (x0 : w.cell? ⟨db, 0, none⟩ = some (.pointer (some ⟨d, 0, none⟩))) (x1 : w.cell? ⟨nb, 0, none⟩ = some (.string s)) :
    Calls Try.prog 68 #[.pointer (some ⟨db, 0, none⟩), .pointer (some ⟨nb, 0, none⟩)] w (Ans base d w D (fun er D1 => er = (if (getT Fl.key (filesD D) s.data.toList).isSome then 0 else 3) ∧ filesD D1 = if er = 0 then delF s (filesD D) else filesD D)) := by
  obtain ⟨X, hX⟩ : ∃ X : Ending → World → Prop, (Ans base d w D (fun er D1 => er = (if (getT Fl.key (filesD D) s.data.toList).isSome then 0 else 3) ∧ filesD D1 = if er = 0 then delF s (filesD D) else filesD D)) = X := ⟨_, rfl⟩
  have HX3 : Hid (D.at_ s = none → X (.returned (.int .i64 3)) w) := fun h3 => by
    rw [← hX]
    have h4 : getT Fl.key (filesD D) s.data.toList = none := by rw [get_files]; unfold Dsk.at_ at h3; rw [h3]; rfl
    exact ⟨3, D, rfl, Then.refl h, ⟨rfl, rfl, rfl⟩, by rw [h4]; rfl, by rw [if_neg (by decide)]⟩
  have HXY : Hid (∀ f w', D.at_ s = some f → Then base d w w' D { D with H := delT Hd.key s.data.toList D.H } → X (.returned (.int .i64 0)) w') := fun f w' h3 h4 => by
    rw [← hX]
    have h5 : getT Fl.key (filesD D) s.data.toList = some f.f := by rw [get_files]; unfold Dsk.at_ at h3; rw [h3]; rfl
    exact ⟨0, _, rfl, h4, ⟨rfl, rfl, rfl⟩, by rw [h5]; rfl, by rw [if_pos rfl]; exact del_files s D⟩
  rw [hX]
  clear hX
  have HFI := Lib.hid (file_any base d D s w h hs)
  cases hat : D.at_ s with
  | none =>
    rw [hat] at HFI
    have HAT := Lib.hid hat
    unfold ptrO at HFI
    simp only at HFI
    clear hat h
    go_enter Try.func68, Try.ntmps68
    go_wp2_with (go_at_call 28; (with_reducible refine HFI.out.mono ?_); rintro e w4 ⟨rfl, hw4⟩; have hw4' := hw4.symm; subst hw4')
    first
      | exact HX3.out HAT.out
      | (go_ret; exact HX3.out HAT.out)
  | some f =>
    rw [hat] at HFI
    have hfm := at_mem hat
    have HAT := Lib.hid hat
    unfold ptrO Hd.ptr at HFI
    simp only at HFI
    clear hat
    cases hm : D.mp with
    | none => rw [h.mp0 hm] at hfm; cases hfm
    | some m =>
      have c0 := h.c0
      rw [hm] at c0
      have HD := Lib.hid h
      obtain ⟨w5, hdel, hM5, ht5⟩ := ((h.drew).mp1 m hm).2.drop (t := 55) (e := 60) keyed9 Try.underlying55 Try.underlying9 s hs 0
      have hg5 := ht5.grown
      have HTH : Hid (Then base d w w5 D { D with H := delT Hd.key s.data.toList D.H }) := ⟨h.del hm _ hM5 fun i hi hne => hg5.block i hi (fun e => hne (by injection e with e)), ⟨by rw [hg5.os]; rfl, by rw [hg5.tape]; rfl, by rw [hg5.output]; rfl, hg5.size, fun i hi hne => hg5.block i hi (fun e => hne (by injection e with e; subst e; exact foot_mp hm))⟩, fun i hi => .inl (del_foot _ i hi)⟩
      clear hM5 ht5 hg5 h hfm
      go_enter Try.func68, Try.ntmps68
      go_wp2_with (go_at_call 28; (with_reducible refine HFI.out.mono ?_); rintro e w4 ⟨rfl, hw4⟩; have hw4' := hw4.symm; subst hw4')
      go_region_with fail
      all_goals
        first
          | exact HXY.out f w5 HAT.out HTH.out
          | (go_wp2_with fail; exact HXY.out f w5 HAT.out HTH.out)
          | (go_wp2_with fail; go_ret; exact HXY.out f w5 HAT.out HTH.out)
set_option maxRecDepth 100000 in
set_option maxHeartbeats 4000000 in
theorem remove_any4 (base d : Nat) (D : Dsk) (s : ByteArray) (w : World) (h : Dk w base d D) (hs : s.size ≤ maxLen) :
    Calls Try.prog 47 #[.pointer (some ⟨d, 0, none⟩), .string s] w fun e w' => ∃ (er : Nat) (D' : Dsk), e = .returned (.int .i64 (er : Int)) ∧ Then base d w w' D D' ∧ ChgP D (fun er D1 => er = (if (getT Fl.key (filesD D) s.data.toList).isSome then 0 else 3) ∧ filesD D1 = if er = 0 then delF s (filesD D) else filesD D) er D' := by
  have HS1 := Lib.hid (fun db nb W a1 a2 a3 => remove1_any base d db nb D s W a1 hs a2 a3)
  obtain ⟨Q, hQ⟩ : ∃ Q : Nat → Dsk → Prop, (fun er D1 => er = (if (getT Fl.key (filesD D) s.data.toList).isSome then 0 else 3) ∧ filesD D1 = if er = 0 then delF s (filesD D) else filesD D) = Q := ⟨_, rfl⟩
  rw [hQ] at HS1 ⊢
  clear hQ
  have hal := ((Below.refl w.heap.size w).alloc (Nat.le_refl _) (.cells #[.pointer (some ⟨d, 0, none⟩)] 23)).alloc (by simp) (.cells #[.string s] 9)
  obtain ⟨w3, hw3⟩ : ∃ w3, (w.alloc (.cells #[.pointer (some ⟨d, 0, none⟩)] 23)).alloc (.cells #[.string s] 9) = w3 := ⟨_, rfl⟩
  have hz3 : w3.heap.size = w.heap.size + 2 := by rw [← hw3]; simp
  have hb0 : w3.heap[w.heap.size]? = some (.cells #[.pointer (some ⟨d, 0, none⟩)] 23 (0, 0)) := by
    rw [← hw3, Below.heap_alloc _ _ _ (by simp)]
    exact heap_alloc_new w _
  have hb1 : w3.heap[w.heap.size + 1]? = some (.cells #[.string s] 9 (0, 0)) := by
    rw [← hw3]
    have := heap_alloc_new (w.alloc (.cells #[.pointer (some ⟨d, 0, none⟩)] 23)) (.cells #[.string s] 9)
    rwa [show (w.alloc (.cells #[.pointer (some ⟨d, 0, none⟩)] 23)).heap.size = w.heap.size + 1 by simp] at this
  rw [hw3] at hal
  have HW3 := Lib.hid hw3
  have HT3 := Lib.hid (Then.of_below h hal)
  have y0 : w3.cell? ⟨w.heap.size, 0, none⟩ = some (.pointer (some ⟨d, 0, none⟩)) := cell_of_row _ _ 0 _ _ _ hb0
  have HCH := Lib.hid (change_remove base d w.heap.size (w.heap.size + 1) D Q w3 HT3.out.dk (fun W hW => by
    have k : ∀ i, i < w3.heap.size → W.heap[i]? = w3.heap[i]? := fun i hi => hW.block i hi
    exact HS1.out w.heap.size (w.heap.size + 1) W (HT3.out.dk.below hW (Nat.le_refl _)) (cell_of_row _ _ 0 _ _ _ ((k _ (by omega)).trans hb0)) (cell_of_row _ _ 0 _ _ _ ((k _ (by omega)).trans hb1))))
  clear hw3 hal hb0 hb1 h HS1
  go_enter Try.func47, Try.ntmps47
  go_upto_region 1 with fail
  rw [HW3.out]
  go_wp2_with (go_at_call 38; (with_reducible refine HCH.out.mono ?_); rintro e w4 ⟨er, D4, rfl, ht4, hq4⟩)
  go_ret
  exact ⟨er, D4, rfl, HT3.out.trans ht4, hq4⟩
def PD.remove (p : PD) (s : ByteArray) : Nat × PD := p.chg (if (getT Fl.key p.F s.data.toList).isSome then 0 else 3) (delF s p.F)
theorem remove_pd (base d : Nat) (D : Dsk) (s : ByteArray) (w : World) (h : Dk w base d D) (hs : s.size ≤ maxLen) :
    Calls Try.prog 47 #[.pointer (some ⟨d, 0, none⟩), .string s] w fun e w' => ∃ D', e = .returned (.int .i64 (((pd D).remove s).1 : Int)) ∧ Then base d w w' D D' ∧ pd D' = ((pd D).remove s).2 :=
  (remove_any4 base d D s w h hs).mono fun e w' h => by
    obtain ⟨er, D', he, ht, hq⟩ := h
    have h2 : (er, pd D') = (pd D).remove s := pd_chg hq
    exact ⟨D', by rw [he, ← h2], ht, by rw [← h2]⟩
end Go.Proofs.Ytebkgcnldbkgeaa
