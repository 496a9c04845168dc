/-
  What a table's Range does.
-/
import Derived.Test.YtmlekkbjmfknfaaCtE
import Derived.Lib.MinMax
namespace Go.Proofs.Ytmlekkbjmfknfaa
open Go.RowKit Go.Lib Go.Sort
set_option linter.unusedVariables false
set_option linter.unusedSimpArgs false

set_option maxRecDepth 100000 in
set_option maxHeartbeats 2000000 in
theorem range9_any (base g : Nat) (next : Int) (v : Value) (L : List AtC) (f t : ByteArray) (most : Int) (w : World) (hT : Tbl w base g next v L) (hL : L.length ≤ 100000) (hmo : -9223372036854775808 ≤ most ∧ most ≤ 9223372036854775807) :
    Calls Try.prog 51 #[.pointer (some ⟨g, 0, none⟩), .string f, .string t, .int .i64 most] w fun e w' => ∃ v', e = .returned v' ∧ w'.ownsRow w.heap.size 81 5 v' ((rngL f t L).take most.toNat).length (ccells ((rngL f t L).take most.toNat)) ∧ Below w.heap.size w w' := by
  have HFD : Hid (∀ key W, Tbl W base g next v L → Calls Try.prog 81 #[.pointer (some ⟨g, 0, none⟩), .string key] W fun e w' => ∃ r : Nat, e = .returned (.tuple #[.int .i64 r, .bool (thereB L key r)]) ∧ posOk L key r ∧ Below W.heap.size W w') := fun key W h => find_any base g key next v L W h (by omega)
  have HT := Lib.hid hT
  obtain ⟨X, hX⟩ : ∃ X : Ending → World → Prop, (fun e w' => ∃ v', e = .returned v' ∧ w'.ownsRow w.heap.size 81 5 v' ((rngL f t L).take most.toNat).length (ccells ((rngL f t L).take most.toNat)) ∧ Below w.heap.size w w') = X := ⟨_, rfl⟩
  have HX : Hid (∀ v' w', w'.ownsRow w.heap.size 81 5 v' ((rngL f t L).take most.toNat).length (ccells ((rngL f t L).take most.toNat)) → Below w.heap.size w w' → X (.returned v') w') := fun v' w' h1 h2 => by rw [← hX]; exact ⟨v', rfl, h1, h2⟩
  rw [hX]
  clear hX
  have hz : (⟨#[]⟩ : ByteArray).toList = [] := by rw [ByteArray.toList_eq]
  obtain ⟨A, c, rfl, hc, hcm, _⟩ := hT.acs
  clear hT
  go_enter Try.func51, Try.ntmps51
  go_upto_region 4 with (go_at_call 81; (with_reducible refine (HFD.out _ _ HT.out).mono ?_); rintro e w1 ⟨r1, rfl, hp1, hb1⟩)
  have HP1 := Lib.hid hp1
  have HB1 := Lib.hid hb1
  have HT1 := Lib.hid (HT.out.below hb1)
  have c1 := HT1.out.c1
  have hr1 := hp1.1
  clear hp1 hb1
  obtain ⟨te, hte⟩ : ∃ te, (t.toList != ([] : List UInt8)) = te := ⟨_, rfl⟩
  have hte2 : (!t.toList.isEmpty) = te := by
    rw [← hte]
    cases t.toList <;> rfl
  have HTE : Hid ((te = false → t = ⟨#[]⟩) ∧ (te = true → t ≠ ⟨#[]⟩)) := by
    refine ⟨fun e => bytes_ext ?_, fun e h => ?_⟩
    · rw [hz]
      rw [e] at hte2
      cases hq : t.toList with
      | nil => rfl
      | cons a l => rw [hq] at hte2; cases hte2
    · rw [h, hz, e] at hte2
      cases hte2
  go_upto_region 5 with fail
  clear c1
  go_upto_if 27 with fail
  clear hte hte2
  go_cut [11] (fun s11 w2 => ∃ r2 : Nat, s11 = .int .i64 r2 ∧ Hid (endOk L t r2) ∧ Hid (Below w.heap.size w w2))
  case first =>
    cases te with
    | false =>
      have HE : Hid (endOk L t L.length) := .inl ⟨HTE.out.1 rfl, rfl⟩
      go_wp2_with fail
      go_meet
      exact ⟨L.length, rfl, HE.out, HB1.out⟩
    | true =>
      have HN : Hid (t ≠ ⟨#[]⟩) := HTE.out.2 rfl
      go_wp2_with (go_at_call 81; (with_reducible refine (HFD.out _ _ HT1.out).mono ?_); rintro e w2 ⟨r2, rfl, hp2, hb2⟩)
      have HP2 := Lib.hid hp2
      have HB2 := Lib.hid (HB1.out.trans (hb2.mono HB1.out.size))
      clear hp2 hb2
      go_meet
      exact ⟨r2, rfl, .inr ⟨HN.out, HP2.out⟩, HB2.out⟩
  case rest =>
  obtain ⟨r2, rfl, HE, HB2⟩ := hcut
  have hr2 := HE.out.le
  have HTC := Lib.hid (HT.out.below HB2.out)
  obtain ⟨mi, hmi⟩ : ∃ mi : Int, min ((r2 : Int) - (r1 : Int)) most = mi := ⟨_, rfl⟩
  rcases Int.lt_or_le 0 mi with hpos | hneg
  · obtain ⟨k, rfl⟩ : ∃ k : Nat, mi = (k : Int) := ⟨mi.toNat, by omega⟩
    have HL2 : Hid ((rngL f t L).take most.toNat = (L.drop r1).take k) := rng_take HP1.out HE.out hmi
    have hk : 0 < k ∧ r1 + k ≤ r2 := by omega
    have c1 := HTC.out.c1
    obtain ⟨A', c', hv', _, _, hA⟩ := HTC.out.acs
    injection hv' with e1 _ e2
    subst e1 e2
    have hA2 := (hA.drop r1 c (by omega) hc).take k (by omega)
    rw [if_neg (by omega : ¬ c = r1)] at hA2
    have HC := Lib.hid (copied_any _ k (c - r1) _ wc hA2 (by omega) (fun e => by
      cases A with
      | none => have := (row_none HTC.out.row rfl).1; omega
      | some p => cases e))
    have hln : ((L.drop r1).take k).length = k := by simp; omega
    clear hA hA2
    have hkd : decide ((k : Int) ≤ 0) = false := by rw [decide_eq_false_iff_not]; omega
    have hkd2 : decide (k ≤ 0) = false := by rw [decide_eq_false_iff_not]; omega
    obtain ⟨hk0, hk1⟩ := hk
    have hcr : (c = r1) = False := by simp; omega
    go_wp2_with fail
    refine HC.out.mono ?_
    rintro e w3 ⟨v3, rfl, h3, h4⟩
    go_wp2_with fail
    refine HX.out v3 _ ?_ (HB2.out.trans (h4.mono HB2.out.size))
    rw [HL2.out]
    exact row_base5 h3 HB2.out.size
  · have HL2 := Lib.hid (rng_none HP1.out HE.out (by omega : min ((r2 : Int) - (r1 : Int)) most ≤ 0))
    have hkd : decide (mi ≤ 0) = true := by rw [decide_eq_true_iff]; omega
    have HF := Lib.hid (HX.out (.slice none 0 0) wc (by rw [HL2.out]; exact World.ownsRow_nil _ _ _ _) HB2.out)
    go_wp2_with fail
    exact HF.out
end Go.Proofs.Ytmlekkbjmfknfaa
