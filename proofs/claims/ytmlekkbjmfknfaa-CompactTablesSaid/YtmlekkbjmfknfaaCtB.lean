/-
  What the document's table's Get does, and that it tells what the table's tells.
-/
import Derived.Test.YtmlekkbjmfknfaaCtA
namespace Go.Proofs.Ytmlekkbjmfknfaa
open Go.RowKit Go.Lib
set_option linter.unusedVariables false
set_option linter.unusedSimpArgs false

def fndK (key : ByteArray) (l : List AtC) : Option AtC := l.find? fun x => decide (x.key = key)
theorem fndK_step (key : ByteArray) (l : List AtC) (j : Nat) (hj : j < l.length) : fndK key (l.drop j) = if (l.getD j default).key = key then some (l.getD j default) else fndK key (l.drop (j + 1)) := by
  rw [drop_eq l j hj]
  generalize l.getD j default = x
  unfold fndK
  by_cases h : x.key = key <;> simp [h]
/-- a key's record is told alike -/
theorem Alk.get {L R : List AtC} (h : Alk L R) (hs : Srt L) {key : ByteArray} {r : Nat} (hp : posOk L key r) : fndK key R = if thereB L key r = true then some (L.getD r default) else none := by
  by_cases ht : thereB L key r = true
  · rw [if_pos ht]
    unfold thereB at ht
    rw [Bool.and_eq_true, decide_eq_true_iff, decide_eq_true_iff] at ht
    have hm : L.getD r default ∈ R := (h.mem _).1 (by rw [List.getD_eq_getElem?_getD, List.getElem?_eq_getElem ht.1]; exact List.getElem_mem _)
    unfold fndK
    cases hf : R.find? (fun x => decide (x.key = key)) with
    | none =>
      have := List.find?_eq_none.1 hf _ hm
      simp at this
      exact absurd ht.2 this
    | some y =>
      have h1 := List.find?_some hf
      have h2 := List.mem_of_find?_eq_some hf
      simp at h1
      congr 1
      by_cases e : y = L.getD r default
      · exact e
      · exfalso
        have hone := h.one
        obtain ⟨i, hi, e1⟩ := List.getElem_of_mem h2
        obtain ⟨j, hj, e2⟩ := List.getElem_of_mem hm
        have hij : i ≠ j := fun e3 => e (by rw [← e1, ← e2]; subst e3; rfl)
        have hpw := List.pairwise_iff_getElem.1 hone
        rcases Nat.lt_or_gt_of_ne hij with h3 | h3
        · exact hpw i j hi hj h3 (by rw [e1, e2, h1, ht.2])
        · exact hpw j i hj hi h3 (by rw [e1, e2, h1, ht.2])
  · rw [if_neg ht]
    unfold fndK
    rw [List.find?_eq_none]
    intro x hx
    simp only [decide_eq_true_eq]
    intro hk
    obtain ⟨i, hi, rfl⟩ := getD_mem ((h.mem x).2 hx)
    apply ht
    unfold thereB
    rw [Bool.and_eq_true, decide_eq_true_iff, decide_eq_true_iff]
    have hri : i = r := by
      rcases Nat.lt_trichotomy i r with h1 | h1 | h1
      · have := hp.2.1 i h1; rw [hk, lessB_irr] at this; cases this
      · exact h1
      · have h2 := hp.2.2 r (Nat.le_refl _) (by omega)
        have h3 := srt_get hs h1 hi
        rw [hk] at h3
        rw [h3] at h2; cases h2
    subst hri
    exact ⟨hi, hk⟩
set_option maxRecDepth 100000 in
set_option maxHeartbeats 4000000 in
theorem rget_any (base g : Nat) (next : Int) (v : Value) (R : List AtC) (key : ByteArray) (w : World) (hT : Rt w base g next v R) (hR : R.length ≤ 1000000) :
    Calls Try.prog 50 #[.pointer (some ⟨g, 0, none⟩), .string key] w fun e w' => e = .returned (.tuple #[.agg ((fndK key R).getD zAt).cells.toArray, .bool (fndK key R).isSome]) ∧ Below w.heap.size w w' := by
  obtain ⟨W0, hW0⟩ : ∃ W0, w.alloc (.cells #[.int .i64 0, .string ⟨#[]⟩, .string ⟨#[]⟩, .bool false, .int .i64 0] 90) = W0 := ⟨_, rfl⟩
  have hB0 : Below w.heap.size w W0 := by rw [← hW0]; exact (Below.refl _ _).alloc (Nat.le_refl _) _
  have hN0 : W0.heap[w.heap.size]? = some (.cells #[.int .i64 0, .string ⟨#[]⟩, .string ⟨#[]⟩, .bool false, .int .i64 0] 90 (0, 0)) := by rw [← hW0]; exact heap_alloc_new w _
  have hT0 := hT.below hB0
  have HN0 := Lib.hid hN0
  have HB0 := Lib.hid hB0
  have hz0 : w.heap.size < W0.heap.size := (Array.getElem?_eq_some_iff.1 hN0).1
  have HW0 := Lib.hid hW0
  obtain ⟨A, c, rfl, _, _, hA⟩ := Acs.of_row hT0.row rfl hT0.ok
  have HA := Lib.hid hA
  have c1 : W0.cell? ⟨g, 1, none⟩ = some (.slice A R.length c) := cell_of_row _ _ 1 _ _ _ hT0.box
  have HST : Hid (∀ j, j < R.length → fndK key (R.drop j) = if (R.getD j default).key = key then some (R.getD j default) else fndK key (R.drop (j + 1))) := fun j hj => fndK_step key R j hj
  have HEN : Hid (fndK key (R.drop R.length) = none) := by show _ = _; rw [List.drop_length]; rfl
  have H0 : Hid (fndK key (R.drop 0) = fndK key R) := rfl
  generalize fndK key R = FK at *
  have HCR : Hid (∃ D : Nat → Option AtC, ∀ j, D j = fndK key (R.drop j)) := ⟨_, fun _ => rfl⟩
  obtain ⟨D, hD⟩ := HCR.out
  simp only [← hD] at HST HEN H0
  clear hD HCR hT hT0 hB0 hW0 hN0 hA
  go_enter Try.func50, Try.ntmps50
  go_upto_region 1 with fail
  rw [HW0.out]
  go_wp2_with fail
  clear c1
  go_loopw [13] (fun iv wr => ∃ k : Nat, k ≤ R.length ∧ iv = .int .i64 k ∧ Hid (D k = FK) ∧ Hid (Below W0.heap.size W0 wr)) (fun iv _ => R.length - (RowKit.intOf iv).toNat)
  case atStart => exact ⟨0, by omega, rfl, H0.out, Below.refl _ _⟩
  case round =>
    obtain ⟨k, hk, rfl, HD, HB⟩ := hrel
    have hN1 := (HB.out.block w.heap.size hz0).trans HN0.out
    have HB1 := Lib.hid (HB0.out.trans (HB.out.mono HB0.out.size))
    have m0 := cell_of_row _ _ 0 _ _ _ hN1
    have m1 := cell_of_row _ _ 1 _ _ _ hN1
    have m2 := cell_of_row _ _ 2 _ _ _ hN1
    have m3 := cell_of_row _ _ 3 _ _ _ hN1
    have m4 := cell_of_row _ _ 4 _ _ _ hN1
    have f0 := frozen_of_row _ w.heap.size 0 _ _ hN1
    have f1 := frozen_of_row _ w.heap.size 1 _ _ hN1
    have f2 := frozen_of_row _ w.heap.size 2 _ _ hN1
    have f3 := frozen_of_row _ w.heap.size 3 _ _ hN1
    have f4 := frozen_of_row _ w.heap.size 4 _ _ hN1
    clear hN1
    by_cases hlt : k < R.length
    · obtain ⟨p, rfl, _, r0, r1, r2, r3, r4⟩ := (HA.out.below HB.out).row hlt
      have HS := Lib.hid (HST.out k hlt)
      generalize R.getD k default = re at *
      obtain ⟨off, xk, value, gone, time⟩ := re
      simp only at r0 r1 r2 r3 r4 HS
      have hkz : (k : Int) < (R.length : Int) := by omega
      have hal := (Below.refl wr.heap.size wr).alloc (Nat.le_refl _) (.cells #[.int .i64 off, .string xk, .string value, .bool gone, .int .i64 time] 90)
      have hN := heap_alloc_new wr (.cells #[.int .i64 off, .string xk, .string value, .bool gone, .int .i64 time] 90)
      obtain ⟨w5, hw5⟩ : ∃ w5, wr.alloc (.cells #[.int .i64 off, .string xk, .string value, .bool gone, .int .i64 time] 90) = w5 := ⟨_, rfl⟩
      rw [hw5] at hal hN
      have HW5 := Lib.hid hw5
      have HBA := Lib.hid (HB.out.trans (hal.mono HB.out.size))
      have HB1A := Lib.hid (HB1.out.trans (hal.mono HB1.out.size))
      clear hw5 hal m0 m1 m2 m3 m4 f0 f1 f2 f3 f4
      go_upto_region 4 with fail
      rw [HW5.out]
      have hN5 := (HBA.out.block w.heap.size hz0).trans HN0.out
      have m0 := cell_of_row _ _ 0 _ _ _ hN5
      have m1 := cell_of_row _ _ 1 _ _ _ hN5
      have m2 := cell_of_row _ _ 2 _ _ _ hN5
      have m3 := cell_of_row _ _ 3 _ _ _ hN5
      have m4 := cell_of_row _ _ 4 _ _ _ hN5
      have f0 := frozen_of_row _ w.heap.size 0 _ _ hN5
      have f1 := frozen_of_row _ w.heap.size 1 _ _ hN5
      have f2 := frozen_of_row _ w.heap.size 2 _ _ hN5
      have f3 := frozen_of_row _ w.heap.size 3 _ _ hN5
      have f4 := frozen_of_row _ w.heap.size 4 _ _ hN5
      have n0 := cell_of_row _ _ 0 _ _ _ hN
      have n1 := cell_of_row _ _ 1 _ _ _ hN
      have n2 := cell_of_row _ _ 2 _ _ _ hN
      have n3 := cell_of_row _ _ 3 _ _ _ hN
      have n4 := cell_of_row _ _ 4 _ _ _ hN
      clear r0 r1 r2 r3 r4 hN hN5
      by_cases he : xk = key
      · have e1 : (xk.toList == key.toList) = true := by rw [he]; simp
        have HF : Hid (FK = some ⟨off, xk, value, gone, time⟩) := by have e := HD.out; rw [HS.out, if_pos he] at e; exact e.symm
        clear he HS HD
        go_wp2_with fail
        refine bodyPost_ret (v := .tuple #[.agg #[.int .i64 off, .string xk, .string value, .bool gone, .int .i64 time], .bool true]) (by simp [results, Try.results50, go_sem, m0, m1, m2, m3, m4]) rfl ⟨by rw [HF.out]; rfl, ?_⟩
        repeat refine Below.setCell ?_ (by simp) _
        exact HB1A.out
      · have hne : xk.toList ≠ key.toList := fun e => he (bytes_ext e)
        have e1 : (xk.toList == key.toList) = false := by simpa using hne
        have HX : Hid (D (k + 1) = FK) := by have e := HD.out; rw [HS.out, if_neg he] at e; exact e
        clear he hne HS HD
        go_wp2_with fail
        go_roundw
        case rel => exact ⟨k + 1, by omega, by go_num, HX, HBA⟩
        case measure => simp [RowKit.intOf]; omega
    · have d9 : decide ((k : Int) < (R.length : Int)) = false := by rw [decide_eq_false_iff_not]; omega
      have d10 : decide (k < R.length) = false := by rw [decide_eq_false_iff_not]; omega
      obtain hkl : k = R.length := by omega
      have HF : Hid (FK = none) := by have e := HD.out; rw [hkl, HEN.out] at e; exact e.symm
      clear hkl hlt HD
      go_wp2_with fail
      refine bodyPost_ret (v := .tuple #[.agg #[.int .i64 0, .string ⟨#[]⟩, .string ⟨#[]⟩, .bool false, .int .i64 0], .bool false]) (by simp [results, Try.results50, go_sem, m0, m1, m2, m3, m4]) rfl ⟨by rw [HF.out]; rfl, ?_⟩
      repeat refine Below.setCell ?_ (by simp) _
      exact HB1.out
end Go.Proofs.Ytmlekkbjmfknfaa
