/-
  Law 4's small, and its step of any call.
-/
import Derived.Test.YtebkgcnldbkgeaaDpS
import Derived.Test.YtebkgcnldbkgeaaDkSh
namespace Go.Proofs.Ytebkgcnldbkgeaa
open Go.RowKit Go.Lib Go.Sort Go.Maps
set_option linter.unusedVariables false
set_option linter.unusedSimpArgs false

/-- a call that came in -/
structure O4.In (o : O4) (w : World) : Prop where
  isd : Isd w w.heap.size o.pA o.pn o.P
  a : o.a.size ≤ maxLen
  b : o.b.size ≤ maxLen
  s : o.s.size ≤ maxLen
  n1 : -9223372036854775808 ≤ o.n
  n2 : o.n ≤ 9223372036854775807
  pn : o.pn ≤ o.pc
  pc : o.pc ≤ maxLen
def sm4 (o : O4) : O4 := { o with a := shortB o.a 40, b := shortB o.b 40, s := shortB o.s 300, pn := min o.pn 10, P := o.P.take 10 }
theorem O4.In.below {o : O4} {w w' : World} (h : o.In w) (hb : Below w.heap.size w w') : o.In w' := ⟨(h.isd.below hb).wider hb.size, h.a, h.b, h.s, h.n1, h.n2, h.pn, h.pc⟩
theorem Isd.take {w : World} {B n : Nat} {A : Option Addr} {L : List Int} (h : Isd w B A n L) (m : Nat) : Isd w B A (min n m) (L.take m) :=
  ⟨by rw [List.length_take, h.len]; omega, fun k hk => by
    obtain ⟨p, e, h1, h2⟩ := h.row k (by omega)
    have e1 : (L.take m).getD k 0 = L.getD k 0 := by rw [List.getD_eq_getElem?_getD, List.getElem?_take_of_lt (by omega), ← List.getD_eq_getElem?_getD]
    rw [e1]
    exact ⟨p, e, h1, h2⟩⟩
theorem O4.In.ok {o : O4} {w : World} (h : o.In w) : (sm4 o).Ok w := by
  have := short_size o.a 40
  have := short_size o.b 40
  have := short_size o.s 300
  exact ⟨h.isd.take 10, by show (shortB _ _).size ≤ _; omega, by show (shortB _ _).size ≤ _; omega, by show (shortB _ _).size ≤ _; omega, h.n1, h.n2, by show min _ _ ≤ _; omega⟩
theorem six_frozen {w : World} {g : Nat} {cs : Array Value} {T : TypeId} (h : w.heap[g]? = some (.cells cs T (0, 0))) (i : Nat) : w.frozen? ⟨g, i, none⟩ = false := frozen_of_row _ g i _ _ h
set_option maxRecDepth 100000 in
set_option maxHeartbeats 8000000 in
theorem small4_any (o : O4) (w : World) (ho : o.In w) :
    Calls Try.prog 19 #[.agg #[.int .i64 o.kd, .string o.a, .string o.b, .string o.s, .int .i64 o.n, .slice o.pA o.pn o.pc]] w fun e w' => e = .returned (.agg #[.int .i64 (sm4 o).kd, .string (sm4 o).a, .string (sm4 o).b, .string (sm4 o).s, .int .i64 (sm4 o).n, .slice (sm4 o).pA (sm4 o).pn (sm4 o).pc]) ∧ Below w.heap.size w w' := by
  have HSA : Hid (∀ W, Calls Try.prog 22 #[.string o.a, .int .i64 40] W fun e w' => e = .returned (.string (shortB o.a 40)) ∧ w' = W) := fun W => short_any4 o.a 40 W ho.a (by decide)
  have HSB : Hid (∀ W, Calls Try.prog 22 #[.string o.b, .int .i64 40] W fun e w' => e = .returned (.string (shortB o.b 40)) ∧ w' = W) := fun W => short_any4 o.b 40 W ho.b (by decide)
  have HSS : Hid (∀ W, Calls Try.prog 22 #[.string o.s, .int .i64 300] W fun e w' => e = .returned (.string (shortB o.s 300)) ∧ w' = W) := fun W => short_any4 o.s 300 W ho.s (by decide)
  have hpn := ho.pn
  have hpc := ho.pc
  unfold sm4
  simp only
  obtain ⟨kd, sa, sb, ss, sn, pA, pn, pc, P⟩ := o
  simp only at *
  generalize shortB sa 40 = ta at *
  generalize shortB sb 40 = tb at *
  generalize shortB ss 300 = ts at *
  have hal := ((Below.refl w.heap.size w).alloc (Nat.le_refl _) (.cells #[.int .i64 kd, .string sa, .string sb, .string ss, .int .i64 sn, .slice pA pn pc] 44)).alloc (by simp) (.cells #[.int .i64 0, .string ⟨#[]⟩, .string ⟨#[]⟩, .string ⟨#[]⟩, .int .i64 0, .slice none 0 0] 44)
  have hN1 := heap_alloc_new w (.cells #[.int .i64 kd, .string sa, .string sb, .string ss, .int .i64 sn, .slice pA pn pc] 44)
  have hz1 : (w.alloc (.cells #[.int .i64 kd, .string sa, .string sb, .string ss, .int .i64 sn, .slice pA pn pc] 44)).heap.size = w.heap.size + 1 := by simp
  have hN2 := heap_alloc_new (w.alloc (.cells #[.int .i64 kd, .string sa, .string sb, .string ss, .int .i64 sn, .slice pA pn pc] 44)) (.cells #[.int .i64 0, .string ⟨#[]⟩, .string ⟨#[]⟩, .string ⟨#[]⟩, .int .i64 0, .slice none 0 0] 44)
  have hN1' := (Below.heap_alloc (w.alloc (.cells #[.int .i64 kd, .string sa, .string sb, .string ss, .int .i64 sn, .slice pA pn pc] 44)) (.cells #[.int .i64 0, .string ⟨#[]⟩, .string ⟨#[]⟩, .string ⟨#[]⟩, .int .i64 0, .slice none 0 0] 44) w.heap.size (by simp)).trans hN1
  rw [hz1] at hN2
  obtain ⟨w5, hw5⟩ : ∃ w5, (w.alloc (.cells #[.int .i64 kd, .string sa, .string sb, .string ss, .int .i64 sn, .slice pA pn pc] 44)).alloc (.cells #[.int .i64 0, .string ⟨#[]⟩, .string ⟨#[]⟩, .string ⟨#[]⟩, .int .i64 0, .slice none 0 0] 44) = w5 := ⟨_, rfl⟩
  rw [hw5] at hal hN1' hN2
  have HW5 := Lib.hid hw5
  have HB := Lib.hid hal
  obtain ⟨b0, b1, b2, b3, b4, b5⟩ := six_cells hN1'
  obtain ⟨r0, r1, r2, r3, r4, r5⟩ := six_cells hN2
  have z1 := six_frozen hN1' 1
  have z2 := six_frozen hN1' 2
  have z3 := six_frozen hN1' 3
  have z5 := six_frozen hN1' 5
  have y0 := six_frozen hN2 0
  have y1 := six_frozen hN2 1
  have y2 := six_frozen hN2 2
  have y3 := six_frozen hN2 3
  have y4 := six_frozen hN2 4
  have y5 := six_frozen hN2 5
  unfold maxLen at hpc
  have hM1 : (w5.setCell ⟨w.heap.size, 3, none⟩ (.string ts)).heap[w.heap.size]? = some (.cells #[.int .i64 kd, .string sa, .string sb, .string ts, .int .i64 sn, .slice pA pn pc] 44 (0, 0)) := by rw [heap_setCell_same _ _ 3 _ _ _ hN1']; rfl
  have hM2 : ((w5.setCell ⟨w.heap.size, 3, none⟩ (.string ts)).setCell ⟨w.heap.size, 1, none⟩ (.string ta)).heap[w.heap.size]? = some (.cells #[.int .i64 kd, .string ta, .string sb, .string ts, .int .i64 sn, .slice pA pn pc] 44 (0, 0)) := by rw [heap_setCell_same _ _ 1 _ _ _ hM1]; rfl
  have hM3 : (((w5.setCell ⟨w.heap.size, 3, none⟩ (.string ts)).setCell ⟨w.heap.size, 1, none⟩ (.string ta)).setCell ⟨w.heap.size, 2, none⟩ (.string tb)).heap[w.heap.size]? = some (.cells #[.int .i64 kd, .string ta, .string tb, .string ts, .int .i64 sn, .slice pA pn pc] 44 (0, 0)) := by rw [heap_setCell_same _ _ 2 _ _ _ hM2]; rfl
  have hM4 : (((w5.setCell ⟨w.heap.size, 3, none⟩ (.string ts)).setCell ⟨w.heap.size, 1, none⟩ (.string ta)).setCell ⟨w.heap.size, 2, none⟩ (.string tb)).heap[w.heap.size + 1]? = some (.cells #[.int .i64 0, .string ⟨#[]⟩, .string ⟨#[]⟩, .string ⟨#[]⟩, .int .i64 0, .slice none 0 0] 44 (0, 0)) := by
    rw [Below.heap_setCell _ _ _ _ (by show w.heap.size + 1 ≠ w.heap.size; omega), Below.heap_setCell _ _ _ _ (by show w.heap.size + 1 ≠ w.heap.size; omega), Below.heap_setCell _ _ _ _ (by show w.heap.size + 1 ≠ w.heap.size; omega)]
    exact hN2
  have hb6 := (((hal.setCell (p := ⟨w.heap.size, 3, none⟩) (Nat.le_refl _) (.string ts)).setCell (p := ⟨w.heap.size, 1, none⟩) (Nat.le_refl _) (.string ta)).setCell (p := ⟨w.heap.size, 2, none⟩) (Nat.le_refl _) (.string tb)).drew
  obtain ⟨w6, hw6⟩ : ∃ w6, (((w5.setCell ⟨w.heap.size, 3, none⟩ (.string ts)).setCell ⟨w.heap.size, 1, none⟩ (.string ta)).setCell ⟨w.heap.size, 2, none⟩ (.string tb)).drew = w6 := ⟨_, rfl⟩
  have HW6 := Lib.hid hw6
  have HB6 : Hid (Below w.heap.size w w6) := by rw [← hw6]; exact hb6
  have hM5 : w6.heap[w.heap.size]? = some (.cells #[.int .i64 kd, .string ta, .string tb, .string ts, .int .i64 sn, .slice pA pn pc] 44 (0, 0)) := by rw [← hw6]; exact hM3
  have hM6 : w6.heap[w.heap.size + 1]? = some (.cells #[.int .i64 0, .string ⟨#[]⟩, .string ⟨#[]⟩, .string ⟨#[]⟩, .int .i64 0, .slice none 0 0] 44 (0, 0)) := by rw [← hw6]; exact hM4
  have HM5 := Lib.hid hM5
  have HM6 := Lib.hid hM6
  clear hM1 hM2 hM3 hM4 hb6 hw6 hM5 hM6
  clear hw5 hal hN1 hN2 hN1' hz1 ho
  obtain ⟨m, hm⟩ : ∃ m, min pn 10 = m := ⟨_, rfl⟩
  rw [hm]
  go_enter Try.func19, Try.ntmps19
  go_upto_region 1 with fail
  rw [HW5.out]
  go_upto_region 2 with (go_at_call 22; (with_reducible refine (HSS.out _).mono ?_); rintro e w1 ⟨rfl, hw1⟩; have hw1' := hw1.symm; subst hw1')
  go_region_with (first
    | (go_at_call 22; (with_reducible refine (HSA.out _).mono ?_); rintro e w1 ⟨rfl, hw1⟩; have hw1' := hw1.symm; subst hw1')
    | (go_at_call 22; (with_reducible refine (HSB.out _).mono ?_); rintro e w1 ⟨rfl, hw1⟩; have hw1' := hw1.symm; subst hw1'))
  all_goals
    go_upto_region 3 with fail
    rw [HW6.out]
    clear b0 b1 b2 b3 b4 b5 r0 r1 r2 r3 r4 r5 z1 z2 z3 z5 y0 y1 y2 y3 y4 y5
    obtain ⟨b0, b1, b2, b3, b4, b5⟩ := six_cells HM5.out
    obtain ⟨r0, r1, r2, r3, r4, r5⟩ := six_cells HM6.out
    have z5 := six_frozen HM5.out 5
    have y0 := six_frozen HM6.out 0
    have y1 := six_frozen HM6.out 1
    have y2 := six_frozen HM6.out 2
    have y3 := six_frozen HM6.out 3
    have y4 := six_frozen HM6.out 4
    have y5 := six_frozen HM6.out 5
    by_cases h10 : 10 < pn
    · have d1 : decide ((10 : Int) < (pn : Int)) = true := by rw [decide_eq_true_iff]; omega
      have d1' : decide (10 < pn) = true := decide_eq_true h10
      have hc10 : (10 : Int) ≤ (pc : Int) := by omega
      have HM : Hid (m = 10) := by show _ = _; omega
      clear hm
      go_wp2_with fail
      refine bodyPost_ret (v := .agg #[.int .i64 kd, .string ta, .string tb, .string ts, .int .i64 sn, .slice pA 10 pc]) (by simp [results, Try.results19, go_sem, r0, r1, r2, r3, r4, r5]) rfl ⟨by rw [HM.out], ?_⟩
      repeat refine Below.setCell ?_ (by simp) _
      exact HB6.out
    · have d1 : decide ((10 : Int) < (pn : Int)) = false := by rw [decide_eq_false_iff_not]; omega
      have d1' : decide (10 < pn) = false := decide_eq_false h10
      have HM : Hid (m = pn) := by show _ = _; omega
      clear hm
      go_wp2_with fail
      refine bodyPost_ret (v := .agg #[.int .i64 kd, .string ta, .string tb, .string ts, .int .i64 sn, .slice pA pn pc]) (by simp [results, Try.results19, go_sem, r0, r1, r2, r3, r4, r5]) rfl ⟨by rw [HM.out], ?_⟩
      repeat refine Below.setCell ?_ (by simp) _
      exact HB6.out
theorem step_any (base d r : Nat) (D : Dsk) (v : Value) (p : PD) (o : O4) (w : World) (h : TD w base d r D v p) (hb : base ≤ w.heap.size) (ho : o.Ok w) :
    Calls Try.prog 18 #[.pointer (some ⟨d, 0, none⟩), .pointer (some ⟨r, 0, none⟩), .agg #[.int .i64 o.kd, .string o.a, .string o.b, .string o.s, .int .i64 o.n, .slice o.pA o.pn o.pc]] w (SP base w d r D v p o) := by
  rcases (show o.kd = 0 ∨ o.kd = 1 ∨ o.kd = 2 ∨ o.kd = 3 ∨ o.kd = 4 ∨ o.kd = 5 ∨ o.kd = 6 ∨ o.kd = 7 ∨ o.kd = 8 ∨ o.kd = 9 ∨ (o.kd < 0 ∨ 9 < o.kd) by omega) with hk | hk | hk | hk | hk | hk | hk | hk | hk | hk | hk
  · have := step0_any base d r D v p o w h hb ho hk; rw [hk]; exact this
  · have := step1_any base d r D v p o w h hb ho hk; rw [hk]; exact this
  · have := step2_any base d r D v p o w h hb ho hk; rw [hk]; exact this
  · have := step3_any base d r D v p o w h hb ho hk; rw [hk]; exact this
  · have := step4_any base d r D v p o w h hb ho hk; rw [hk]; exact this
  · have := step5_any base d r D v p o w h hb ho hk; rw [hk]; exact this
  · have := step6_any base d r D v p o w h hb ho hk; rw [hk]; exact this
  · have := step7_any base d r D v p o w h hb ho hk; rw [hk]; exact this
  · have := step8_any base d r D v p o w h hb ho hk; rw [hk]; exact this
  · have := step9_any base d r D v p o w h hb ho hk; rw [hk]; exact this
  · exact stepx_any base d r D v p o w h hb ho hk
end Go.Proofs.Ytebkgcnldbkgeaa
