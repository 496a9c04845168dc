/-
  What awake of law 7 does: chapter 7's example comes out true.
-/
import Derived.Test.YtofakehnadpebaaDdF
namespace Go.Proofs.Ytofakehnadpebaa
open Go.RowKit Go.Maps
set_option linter.unusedVariables false
set_option linter.unusedSimpArgs false

def markT : Bat := ⟨12, 3, 0, 0, 2, 0, []⟩
def row1 : Rw := ⟨3, 0, 0, 2, 10, 10, 0⟩
def row2 : Rw := ⟨3, 1, 0, 0, 0, -1, 0⟩
theorem ex_t1 : takeE 5 0 [] (twoB 0 0 10) = 0 ∧ takeN 5 0 [] (twoB 0 0 10) = 12 ∧ takeL 5 0 [] (twoB 0 0 10) = [row1] := ⟨by decide, by decide, by rfl⟩
theorem ex_j1 : jdg 5 [row1] (twoB 0 0 0) = (true, 10, 0) := by decide
theorem ex_j2 : jdg 5 [row1] (twoB 0 3 0) = (false, 0, 21) := by decide
theorem ex_t2 : takeE 5 12 [row1] markT = 0 ∧ takeN 5 12 [row1] markT = 13 ∧ takeL 5 12 [row1] markT = [row2] := ⟨by decide, by decide, by rfl⟩
theorem ex_j3 : jdg 5 [row2] (twoB 0 2 0) = (false, 0, 20) := by decide
theorem ex_j4 : jdg 5 [row2] (twoB 1 0 0) = (false, 0, 0) := by decide
theorem ex_s1 {s : Int} (h : IsStab s 12 [row1]) : s = 10 := h.unique ⟨by decide, fun r hr _ => by simp only [List.mem_cons, List.not_mem_nil, or_false] at hr; subst hr; decide, .inr ⟨row1, by simp, rfl, rfl⟩⟩
theorem ex_s2 {s : Int} (h : IsStab s 13 [row2]) : s = 13 := h.unique ⟨by decide, fun r hr ho => (by simp only [List.mem_cons, List.not_mem_nil, or_false] at hr; subst hr; cases ho), .inl rfl⟩
/-- the table, and the first verdict, in memory -/
structure Ak (w W : World) (g m : Nat) (next : Int) (L : List Rw) (v : Nat) : Prop where
  tb : Tb W g m 5 next L
  lo : w.heap.size ≤ g ∧ w.heap.size ≤ m
  below : Below w.heap.size w W
  ver : W.heap[v]? = some (.cells #[.bool true, .int .i64 10] 48 (0, 0))
theorem Ak.next {w W W' : World} {g m v : Nat} {next : Int} {L : List Rw} (h : Ak w W g m next L v) (hb : Below W.heap.size W W') : Ak w W' g m next L v :=
  ⟨h.tb.below hb, h.lo, h.below.trans (hb.mono h.below.size), (hb.block v (Array.getElem?_eq_some_iff.1 h.ver).1).trans h.ver⟩
theorem Ak.take {w W W' : World} {g m v : Nat} {next next' : Int} {L L' : List Rw} (h : Ak w W g m next L v) (ht : Tb W' g m 5 next' L') (h2 : Two g m W W') : Ak w W' g m next' L' v := by
  have hm : v ≠ m := fun e => by
    obtain ⟨n, _, es, clock, hb, _⟩ := h.tb.mi.own
    have := h.ver; rw [e, hb] at this; cases this
  have hg : v ≠ g := fun e => by
    have h1 := h.ver
    rw [e, h.tb.t] at h1
    cases h1
  exact ⟨ht, h.lo, h.below.trans ((h2.below h.lo.1 h.lo.2 h.below.size)), (h2.block v (Array.getElem?_eq_some_iff.1 h.ver).1 hg hm).trans h.ver⟩

set_option maxRecDepth 100000 in
set_option maxHeartbeats 8000000 in
theorem awake7_any (w : World) : Calls Try.prog 30 #[] w fun e w' => e = .returned (.bool true) ∧ Below w.heap.size w w' := by
  have HN := Lib.hid (fun W => dnew_any 5 W (by decide) (by decide))
  have H2 := Lib.hid two_any
  have HST := Lib.hid stable_any
  have HTK := Lib.hid (fun (W : World) (b : Bat) (A : Option Addr) (c g m : Nat) (next : Int) (L : List Rw) (hT : Tb W g m 5 next L) (hR : Rcs W W.heap.size A b.L.length b.L) (h1 : b.L.length ≤ 2) (h2 : 0 ≤ next ∧ next ≤ 100) (h3 : L.length ≤ 1) (h4 : i64_ b.base) => take_any b A c W.heap.size g m 5 next L W hT hR (Nat.le_refl _) (by unfold maxLen; omega) (by omega) (by omega) (by omega) h4)
  have HJG := Lib.hid (fun (W : World) (b : Bat) (A : Option Addr) (c g m : Nat) (next : Int) (L : List Rw) (hT : Tb W g m 5 next L) (hR : Rcs W W.heap.size A b.L.length b.L) (h1 : b.L.length ≤ 2) => judge_any b A c W.heap.size g m 5 next L W hT hR (Nat.le_refl _) (by unfold maxLen; omega))
  go_enter Try.func30, Try.ntmps30
  go_wp2_with fail
  refine (HN.out _).mono ?_
  rintro e w1 ⟨g, m, rfl, ht1, hg1, hm1, hb1⟩
  have HT1 := Lib.hid ht1
  have HB1 := Lib.hid hb1
  clear ht1 hb1
  go_wp2_with fail
  refine (H2.out _ _ _ _).mono ?_
  rintro e w2 ⟨A2, rfl, hr2, hb2⟩
  have HT2 := Lib.hid (HT1.out.below hb2)
  have HB2 := Lib.hid (HB1.out.trans (hb2.mono HB1.out.size))
  have HR2 := Lib.hid hr2
  clear hr2 hb2
  go_wp2_with fail
  refine (HTK.out w2 (twoB 0 0 10) A2 2 g m 0 [] HT2.out HR2.out (by decide) (by decide) (by decide) (by unfold i64_; decide)).mono ?_
  rintro e w3 ⟨he, ht3, h23⟩
  rw [ex_t1.1] at he
  rw [ex_t1.2.1, ex_t1.2.2] at ht3
  subst he
  have HT3 := Lib.hid ht3
  have HB3 := Lib.hid (HB2.out.trans (h23.below hg1 hm1 HB2.out.size))
  clear ht3 h23
  go_wp2_with fail
  refine (H2.out _ _ _ _).mono ?_
  rintro e w4 ⟨A4, rfl, hr4, hb4⟩
  have HT4 := Lib.hid (HT3.out.below hb4)
  have HB4 := Lib.hid (HB3.out.trans (hb4.mono HB3.out.size))
  have HR4 := Lib.hid hr4
  clear hr4 hb4
  go_wp2_with fail
  refine (HJG.out w4 (twoB 0 0 0) A4 2 g m 12 [row1] HT4.out HR4.out (by decide)).mono ?_
  rintro e w5 ⟨he, hb5⟩
  rw [ex_j1] at he
  simp only [jdgV] at he
  subst he
  have HA5 : Hid (Ak w (w5.alloc (.cells #[.bool true, .int .i64 10] 48)) g m 12 [row1] w5.heap.size) := ⟨(HT4.out.below hb5).alloc _, ⟨hg1, hm1⟩, (HB4.out.trans (hb5.mono HB4.out.size)).alloc (Nat.le_trans HB4.out.size hb5.size) _, heap_alloc_new _ _⟩
  clear hb5
  go_wp2_with fail
  refine (H2.out _ _ _ _).mono ?_
  rintro e w6 ⟨A6, rfl, hr6, hb6⟩
  have HA6 := Lib.hid (HA5.out.next hb6)
  have HR6 := Lib.hid hr6
  clear hr6 hb6
  go_wp2_with fail
  refine (HJG.out _ (twoB 0 3 0) A6 2 g m 12 [row1] HA6.out.tb HR6.out (by decide)).mono ?_
  rintro e w7 ⟨he, hb7⟩
  rw [ex_j2] at he
  simp only [jdgV] at he
  subst he
  have HA7 := Lib.hid ((HA6.out.next hb7).next ((Below.refl _ _).alloc (Nat.le_refl _) (.cells #[.bool false, .int .i64 0] 48)))
  clear hb7
  go_wp2_with fail
  refine (HST.out g m 5 _ _ _ HA7.out.tb).mono ?_
  rintro e w8 ⟨s8, rfl, hs8, hb8⟩
  obtain rfl := ex_s1 hs8
  have HA8 := Lib.hid (HA7.out.next hb8)
  clear hs8 hb8
  go_wp2_with fail
  refine (HTK.out _ markT none 0 g m 12 [row1] HA8.out.tb Rcs.nil_ (by decide) (by decide) (by decide) (by unfold i64_; decide)).mono ?_
  rintro e w9 ⟨he, ht, h2⟩
  rw [ex_t2.1] at he
  rw [ex_t2.2.1, ex_t2.2.2] at ht
  subst he
  have HA9 := Lib.hid (HA8.out.take ht h2)
  clear ht h2
  go_wp2_with fail
  refine (H2.out _ _ _ _).mono ?_
  rintro e w10 ⟨A10, rfl, hr10, hb10⟩
  have HA10 := Lib.hid (HA9.out.next hb10)
  have HR10 := Lib.hid hr10
  clear hr10 hb10
  go_wp2_with fail
  refine (HJG.out _ (twoB 0 2 0) A10 2 g m 13 [row2] HA10.out.tb HR10.out (by decide)).mono ?_
  rintro e w11 ⟨he, hb11⟩
  rw [ex_j3] at he
  simp only [jdgV] at he
  subst he
  have HA11 := Lib.hid ((HA10.out.next hb11).next ((Below.refl _ _).alloc (Nat.le_refl _) (.cells #[.bool false, .int .i64 0] 48)))
  clear hb11
  go_wp2_with fail
  refine (H2.out _ _ _ _).mono ?_
  rintro e w12 ⟨A12, rfl, hr12, hb12⟩
  have HA12 := Lib.hid (HA11.out.next hb12)
  have HR12 := Lib.hid hr12
  clear hr12 hb12
  go_wp2_with fail
  refine (HJG.out _ (twoB 1 0 0) A12 2 g m 13 [row2] HA12.out.tb HR12.out (by decide)).mono ?_
  rintro e w13 ⟨he, hb13⟩
  rw [ex_j4] at he
  simp only [jdgV] at he
  subst he
  have HA13 := Lib.hid ((HA12.out.next hb13).next ((Below.refl _ _).alloc (Nat.le_refl _) (.cells #[.bool false, .int .i64 0] 48)))
  clear hb13
  have c0 := cell_of_row _ _ 0 _ _ _ HA13.out.ver
  have c1 := cell_of_row _ _ 1 _ _ _ HA13.out.ver
  go_wp2_with fail
  refine (HST.out g m 5 _ _ _ HA13.out.tb).mono ?_
  rintro e w14 ⟨s14, rfl, hs14, hb14⟩
  obtain rfl := ex_s2 hs14
  have HA14 := Lib.hid (HA13.out.next hb14)
  clear hs14 hb14
  go_wp2_with fail
  go_ret
  exact ⟨rfl, HA14.out.below⟩
end Go.Proofs.Ytofakehnadpebaa
