/-
  What the document's Reader's Bytes does.
-/
import Derived.Test.YtniopekkfnkipaaWrE
import Derived.Deep.RegionLaw
import Derived.Deep.AppendLies
-- SOFT
namespace Go.Proofs.Ytniopekkfnkipaa
open Go.RowKit Go.Lib Go.Sort
set_option linter.unusedVariables false
set_option linter.unusedSimpArgs false

def bytesR (l : List UInt8) (p err : Nat) (n : Int) : List UInt8 × Nat × Nat :=
  if n < 0 then ([], p, if err = 0 then 2 else err) else if ((l.length - p : Nat) : Int) < n then ([], p, if err = 0 then 6 else err) else if err ≠ 0 then ([], p, err) else ((l.drop p).take n.toNat, p + n.toNat, 0)
def BPost (w : World) (g c : Nat) (A : Option Addr) (l : List UInt8) (t : List UInt8 × Nat × Nat) (e : Ending) (w' : World) : Prop := ∃ v, e = .returned v ∧ Own w' w.heap.size v t.1 ∧ Rq w' g A c l t.2.1 t.2.2 ∧ w.grownBy w' (some g)
theorem Own.set_far {w : World} {base g i : Nat} {v u : Value} {l : List UInt8} (h : Own w base v l) (hg : g < base) : Own (w.setCell ⟨g, i, none⟩ u) base v l := by
  refine ⟨h.1, ?_⟩
  rcases h.2 with h2 | ⟨b, cap, cur, rfl, hb, hh, r⟩
  · exact .inl h2
  · exact .inr ⟨b, cap, cur, rfl, hb, (Below.heap_setCell w ⟨g, i, none⟩ u b (fun e => by have h9 : b = g := e; omega)).trans hh, r⟩
set_option maxRecDepth 100000 in
set_option maxHeartbeats 4000000 in
theorem qB_any (g c p err : Nat) (A : Option Addr) (l : List UInt8) (n : Int) (w : World) (h : Rq w g A c l p err) (hn1 : -9223372036854775808 ≤ n) (hn2 : n ≤ 9223372036854775807) :
    Calls Try.prog 44 #[.pointer (some ⟨g, 0, none⟩), .int .i64 n] w (BPost w g c A l (bytesR l p err n)) := by
  obtain ⟨i0, hi0, hz0, hz1, hz2⟩ := info_parts byte_info
  have c0 := h.c0
  have c1 := h.c1
  have c2 := h.c2
  have hp := h.pos
  have hs := h.small
  have hcap := h.cap
  have hcm := h.capm
  have hlt := h.lt
  unfold maxLen at hcm
  have H0 := Lib.hid h
  obtain ⟨X, hX⟩ : ∃ X : Ending → World → Prop, BPost w g c A l (bytesR l p err n) = X := ⟨_, rfl⟩
  have HXN : Hid (∀ er w', bytesR l p err n = ([], p, er) → Rq w' g A c l p er → w.grownBy w' (some g) → X (.returned (.slice none 0 0)) w') := fun er w' e h1 h2 => by rw [← hX, e]; exact ⟨_, rfl, Own.nil_ _ _, h1, h2⟩
  have HXY : Hid (∀ v bs q w', bytesR l p err n = (bs, q, 0) → Own w' w.heap.size v bs → Rq w' g A c l q 0 → w.grownBy w' (some g) → X (.returned v) w') := fun v bs q w' e h0 h1 h2 => by rw [← hX, e]; exact ⟨v, rfl, h0, h1, h2⟩
  rw [hX]
  clear hX
  have HFA : Hid (∀ W, Rq W g A c l p err → Calls Try.prog 63 #[.pointer (some ⟨g, 0, none⟩), .int .i64 2] W fun e w' => e = .returned (.tuple #[]) ∧ Rq w' g A c l p (if err = 0 then 2 else err) ∧ W.grownBy w' (some g)) := fun W hW => fail_any g c p err 2 A l W hW
  have HFB : Hid (∀ W, Rq W g A c l p err → Calls Try.prog 63 #[.pointer (some ⟨g, 0, none⟩), .int .i64 6] W fun e w' => e = .returned (.tuple #[]) ∧ Rq w' g A c l p (if err = 0 then 6 else err) ∧ W.grownBy w' (some g)) := fun W hW => fail_any g c p err 6 A l W hW
  have ha : (if err = 0 then 2 else err) ≠ 0 := by split <;> omega
  have hb : (if err = 0 then 6 else err) ≠ 0 := by split <;> omega
  unfold bytesR at HXN HXY
  generalize (if err = 0 then 2 else err) = ea at *
  generalize (if err = 0 then 6 else err) = eb at *
  by_cases h1 : n < 0
  · rw [if_pos h1] at HXN
    have HX := Lib.hid (HXN.out ea)
    have d1 : decide (n < 0) = true := decide_eq_true h1
    have d2 : decide ((l.length : Int) - (p : Int) < n) = false := by rw [decide_eq_false_iff_not]; omega
    have z2 : ((ea : Int) != 0) = true := by rw [bne_iff_ne]; omega
    have ew : IntKind.i64.wrap ((l.length : Int) - (p : Int)) = (l.length : Int) - (p : Int) := by rw [IntKind.wrap_i64]; omega
    clear h c0 c1 c2 HXN HXY ha hb
    go_enter Try.func44, Try.ntmps44
    go_upto_region 3 with (go_at_call 63; (with_reducible refine (HFA.out w H0.out).mono ?_); rintro e w1 ⟨rfl, hr, hg⟩; have c0 := hr.c0; have c1 := hr.c1; have c2 := hr.c2)
    have HR := Lib.hid hr
    have HG := Lib.hid hg
    clear hr hg
    go_quiet (fail)
    go_wp2_with fail
    exact HX.out _ (by first | rfl | trivial) (HR.out.drewN _) (grown_trans HG.out (grown_draws _ _ _))
  · rw [if_neg h1] at HXN HXY
    have d1 : decide (n < 0) = false := decide_eq_false h1
    have ew : IntKind.i64.wrap ((l.length : Int) - (p : Int)) = (l.length : Int) - (p : Int) := by rw [IntKind.wrap_i64]; omega
    by_cases h2 : ((l.length - p : Nat) : Int) < n
    · rw [if_pos h2] at HXN
      have HX := Lib.hid (HXN.out eb)
      have d2 : decide ((l.length : Int) - (p : Int) < n) = true := by rw [decide_eq_true_iff]; omega
      have z2 : ((eb : Int) != 0) = true := by rw [bne_iff_ne]; omega
      clear h c2 HXN HXY ha hb h2
      go_enter Try.func44, Try.ntmps44
      go_upto_region 3 with fail
      go_quiet (fail)
      clear c0 c1
      go_wp2_with (go_at_call 63; (with_reducible refine (HFB.out _ (H0.out.drewN _)).mono ?_); rintro e w1 ⟨rfl, hr, hg⟩; have c2 := hr.c2)
      exact HX.out _ (by first | rfl | trivial) hr (grown_trans (grown_draws _ _ _) hg)
    · rw [if_neg h2] at HXN HXY
      have d2 : decide ((l.length : Int) - (p : Int) < n) = false := by rw [decide_eq_false_iff_not]; omega
      by_cases he : err = 0
      · subst he
        rw [if_neg (by simp)] at HXY
        obtain ⟨m, rfl⟩ : ∃ m : Nat, n = (m : Int) := ⟨n.toNat, by omega⟩
        have hm : p + m ≤ l.length := by omega
        rw [Int.toNat_natCast] at HXY
        have HX := Lib.hid (fun v => HXY.out v ((l.drop p).take m) (p + m))
        have hbs := (h.bs.drop p c h.cap).take m (by omega)
        obtain ⟨A', hA'⟩ : ∃ A', (if c = p then A else A.map (·.add p)) = A' := ⟨_, rfl⟩
        rw [hA'] at hbs
        have HBS : Hid (∀ W : World, W.heap = w.heap → Bs W g A' m ((l.drop p).take m)) := fun W e => hbs.keep fun q hq => World.cell?_of_block (by rw [e])
        have HRW : Hid (∀ W : World, W.heap = w.heap → W.os = w.os → W.tape = w.tape → W.output = w.output → Rq W g A c l p 0 ∧ w.grownBy W (some g) ∧ g < W.heap.size ∧ w.heap.size ≤ W.heap.size) := fun W e1 e2 e3 e4 => ⟨H0.out.below (B := w.heap.size) ⟨e2, e3, e4, by rw [e1]; exact Nat.le_refl _, fun i _ => by rw [e1]⟩ hlt, grown_of_below ⟨e2, e3, e4, by rw [e1]; exact Nat.le_refl _, fun i _ => by rw [e1]⟩ _, by rw [e1]; exact hlt, by rw [e1]; exact Nat.le_refl _⟩
        have e0 : (((0 : Nat) : Int) != 0) = false := rfl
        have ew2 : IntKind.i64.wrap ((p : Int) + (m : Int)) = (p : Int) + (m : Int) := by rw [IntKind.wrap_i64]; omega
        have e1 : ((p : Int) + (m : Int)).toNat = p + m := by omega
        have e2 : (0 : Int) ≤ (p : Int) + (m : Int) := by omega
        have e3 : (p : Int) ≤ (p : Int) + (m : Int) := by omega
        have e4 : (p : Int) + (m : Int) ≤ (c : Int) := by omega
        have e5 : p + m ≤ c := by omega
        have e6 : p ≤ c := by omega
        have e7 : p + m - p = m := by omega
        have HE8 : Hid (((p + m : Nat) : Int) = (p : Int) + (m : Int)) := by show _ = _; omega
        clear h hbs HXN HXY ha hb h2 HFA HFB
        go_enter Try.func44, Try.ntmps44
        go_upto_region 3 with fail
        go_quiet (fail)
        go_upto_region 8 with fail
        clear c2
        go_region_law (refine step_append_src _ (by rfl) (.tmp 29) (.tmp 44) 25 (by rfl) w.heap.size 5 i0 _ 1 Try.underlying25 hi0 hz0 hz1 hz2 (by rfl) (.slice none 0 0) 0 [] (by rfl) (World.ownsRow_nil _ _ _ _) g A' m (c - p) (bvs ((l.drop p).take m)) (by rfl) (by rw [bvs_length]; exact (HBS.out w rfl).len) (HBS.out _ (by rfl)).lies (bvs_one _) (by unfold maxLen; omega) (by omega) (HRW.out _ (by rfl) (by rfl) (by rfl) (by rfl)).2.2.2 ?_; intro v2 w2 ho2 hg2 hat2; have hb2 := (Below.refl _ _).grown hg2 (Nat.le_refl _) (fun k hk => by cases hk); have hr2 := (HRW.out _ (by rfl) (by rfl) (by rfl) (by rfl)).1.below hb2 (HRW.out _ (by rfl) (by rfl) (by rfl) (by rfl)).2.2.1; have HG2 := Lib.hid (grown_trans (HRW.out _ (by rfl) (by rfl) (by rfl) (by rfl)).2.1 (grown_of_below hb2 (some g))); have HR2 := Lib.hid hr2; have y1 := hr2.c1; have f1 := hr2.free 1; have HO2 : Hid (Own w2 w.heap.size v2 ((l.drop p).take m)) := (by have e9 := (HBS.out w rfl).len; show World.ownsRow _ _ _ _ _ _ _; rw [e9]; simpa using ho2); clear hb2 hr2 ho2 hg2 hat2)
        all_goals
          go_wp2_with fail
          have hfin := HX.out v2 _ (by first | rfl | trivial) (HO2.out.set_far (i := 1) (u := .int .i64 ((p + m : Nat) : Int)) hlt) (HR2.out.set1 (p + m) hm) (grown_trans HG2.out (grown_set _ g 1 (.int .i64 ((p + m : Nat) : Int))))
          rw [HE8.out] at hfin
          exact hfin
      · rw [if_pos he] at HXN
        have HX := Lib.hid (HXN.out err)
        have z2 : ((err : Int) != 0) = true := by rw [bne_iff_ne]; omega
        clear h HXN HXY ha hb h2 he
        go_enter Try.func44, Try.ntmps44
        go_upto_region 3 with fail
        go_quiet (fail)
        go_wp2_with fail
        exact HX.out _ (by first | rfl | trivial) (H0.out.drewN _) (grown_draws _ _ _)
end Go.Proofs.Ytniopekkfnkipaa
