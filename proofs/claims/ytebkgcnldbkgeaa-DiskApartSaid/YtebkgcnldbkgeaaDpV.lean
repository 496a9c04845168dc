/-
  DiskApart: two disks, each beside the document's, that have nothing to do with one another.
-/
import Derived.Test.YtebkgcnldbkgeaaDpU
namespace Go.Proofs.Ytebkgcnldbkgeaa
open Go.RowKit Go.Lib Go.Sort Go.Maps
set_option linter.unusedVariables false
set_option linter.unusedSimpArgs false

section
variable {w W W1 w1 w2 : World} {base B d r c s d' r' : Nat} {D D' E Dc : Dsk} {v v' u : Value} {p p' q : PD}
/-- two pairs that lie apart -/
structure T4 (w : World) (base d r : Nat) (D : Dsk) (v : Value) (p : PD) (c s : Nat) (E : Dsk) (u : Value) (q : PD) : Prop where
  one : TD w base d r D v p
  two : TD w base c s E u q
  sep : ∀ k ∈ D.foot d ++ rfoot r v, k ∉ E.foot c ++ rfoot s u
theorem T4.below {b : Nat} (h : T4 w base d r D v p c s E u q) (hb : Below b w W) (hB : w.heap.size ≤ b) : T4 W base d r D v p c s E u q := ⟨h.one.below hb hB, h.two.below hb hB, h.sep⟩
theorem T4.swap (h : T4 w base d r D v p c s E u q) : T4 w base c s E u q d r D v p := ⟨h.two, h.one, fun k hk h2 => h.sep k h2 hk⟩
theorem T4.step (h : T4 W base d r D v p c s E u q) (ts : TS base W W1 d r D v d' r' D' v' p') : T4 W1 base d' r' D' v' p' c s E u q :=
  ⟨ts.td, h.two.keep fun k hk => ts.tu.block k (h.two.lt k hk) fun h2 => h.sep k h2 hk, fun k hk h2 => (ts.ft k hk).elim (fun h3 => h.sep k h3 h2) (fun h3 => by have := h.two.lt k h2; omega)⟩
/-- behind a crash -/
theorem TD.crashed (h : TD W base d r D v p) (hb : base ≤ W.heap.size) (hd : Dk w1 W.heap.size c Dc) (hq : pd Dc = q) (hb1 : Below W.heap.size W w1) (hr : Rk w2 w1.heap.size s u q) (hb2 : Below w1.heap.size w1 w2) : T4 w2 base d r D v p c s Dc u q := by
  have hz := hb1.size
  have hb3 : Below W.heap.size W w2 := hb1.trans (hb2.mono hz)
  have hdc := hd.below hb2 (Nat.le_refl _)
  refine ⟨h.below hb3 (Nat.le_refl _), ⟨hdc.lower hb, hq, hr.lower (Nat.le_trans hb hz), fun k hk h2 => ?_⟩, fun k hk h2 => ?_⟩
  · have := hd.lt k hk
    have := hr.le k h2
    omega
  · have h1 := h.lt k hk
    rcases List.mem_append.1 h2 with h2 | h2
    · have := hd.base_le k h2; omega
    · have := hr.le k h2; omega
end
set_option maxRecDepth 100000 in
set_option maxHeartbeats 16000000 in
theorem diskApart_any (A A1 A2 : Option Addr) (n n1 n2 c0 c1 c2 : Nat) (X X1 X2 : List O4) (w : World) (hX : Ops4 w w.heap.size A n X) (hX1 : Ops4 w w.heap.size A1 n1 X1) (hX2 : Ops4 w w.heap.size A2 n2 X2) (hn : n ≤ maxLen) (hn1 : n1 ≤ maxLen) (hn2 : n2 ≤ maxLen) :
    Calls Try.prog 6 #[.slice A n c0, .slice A1 n1 c1, .slice A2 n2 c2] w fun e w' => e = .returned (.bool true) ∧ Below w.heap.size w w' := by
  have HP : Hid (Calls Try.prog 7 #[.int .i64 4000, .slice A n c0, .int .i64 30] w fun e w' => ∃ d r D v p, e = .returned (.tuple #[.pointer (some ⟨d, 0, none⟩), .pointer (some ⟨r, 0, none⟩), .bool true]) ∧ TD w' w.heap.size d r D v p ∧ Below w.heap.size w w') := play_any 4000 A n c0 30 X w hX hn (by decide)
  have HX1 := Lib.hid hX1
  have HX2 := Lib.hid hX2
  unfold maxLen at hn1 hn2
  clear hX hX1 hX2 hn
  go_enter Try.func6, Try.ntmps6
  go_upto_region 4 with (go_at_call 7; (with_reducible refine HP.out.mono ?_); rintro e w1 ⟨d, r, D, v, p, rfl, ht1, hb1⟩)
  have HT1 := Lib.hid ht1
  have HB1 := Lib.hid hb1
  have HI : Hid (∀ V : World, Isd (V.alloc (.cells #[.int .i64 3] 3)) (V.alloc (.cells #[.int .i64 3] 3)).heap.size (some ⟨V.heap.size, 0, none⟩) 1 [3]) := fun V => ⟨rfl, fun k hk => by
    obtain rfl : k = 0 := by omega
    exact ⟨_, rfl, by simp, World.news_of_block (heap_alloc_new V _) 0 _ rfl, by decide, by decide⟩⟩
  have HC1 : Hid (Calls Try.prog 9 #[.pointer (some ⟨d, 0, none⟩), .slice (some ⟨w1.heap.size, 0, none⟩) 1 1] (w1.alloc (.cells #[.int .i64 3] 3)) fun e w' => ∃ (cb : Nat) (Dc : Dsk), e = .returned (.pointer (some ⟨cb, 0, none⟩)) ∧ Dk w' w1.heap.size cb Dc ∧ pd Dc = p.crash [3] ∧ Below w1.heap.size w1 w') := by
    have hal := (Below.refl w1.heap.size w1).alloc (Nat.le_refl _) (.cells #[.int .i64 3] 3)
    have h1 := crash_pd w.heap.size d D (some ⟨w1.heap.size, 0, none⟩) 1 1 [3] _ (HT1.out.dk.below hal (Nat.le_refl _)) (HI.out w1) (by decide)
    rw [HT1.out.pe] at h1
    exact h1.mono fun e w' ⟨cb, Dc, he, hd, hq, hb⟩ => ⟨cb, Dc, he, hd.lower hal.size, hq, hal.trans (hb.mono hal.size)⟩
  have HC2 : Hid (∀ V, Below w1.heap.size w1 V → Calls Try.prog 25 #[.pointer (some ⟨r, 0, none⟩), .slice (some ⟨V.heap.size, 0, none⟩) 1 1] (V.alloc (.cells #[.int .i64 3] 3)) fun e w' => ∃ r2 v2, e = .returned (.pointer (some ⟨r2, 0, none⟩)) ∧ Rk w' V.heap.size r2 v2 (p.crash [3]) ∧ Below V.heap.size V w') := fun V hV => by
    have hal := (Below.refl V.heap.size V).alloc (Nat.le_refl _) (.cells #[.int .i64 3] 3)
    have h1 := rcrash_any w.heap.size r v p (some ⟨V.heap.size, 0, none⟩) 1 1 [3] _ ((HT1.out.rk.below hV (Nat.le_refl _)).below hal (Nat.le_refl _)) HT1.out.ok (HI.out V) (by decide)
    exact h1.mono fun e w' ⟨r2, v2, he, hr, hb⟩ => ⟨r2, v2, he, hr.lower hal.size, hal.trans (hb.mono hal.size)⟩
  clear ht1 hb1
  go_wp2_with (first
    | (go_at_call 25; (with_reducible refine (HC2.out _ hb2).mono ?_); rintro e w3 ⟨s, u, rfl, hr3, hb3⟩)
    | (go_at_call 9; (with_reducible refine HC1.out.mono ?_); rintro e w2 ⟨c, E, rfl, hd2, hq2, hb2⟩))
  have HT3 : Hid (T4 w3 w.heap.size d r D v p c s E u (p.crash [3])) := HT1.out.crashed HB1.out.size hd2 hq2 hb2 hr3 hb3
  have HB3 : Hid (Below w.heap.size w w3) := HB1.out.trans ((hb2.trans (hb3.mono hb2.size)).mono HB1.out.size)
  generalize p.crash [3] = q at HT3
  clear HC1 HC2 HI HT1 HB1 HP hd2 hq2 hb2 hr3 hb3
  go_loopw [7, 8, 9, 10, 11, 12] (fun s7 s8 s9 s10 s11 iv wr => ∃ (i d r c s : Nat) (D E : Dsk) (v u : Value) (p q : PD), i ≤ 30 ∧ s7 = .pointer (some ⟨d, 0, none⟩) ∧ s8 = .pointer (some ⟨r, 0, none⟩) ∧ s9 = .bool true ∧ s10 = .pointer (some ⟨c, 0, none⟩) ∧ s11 = .pointer (some ⟨s, 0, none⟩) ∧ iv = .int .i64 i ∧ Hid (T4 wr w.heap.size d r D v p c s E u q) ∧ Hid (Below w.heap.size w wr)) (fun _ _ _ _ _ iv _ => 30 - (RowKit.intOf iv).toNat)
  case atStart => exact ⟨0, d, r, c, s, D, E, v, u, p, q, by omega, rfl, rfl, rfl, rfl, rfl, rfl, HT3.out, HB3.out⟩
  case round =>
    obtain ⟨i, d, r, c, s, D, E, v, u, p, q, hi, rfl, rfl, rfl, rfl, rfl, rfl, HT, HB⟩ := hrel
    by_cases hit : i < 30
    · have hiz : (i : Int) < 30 := by omega
      have d0 : decide ((i : Int) < 30) = true := decide_eq_true hiz
      have d0' : decide (i < 30) = true := decide_eq_true hit
      have HSM : Hid (∀ V b d r D v p, TD V b d r D v p → Calls Try.prog 24 #[.pointer (some ⟨d, 0, none⟩), .pointer (some ⟨r, 0, none⟩)] V fun e w' => e = .returned (.bool true) ∧ Below V.heap.size V w') := fun V b d r D v p hT => same_any b d b r D v V hT.dk (by rw [hT.pe]; exact hT.rk)
      have HSL : Hid (∀ V (o : O4), o.In V → Calls Try.prog 19 #[.agg #[.int .i64 o.kd, .string o.a, .string o.b, .string o.s, .int .i64 o.n, .slice o.pA o.pn o.pc]] V fun e w' => e = .returned (.agg #[.int .i64 (sm4 o).kd, .string (sm4 o).a, .string (sm4 o).b, .string (sm4 o).s, .int .i64 (sm4 o).n, .slice (sm4 o).pA (sm4 o).pn (sm4 o).pc]) ∧ Below V.heap.size V w') := fun V o hi => small4_any o V hi
      have HST : Hid (∀ (V V2 : World) (d r c s : Nat) (D E : Dsk) (v u : Value) (p q : PD) (o : O4), T4 V w.heap.size d r D v p c s E u q → Below w.heap.size w V → o.In V → Below V.heap.size V V2 → Calls Try.prog 18 #[.pointer (some ⟨d, 0, none⟩), .pointer (some ⟨r, 0, none⟩), .agg #[.int .i64 (sm4 o).kd, .string (sm4 o).a, .string (sm4 o).b, .string (sm4 o).s, .int .i64 (sm4 o).n, .slice (sm4 o).pA (sm4 o).pn (sm4 o).pc]] V2 fun e w' => ∃ d' r' D' v' p', e = .returned (.tuple #[.pointer (some ⟨d', 0, none⟩), .pointer (some ⟨r', 0, none⟩), .bool true]) ∧ T4 w' w.heap.size d' r' D' v' p' c s E u q ∧ Below w.heap.size w w') := fun V V2 d r c s D E v u p q o hT hbV hin hV => by
        have hT2 := hT.below hV (Nat.le_refl _)
        have hb2 := hbV.trans (hV.mono hbV.size)
        refine (step_any w.heap.size d r D v p (sm4 o) V2 hT2.one hb2.size (hin.ok.below hV)).mono fun e w' hh => ?_
        obtain ⟨d', r', D', v', he, ts, _⟩ := hh
        exact ⟨d', r', D', v', _, he, hT2.step ts, hb2.trans (ts.below hT2.one hb2.size)⟩
      by_cases hl1 : i < n1
      · by_cases hl2 : i < n2
        ·
          have h1 : i < n1 := hl1
          have zn1 : (i : Int) < (n1 : Int) := by omega
          have en1 : decide ((i : Int) < (n1 : Int)) = true := decide_eq_true zn1
          have fn1 : decide (i < n1) = true := by rw [decide_eq_true_iff]; omega
          have zn2 : (i : Int) < (n2 : Int) := by omega
          have en2 : decide ((i : Int) < (n2 : Int)) = true := decide_eq_true zn2
          have fn2 : decide (i < n2) = true := by rw [decide_eq_true_iff]; omega
          have hx1 := HX1.out.below HB.out
          obtain ⟨q1, hq1, s0, s1, s2, s3, s4, s5⟩ := hx1.row (show i < n1 by omega)
          have HI1 := Lib.hid (hx1.inn i (by omega))
          subst hq1
          generalize X1.getD i default = o1 at *
          clear hx1
          go_upto_region 10 with (first
            | (go_at_call 18; (with_reducible refine (HST.out wr _ _ _ _ _ _ _ _ _ _ _ o1 HT.out HB.out HI1.out hb4).mono ?_); rintro e w5 ⟨d5, r5, D5, v5, p5, rfl, ht5, hb5⟩)
            | (go_at_call 19; (with_reducible refine (HSL.out _ o1 HI1.out).mono ?_); rintro e w4 ⟨rfl, hb4⟩))
          have HT5 := Lib.hid ht5
          have HB5 := Lib.hid hb5
          clear ht5 hb5 hb4 s0 s1 s2 s3 s4 s5
          have hx2 := HX2.out.below HB5.out
          obtain ⟨q2, hq2, s0, s1, s2, s3, s4, s5⟩ := hx2.row (show i < n2 by omega)
          have HI2 := Lib.hid (hx2.inn i (by omega))
          subst hq2
          generalize X2.getD i default = o2 at *
          clear hx2
          go_upto_region 12 with (first
            | (go_at_call 18; (with_reducible refine (HST.out w5 _ _ _ _ _ _ _ _ _ _ _ o2 HT5.out.swap HB5.out HI2.out hb6).mono ?_); rintro e w7 ⟨c7, s7, E7, u7, q7, rfl, ht7, hb7⟩)
            | (go_at_call 19; (with_reducible refine (HSL.out _ o2 HI2.out).mono ?_); rintro e w6 ⟨rfl, hb6⟩))
          have HT7 := Lib.hid ht7.swap
          have HB7 := Lib.hid hb7
          clear ht7 hb7 hb6 s0 s1 s2 s3 s4 s5
          go_wp2_with (first
            | (go_at_call 24; (with_reducible refine (HSM.out _ _ _ _ _ _ _ (T4.two (T4.below HT7.out hb8 (Nat.le_refl _)))).mono ?_); rintro e w9 ⟨rfl, hb9⟩)
            | (go_at_call 24; (with_reducible refine (HSM.out _ _ _ _ _ _ _ (T4.one HT7.out)).mono ?_); rintro e w8 ⟨rfl, hb8⟩))
          have hbb := hb8.trans (hb9.mono hb8.size)
          have HT9 := Lib.hid (T4.below HT7.out hbb (Nat.le_refl _))
          have HB9 := Lib.hid (Below.trans HB7.out (hbb.mono (Below.size HB7.out)))
          clear hbb hb8 hb9
          go_roundw
          case rel => exact ⟨i + 1, d5, r5, c7, s7, D5, E7, v5, u7, p5, q7, by omega, rfl, rfl, rfl, rfl, rfl, by go_num, HT9.out, HB9.out⟩
          case measure => simp [RowKit.intOf]; omega
        ·
          have h1 : i < n1 := hl1
          have zn1 : (i : Int) < (n1 : Int) := by omega
          have en1 : decide ((i : Int) < (n1 : Int)) = true := decide_eq_true zn1
          have fn1 : decide (i < n1) = true := by rw [decide_eq_true_iff]; omega
          have en2 : decide ((i : Int) < (n2 : Int)) = false := by rw [decide_eq_false_iff_not]; omega
          have fn2 : decide (i < n2) = false := by rw [decide_eq_false_iff_not]; omega
          have hx1 := HX1.out.below HB.out
          obtain ⟨q1, hq1, s0, s1, s2, s3, s4, s5⟩ := hx1.row (show i < n1 by omega)
          have HI1 := Lib.hid (hx1.inn i (by omega))
          subst hq1
          generalize X1.getD i default = o1 at *
          clear hx1
          go_upto_region 10 with (first
            | (go_at_call 18; (with_reducible refine (HST.out wr _ _ _ _ _ _ _ _ _ _ _ o1 HT.out HB.out HI1.out hb4).mono ?_); rintro e w5 ⟨d5, r5, D5, v5, p5, rfl, ht5, hb5⟩)
            | (go_at_call 19; (with_reducible refine (HSL.out _ o1 HI1.out).mono ?_); rintro e w4 ⟨rfl, hb4⟩))
          have HT5 := Lib.hid ht5
          have HB5 := Lib.hid hb5
          clear ht5 hb5 hb4 s0 s1 s2 s3 s4 s5
          go_upto_region 12 with fail
          go_wp2_with (first
            | (go_at_call 24; (with_reducible refine (HSM.out _ _ _ _ _ _ _ (T4.two (T4.below HT5.out hb8 (Nat.le_refl _)))).mono ?_); rintro e w9 ⟨rfl, hb9⟩)
            | (go_at_call 24; (with_reducible refine (HSM.out _ _ _ _ _ _ _ (T4.one HT5.out)).mono ?_); rintro e w8 ⟨rfl, hb8⟩))
          have hbb := hb8.trans (hb9.mono hb8.size)
          have HT9 := Lib.hid (T4.below HT5.out hbb (Nat.le_refl _))
          have HB9 := Lib.hid (Below.trans HB5.out (hbb.mono (Below.size HB5.out)))
          clear hbb hb8 hb9
          go_roundw
          case rel => exact ⟨i + 1, d5, r5, c, s, D5, E, v5, u, p5, q, by omega, rfl, rfl, rfl, rfl, rfl, by go_num, HT9.out, HB9.out⟩
          case measure => simp [RowKit.intOf]; omega
      · by_cases hl2 : i < n2
        ·
          have h1 : ¬ i < n1 := hl1
          have en1 : decide ((i : Int) < (n1 : Int)) = false := by rw [decide_eq_false_iff_not]; omega
          have fn1 : decide (i < n1) = false := by rw [decide_eq_false_iff_not]; omega
          have zn2 : (i : Int) < (n2 : Int) := by omega
          have en2 : decide ((i : Int) < (n2 : Int)) = true := decide_eq_true zn2
          have fn2 : decide (i < n2) = true := by rw [decide_eq_true_iff]; omega
          go_upto_region 10 with fail
          have hx2 := HX2.out.below HB.out
          obtain ⟨q2, hq2, s0, s1, s2, s3, s4, s5⟩ := hx2.row (show i < n2 by omega)
          have HI2 := Lib.hid (hx2.inn i (by omega))
          subst hq2
          generalize X2.getD i default = o2 at *
          clear hx2
          go_upto_region 12 with (first
            | (go_at_call 18; (with_reducible refine (HST.out wr _ _ _ _ _ _ _ _ _ _ _ o2 HT.out.swap HB.out HI2.out hb6).mono ?_); rintro e w7 ⟨c7, s7, E7, u7, q7, rfl, ht7, hb7⟩)
            | (go_at_call 19; (with_reducible refine (HSL.out _ o2 HI2.out).mono ?_); rintro e w6 ⟨rfl, hb6⟩))
          have HT7 := Lib.hid ht7.swap
          have HB7 := Lib.hid hb7
          clear ht7 hb7 hb6 s0 s1 s2 s3 s4 s5
          go_wp2_with (first
            | (go_at_call 24; (with_reducible refine (HSM.out _ _ _ _ _ _ _ (T4.two (T4.below HT7.out hb8 (Nat.le_refl _)))).mono ?_); rintro e w9 ⟨rfl, hb9⟩)
            | (go_at_call 24; (with_reducible refine (HSM.out _ _ _ _ _ _ _ (T4.one HT7.out)).mono ?_); rintro e w8 ⟨rfl, hb8⟩))
          have hbb := hb8.trans (hb9.mono hb8.size)
          have HT9 := Lib.hid (T4.below HT7.out hbb (Nat.le_refl _))
          have HB9 := Lib.hid (Below.trans HB7.out (hbb.mono (Below.size HB7.out)))
          clear hbb hb8 hb9
          go_roundw
          case rel => exact ⟨i + 1, d, r, c7, s7, D, E7, v, u7, p, q7, by omega, rfl, rfl, rfl, rfl, rfl, by go_num, HT9.out, HB9.out⟩
          case measure => simp [RowKit.intOf]; omega
        ·
          have h1 : ¬ i < n1 := hl1
          have en1 : decide ((i : Int) < (n1 : Int)) = false := by rw [decide_eq_false_iff_not]; omega
          have fn1 : decide (i < n1) = false := by rw [decide_eq_false_iff_not]; omega
          have en2 : decide ((i : Int) < (n2 : Int)) = false := by rw [decide_eq_false_iff_not]; omega
          have fn2 : decide (i < n2) = false := by rw [decide_eq_false_iff_not]; omega
          go_upto_region 10 with fail
          go_upto_region 12 with fail
          go_wp2_with (first
            | (go_at_call 24; (with_reducible refine (HSM.out _ _ _ _ _ _ _ (T4.two (T4.below HT.out hb8 (Nat.le_refl _)))).mono ?_); rintro e w9 ⟨rfl, hb9⟩)
            | (go_at_call 24; (with_reducible refine (HSM.out _ _ _ _ _ _ _ (T4.one HT.out)).mono ?_); rintro e w8 ⟨rfl, hb8⟩))
          have hbb := hb8.trans (hb9.mono hb8.size)
          have HT9 := Lib.hid (T4.below HT.out hbb (Nat.le_refl _))
          have HB9 := Lib.hid (Below.trans HB.out (hbb.mono (Below.size HB.out)))
          clear hbb hb8 hb9
          go_roundw
          case rel => exact ⟨i + 1, d, r, c, s, D, E, v, u, p, q, by omega, rfl, rfl, rfl, rfl, rfl, by go_num, HT9.out, HB9.out⟩
          case measure => simp [RowKit.intOf]; omega
    · have d8 : decide ((i : Int) < 30) = false := by rw [decide_eq_false_iff_not]; omega
      have d8' : decide (i < 30) = false := decide_eq_false hit
      go_wp2_with (go_at_call 8; (with_reducible refine (awake4_any _).mono ?_); rintro e w2 ⟨rfl, hb2⟩)
      go_ret
      exact ⟨rfl, HB.out.trans (hb2.mono HB.out.size)⟩
end Go.Proofs.Ytebkgcnldbkgeaa
