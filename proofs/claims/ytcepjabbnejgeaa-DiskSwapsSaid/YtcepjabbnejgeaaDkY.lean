/-
  DiskSwaps.
-/
import Derived.Test.YtcepjabbnejgeaaDkX
import Derived.Test.YtcepjabbnejgeaaIdxN
namespace Go.Proofs.Ytcepjabbnejgeaa
open Go.RowKit Go.Lib Go.Sort Go.Maps
set_option linter.unusedVariables false
set_option linter.unusedSimpArgs false

theorem read_str {base cb : Nat} {W : World} {p : PD} {y : ByteArray} {m : Nat} (hc : ∃ Dc, Dk W base cb Dc ∧ pd Dc = p) (hf : getT Fl.key p.F [120] = some ⟨sx, y.data.toList, m⟩) :
    Calls Try.prog 19 #[.pointer (some ⟨cb, 0, none⟩), .string sx] W fun e w' => ∃ A c, e = .returned (.tuple #[.slice A y.size c, .int .i64 0]) ∧ (convert 36 9 (.slice A y.size c)).run Try.prog w' = .ok (.string y) w' ∧ Below W.heap.size W w' := by
  obtain ⟨Dc, h1, h2⟩ := hc
  refine (read_pd base cb Dc sx W h1 (by decide) (by rw [h2]; exact hf)).mono fun e w' hh => ?_
  obtain ⟨v, he, ho, hb⟩ := hh
  obtain ⟨A, c, hv, _, _⟩ := slice_of_row ho
  have hl : y.data.toList.length = y.size := by simp
  subst hv
  have hbs : Bs w' w'.heap.size A y.size y.data.toList := ⟨hl, Lies.of_row ho⟩
  refine ⟨A, c, ?_, ?_, hb⟩
  · rw [he]
    show Ending.returned (.tuple #[.slice A (y.data.toList.length) c, _]) = _
    rw [hl]
  · rw [hbs.str (P := Try.prog) (src := 36) (dst := 9) (e := 5) Try.underlying36 Try.underlying5 Try.underlying9 c]
set_option maxRecDepth 100000 in
set_option maxHeartbeats 16000000 in
theorem diskSwaps_any (o fr : ByteArray) (a : Int) (A : Option Addr) (n c : Nat) (P : List Int) (w : World) (ho : o.size ≤ maxLen) (hfr : fr.size ≤ maxLen) (a1 : -9223372036854775808 ≤ a) (a2 : a ≤ 9223372036854775807) (hn : n ≤ c) (hc : c ≤ maxLen) (hP : Ins w w.heap.size A n P) :
    Calls Try.prog 6 #[.string o, .string fr, .int .i64 a, .slice A n c] w fun e w' => e = .returned (.bool true) ∧ Below w.heap.size w w' := by
  have HSO : Hid (∀ W, Calls Try.prog 13 #[.string o, .int .i64 300] W fun e w' => e = .returned (.string (shortB o 300)) ∧ w' = W) := fun W => short_any4 o 300 W ho (by decide)
  have HSF : Hid (∀ W, Calls Try.prog 13 #[.string fr, .int .i64 300] W fun e w' => e = .returned (.string (shortB fr 300)) ∧ w' = W) := fun W => short_any4 fr 300 W hfr (by decide)
  have hx := short_size o 300
  have hy := short_size fr 300
  generalize shortB o 300 = x at *
  generalize shortB fr 300 = y at *
  have HX := Lib.hid hx
  have HY := Lib.hid hy
  have HXL : Hid (x.data.toList.length ≤ 300) := by rw [Hid]; simpa using hx
  have HYL : Hid (y.data.toList.length ≤ 300) := by rw [Hid]; simpa using hy
  have HN : Hid (∀ W, Calls Try.prog 14 #[.int .i64 4000] W fun e w' => ∃ d, e = .returned (.tuple #[.pointer (some ⟨d, 0, none⟩), .int .i64 0]) ∧ Aw W w' d (qs []) []) := fun W => (new_any4 4000 W).mono fun e w' h => by
    rw [if_neg (by omega)] at h
    obtain ⟨⟨d, he, hd, hk⟩, hb⟩ := h
    exact ⟨d, he, _, hk, rfl, hb, fun x hx => by cases hx⟩
  have HAW := Lib.hid awake4_any
  have HP := Lib.hid hP
  have hpl := hP.len
  have HHC := Lib.hid hc
  unfold maxLen at hc
  have xx : (x.toList == x.toList) = true := by simp
  have yy : (y.toList == y.toList) = true := by simp
  clear hP hx hy ho hfr
  go_enter Try.func6, Try.ntmps6
  go_upto_if 23 with (first
    | (go_at_call 13; (with_reducible refine (HSO.out _).mono ?_); rintro e w1 ⟨rfl, hw⟩; have hw' := hw.symm; subst hw')
    | (go_at_call 13; (with_reducible refine (HSF.out _).mono ?_); rintro e w1 ⟨rfl, hw⟩; have hw' := hw.symm; subst hw'))
  go_cut [3, 24, 25] (fun s3 s24 s25 wx => ∃ m, s3 = .slice A m c ∧ wx = w ∧ Hid (m ≤ n))
  case first =>
    by_cases h20 : 20 < n
    · have d0 : decide (20 < n) = true := decide_eq_true h20
      have d0' : decide ((20 : Int) < (n : Int)) = true := by rw [decide_eq_true_iff]; omega
      have hc20 : (20 : Int) ≤ (c : Int) := by omega
      go_wp2_with fail
      go_meet
      exact ⟨20, rfl, rfl, by rw [Hid]; omega⟩
    · have d0 : decide (20 < n) = false := decide_eq_false h20
      have d0' : decide ((20 : Int) < (n : Int)) = false := by rw [decide_eq_false_iff_not]; omega
      go_wp2_with fail
      go_meet
      exact ⟨n, rfl, rfl, Nat.le_refl _⟩
  case rest =>
    obtain ⟨m, rfl, hwe, HM0⟩ := hcut
    have hwe' := hwe.symm
    subst hwe'
    have HM : Hid (m ≤ maxLen) := Nat.le_trans HM0.out (Nat.le_trans hn HHC.out)
    have HIS : Hid (∀ W, Below w.heap.size w W → Isd W W.heap.size A m (P.take m)) := fun W hW => by
      refine ⟨by rw [List.length_take, hpl]; exact Nat.min_eq_left HM0.out, fun k hk => ?_⟩
      obtain ⟨p, e, h1, h2, h3⟩ := HP.out.row k (Nat.lt_of_lt_of_le hk HM0.out)
      have e4 : (P.take m).getD k 0 = P.getD k 0 := by rw [List.getD_eq_getElem?_getD, List.getD_eq_getElem?_getD, List.getElem?_take_of_lt hk]
      rw [e4]
      exact ⟨p, e, Nat.lt_of_lt_of_le h1 hW.size, (hW.cell (by rw [add_block]; exact h1)).trans h2, h3⟩
    obtain ⟨t, ht⟩ : ∃ t, Int.tmod a 5 = t := ⟨_, rfl⟩
    have ht1 : -4 ≤ t ∧ t ≤ 4 := by
      have h1 := Int.natAbs_tmod a 5
      rw [ht] at h1
      have h2 : (5 : Int).natAbs = 5 := rfl
      rw [h2] at h1
      have h3 := Nat.mod_lt a.natAbs (show 0 < 5 by decide)
      omega
    go_upto_if 49 with (first
      | (go_at_call 14; (with_reducible refine (HN.out _).mono ?_); rintro e w2 ⟨d, rfl, ha2⟩; obtain ⟨cap, W2, hcv⟩ := conv_any w2 x (by have := HX.out; unfold maxLen; omega); have hcr := hcv.run; have HCV := Lib.hid hcv; have HA2 := Lib.hid ha2; clear ha2 hcv)
      | (go_at_call 18; (with_reducible refine (HA2.out.appendS sx x HCV.out _ (by decide) (sw1 _ HXL.out)).mono ?_); rintro e w3 ⟨rfl, ha3⟩; have HA3 := Lib.hid ha3; clear ha3)
      | (go_at_call 24; (with_reducible refine (HA3.out.sync1 sx _ (by decide) (sw2 _)).mono ?_); rintro e w4 ⟨rfl, ha4⟩; have HA4 := Lib.hid ha4; clear ha4))
    go_cut [2, 50, 51] (fun s2 s50 s51 wx => ∃ k : Int, s2 = .int .i64 k ∧ wx = w4 ∧ (k = 0 ∨ k = 1 ∨ k = 2 ∨ k = 3 ∨ k = 4))
    case first =>
      by_cases hneg : t < 0
      · have d0 : decide (t < 0) = true := decide_eq_true hneg
        have ew : IntKind.i64.wrap (-t) = -t := by rw [IntKind.wrap_i64]; omega
        go_wp2_with fail
        go_meet
        exact ⟨-t, rfl, rfl, by omega⟩
      · have d0 : decide (t < 0) = false := decide_eq_false hneg
        go_wp2_with fail
        go_meet
        exact ⟨t, rfl, rfl, by omega⟩
    case rest =>
      obtain ⟨k, rfl, hwe, hk⟩ := hcut
      have hwe' := hwe.symm
      subst hwe'
      clear ht ht1 hcr
      rcases hk with rfl | rfl | rfl | rfl | rfl
      · have HK := Lib.hid (show (qs [⟨sx, x.data.toList, x.data.toList.length⟩]).fuse 0 = qf [⟨sx, x.data.toList, x.data.toList.length⟩] 0 from sw3 x.data.toList 0)
        go_wp2_with (first
          | (go_at_call 25; refine (HA4.out.fuse 0 (by decide) HK.out).mono ?_; rintro e w5 ⟨rfl, ha5⟩; obtain ⟨cap5, W5, hcv5⟩ := conv_any w5 y (by have := HY.out; unfold maxLen; omega); have hcr5 := hcv5.run; have HCV5 := Lib.hid hcv5; have HA5 := Lib.hid ha5; clear ha5 hcv5)
          | (go_at_call 18; refine (HA5.out.appendS sn y HCV5.out _ (by decide) (sw7 _ _ _)).mono ?_; rintro e w6 ⟨rfl, ha6⟩; have HA6 := Lib.hid ha6; clear ha6)
          | (go_at_call 24; refine (HA6.out.sync1 sn _ (by decide) (sw8 _ _)).mono ?_; rintro e w7 ⟨rfl, ha7⟩; have HA7 := Lib.hid ha7; clear ha7)
          | (go_at_call 26; refine (HA7.out.rename sn sx (by decide) (by decide) (sw9 _ _ _)).mono ?_; rintro e w8 ⟨rfl, ha8⟩; have HA8 := Lib.hid ha8; clear ha8)
          | (go_at_call 20; refine (HA8.out.crash (Below.refl _ _) A m c (P.take m) (HIS.out w8 HA8.out.below) HM.out).mono ?_; rintro e w9 ⟨cb, rfl, hc9, hb9⟩; have HC9 := Lib.hid hc9; have HB9 := Lib.hid (HA8.out.below.trans (hb9.mono HA8.out.below.size)); clear hc9 hb9)
          | (go_at_call 19; (refine (read_str (y := x) (hc := HC9.out) (sw10 _ _ _)).mono ?_); rintro e w10 ⟨Av, cv, rfl, hs10, hb10⟩; have HB10 := Lib.hid (HB9.out.trans (hb10.mono HB9.out.size)); clear hb10)
          | (go_at_call 12; (with_reducible refine (HAW.out _).mono ?_); rintro e w11 ⟨rfl, hb11⟩))
        go_ret
        exact ⟨rfl, HB10.out.trans (hb11.mono HB10.out.size)⟩
      · have HK := Lib.hid (show (qs [⟨sx, x.data.toList, x.data.toList.length⟩]).fuse 1 = qf [⟨sx, x.data.toList, x.data.toList.length⟩] 1 from sw3 x.data.toList 1)
        go_wp2_with (first
          | (go_at_call 25; refine (HA4.out.fuse 1 (by decide) HK.out).mono ?_; rintro e w5 ⟨rfl, ha5⟩; obtain ⟨cap5, W5, hcv5⟩ := conv_any w5 y (by have := HY.out; unfold maxLen; omega); have hcr5 := hcv5.run; have HCV5 := Lib.hid hcv5; have HA5 := Lib.hid ha5; clear ha5 hcv5)
          | (go_at_call 18; refine (HA5.out.appendS sn y HCV5.out _ (by decide) (sw4 x.data.toList y.data.toList HXL.out HYL.out 1 (by decide))).mono ?_; rintro e w6 ⟨rfl, ha6⟩; have HA6 := Lib.hid ha6; clear ha6)
          | (go_at_call 24; refine (HA6.out.sync1 sn _ (by decide) (sw8 _ _)).mono ?_; rintro e w7 ⟨rfl, ha7⟩; have HA7 := Lib.hid ha7; clear ha7)
          | (go_at_call 26; refine (HA7.out.rename sn sx (by decide) (by decide) (sw9 _ _ _)).mono ?_; rintro e w8 ⟨rfl, ha8⟩; have HA8 := Lib.hid ha8; clear ha8)
          | (go_at_call 20; refine (HA8.out.crash (Below.refl _ _) A m c (P.take m) (HIS.out w8 HA8.out.below) HM.out).mono ?_; rintro e w9 ⟨cb, rfl, hc9, hb9⟩; have HC9 := Lib.hid hc9; have HB9 := Lib.hid (HA8.out.below.trans (hb9.mono HA8.out.below.size)); clear hc9 hb9)
          | (go_at_call 19; (refine (read_str (y := x) (hc := HC9.out) (sw11 _ _ _ _ _)).mono ?_); rintro e w10 ⟨Av, cv, rfl, hs10, hb10⟩; have HB10 := Lib.hid (HB9.out.trans (hb10.mono HB9.out.size)); clear hb10)
          | (go_at_call 12; (with_reducible refine (HAW.out _).mono ?_); rintro e w11 ⟨rfl, hb11⟩))
        go_ret
        exact ⟨rfl, HB10.out.trans (hb11.mono HB10.out.size)⟩
      · have HK := Lib.hid (show (qs [⟨sx, x.data.toList, x.data.toList.length⟩]).fuse 2 = qf [⟨sx, x.data.toList, x.data.toList.length⟩] 2 from sw3 x.data.toList 2)
        go_wp2_with (first
          | (go_at_call 25; refine (HA4.out.fuse 2 (by decide) HK.out).mono ?_; rintro e w5 ⟨rfl, ha5⟩; obtain ⟨cap5, W5, hcv5⟩ := conv_any w5 y (by have := HY.out; unfold maxLen; omega); have hcr5 := hcv5.run; have HCV5 := Lib.hid hcv5; have HA5 := Lib.hid ha5; clear ha5 hcv5)
          | (go_at_call 18; refine (HA5.out.appendS sn y HCV5.out _ (by decide) (sw4 x.data.toList y.data.toList HXL.out HYL.out 2 (by decide))).mono ?_; rintro e w6 ⟨rfl, ha6⟩; have HA6 := Lib.hid ha6; clear ha6)
          | (go_at_call 24; refine (HA6.out.sync1 sn _ (by decide) (sw5 x.data.toList y.data.toList (2 - 1) (by decide))).mono ?_; rintro e w7 ⟨rfl, ha7⟩; have HA7 := Lib.hid ha7; clear ha7)
          | (go_at_call 26; refine (HA7.out.rename sn sx (by decide) (by decide) (sw9 _ _ _)).mono ?_; rintro e w8 ⟨rfl, ha8⟩; have HA8 := Lib.hid ha8; clear ha8)
          | (go_at_call 20; refine (HA8.out.crash (Below.refl _ _) A m c (P.take m) (HIS.out w8 HA8.out.below) HM.out).mono ?_; rintro e w9 ⟨cb, rfl, hc9, hb9⟩; have HC9 := Lib.hid hc9; have HB9 := Lib.hid (HA8.out.below.trans (hb9.mono HA8.out.below.size)); clear hc9 hb9)
          | (go_at_call 19; (refine (read_str (y := x) (hc := HC9.out) (sw11 _ _ _ _ _)).mono ?_); rintro e w10 ⟨Av, cv, rfl, hs10, hb10⟩; have HB10 := Lib.hid (HB9.out.trans (hb10.mono HB9.out.size)); clear hb10)
          | (go_at_call 12; (with_reducible refine (HAW.out _).mono ?_); rintro e w11 ⟨rfl, hb11⟩))
        go_ret
        exact ⟨rfl, HB10.out.trans (hb11.mono HB10.out.size)⟩
      · have HK := Lib.hid (show (qs [⟨sx, x.data.toList, x.data.toList.length⟩]).fuse 3 = qf [⟨sx, x.data.toList, x.data.toList.length⟩] 3 from sw3 x.data.toList 3)
        go_wp2_with (first
          | (go_at_call 25; refine (HA4.out.fuse 3 (by decide) HK.out).mono ?_; rintro e w5 ⟨rfl, ha5⟩; obtain ⟨cap5, W5, hcv5⟩ := conv_any w5 y (by have := HY.out; unfold maxLen; omega); have hcr5 := hcv5.run; have HCV5 := Lib.hid hcv5; have HA5 := Lib.hid ha5; clear ha5 hcv5)
          | (go_at_call 18; refine (HA5.out.appendS sn y HCV5.out _ (by decide) (sw4 x.data.toList y.data.toList HXL.out HYL.out 3 (by decide))).mono ?_; rintro e w6 ⟨rfl, ha6⟩; have HA6 := Lib.hid ha6; clear ha6)
          | (go_at_call 24; refine (HA6.out.sync1 sn _ (by decide) (sw5 x.data.toList y.data.toList (3 - 1) (by decide))).mono ?_; rintro e w7 ⟨rfl, ha7⟩; have HA7 := Lib.hid ha7; clear ha7)
          | (go_at_call 26; refine (HA7.out.rename sn sx (by decide) (by decide) (sw6 x.data.toList y.data.toList (3 - 1 - 1) (by decide))).mono ?_; rintro e w8 ⟨rfl, ha8⟩; have HA8 := Lib.hid ha8; clear ha8)
          | (go_at_call 20; refine (HA8.out.crash (Below.refl _ _) A m c (P.take m) (HIS.out w8 HA8.out.below) HM.out).mono ?_; rintro e w9 ⟨cb, rfl, hc9, hb9⟩; have HC9 := Lib.hid hc9; have HB9 := Lib.hid (HA8.out.below.trans (hb9.mono HA8.out.below.size)); clear hc9 hb9)
          | (go_at_call 19; (refine (read_str (y := y) (hc := HC9.out) (sw10 _ _ _)).mono ?_); rintro e w10 ⟨Av, cv, rfl, hs10, hb10⟩; have HB10 := Lib.hid (HB9.out.trans (hb10.mono HB9.out.size)); clear hb10)
          | (go_at_call 12; (with_reducible refine (HAW.out _).mono ?_); rintro e w11 ⟨rfl, hb11⟩))
        go_ret
        exact ⟨rfl, HB10.out.trans (hb11.mono HB10.out.size)⟩
      · have HK := Lib.hid (show (qs [⟨sx, x.data.toList, x.data.toList.length⟩]).fuse 4 = qf [⟨sx, x.data.toList, x.data.toList.length⟩] 4 from sw3 x.data.toList 4)
        go_wp2_with (first
          | (go_at_call 25; refine (HA4.out.fuse 4 (by decide) HK.out).mono ?_; rintro e w5 ⟨rfl, ha5⟩; obtain ⟨cap5, W5, hcv5⟩ := conv_any w5 y (by have := HY.out; unfold maxLen; omega); have hcr5 := hcv5.run; have HCV5 := Lib.hid hcv5; have HA5 := Lib.hid ha5; clear ha5 hcv5)
          | (go_at_call 18; refine (HA5.out.appendS sn y HCV5.out _ (by decide) (sw4 x.data.toList y.data.toList HXL.out HYL.out 4 (by decide))).mono ?_; rintro e w6 ⟨rfl, ha6⟩; have HA6 := Lib.hid ha6; clear ha6)
          | (go_at_call 24; refine (HA6.out.sync1 sn _ (by decide) (sw5 x.data.toList y.data.toList (4 - 1) (by decide))).mono ?_; rintro e w7 ⟨rfl, ha7⟩; have HA7 := Lib.hid ha7; clear ha7)
          | (go_at_call 26; refine (HA7.out.rename sn sx (by decide) (by decide) (sw6 x.data.toList y.data.toList (4 - 1 - 1) (by decide))).mono ?_; rintro e w8 ⟨rfl, ha8⟩; have HA8 := Lib.hid ha8; clear ha8)
          | (go_at_call 20; refine (HA8.out.crash (Below.refl _ _) A m c (P.take m) (HIS.out w8 HA8.out.below) HM.out).mono ?_; rintro e w9 ⟨cb, rfl, hc9, hb9⟩; have HC9 := Lib.hid hc9; have HB9 := Lib.hid (HA8.out.below.trans (hb9.mono HA8.out.below.size)); clear hc9 hb9)
          | (go_at_call 19; (refine (read_str (y := y) (hc := HC9.out) (sw10 _ _ _)).mono ?_); rintro e w10 ⟨Av, cv, rfl, hs10, hb10⟩; have HB10 := Lib.hid (HB9.out.trans (hb10.mono HB9.out.size)); clear hb10)
          | (go_at_call 12; (with_reducible refine (HAW.out _).mono ?_); rintro e w11 ⟨rfl, hb11⟩))
        go_ret
        exact ⟨rfl, HB10.out.trans (hb11.mono HB10.out.size)⟩
end Go.Proofs.Ytcepjabbnejgeaa
