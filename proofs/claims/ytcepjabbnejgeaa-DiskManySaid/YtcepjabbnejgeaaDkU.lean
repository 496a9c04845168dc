/-
  DiskNews.
-/
import Derived.Test.YtcepjabbnejgeaaDkT
namespace Go.Proofs.Ytcepjabbnejgeaa
open Go.RowKit Go.Lib Go.Sort Go.Maps
set_option linter.unusedVariables false
set_option linter.unusedSimpArgs false

section
variable {w W W' : World} {d : Nat} {p p' : PD} {X : List (Value × List UInt8)}
theorem Aw.free (h : Aw w W d p X) : Calls Try.prog 17 #[.pointer (some ⟨d, 0, none⟩)] W fun e w' => e = .returned (.int .i64 (p.free : Int)) ∧ Below W.heap.size W w' := by
  obtain ⟨D, h1, hp, h3, h4⟩ := h
  rw [← hp, ← pd_free]
  exact free_any w.heap.size d D W h1
theorem Aw.read_ok (h : Aw w W d p X) (s : ByteArray) (hs : s.size ≤ maxLen) {f : Fl} (hf : getT Fl.key p.F s.data.toList = some f) :
    Calls Try.prog 19 #[.pointer (some ⟨d, 0, none⟩), .string s] W fun e w' => ∃ v, e = .returned (.tuple #[v, .int .i64 0]) ∧ Own w' W.heap.size v f.b ∧ Below W.heap.size W w' := by
  obtain ⟨D, h1, hp, h3, h4⟩ := h
  exact read_pd w.heap.size d D s W h1 hs (by rw [hp]; exact hf)
theorem Aw.read_no (h : Aw w W d p X) (s : ByteArray) (hs : s.size ≤ maxLen) (hf : getT Fl.key p.F s.data.toList = none) :
    Calls Try.prog 19 #[.pointer (some ⟨d, 0, none⟩), .string s] W fun e w' => e = .returned (.tuple #[.slice none 0 0, .int .i64 3]) ∧ Below W.heap.size W w' := by
  obtain ⟨D, h1, hp, h3, h4⟩ := h
  refine (read_any4 w.heap.size d D s W h1 hs).mono fun e w' hh => ?_
  obtain ⟨k1, k2⟩ := hh
  have k3 : (D.at_ s).map Hd.f = none := by rw [← hf, ← hp]; exact (get_files D _).symm
  cases k4 : D.at_ s with
  | none => rw [k4] at k1; exact ⟨k1, k2⟩
  | some g => rw [k4] at k3; cases k3
end
def pn (n : Int) : PD := ⟨[], n, false, 0⟩
def pn1 (n : Int) (s : ByteArray) : PD := ⟨[⟨s, [], 0⟩], n, false, 0⟩
theorem pn_yes {n : Int} {s : ByteArray} (h : nameB s = true) : (pn n).append s ([] : List (List UInt8)).flatten = (0, pn1 n s) := by
  have h0 : (pn n).appE s ([] : List UInt8).length = 0 := by
    unfold PD.appE
    rw [if_neg (by rw [h]; decide), if_neg]
    intro h2
    rcases h2 with h2 | h2
    · exact absurd h2 (by simp)
    · exact absurd h2.2 (by unfold pn; simp)
  unfold PD.append PD.chg
  rw [if_neg (show ¬ (pn n).burnt = true from fun h => by cases h), List.flatten_nil, h0, if_pos rfl, addF_nil]
  rfl
theorem pn_no {n : Int} {s : ByteArray} (h : nameB s = false) : (pn n).append s ([] : List (List UInt8)).flatten = (2, pn n) := by
  have h0 : (pn n).appE s ([] : List UInt8).length = 2 := by
    unfold PD.appE
    rw [if_pos h]
  unfold PD.append PD.chg
  rw [if_neg (show ¬ (pn n).burnt = true from fun h => by cases h), List.flatten_nil, h0, if_neg (by decide)]
theorem pn1_get (n : Int) (s : ByteArray) : getT Fl.key (pn1 n s).F s.data.toList = some ⟨s, [], 0⟩ := by
  unfold pn1 getT
  rw [List.find?_cons]
  simp [Fl.key]
set_option maxRecDepth 100000 in
set_option maxHeartbeats 8000000 in
theorem diskNews_any (n : Int) (s : ByteArray) (w : World) (n1 : -9223372036854775808 ≤ n) (n2 : n ≤ 9223372036854775807) (hs : s.size ≤ maxLen) : Calls Try.prog 4 #[.int .i64 n, .string s] w fun e w' => e = .returned (.bool true) ∧ Below w.heap.size w w' := by
  have H0 : Hid (∀ W, Calls Try.prog 13 #[.string s, .int .i64 60] W fun e w' => e = .returned (.string (shortB s 60)) ∧ w' = W) := fun W => short_any4 s 60 W hs (by decide)
  have hx60 := short_size s 60
  obtain ⟨x, hx⟩ : ∃ x, shortB s 60 = x := ⟨_, rfl⟩
  rw [hx] at H0 hx60
  clear hx
  have HN := Lib.hid (fun W => new_any4 n W)
  have HNM := Lib.hid (fun W => name_any x W (by omega))
  have HRN := Lib.hid (fun W => rname_any x W (by omega))
  have HAW := Lib.hid awake4_any
  have HX60 := Lib.hid hx60
  by_cases hbad : n < 0 ∨ 4194304 < n
  · have HN2 : Hid (∀ W, Calls Try.prog 14 #[.int .i64 n] W fun e w' => e = .returned (.tuple #[.pointer none, .int .i64 2]) ∧ Below W.heap.size W w') := fun W => (HN.out W).mono fun e w' h => by rw [if_pos hbad] at h; exact h
    clear HN
    rcases hbad with h | h
    · have d1 : decide (n < 0) = true := decide_eq_true h
      go_enter Try.func4, Try.ntmps4
      go_wp2_with (first
        | (go_at_call 13; (with_reducible refine (H0.out _).mono ?_); rintro e w1 ⟨rfl, hw⟩; have hw' := hw.symm; subst hw')
        | (go_at_call 14; (with_reducible refine (HN2.out _).mono ?_); rintro e w2 ⟨rfl, hb2⟩)
        | (go_at_call 12; (with_reducible refine (HAW.out _).mono ?_); rintro e w3 ⟨rfl, hb3⟩))
      go_ret
      exact ⟨rfl, hb2.trans (hb3.mono hb2.size)⟩
    · have d1 : decide (n < 0) = false := decide_eq_false (by omega)
      have d2 : decide (4194304 < n) = true := decide_eq_true h
      go_enter Try.func4, Try.ntmps4
      go_wp2_with (first
        | (go_at_call 13; (with_reducible refine (H0.out _).mono ?_); rintro e w1 ⟨rfl, hw⟩; have hw' := hw.symm; subst hw')
        | (go_at_call 14; (with_reducible refine (HN2.out _).mono ?_); rintro e w2 ⟨rfl, hb2⟩)
        | (go_at_call 12; (with_reducible refine (HAW.out _).mono ?_); rintro e w3 ⟨rfl, hb3⟩))
      go_ret
      exact ⟨rfl, hb2.trans (hb3.mono hb2.size)⟩
  · have HN2 : Hid (∀ W, Calls Try.prog 14 #[.int .i64 n] W fun e w' => ∃ d, e = .returned (.tuple #[.pointer (some ⟨d, 0, none⟩), .int .i64 0]) ∧ Aw W w' d (pn n) []) := fun W => (HN.out W).mono fun e w' h => by
      rw [if_neg hbad] at h
      obtain ⟨⟨d, he, hd, hk⟩, hb⟩ := h
      exact ⟨d, he, _, hk, rfl, hb, fun x hx => by cases hx⟩
    clear HN
    have d1 : decide (n < 0) = false := decide_eq_false (by omega)
    have d2 : decide (4194304 < n) = false := decide_eq_false (by omega)
    have hfr : ((pn n).free : Int) = n := by
      unfold PD.free pn sumL
      simp
      omega
    have hnn : (n == n) = true := by simp
    have HFR := Lib.hid hfr
    clear hfr
    cases hnm : nameB x with
    | true =>
      rw [hnm] at HNM HRN
      have HY := Lib.hid (pn_yes (n := n) hnm)
      clear hnm
      go_enter Try.func4, Try.ntmps4
      go_wp2_with (first
        | (go_at_call 13; (with_reducible refine (H0.out _).mono ?_); rintro e w1 ⟨rfl, hw⟩; have hw' := hw.symm; subst hw')
        | (go_at_call 14; (with_reducible refine (HN2.out _).mono ?_); rintro e w2 ⟨d, rfl, ha2⟩; have HA2 := Lib.hid ha2; clear ha2)
        | (go_at_call 15; (with_reducible refine (HNM.out _).mono ?_); rintro e w1 ⟨rfl, hw⟩; have hw' := hw.symm; subst hw')
        | (go_at_call 16; (with_reducible refine (HRN.out _).mono ?_); rintro e w1 ⟨rfl, hw⟩; have hw' := hw.symm; subst hw')
        | (go_at_call 17; (with_reducible refine HA2.out.free.mono ?_); rintro e w3 ⟨he3, hb3⟩; rw [HFR.out] at he3; subst he3; have HA3 := Lib.hid (HA2.out.next hb3); clear hb3)
        | (go_at_call 18; (with_reducible refine (HA3.out.append (Below.refl _ _) x none 0 0 [] (by have := HX60.out; omega) (by decide) (fun W' _ => ⟨rfl, fun k hk => by omega⟩) HY.out).mono ?_); rintro e w4 ⟨rfl, ha4⟩; have HA4 := Lib.hid ha4; clear ha4)
        | (go_at_call 19; (with_reducible refine (HA4.out.read_ok x (by have := HX60.out; unfold maxLen; omega) (pn1_get n x)).mono ?_); rintro e w5 ⟨v, rfl, ho5, hb5⟩; obtain ⟨Av, cv, rfl, _, _⟩ := slice_of_row ho5; have HA5 := Lib.hid (HA4.out.next hb5); clear hb5 ho5)
        | (go_at_call 12; (with_reducible refine (HAW.out _).mono ?_); rintro e w6 ⟨rfl, hb6⟩))
      go_ret
      exact ⟨rfl, HA5.out.below.trans (hb6.mono HA5.out.below.size)⟩
    | false =>
      rw [hnm] at HNM HRN
      have HY := Lib.hid (pn_no (n := n) hnm)
      clear hnm
      go_enter Try.func4, Try.ntmps4
      go_wp2_with (first
        | (go_at_call 13; (with_reducible refine (H0.out _).mono ?_); rintro e w1 ⟨rfl, hw⟩; have hw' := hw.symm; subst hw')
        | (go_at_call 14; (with_reducible refine (HN2.out _).mono ?_); rintro e w2 ⟨d, rfl, ha2⟩; have HA2 := Lib.hid ha2; clear ha2)
        | (go_at_call 15; (with_reducible refine (HNM.out _).mono ?_); rintro e w1 ⟨rfl, hw⟩; have hw' := hw.symm; subst hw')
        | (go_at_call 16; (with_reducible refine (HRN.out _).mono ?_); rintro e w1 ⟨rfl, hw⟩; have hw' := hw.symm; subst hw')
        | (go_at_call 17; (with_reducible refine HA2.out.free.mono ?_); rintro e w3 ⟨he3, hb3⟩; rw [HFR.out] at he3; subst he3; have HA3 := Lib.hid (HA2.out.next hb3); clear hb3)
        | (go_at_call 18; (with_reducible refine (HA3.out.append (Below.refl _ _) x none 0 0 [] (by have := HX60.out; omega) (by decide) (fun W' _ => ⟨rfl, fun k hk => by omega⟩) HY.out).mono ?_); rintro e w4 ⟨rfl, ha4⟩; have HA4 := Lib.hid ha4; clear ha4)
        | (go_at_call 19; (with_reducible refine (HA4.out.read_no x (by have := HX60.out; unfold maxLen; omega) rfl).mono ?_); rintro e w5 ⟨rfl, hb5⟩; have HA5 := Lib.hid (HA4.out.next hb5); clear hb5)
        | (go_at_call 12; (with_reducible refine (HAW.out _).mono ?_); rintro e w6 ⟨rfl, hb6⟩))
      go_ret
      exact ⟨rfl, HA5.out.below.trans (hb6.mono HA5.out.below.size)⟩
end Go.Proofs.Ytcepjabbnejgeaa
