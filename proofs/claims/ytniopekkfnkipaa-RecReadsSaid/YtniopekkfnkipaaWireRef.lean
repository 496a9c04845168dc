/-
  What the reference's Uint, Int, Text and Flag do, and wire's Flag and Ints.
-/
import Derived.Test.YtniopekkfnkipaaWireFlag
namespace Go.Proofs.Ytniopekkfnkipaa
open Go.RowKit
set_option linter.unusedVariables false
set_option linter.unusedSimpArgs false

theorem bv_ofNat (x : Nat) (h : x < 256) : Value.int .u8 (x : Int) = bv (UInt8.ofNat x) := by
  unfold bv
  rw [UInt8.toNat_ofNat', Nat.mod_eq_of_lt (by simpa using h)]

set_option maxRecDepth 100000 in
set_option maxHeartbeats 1000000 in
theorem refUintF (k : Nat) : ∀ (n : Nat) (w : World), 0 < k → k ≤ 10 → n < 128 ^ k → n < 18446744073709551616 →
    Calls Try.prog 12 #[.int .u64 (n : Int)] w fun e w' => ∃ v', e = .returned v' ∧ Own w' w.heap.size v' (Wn.encF k n) ∧ Below w.heap.size w w' := by
  induction k with
  | zero => intro n w h; exact absurd h (by omega)
  | succ k ih =>
    intro n w _ hk10 hnk hn
    obtain ⟨i0, hi0, hz0, hz1, hz2⟩ := info_parts byte_info
    by_cases hs : n < 128
    · rw [encF_small _ _ (by omega) hs]
      have HO := Lib.hid (own_one w (UInt8.ofNat n) _ (bv_ofNat n (by omega)))
      have hcv : (n : Int) % 256 = (n : Int) := by omega
      go_enter Try.func12, Try.ntmps12
      go_wp2_with fail
      go_ret
      exact ⟨_, rfl, HO.out, (Below.refl _ _).alloc (Nat.le_refl _) _⟩
    · have hkpos : 0 < k := by
        rcases Nat.eq_zero_or_pos k with rfl | h
        · simp at hnk; omega
        · exact h
      have hnk2 : n / 128 < 128 ^ k := by
        rw [Nat.pow_succ] at hnk
        exact Nat.div_lt_of_lt_mul (by rw [Nat.mul_comm]; exact hnk)
      rw [encF_more _ _ hs]
      have HO := Lib.hid (own_one w (UInt8.ofNat (n % 128 + 128)) _ (bv_ofNat (n % 128 + 128) (by omega)))
      have HI := Lib.hid fun W => ih (n / 128) W hkpos (by omega) hnk2 (by omega)
      have hel := (Wn.encF_len k (n / 128) hkpos).2
      generalize Wn.encF k (n / 128) = ex at *
      generalize UInt8.ofNat (n % 128 + 128) = b0 at *
      clear ih hnk hnk2
      have hd : decide ((n : Int) < 128) = false := by rw [decide_eq_false_iff_not]; omega
      go_enter Try.func12, Try.ntmps12
      go_wp2_with fail
      refine (HI.out _).mono ?_
      rintro e w1 ⟨v1, rfl, ho1, hb1⟩
      have hoo := HO.out.below hb1 (Nat.le_refl _)
      obtain ⟨A1, c1, rfl, hc1, hm1, hbs1, _, _⟩ := ho1.form
      have hB1 : Below w.heap.size w w1 := ((Below.refl w.heap.size w).alloc (Nat.le_refl _) (.cells #[.int .u8 ((n % 128 + 128 : Nat) : Int)] 5)).trans (hb1.mono (by simp))
      have hz := hB1.size
      obtain ⟨exn, hexn⟩ : ∃ m, ex.length = m := ⟨_, rfl⟩
      rw [hexn] at hbs1 hc1 hel
      rw [hexn]
      have HEX := Lib.hid hexn
      clear hexn ho1 hb1 HI HO
      go_wp2_with (at_builtin; refine wpList_append_src _ rfl (.tmp 14) (.tmp 17) 25 rfl w.heap.size 5 i0 _ 1 Try.underlying25 hi0 hz0 hz1 hz2 rfl _ 1 (bvs [b0]) rfl hoo w1.heap.size A1 exn c1 (bvs ex) rfl ?h1 hbs1.lies (bvs_one _) ?h2 ?h3 ?h4 ?_)
      case h1 => rw [bvs_length]; exact HEX.out
      case h2 => unfold maxLen; omega
      case h3 => omega
      case h4 => omega
      intro v3 w3 hown3 hg3 _
      have hb3 := hB1.trans (grown_below hoo hg3 hz)
      have R : Own w3 w.heap.size v3 (b0 :: ex) := by
        unfold Own
        rw [List.length_cons, HEX.out, Nat.add_comm]
        exact hown3
      clear hown3 hg3 hoo hbs1
      go_wp2_with fail
      go_ret
      exact ⟨_, rfl, R, hb3⟩
theorem refUint_any (n : Nat) (w : World) (hn : n < 18446744073709551616) :
    Calls Try.prog 12 #[.int .u64 (n : Int)] w fun e w' => ∃ v', e = .returned v' ∧ Own w' w.heap.size v' (Wn.enc n) ∧ Below w.heap.size w w' :=
  refUintF 10 n w (by omega) (by omega) (Nat.lt_of_lt_of_le hn (by decide)) hn

set_option maxHeartbeats 1000000 in
theorem refInt_any (n : Int) (w : World) (h1 : -9223372036854775808 ≤ n) (h2 : n ≤ 9223372036854775807) :
    Calls Try.prog 14 #[.int .i64 n] w fun e w' => ∃ v', e = .returned v' ∧ Own w' w.heap.size v' (Wn.enc (Wn.zig n)) ∧ Below w.heap.size w w' := by
  by_cases h : 0 ≤ n
  · obtain ⟨m, rfl⟩ : ∃ m : Nat, n = (m : Int) := ⟨n.toNat, by omega⟩
    have e : Wn.zig (m : Int) = 2 * m := by unfold Wn.zig; rw [if_pos h]; omega
    rw [e]
    have HU := Lib.hid (refUint_any (2 * m) w (by omega))
    have e2 : ((2 * m : Nat) : Int) = 2 * (m : Int) := by omega
    rw [e2] at HU
    generalize Wn.enc (2 * m) = z at *
    go_enter Try.func14, Try.ntmps14
    go_wp2_with fail
    refine HU.out.mono ?_
    rintro e w1 ⟨v1, rfl, ho, hb⟩
    go_wp2_with fail
    go_ret
    exact ⟨_, rfl, ho, hb⟩
  · obtain ⟨m, rfl⟩ : ∃ m : Nat, n = -(m : Int) - 1 := ⟨(-n - 1).toNat, by omega⟩
    have e : Wn.zig (-(m : Int) - 1) = 2 * m + 1 := by unfold Wn.zig; rw [if_neg h]; omega
    rw [e]
    have HU := Lib.hid (refUint_any (2 * m + 1) w (by omega))
    have e2 : ((2 * m + 1 : Nat) : Int) = 2 * (m : Int) + 1 := by omega
    rw [e2] at HU
    generalize Wn.enc (2 * m + 1) = z at *
    have hd : decide ((0 : Int) ≤ -(m : Int) - 1) = false := by rw [decide_eq_false_iff_not]; omega
    have e4 : -(m : Int) - 1 + 1 = -(m : Int) := by omega
    go_enter Try.func14, Try.ntmps14
    go_wp2_with fail
    refine HU.out.mono ?_
    rintro e w1 ⟨v1, rfl, ho, hb⟩
    go_wp2_with fail
    go_ret
    exact ⟨_, rfl, ho, hb⟩

set_option maxHeartbeats 1000000 in
theorem refText_any (s : ByteArray) (w : World) (hs : s.size ≤ 1099511627776) :
    Calls Try.prog 16 #[.string s] w fun e w' => ∃ v', e = .returned v' ∧ Own w' w.heap.size v' (encT s) ∧ Below w.heap.size w w' := by
  obtain ⟨i0, hi0, hz0, hz1, hz2⟩ := info_parts byte_info
  have HU := Lib.hid (refUint_any s.size w (by omega))
  have HE : Hid (encT s = Wn.enc s.size ++ s.data.toList) := rfl
  have hl2 := (Wn.enc_len s.size).2
  generalize Wn.enc s.size = acc at *
  go_enter Try.func16, Try.ntmps16
  go_wp2_with fail
  refine HU.out.mono ?_
  rintro e w1 ⟨v1, rfl, ho, hb⟩
  have hz := hb.size
  go_wp2_with (at_builtin; refine Lib.wpList_append_own_string _ rfl (.tmp 8) (.tmp 9) 25 9 rfl w.heap.size 5 i0 Try.underlying25 Try.underlying9 hi0 hz0 hz1 hz2 _ acc.length (bvs acc) rfl ho s rfl (by unfold maxLen; omega) (by omega) (by omega) ?_)
  intro v2 w2 ho2 hg2 _
  have hb2 := hb.trans (grown_below ho hg2 (by omega))
  have R : Own w2 w.heap.size v2 (acc ++ s.data.toList) := by
    unfold Own
    rw [bvs_append, List.length_append, Array.length_toList]
    exact ho2
  clear ho2 hg2 ho
  go_wp2_with fail
  go_ret
  exact ⟨_, rfl, by rw [HE.out]; exact R, hb2⟩

set_option maxHeartbeats 400000 in
theorem refFlag_any (on : Bool) (w : World) :
    Calls Try.prog 15 #[.bool on] w fun e w' => ∃ v', e = .returned v' ∧ Own w' w.heap.size v' (encF_ on) ∧ Below w.heap.size w w' := by
  cases on with
  | true =>
    have HO := Lib.hid (own_one w 1 (.int .u8 1) rfl)
    go_enter Try.func15, Try.ntmps15
    go_wp2_with fail
    go_ret
    exact ⟨_, rfl, HO.out, (Below.refl _ _).alloc (Nat.le_refl _) _⟩
  | false =>
    have HO := Lib.hid (own_one w 0 (.int .u8 0) rfl)
    go_enter Try.func15, Try.ntmps15
    go_wp2_with fail
    go_ret
    exact ⟨_, rfl, HO.out, (Below.refl _ _).alloc (Nat.le_refl _) _⟩
end Go.Proofs.Ytniopekkfnkipaa
