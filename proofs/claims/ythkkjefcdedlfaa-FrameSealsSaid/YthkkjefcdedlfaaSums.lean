/-
  FrameSums.
-/
import Derived.Test.YthkkjefcdedlfaaRefSum
import Derived.Test.YthkkjefcdedlfaaMost
namespace Go.Proofs.Ythkkjefcdedlfaa
open Go.RowKit
set_option linter.unusedVariables false
set_option linter.unusedSimpArgs false

theorem few_tot (L : List (List UInt8)) : tot (few L) ≤ 1600 := by
  have h : ∀ l ∈ few L, l.length ≤ 200 := by
    intro l hl
    obtain ⟨x, _, rfl⟩ := List.mem_map.1 hl
    simp
    omega
  have h2 := flat_len (few L) 8 200 h
  have h3 : (few L).length ≤ 8 := by simp [few]; omega
  rw [List.take_of_length_le h3] at h2
  unfold tot
  omega
theorem few_len (L : List (List UInt8)) : (few L).length ≤ 8 := by simp [few]; omega

set_option maxRecDepth 100000 in
set_option maxHeartbeats 12000000 in
theorem sums_walk (A : Option Addr) (n c : Nat) (L0 : List (List UInt8)) (a1 : Int) (w : World) (hL : Rs w w.heap.size A n L0) (hn : n ≤ maxLen) (h1 : -9223372036854775808 ≤ a1 ∧ a1 ≤ 9223372036854775807) :
    Calls Try.prog 9 #[.slice A n c, .int .i64 a1] w fun e w' => e = .returned (.bool true) ∧ Below w.heap.size w w' := by
  have H1 := Lib.hid h1
  clear h1
  have HF := Lib.hid (few_any A n c L0 w hL hn)
  have ht := few_tot L0
  have hln := few_len L0
  clear hL
  generalize few L0 = L at *
  go_enter Try.func9, Try.ntmps9
  go_wp2_with fail
  refine HF.out.mono ?_
  rintro e w1 ⟨v1, rfl, hown1, hb1⟩
  obtain ⟨A1, c1, rfl, hc1, hm1, hR1⟩ := hown1.rs
  go_wp2_with fail
  refine (all_any A1 L.length c1 L w1 hR1 (by unfold maxLen; omega) (by omega)).mono ?_
  rintro e w2 ⟨v2, rfl, hown2, hb2⟩
  obtain ⟨A2, c2, rfl, hc2, hm2, hbs2, _, _⟩ := hown2.form
  have hR2 := hR1.below hb2
  have z1 := hb1.size
  have z2 := hb2.size
  have hB2 : Below w.heap.size w w2 := hb1.trans (hb2.mono z1)
  have hbl : L.flatten.length ≤ 1600 := ht
  clear hown1 hown2 hb1 hb2 hR1 HF
  have HC := Lib.hid (rfl : Crc.crc L.flatten = Crc.crc L.flatten)
  obtain ⟨N, hN⟩ : ∃ N, L.flatten.length = N := ⟨_, rfl⟩
  rw [hN] at hc2 hbs2 hbl
  rw [hN]
  have HN := Lib.hid hN
  clear hN HC
  obtain ⟨b, hb⟩ : ∃ b, L.flatten = b := ⟨_, rfl⟩
  rw [hb] at hbs2
  have HB := Lib.hid hb
  clear hb
  go_wp2_with fail
  refine (refSum_any A2 N c2 b w2 hbs2 (by unfold maxLen; omega)).mono ?_
  rintro e w3 ⟨rfl, hb3⟩
  have hbs3 := (hbs2.below hb3).wider hb3.size
  have hR3 := hR2.below (hb3.mono z2)
  have z3 := hb3.size
  have hB3 : Below w.heap.size w w3 := hB2.trans (hb3.mono (by omega))
  clear hbs2 hR2 hb3 hB2
  have HSUM := Lib.hid (sum_any A1 L.length c1 L w1.heap.size w3 hR3 (by unfold maxLen; omega))
  rw [HB.out] at HSUM
  have hcl := Crc.crc_lt b
  have HCC : Hid (∀ k, Crc.more (Crc.crc (b.take k)) (b.drop k) = Crc.crc b) := fun k => by
    show Crc.more (Crc.more 0 (b.take k)) (b.drop k) = Crc.more 0 b
    rw [← Crc.more_append, List.take_append_drop]
  have HC0 : Hid (Crc.more (Crc.crc b) [] = Crc.crc b) := Crc.more_nil _
  go_wp2_with fail
  refine HSUM.out.mono ?_
  rintro e w4 ⟨rfl, rfl⟩
  have hne : (((Crc.crc b : Nat) : Int) != ((Crc.crc b : Nat) : Int)) = false := by simp
  go_wp2_with fail
  refine (sum_one A2 N c2 b w3 _ rfl hbs3 hc2 hm2 (by omega)).mono ?_
  rintro e w4 ⟨rfl, rfl⟩
  have hbs4 := (hbs3.alloc (Nat.le_refl _) (.cells #[.slice A2 N c2] 23))
  have hB4 := hB3.alloc (by omega) (.cells #[.slice A2 N c2] 23)
  have hz4 : w3.heap.size ≤ (w3.alloc (.cells #[.slice A2 N c2] 23)).heap.size := by simp
  generalize w3.alloc (.cells #[.slice A2 N c2] 23) = w4 at *
  replace hbs4 := hbs4.wider hz4
  clear hbs3 hB3 hR3 HSUM
  have hq := tmod_bd a1 ((N : Int) + 1) (by omega)
  obtain ⟨hq1, hq2⟩ := hq
  have hneg : (0 ≤ a1.tmod ((N : Int) + 1)) ∨ (a1.tmod ((N : Int) + 1) < 0) := by omega
  obtain ⟨k, hk⟩ : ∃ k : Nat, (k : Int) = (if 0 ≤ a1.tmod ((N : Int) + 1) then a1.tmod ((N : Int) + 1) else - a1.tmod ((N : Int) + 1)) := ⟨(if 0 ≤ a1.tmod ((N : Int) + 1) then a1.tmod ((N : Int) + 1) else - a1.tmod ((N : Int) + 1)).toNat, by split <;> omega⟩
  have hkN : k ≤ N := by split at hk <;> omega
  have HK := Lib.hid hk
  clear hk
  rcases hneg with hneg | hneg
  all_goals
    go_wp2_with fail
    have hk := HK.out
    first | (rw [if_pos hneg] at hk; rw [← hk]) | (rw [if_neg (by omega)] at hk; rw [← hk])
    clear hk hneg hq1 hq2 HK
    have htk := hbs4.take k hkN
    have hdp := hbs4.drop k c2 hc2
    have HCk := Lib.hid (HCC.out k)
    have hct := Crc.crc_lt (b.take k)
    unfold maxLen at hm2
    have hkc : k ≤ c2 := by omega
    have hB4z := hB4.size
    clear HCC hne
    obtain ⟨A3, hA3⟩ : ∃ A3, (if c2 = k then A2 else A2.map (·.add k)) = A3 := ⟨_, rfl⟩
    rw [hA3] at hdp
    have R1 : Hid (Rs (w4.alloc (.cells #[.slice A2 k c2] 23)).drew (w4.heap.size + 1) (some ⟨w4.heap.size, 0, none⟩) 1 [b.take k]) := (Rs.one htk hkc hm2 _).drew
    have R12 : Hid (Rs ((w4.alloc (.cells #[.slice A2 k c2] 23)).alloc (.cells #[.slice A3 (N - k) (c2 - k)] 23)).drew (w4.heap.size + 1) (some ⟨w4.heap.size, 0, none⟩) 1 [b.take k]) := ((Rs.one htk hkc hm2 _).alloc (by simp) _).drew
    have R21 : Hid (Rs ((w4.alloc (.cells #[.slice A3 (N - k) (c2 - k)] 23)).alloc (.cells #[.slice A2 k c2] 23)).drew (w4.heap.size + 2) (some ⟨w4.heap.size + 1, 0, none⟩) 1 [b.take k]) := by
      have := (Rs.one (w := w4.alloc (.cells #[.slice A3 (N - k) (c2 - k)] 23)) (by rw [World.size_alloc]; exact (htk.alloc (Nat.le_refl _) _).wider (Nat.le_succ _)) hkc hm2 23).drew
      rw [World.size_alloc] at this
      exact this
    have S12 : Hid (Rs ((w4.alloc (.cells #[.slice A2 k c2] 23)).alloc (.cells #[.slice A3 (N - k) (c2 - k)] 23)).drew (w4.heap.size + 2) (some ⟨w4.heap.size + 1, 0, none⟩) 1 [b.drop k]) := by
      have := (Rs.one (w := w4.alloc (.cells #[.slice A2 k c2] 23)) (c := c2 - k) (by rw [World.size_alloc]; exact (hdp.alloc (Nat.le_refl _) _).wider (Nat.le_succ _)) (by omega) (by unfold maxLen; omega) 23).drew
      rw [World.size_alloc] at this
      exact this
    have S21 : Hid (Rs ((w4.alloc (.cells #[.slice A3 (N - k) (c2 - k)] 23)).alloc (.cells #[.slice A2 k c2] 23)).drew (w4.heap.size + 1) (some ⟨w4.heap.size, 0, none⟩) 1 [b.drop k]) := ((Rs.one hdp (by omega) (by unfold maxLen; omega) _).alloc (by simp) _).drew
    have HA3 := Lib.hid hA3
    clear hA3 htk hdp hbs4
    generalize Crc.crc b = s at *
    have hB12 := Lib.hid (((hB4.alloc hB4z (.cells #[.slice A2 k c2] 23)).alloc (by simp; omega) (.cells #[.slice A3 (N - k) (c2 - k)] 23)).drew)
    have hB21 := Lib.hid (((hB4.alloc hB4z (.cells #[.slice A3 (N - k) (c2 - k)] 23)).alloc (by simp; omega) (.cells #[.slice A2 k c2] 23)).drew)
    by_cases hck : c2 = k
    · have hA3 : A2 = A3 := by have := HA3.out; rw [if_pos hck] at this; exact this
      subst hA3
      subst hck
      clear HA3
      have e0 : N - c2 = 0 := by omega
      rw [e0, Nat.sub_self] at R12 R21 S12 S21 hB12 hB21
      clear e0
      go_region_with (first
        | (go_at_call 41; refine (sum_any _ _ _ _ _ _ (by first | with_reducible exact R1.out | with_reducible exact R12.out | with_reducible exact R21.out) (by simp [maxLen])).mono ?_; rintro e w5 ⟨rfl, rfl⟩; simp only [List.flatten_cons, List.flatten_nil, List.append_nil])
        | (go_at_call 42; refine (more_any _ _ _ _ _ _ _ (by first | exact hct | exact hcl) (by first | with_reducible exact S12.out | with_reducible exact S21.out | with_reducible exact Rs.nil_ (B := 0)) (by simp [maxLen])).mono ?_; rintro e w5 ⟨rfl, rfl⟩; simp only [List.flatten_cons, List.flatten_nil, List.append_nil]; first | rw [HCk.out] | rw [HC0.out])
        | (go_at_call 43; refine (awake2_any _).mono ?_; rintro e w5 ⟨rfl, hb5⟩))
      all_goals
        clear R1 R12 R21 S12 S21
        go_wp2
        go_ret
        exact ⟨rfl, (by first | exact hB12.out.trans (hb5.mono hB12.out.size) | exact hB21.out.trans (hb5.mono hB21.out.size))⟩
    · have hA3 : A2.map (·.add k) = A3 := by have := HA3.out; rw [if_neg hck] at this; exact this
      go_region_with (first
        | (go_at_call 41; refine (sum_any _ _ _ _ _ _ (by first | with_reducible exact R1.out | with_reducible exact R12.out | with_reducible exact R21.out) (by simp [maxLen])).mono ?_; rintro e w5 ⟨rfl, rfl⟩; simp only [List.flatten_cons, List.flatten_nil, List.append_nil])
        | (go_at_call 42; refine (more_any _ _ _ _ _ _ _ (by first | exact hct | exact hcl) (by first | with_reducible exact S12.out | with_reducible exact S21.out | with_reducible exact Rs.nil_ (B := 0)) (by simp [maxLen])).mono ?_; rintro e w5 ⟨rfl, rfl⟩; simp only [List.flatten_cons, List.flatten_nil, List.append_nil]; first | rw [HCk.out] | rw [HC0.out])
        | (go_at_call 43; refine (awake2_any _).mono ?_; rintro e w5 ⟨rfl, hb5⟩))
      all_goals
        clear R1 R12 R21 S12 S21
        go_wp2
        go_ret
        exact ⟨rfl, (by first | exact hB12.out.trans (hb5.mono hB12.out.size) | exact hB21.out.trans (hb5.mono hB21.out.size))⟩
end Go.Proofs.Ythkkjefcdedlfaa
