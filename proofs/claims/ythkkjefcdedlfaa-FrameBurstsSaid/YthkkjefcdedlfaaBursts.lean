/-
  FrameBursts.
-/
import Derived.Test.YthkkjefcdedlfaaMost
import Derived.Test.YthkkjefcdedlfaaBurst
namespace Go.Proofs.Ythkkjefcdedlfaa
open Go.RowKit
set_option linter.unusedVariables false
set_option linter.unusedSimpArgs false

set_option maxHeartbeats 400000 in
theorem short_any (A : Option Addr) (n c m : Nat) (w : World) (hn : n ≤ c) (hc : c ≤ maxLen) (hm : m ≤ 100000) :
    Calls Try.prog 47 #[.slice A n c, .int .i64 (m : Int)] w fun e w' => e = .returned (.slice A (min n m) c) ∧ w = w' := by
  unfold maxLen at hc
  rcases Nat.lt_or_ge m n with h | h
  · have HM := Lib.hid (Nat.min_eq_right (Nat.le_of_lt h))
    go_enter Try.func47, Try.ntmps47
    go_wp2
    go_ret
    exact ⟨by rw [HM.out]; rfl, rfl⟩
  · have HM := Lib.hid (Nat.min_eq_left h)
    go_enter Try.func47, Try.ntmps47
    go_wp2
    go_ret
    exact ⟨by rw [HM.out]; rfl, rfl⟩

theorem Own.head {w : World} {base n c : Nat} {A : Option Addr} {l : List UInt8} (h : Own w base (.slice A n c) l) (h0 : 0 < l.length) : ∃ g, A = some ⟨g, 0, none⟩ ∧ base ≤ g := by
  obtain ⟨g, cap, hv, hb, _⟩ := World.ownsRow.form h h0
  injection hv with h1 h2 h3
  exact ⟨g, h1, hb⟩
theorem Own.cell_ {w : World} {base g n c : Nat} {l : List UInt8} (h : Own w base (.slice (some ⟨g, 0, none⟩) n c) l) (hn : l.length = n) (j : Nat) (hj : j < n) : w.cell? ⟨g, j, none⟩ = some (.int .u8 ((l.getD j 0).toNat : Int)) := by
  subst hn
  have := World.ownsRow.cellAt h j (by omega)
  rw [this, bvs, List.getElem?_map, List.getD_eq_getElem?_getD, List.getElem?_eq_getElem hj]
  rfl
theorem Own.free_ {w : World} {base g n c : Nat} {l : List UInt8} (h : Own w base (.slice (some ⟨g, 0, none⟩) n c) l) (hn : l.length = n) (j : Nat) : w.frozen? ⟨g, j, none⟩ = false := by
  subst hn
  exact World.ownsRow.frozenAt h j
theorem Own.set_ {w : World} {base g n c : Nat} {l : List UInt8} (h : Own w base (.slice (some ⟨g, 0, none⟩) n c) l) (hn : l.length = n) (j : Nat) (x : UInt8) : Own (w.setCell ⟨g, j, none⟩ (.int .u8 (x.toNat : Int))) base (.slice (some ⟨g, 0, none⟩) n c) (l.set j x) := by
  subst hn
  have := (World.ownsRow.stored h j (.int .u8 (x.toNat : Int))).1
  unfold Own
  rw [List.length_set]
  have e : bvs (l.set j x) = (bvs l).set j (.int .u8 (x.toNat : Int)) := by rw [bvs, List.map_set]; rfl
  rw [e]
  exact this
theorem flips_yes (l : List UInt8) (bits at_ i : Nat) (h : bits / 2 ^ i % 2 = 1) : Crc.flips l bits at_ (i + 1) = (Crc.flips l bits at_ i).set ((at_ + i) / 8) (UInt8.ofNat (((Crc.flips l bits at_ i).getD ((at_ + i) / 8) 0).toNat ^^^ 2 ^ ((at_ + i) % 8))) := by
  rw [Crc.flips, if_pos h]; rfl
theorem flips_no (l : List UInt8) (bits at_ i : Nat) (h : ¬ bits / 2 ^ i % 2 = 1) : Crc.flips l bits at_ (i + 1) = Crc.flips l bits at_ i := by
  rw [Crc.flips, if_neg h]
theorem flips_zero (l : List UInt8) (at_ : Nat) : ∀ i, Crc.flips l 0 at_ i = l := by
  intro i
  induction i with
  | zero => rfl
  | succ i ih => rw [flips_no _ _ _ _ (by simp), ih]

theorem bit_test (b j : Nat) : ((b : Int) / 2 ^ j).tmod 2 = ((b / 2 ^ j % 2 : Nat) : Int) := by
  have : ((b : Int) / 2 ^ j) = ((b / 2 ^ j : Nat) : Int) := by simp
  rw [this]
  rfl
theorem bit_xor (x j : Nat) (hx : x < 256) : bits .xor .u8 (x : Int) (2 ^ (j % 8) % 256) = ((x ^^^ 2 ^ (j % 8) : Nat) : Int) := by
  have h2 : 2 ^ (j % 8) < 2 ^ 8 := Nat.pow_lt_pow_right (by omega) (by omega)
  have e : ((2 : Int) ^ (j % 8) % 256) = ((2 ^ (j % 8) : Nat) : Int) := by
    have : ((2 : Int) ^ (j % 8)) = ((2 ^ (j % 8) : Nat) : Int) := by simp
    rw [this]
    have h3 : 2 ^ (j % 8) < 256 := h2
    rw [show ((256 : Int)) = ((256 : Nat) : Int) from rfl, ← Int.natCast_emod, Nat.mod_eq_of_lt h3]
  rw [e]
  exact u8_xor_nat x _ hx h2

set_option maxRecDepth 100000 in
set_option maxHeartbeats 2000000 in
theorem bursts_walk (A : Option Addr) (n c : Nat) (l : List UInt8) (bits : Nat) (a2 : Int) (w : World) (hl : Bs w w.heap.size A n l) (hn : n ≤ c) (hc : c ≤ maxLen) (hb : bits < 4294967296) (h2 : -9223372036854775808 ≤ a2 ∧ a2 ≤ 9223372036854775807) :
    Calls Try.prog 13 #[.slice A n c, .int .u32 (bits : Int), .int .i64 a2] w fun e w' => e = .returned (.bool true) ∧ Below w.heap.size w w' := by
  have H2 := Lib.hid h2
  clear h2
  have hsh := hl.take (min n 300) (Nat.min_le_left _ _)
  have hnb : min n 300 ≤ 300 := Nat.min_le_right _ _
  have hnc : min n 300 ≤ c := by omega
  have HC := Lib.hid (short_any A n c 300 w hn hc (by omega))
  have HL := Lib.hid hsh.len
  generalize l.take (min n 300) = b at *
  generalize min n 300 = m at *
  clear hl hn
  obtain ⟨M, hM⟩ : ∃ M, m + 8 = M := ⟨_, rfl⟩
  have hM1 : m + 8 ≤ M := by omega
  have hM2 : M ≤ m + 8 := by omega
  clear hM
  have hM3 : ((M : Int) != (m : Int) + 8) = false := by simp; omega
  have hq := tmod_bd a2 (8 * (M : Int) - 31) (by omega)
  obtain ⟨hq1, hq2⟩ := hq
  have hneg : (0 ≤ a2.tmod (8 * (M : Int) - 31)) ∨ (a2.tmod (8 * (M : Int) - 31) < 0) := by omega
  obtain ⟨k, hk⟩ : ∃ k : Nat, (k : Int) = (if 0 ≤ a2.tmod (8 * (M : Int) - 31) then a2.tmod (8 * (M : Int) - 31) else - a2.tmod (8 * (M : Int) - 31)) := ⟨(if 0 ≤ a2.tmod (8 * (M : Int) - 31) then a2.tmod (8 * (M : Int) - 31) else - a2.tmod (8 * (M : Int) - 31)).toNat, by split <;> omega⟩
  have hkD : k + 32 ≤ 8 * M := by split at hk <;> omega
  have HK := Lib.hid hk
  clear hk
  unfold maxLen at hc
  rcases hneg with hneg | hneg
  all_goals
    go_enter Try.func13, Try.ntmps13
    go_wp2_with fail
    refine HC.out.mono ?_
    rintro e w1 ⟨rfl, rfl⟩
    go_wp2_with fail
    refine (seal_one A m c b w _ rfl hsh hnc hc (by omega)).mono ?_
    rintro e w1 ⟨A1, c1, rfl, hc1, hm1, hown1, hb1, hz1⟩
    have e8 : b.length + 8 = M := by rw [HL.out]; omega
    rw [e8] at hc1 hown1
    rw [e8]
    clear e8
    go_wp2_with fail
    have hk := HK.out
    first | (rw [if_pos hneg] at hk; rw [← hk]) | (rw [if_neg (by omega)] at hk; rw [← hk])
    clear hk hneg hq1 hq2 HK
    have hSl : (Crc.seal_ b).length = M := by rw [Crc.seal_length, HL.out]; omega
    have HSL := Lib.hid hSl
    obtain ⟨g, rfl, hg⟩ := hown1.head (by omega)
    clear hSl
    go_loopw [8] (fun i wr => ∃ j : Nat, j ≤ 32 ∧ i = .int .i64 j ∧ Own wr (w.heap.size + 1) (.slice (some ⟨g, 0, none⟩) M c1) (Crc.flips (Crc.seal_ b) bits k j) ∧ Below w.heap.size w wr) (fun i _ => 32 - (intOf i).toNat)
    case atStart => exact ⟨0, by omega, rfl, hown1, hb1⟩
    case round =>
      obtain ⟨j, hj, rfl, hown2, hb2⟩ := hrel
      clear hown1 hb1
      have HFL : Hid ((Crc.flips (Crc.seal_ b) bits k j).length = M) := by rw [Crc.flips_length]; exact HSL.out
      by_cases hlt : j < 32
      · have hj8 : (k + j) / 8 < M := by omega
        have hcell := hown2.cell_ HFL.out ((k + j) / 8) hj8
        have hfree := hown2.free_ HFL.out ((k + j) / 8)
        by_cases hbit : bits / 2 ^ j % 2 = 1
        · have HY := Lib.hid (flips_yes (Crc.seal_ b) bits k j hbit)
          have HO := Lib.hid (hown2.set_ HFL.out ((k + j) / 8) (UInt8.ofNat (((Crc.flips (Crc.seal_ b) bits k j).getD ((k + j) / 8) 0).toNat ^^^ 2 ^ ((k + j) % 8))))
          rw [← HY.out] at HO
          have hfl := Crc.flip_lt ((Crc.flips (Crc.seal_ b) bits k j).getD ((k + j) / 8) 0) (k + j)
          rw [UInt8.toNat_ofNat', Nat.mod_eq_of_lt hfl] at HO
          have hbt : (((bits : Int) / 2 ^ j).tmod 2 == 1) = true := by rw [bit_test, hbit]; rfl
          have hxl := ((Crc.flips (Crc.seal_ b) bits k j).getD ((k + j) / 8) 0).toNat_lt
          have hxx := bit_xor ((Crc.flips (Crc.seal_ b) bits k j).getD ((k + j) / 8) 0).toNat (k + j) hxl
          clear hown2 hbit HY
          generalize ((Crc.flips (Crc.seal_ b) bits k j).getD ((k + j) / 8) 0).toNat = x at *
          generalize x ^^^ 2 ^ ((k + j) % 8) = y at *
          go_wp2
          go_roundw
          case rel => exact ⟨j + 1, by omega, by go_num, HO.out, hb2.setCell (by show w.heap.size ≤ g; omega) _⟩
          case measure => simp [intOf]; omega
        · have HY := Lib.hid (flips_no (Crc.seal_ b) bits k j hbit)
          have hbt : (((bits : Int) / 2 ^ j).tmod 2 == 1) = false := by rw [bit_test, beq_eq_false_iff_ne]; omega
          have HO : Hid (Own wr (w.heap.size + 1) (.slice (some ⟨g, 0, none⟩) M c1) (Crc.flips (Crc.seal_ b) bits k (j + 1))) := by rw [HY.out]; exact hown2
          clear hown2 hbit HY hcell hfree
          go_wp2
          go_roundw
          case rel => exact ⟨j + 1, by omega, by go_num, HO.out, hb2⟩
          case measure => simp [intOf]; omega
      · obtain rfl : j = 32 := by omega
        obtain ⟨_, _, hv, _, _, hbs2, _, _⟩ := hown2.form
        injection hv with hv1 hv2 hv3
        subst hv1
        rw [HFL.out] at hbs2
        unfold maxLen at hm1
        have hz2 := hb2.size
        clear hown2 hv2 hv3
        by_cases h0 : bits = 0
        · subst h0
          rw [flips_zero] at hbs2
          clear HFL
          have HS1 := Lib.hid (Crc.size_seal0 b (by rw [HL.out]; omega))
          have HS2 := Lib.hid (Crc.body_seal0 b (by rw [HL.out]; omega))
          have HS3 : Hid (Crc.size (Crc.seal_ b) = M) := by rw [HS1.out, HL.out]; show _ = _; omega
          go_wp2_with fail
          refine (open_yes _ M c1 (Crc.seal_ b) wr.heap.size wr hbs2 (Nat.le_refl _) hc1 hm1 (by rw [HS3.out]; omega) HS3.out).mono ?_
          rintro e w3 ⟨v3, rfl, hown3, hb3⟩
          rw [HS2.out] at hown3
          obtain ⟨A3, c3, rfl, hc3, hm3, hbs3, _, _⟩ := hown3.form
          have hsh3 := (hsh.below hb2).wider hz2 |>.below hb3
          have s1 := hbs3.str (P := Try.prog) (src := 23) (dst := 9) (e := 5) Try.underlying23 Try.underlying5 Try.underlying9 c3
          have s2 := hsh3.str (P := Try.prog) (src := 23) (dst := 9) (e := 5) Try.underlying23 Try.underlying5 Try.underlying9 c
          clear hbs3 hsh3 hown3
          go_wp2_with fail
          refine (awake2_any _).mono ?_
          rintro e w4 ⟨rfl, hb4⟩
          go_wp2_with fail
          go_ret
          have z3 := hb3.size
          exact ⟨rfl, (hb2.trans (hb3.mono (by omega))).trans (hb4.mono (by omega))⟩
        · have HS := Lib.hid (Crc.burst_size b bits k (by rw [HL.out]; omega) (by rw [HL.out]; omega) hb h0)
          have hb0 : ((bits : Int) == 0) = false := by rw [beq_eq_false_iff_ne]; omega
          generalize Crc.flips (Crc.seal_ b) bits k 32 = S at *
          go_wp2_with fail
          refine (open_no _ M c1 S wr.heap.size wr hbs2 (Nat.le_refl _) hc1 hm1 (.inr (by have h1 := HS.out; have h2 := HL.out; omega))).mono ?_
          rintro e w3 ⟨rfl, hb3⟩
          go_wp2_with fail
          refine (awake2_any _).mono ?_
          rintro e w4 ⟨rfl, hb4⟩
          go_wp2_with fail
          go_ret
          have z3 := hb3.size
          exact ⟨rfl, (hb2.trans (hb3.mono (by omega))).trans (hb4.mono (by omega))⟩
end Go.Proofs.Ythkkjefcdedlfaa
