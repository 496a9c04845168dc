/-
  FrameMost.
-/
import Derived.Test.YthkkjefcdedlfaaAwake2
namespace Go.Proofs.Ythkkjefcdedlfaa
open Go.RowKit
set_option linter.unusedVariables false
set_option linter.unusedSimpArgs false

theorem tmod_bd (a b : Int) (hb : 0 < b) : -b < a.tmod b ∧ a.tmod b < b := by
  have h2 := Int.tmod_lt_of_pos a hb
  have h1 := Int.lt_tmod_of_pos a hb
  omega

theorem Rs.three {w : World} {A1 A2 A3 : Option Addr} {m1 c1 m2 c2 m3 c3 : Nat} {l1 l2 l3 : List UInt8} (h1 : Bs w w.heap.size A1 m1 l1) (h2 : Bs w w.heap.size A2 m2 l2) (h3 : Bs w w.heap.size A3 m3 l3)
    (e1 : m1 ≤ c1) (e2 : m2 ≤ c2) (e3 : m3 ≤ c3) (f1 : c1 ≤ maxLen) (f2 : c2 ≤ maxLen) (f3 : c3 ≤ maxLen) (e : TypeId) :
    Rs (w.alloc (.cells #[.slice A1 m1 c1, .slice A2 m2 c2, .slice A3 m3 c3] e)) (w.heap.size + 1) (some ⟨w.heap.size, 0, none⟩) 3 [l1, l2, l3] := by
  refine ⟨rfl, fun k hk => ?_⟩
  have n1 : l1.length = m1 := h1.len
  have n2 : l2.length = m2 := h2.len
  have n3 : l3.length = m3 := h3.len
  rcases (show k = 0 ∨ k = 1 ∨ k = 2 from by omega) with rfl | rfl | rfl
  · exact ⟨_, A1, c1, rfl, by simp, by simp [Addr.add, n1], by simpa [n1] using e1, f1, by simpa [n1] using (h1.alloc (Nat.le_refl _) _).wider (Nat.le_succ _)⟩
  · exact ⟨_, A2, c2, rfl, by simp, by simp [Addr.add, n2], by simpa [n2] using e2, f2, by simpa [n2] using (h2.alloc (Nat.le_refl _) _).wider (Nat.le_succ _)⟩
  · exact ⟨_, A3, c3, rfl, by simp, by simp [Addr.add, n3], by simpa [n3] using e3, f3, by simpa [n3] using (h3.alloc (Nat.le_refl _) _).wider (Nat.le_succ _)⟩

theorem add_off (b k : Nat) : (⟨b, 0, none⟩ : Addr).add k = ⟨b, k, none⟩ := by unfold Addr.add; split <;> simp_all
theorem three_tot (l : List UInt8) (k : Nat) : tot [l.take k, [], l.drop k] = l.length := by simp [tot]
theorem three_flat (l : List UInt8) (k : Nat) : [l.take k, [], l.drop k].flatten = l := by simp

theorem three_all (N k : Nat) (h : N ≤ 1000000) : ∀ j, j < 3 → ([(List.replicate N (0 : UInt8)).take k, [], (List.replicate N 0).drop k].getD j []).length ≤ 1099511627776 := by
  intro j hj
  rcases (show j = 0 ∨ j = 1 ∨ j = 2 from by omega) with rfl | rfl | rfl <;> simp <;> omega

theorem own_made {w : World} {base N : Nat} {v : Value} (h : w.ownsRow base 5 1 v N (madeCells #[.int .u8 0] N).toList) : Own w base v (List.replicate N 0) := by
  unfold Own
  rw [toList_madeCells_one] at h
  have e : bvs (List.replicate N 0) = List.replicate N (Value.int .u8 0) := by simp [bvs, bv]
  rw [e, List.length_replicate]
  exact h

set_option maxRecDepth 100000 in
set_option maxHeartbeats 1000000 in
theorem most_walk (a0 a1 : Int) (h0 : -9223372036854775808 ≤ a0 ∧ a0 ≤ 9223372036854775807) (h1 : -9223372036854775808 ≤ a1 ∧ a1 ≤ 9223372036854775807) (w : World) :
    Calls Try.prog 14 #[.int .i64 a0, .int .i64 a1] w fun e w' => e = .returned (.bool true) ∧ Below w.heap.size w w' := by
  obtain ⟨i0, hi0, hz0, hz1, hz2⟩ := info_parts byte_info
  have hr := tmod_bd a0 40 (by omega)
  obtain ⟨hr1, hr2⟩ := hr
  have H0 := Lib.hid h0
  have H1 := Lib.hid h1
  clear h0 h1
  obtain ⟨N, hN⟩ : ∃ N : Nat, 262144 + a0.tmod 40 = (N : Int) := ⟨(262144 + a0.tmod 40).toNat, by omega⟩
  have hN1 : 262104 < N := by omega
  have hN2 : N < 262184 := by omega
  have HN := Lib.hid hN
  clear hN
  have hq := tmod_bd a1 N (by omega)
  obtain ⟨hq1, hq2⟩ := hq
  have hneg : (0 ≤ a1.tmod N) ∨ (a1.tmod N < 0) := by omega
  obtain ⟨k, hk⟩ : ∃ k : Nat, (k : Int) = (if 0 ≤ a1.tmod N then a1.tmod N else - a1.tmod N) := ⟨(if 0 ≤ a1.tmod N then a1.tmod N else - a1.tmod N).toNat, by split <;> omega⟩
  have hkN : k < N := by split at hk <;> omega
  have HK := Lib.hid hk
  clear hk
  rcases hneg with hneg | hneg
  all_goals
    go_enter Try.func14, Try.ntmps14
    go_wp2_with (at_make; refine wpList_make_full _ rfl _ _ 23 rfl w.heap.size 5 i0 _ 1 Try.underlying23 hi0 hz0 hz1 .i64 .i64 _ _ N rfl rfl HN.out HN.out (by rw [hz2]; omega) (by unfold maxLen; omega) (Nat.le_refl _) ?_)
    intro w1 hown1 hg1
    have hb1 : Below w.heap.size w w1 := (Below.refl _ _).grown hg1 (Nat.le_refl _) (by simp)
    replace hown1 := own_made hown1
    have hbs1 : Bs w1 w1.heap.size (some ⟨w.heap.size, 0, none⟩) N (List.replicate N 0) := by
      obtain ⟨_, _, hv, _, _, hbs1, _, _⟩ := hown1.form
      injection hv with hv1 hv2 hv3
      subst hv1
      rw [List.length_replicate] at hbs1
      exact hbs1
    clear hg1
    go_wp2_with fail
    have hk := HK.out
    first | (rw [if_pos hneg] at hk; rw [← hk]) | (rw [if_neg (by omega)] at hk; rw [← hk])
    clear hk hneg hq1 hq2 HK
    have htk := hbs1.take k (by omega)
    have hdp := hbs1.drop k N (by omega)
    rw [if_neg (by omega)] at hdp
    have e5 : ¬ N = k := by omega
    have e6 : k ≤ N := by omega
    rw [Option.map_some, add_off] at hdp
    have hR : Rs (w1.alloc (Obj.cells #[Value.slice (some { block := w.heap.size, off := 0 }) k N, Value.slice none 0 0, Value.slice (some { block := w.heap.size, off := k }) (N - k) (N - k)] 23)).drew (w1.heap.size + 1) (some ⟨w1.heap.size, 0, none⟩) 3 [(List.replicate N 0).take k, [], (List.replicate N 0).drop k] :=
      (Rs.three htk Bs.nil_ hdp (by omega) (by omega) (by omega) (by unfold maxLen; omega) (by unfold maxLen; omega) (by unfold maxLen; omega) _).drew
    have hbw : Below w.heap.size w (w1.alloc (Obj.cells #[Value.slice (some { block := w.heap.size, off := 0 }) k N, Value.slice none 0 0, Value.slice (some { block := w.heap.size, off := k }) (N - k) (N - k)] 23)).drew := (hb1.alloc hb1.size _).drew
    have hbz : w1.heap.size + 1 ≤ (w1.alloc (Obj.cells #[Value.slice (some { block := w.heap.size, off := 0 }) k N, Value.slice none 0 0, Value.slice (some { block := w.heap.size, off := k }) (N - k) (N - k)] 23)).drew.heap.size := by simp
    have HT := Lib.hid (three_tot (List.replicate N 0) k)
    have HF := Lib.hid (three_flat (List.replicate N 0) k)
    rw [List.length_replicate] at HT
    have hz1' := hb1.size
    clear hown1 hbs1 htk hdp hb1
    rcases (show 262144 < N ∨ N ≤ 262144 from by omega) with hbig | hsm
    · have hpos : 0 < a0.tmod 40 := by have := HN.out; omega
      have HC := Lib.hid (seal_long (some ⟨w1.heap.size, 0, none⟩) 3 3 _ _ _ hR (three_all N k (by omega)) (by decide) (by rw [HT.out]; exact hbig))
      clear hR hbz
      go_region_with (go_at_call 44; refine HC.out.mono ?_; rintro e w2 ⟨rfl, rfl⟩)
      clear HC
      generalize (w1.alloc (Obj.cells #[Value.slice (some { block := w.heap.size, off := 0 }) k N, Value.slice none 0 0, Value.slice (some { block := w.heap.size, off := k }) (N - k) (N - k)] 23)).drew = w2 at *
      go_wp2_with fail
      refine (awake2_any _).mono ?_
      rintro e w3 ⟨rfl, hb3⟩
      go_wp2_with fail
      go_ret
      exact ⟨rfl, hbw.trans (hb3.mono hbw.size)⟩
    · have hpos : ¬ 0 < a0.tmod 40 := by have := HN.out; omega
      have HC := Lib.hid (seal_any (some ⟨w1.heap.size, 0, none⟩) 3 3 _ _ _ hR hbz (by decide) (by rw [HT.out]; exact hsm))
      rw [HF.out] at HC
      clear hR
      go_region_with (go_at_call 44; refine HC.out.mono ?_; rintro e w2 ⟨v2, rfl, hown2, hb2⟩)
      have hz2 := hb2.size
      replace hown2 := hown2.base_le (show w.heap.size ≤ _ from hbw.size)
      replace hb2 := hbw.trans (hb2.mono hbw.size)
      clear HC hbw
      have hl := Crc.seal_length (List.replicate N 0)
      rw [List.length_replicate] at hl
      have HS := Lib.hid (Crc.size_seal0 (List.replicate N 0) (by rw [List.length_replicate]; exact hsm))
      have HB := Lib.hid (Crc.body_seal0 (List.replicate N 0) (by rw [List.length_replicate]; exact hsm))
      have HX := Lib.hid (Crc.size_cut (List.replicate N 0) (N + 7) (by rw [List.length_replicate]; exact hsm) (by rw [List.length_replicate]; omega))
      rw [List.length_replicate] at HS
      obtain ⟨A2, c2, rfl, hc2, hm2, hbs2, _, _⟩ := hown2.form
      obtain ⟨M, hM⟩ : ∃ M, N + 8 = M := ⟨_, rfl⟩
      rw [hl, hM] at hc2 hbs2
      rw [hl, hM]
      rw [hM] at HS
      have hM1 : M ≤ N + 8 := by omega
      have hM2 : N + 8 ≤ M := by omega
      have hB1 : Hid (Crc.size ((Crc.seal_ (List.replicate N 0)).take (M - 1)) = 0) := by
        rw [show M - 1 = N + 7 from by omega]
        exact HX.out
      have hM3 : ((M : Int) == (N : Int) + 8) = true := by rw [beq_iff_eq]; omega
      clear hM hl hown2 HX
      generalize Crc.seal_ (List.replicate N 0) = S at *
      unfold maxLen at hm2
      go_wp2_with fail
      refine (open_yes A2 M c2 S w2.heap.size w2 hbs2 (Nat.le_refl _) hc2 hm2 (by rw [HS.out]; omega) HS.out).mono ?_
      rintro e w3 ⟨v3, rfl, hown3, hb3⟩
      rw [HB.out] at hown3
      obtain ⟨A3, c3, rfl, hc3, hm3, hbs3, _, _⟩ := hown3.form
      rw [List.length_replicate]
      go_wp2_with fail
      have htk := (hbs2.below hb3).take (M - 1) (by omega)
      refine (first_no A2 (M - 1) c2 _ w2.heap.size w3 htk hb3.size (by omega) hm2 hB1.out).mono ?_
      rintro e w4 ⟨rfl, hb4⟩
      go_wp2_with fail
      refine (awake2_any _).mono ?_
      rintro e w5 ⟨rfl, hb5⟩
      go_wp2_with fail
      go_ret
      have z4 := hb4.size
      have z3 := hb3.size
      have z2 := hb2.size
      exact ⟨rfl, ((hb2.trans (hb3.mono (by omega))).trans (hb4.mono (by omega))).trans (hb5.mono (by omega))⟩
end Go.Proofs.Ythkkjefcdedlfaa
