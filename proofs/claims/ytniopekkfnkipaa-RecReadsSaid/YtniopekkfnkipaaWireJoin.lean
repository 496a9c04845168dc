/-
  What slices.Grow, slices.Concat and wire.Join do.
-/
import Derived.Test.YtniopekkfnkipaaWireNew
import Derived.Test.YtniopekkfnkipaaWireText
import Derived.Lib.AppendZeros
-- SOFT
namespace Go.Proofs.Ytniopekkfnkipaa
open Go.RowKit
set_option linter.unusedVariables false
set_option linter.unusedSimpArgs false

set_option maxRecDepth 100000 in
set_option maxHeartbeats 1000000 in
theorem grow_nil (n : Nat) (w : World) (hn : n ≤ 1099511627776) :
    Calls Try.prog 68 #[.slice none 0 0, .int .i64 (n : Int)] w fun e w' => ∃ v', e = .returned v' ∧ Own w' w.heap.size v' [] ∧ Below w.heap.size w w' := by
  obtain ⟨i0, hi0, hz0, hz1, hz2⟩ := info_parts byte_info
  rcases Nat.eq_zero_or_pos n with rfl | h0
  · go_enter Try.func68, Try.ntmps68
    go_wp2_with fail
    go_ret
    exact ⟨_, rfl, Own.nil_ _ _, Below.refl _ _⟩
  · have hr := Lib.run_append_nil_zeros (P := Try.prog) w 25 3 25 5 i0 (.int .u8 0) .i64 .i64 Try.underlying25 Try.underlying3 hi0 hz0 n h0 (by omega) (by omega) (by rw [hz2]; omega)
    have hge := grownCap_ge w n 0 5
    have hcm : grownCap w n 0 5 ≤ maxLen := grownCap_le_maxLen w n 0 5 (by unfold maxLen; omega)
    generalize grownCap w n 0 5 = cap at *
    have HO : Hid (Own (w.drew.alloc (.cells (Builtin.zeroCells (Value.int .u8 0).cells n ++ Builtin.zeroCells (Value.int .u8 0).cells (cap - n)) 5)) w.heap.size (.slice (some ⟨w.heap.size, 0, none⟩) 0 cap) []) := by
      refine ⟨rfl, .inr ⟨w.heap.size, cap, _, rfl, Nat.le_refl _, heap_alloc_new w.drew _, by simp, hcm, ?_, by simp; rfl⟩⟩
      have hz1 : (Value.int IntKind.u8 0).cells.size = 1 := rfl
      simp only [Array.size_append, size_zeroCells, hz1]
      omega
    have HB : Hid (Below w.heap.size w (w.drew.alloc (.cells (Builtin.zeroCells (Value.int .u8 0).cells n ++ Builtin.zeroCells (Value.int .u8 0).cells (cap - n)) 5))) := ((Below.refl _ _).drew).alloc (Nat.le_refl _) _
    generalize w.drew.alloc (.cells (Builtin.zeroCells (Value.int .u8 0).cells n ++ Builtin.zeroCells (Value.int .u8 0).cells (cap - n)) 5) = w1 at *
    have HR := Lib.hid hr
    clear hr
    unfold maxLen at hcm
    go_enter Try.func68, Try.ntmps68
    go_wp2_with (at_builtin; refine Lib.wpList_append_run _ rfl _ _ _ _ rfl _ _ rfl rfl _ _ HR.out ?_)
    go_wp2_with fail
    go_ret
    exact ⟨_, rfl, HO.out, HB.out⟩

set_option maxRecDepth 100000 in
set_option maxHeartbeats 2000000 in
theorem concat_any (A : Option Addr) (n c : Nat) (L : List (List UInt8)) (B : Nat) (w : World) (hL : Rs w B A n L) (hB : B ≤ w.heap.size) (hn : n ≤ maxLen) (ht : tot L ≤ 1099511627776) :
    Calls Try.prog 55 #[.slice A n c] w fun e w' => ∃ v, e = .returned v ∧ Own w' w.heap.size v L.flatten ∧ Below w.heap.size w w' := by
  obtain ⟨i0, hi0, hz0, hz1, hz2⟩ := info_parts byte_info
  unfold maxLen at hn
  have hlen := hL.len
  have hlen1 : L.length ≤ n := by omega
  have hlen2 : n ≤ L.length := by omega
  clear hlen
  go_enter Try.func55, Try.ntmps55
  go_wp2_with fail
  go_loop [3, 11] (fun t i => ∃ k : Nat, k ≤ n ∧ i = .int .i64 k ∧ t = .int .i64 (tot (L.take k) : Nat)) (fun _ i => n - (intOf i).toNat)
  case atStart => exact ⟨0, by omega, rfl, rfl⟩
  case round =>
    obtain ⟨k, hk, rfl, rfl⟩ := hrel
    have hle : tot (L.take k) ≤ 1099511627776 := Nat.le_trans (tot_le L k) ht
    by_cases hlt : k < n
    · obtain ⟨ad, A', c', rfl, hb, hc, hl, hm, hr⟩ := hL.row k hlt
      have HS := Lib.hid (tot_take L k (by omega))
      have hbig : tot (L.take k) + (L.getD k []).length ≤ 1099511627776 := by
        have := tot_le L (k + 1)
        have := HS.out
        omega
      generalize tot (L.take k) = z at *
      generalize (L.getD k []) = l at *
      unfold maxLen at hm
      go_wp2_with fail
      go_round
      case rel => exact ⟨k + 1, by omega, by go_num, by rw [HS.out]; go_num⟩
      case measure => simp [intOf]; omega
    · have hkn : k = n := by omega
      subst hkn
      have hT : tot (L.take k) = tot L := by rw [List.take_of_length_le (by omega)]
      rw [hT]
      clear hT hle
      have HT2 : Hid (tot L ≤ 1099511627776) := ht
      have HG := Lib.hid (grow_nil (tot L) w ht)
      generalize tot L = z at HG ht ⊢
      go_wp2_with fail
      refine HG.out.mono ?_
      rintro e w1 ⟨v1, rfl, ho1, hb1⟩
      clear HG
      go_wp2_with fail
      go_loopw [6, 27] (fun v i wr => ∃ m : Nat, m ≤ k ∧ i = .int .i64 m ∧ Own wr w.heap.size v (L.take m).flatten ∧ Below w.heap.size w wr) (fun _ i _ => k - (intOf i).toNat)
      case atStart => exact ⟨0, by omega, rfl, by simpa using ho1, hb1⟩
      case round =>
        obtain ⟨m, hm, rfl, hown, hb⟩ := hrel
        by_cases hlt2 : m < k
        · obtain ⟨ad, A', c', rfl, hadb, hc, hl, hm2, hr⟩ := ((hL.wider hB).below hb).row m hlt2
          have HS := Lib.hid (flat_take L m (by omega))
          have h1 : ((L.take m).flatten).length + (L.getD m []).length ≤ 1099511627776 := by
            have h2 := tot_take L m (by omega)
            have h3 := tot_le L (m + 1)
            have h4 := HT2.out
            unfold tot at *
            omega
          generalize L.getD m [] = l at *
          generalize (L.take m).flatten = acc at *
          unfold maxLen at hm2
          go_wp2_with (at_builtin; refine wpList_append_src _ rfl (.tmp 31) (.tmp 32) 25 rfl w.heap.size 5 i0 _ 1 Try.underlying25 hi0 hz0 hz1 hz2 rfl _ acc.length (bvs acc) rfl hown w.heap.size A' l.length c' (bvs l) rfl (bvs_length l) hr.lies (bvs_one l) (by unfold maxLen; omega) (by omega) hb.size ?_)
          intro v' w4 hown4 hg4 _
          have hb4 := hb.trans (grown_below hown hg4 hb.size)
          have R : Own w4 w.heap.size v' (acc ++ l) := by
            unfold Own
            rw [bvs_append, List.length_append]
            exact hown4
          clear hown4 hg4 hown hb hc hr
          go_wp2
          go_roundw
          case rel => exact ⟨m + 1, by omega, by go_num, by rw [HS.out]; exact R, hb4⟩
          case measure => simp [intOf]; omega
        · obtain rfl : m = k := by omega
          have hT : (L.take m).flatten = L.flatten := by rw [List.take_of_length_le (by omega)]
          rw [hT] at hown
          clear hT
          go_wp2
          go_ret
          exact ⟨_, rfl, hown, hb⟩

set_option maxHeartbeats 400000 in
theorem join_any (A : Option Addr) (n c : Nat) (L : List (List UInt8)) (B : Nat) (w : World) (hL : Rs w B A n L) (hB : B ≤ w.heap.size) (hn : n ≤ maxLen) (ht : tot L ≤ 1099511627776) :
    Calls Try.prog 28 #[.slice A n c] w fun e w' => ∃ v, e = .returned v ∧ Own w' w.heap.size v L.flatten ∧ Below w.heap.size w w' := by
  have HC := Lib.hid (concat_any A n c L B w hL hB hn ht)
  generalize L.flatten = z at *
  go_enter Try.func28, Try.ntmps28
  go_wp2_with fail
  refine HC.out.mono ?_
  rintro e w1 ⟨v1, rfl, ho, hb⟩
  go_wp2_with fail
  go_ret
  exact ⟨_, rfl, ho, hb⟩
end Go.Proofs.Ytniopekkfnkipaa
