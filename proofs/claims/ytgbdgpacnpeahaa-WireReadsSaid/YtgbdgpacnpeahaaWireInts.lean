/-
  What wire.Ints and the reference's Texts and Ints do.
-/
import Derived.Test.YtgbdgpacnpeahaaWireRef
import Derived.Test.YtgbdgpacnpeahaaWireTexts
namespace Go.Proofs.Ytgbdgpacnpeahaa
open Go.RowKit
set_option linter.unusedVariables false
set_option linter.unusedSimpArgs false

set_option maxRecDepth 100000 in
set_option maxHeartbeats 1000000 in
theorem wInts_any (A : Option Addr) (n c B : Nat) (L : List Int) (w : World) (hL : Is w B A n L) (hB : B ≤ w.heap.size) (hn : n ≤ 1048576) :
    Calls Try.prog 44 #[.slice A n c] w fun e w' => ∃ v', e = .returned v' ∧ Own w' w.heap.size v' (Wn.enc n ++ told_ L n) ∧ Below w.heap.size w w' := by
  have HU := Lib.hid (wUint_any n w (by omega))
  have HN := Lib.hid hL.len
  have HEL := Lib.hid (Wn.enc_len n).2
  go_enter Try.func44, Try.ntmps44
  go_wp2_with fail
  refine HU.out.mono ?_
  rintro e w1 ⟨v1, rfl, ho1, hb1⟩
  clear HU
  go_wp2_with fail
  go_loopw [3, 12] (fun v i wr => ∃ k : Nat, k ≤ n ∧ i = .int .i64 k ∧ Own wr w.heap.size v (Wn.enc n ++ told_ L k) ∧ Below w.heap.size w wr) (fun _ i _ => n - (intOf i).toNat)
  case atStart => exact ⟨0, by omega, rfl, by rw [told_zero, List.append_nil]; exact ho1, hb1⟩
  case round =>
    obtain ⟨k, hk, rfl, hown, hb⟩ := hrel
    have hz := hb.size
    by_cases hlt : k < n
    · obtain ⟨ad, rfl, hadb, hc, hx1, hx2⟩ := (hL.below (hb.mono hB)).row k hlt
      have HS : Hid (Wn.enc n ++ told_ L (k + 1) = (Wn.enc n ++ told_ L k) ++ Wn.enc (Wn.zig (L.getD k 0))) := by
        show _ = _
        rw [told_succ L k (by rw [HN.out]; exact hlt), List.append_assoc]
        rfl
      have h1 : (Wn.enc n ++ told_ L k).length ≤ 1099511627776 := by
        have h2 := told_len L k (by rw [HN.out]; omega)
        have h4 := HEL.out
        rw [List.length_append]
        omega
      generalize Wn.enc n ++ told_ L k = acc at *
      generalize L.getD k 0 = x at *
      have HA := Lib.hid (addInt_any u3 w.heap.size acc x wr hx1 hx2 hown h1 hz)
      clear hown ho1 hb1
      go_wp2_with fail
      refine HA.out.mono ?_
      rintro e w2 ⟨v2, rfl, ho2, hb2⟩
      clear HA
      go_wp2_with fail
      go_roundw
      case rel => exact ⟨k + 1, by omega, by go_num, by rw [HS.out]; exact ho2, hb.trans hb2⟩
      case measure => simp [intOf]; omega
    · obtain rfl : k = n := by omega
      go_wp2_with fail
      go_ret
      exact ⟨u3, rfl, hown, hb⟩

set_option maxRecDepth 100000 in
set_option maxHeartbeats 1000000 in
theorem refInts_any (A : Option Addr) (n c B : Nat) (L : List Int) (w : World) (hL : Is w B A n L) (hB : B ≤ w.heap.size) (hn : n ≤ 1048576) :
    Calls Try.prog 45 #[.slice A n c] w fun e w' => ∃ v', e = .returned v' ∧ Own w' w.heap.size v' (Wn.enc n ++ told_ L n) ∧ Below w.heap.size w w' := by
  obtain ⟨i0, hi0, hz0, hz1, hz2⟩ := info_parts byte_info
  have HU := Lib.hid (refUint_any n w (by omega))
  have HN := Lib.hid hL.len
  have HEL := Lib.hid (Wn.enc_len n).2
  go_enter Try.func45, Try.ntmps45
  go_wp2_with fail
  refine HU.out.mono ?_
  rintro e w1 ⟨v1, rfl, ho1, hb1⟩
  clear HU
  go_wp2_with fail
  go_loopw [3, 12] (fun v i wr => ∃ k : Nat, k ≤ n ∧ i = .int .i64 k ∧ Own wr w.heap.size v (Wn.enc n ++ told_ L k) ∧ Below w.heap.size w wr) (fun _ i _ => n - (intOf i).toNat)
  case atStart => exact ⟨0, by omega, rfl, by rw [told_zero, List.append_nil]; exact ho1, hb1⟩
  case round =>
    obtain ⟨k, hk, rfl, hown, hb⟩ := hrel
    have hz := hb.size
    by_cases hlt : k < n
    · obtain ⟨ad, rfl, hadb, hc, hx1, hx2⟩ := (hL.below (hb.mono hB)).row k hlt
      have HS : Hid (Wn.enc n ++ told_ L (k + 1) = (Wn.enc n ++ told_ L k) ++ Wn.enc (Wn.zig (L.getD k 0))) := by
        show _ = _
        rw [told_succ L k (by rw [HN.out]; exact hlt), List.append_assoc]
        rfl
      have h1 : (Wn.enc n ++ told_ L k).length ≤ 109951162777 := by
        have h2 := told_len L k (by rw [HN.out]; omega)
        have h4 := HEL.out
        rw [List.length_append]
        omega
      generalize Wn.enc n ++ told_ L k = acc at *
      generalize L.getD k 0 = x at *
      have HA := Lib.hid (refInt_any x wr hx1 hx2)
      have hel := (Wn.enc_len (Wn.zig x)).2
      generalize Wn.enc (Wn.zig x) = ex at *
      clear ho1 hb1
      obtain ⟨exn, hexn⟩ : ∃ m, ex.length = m := ⟨_, rfl⟩
      rw [hexn] at hel
      have HEX := Lib.hid hexn
      clear hexn
      have HOWN := Lib.hid hown
      clear hown
      go_wp2_with fail
      refine HA.out.mono ?_
      rintro e w2 ⟨v2, rfl, ho2, hb2⟩
      clear HA
      have hown2 := HOWN.out.below hb2 (Nat.le_refl _)
      obtain ⟨A2, c2, rfl, hc2, hm2, hbs2, _, _⟩ := ho2.form
      rw [HEX.out] at hbs2 hc2
      rw [HEX.out]
      have hb2' := hb.trans (hb2.mono hz)
      have hz2' := hb2'.size
      clear ho2 hb2 HOWN
      go_wp2_with (at_builtin; refine wpList_append_src _ rfl (.tmp 16) (.tmp 18) 23 rfl w.heap.size 5 i0 _ 1 Try.underlying23 hi0 hz0 hz1 hz2 rfl _ acc.length (bvs acc) rfl hown2 w2.heap.size A2 exn c2 (bvs ex) rfl ?h1 hbs2.lies (bvs_one _) ?h2 ?h3 ?h4 ?_)
      case h1 => rw [bvs_length]; exact HEX.out
      case h2 => unfold maxLen; omega
      case h3 => omega
      case h4 => omega
      intro v3 w3 hown3 hg3 _
      have hb3 := hb2'.trans (grown_below hown2 hg3 hz2')
      have R : Own w3 w.heap.size v3 (acc ++ ex) := by
        unfold Own
        rw [bvs_append, List.length_append, HEX.out]
        exact hown3
      clear hown3 hg3 hown2 hbs2
      go_wp2
      go_roundw
      case rel => exact ⟨k + 1, by omega, by go_num, by rw [HS.out]; exact R, hb3⟩
      case measure => simp [intOf]; omega
    · obtain rfl : k = n := by omega
      go_wp2_with fail
      go_ret
      exact ⟨u3, rfl, hown, hb⟩

set_option maxRecDepth 100000 in
set_option maxHeartbeats 1000000 in
theorem refTexts_any (A : Option Addr) (n c m B : Nat) (L : List ByteArray) (w : World) (hL : Ts w B A n m L) (hB : B ≤ w.heap.size) (hn : n ≤ 1048576) (hm : m ≤ 1000) :
    Calls Try.prog 43 #[.slice A n c] w fun e w' => ∃ v', e = .returned v' ∧ Own w' w.heap.size v' (Wn.enc n ++ encTs L) ∧ Below w.heap.size w w' := by
  obtain ⟨i0, hi0, hz0, hz1, hz2⟩ := info_parts byte_info
  have HU := Lib.hid (refUint_any n w (by omega))
  have hll := hL.len
  have hlen1 : L.length ≤ n := by omega
  have hlen2 : n ≤ L.length := by omega
  clear hll
  have HEL := Lib.hid (Wn.enc_len n).2
  go_enter Try.func43, Try.ntmps43
  go_wp2_with fail
  refine HU.out.mono ?_
  rintro e w1 ⟨v1, rfl, ho1, hb1⟩
  clear HU
  go_wp2_with fail
  go_loopw [3, 12] (fun v i wr => ∃ k : Nat, k ≤ n ∧ i = .int .i64 k ∧ Own wr w.heap.size v (Wn.enc n ++ encTs (L.take k)) ∧ Below w.heap.size w wr) (fun _ i _ => n - (intOf i).toNat)
  case atStart => exact ⟨0, by omega, rfl, by simpa [encTs] using ho1, hb1⟩
  case round =>
    obtain ⟨k, hk, rfl, hown, hb⟩ := hrel
    have hz := hb.size
    by_cases hlt : k < n
    · obtain ⟨ad, rfl, hadb, hc, hsz⟩ := (hL.below (hb.mono hB)).row hlt
      have HS : Hid (Wn.enc n ++ encTs (L.take (k + 1)) = (Wn.enc n ++ encTs (L.take k)) ++ encT (L.getD k ⟨#[]⟩)) := by show _ = _; rw [encTs_succ L k (by omega), List.append_assoc]
      have h1 : (Wn.enc n ++ encTs (L.take k)).length ≤ 109951162777 := by
        have h2 := encTs_len L m k hL.most (by omega)
        have h3 : k * (m + 10) ≤ 1048576 * 1010 := Nat.mul_le_mul (by omega) (by omega)
        have h4 := HEL.out
        rw [List.length_append]
        omega
      generalize Wn.enc n ++ encTs (L.take k) = acc at *
      generalize L.getD k ⟨#[]⟩ = s at *
      have HA := Lib.hid (refText_any s wr (by omega))
      have hel := encT_len s
      generalize encT s = ex at *
      clear ho1 hb1
      obtain ⟨exn, hexn⟩ : ∃ m, ex.length = m := ⟨_, rfl⟩
      rw [hexn] at hel
      have HEX := Lib.hid hexn
      clear hexn
      have HOWN := Lib.hid hown
      clear hown
      go_wp2_with fail
      refine HA.out.mono ?_
      rintro e w2 ⟨v2, rfl, ho2, hb2⟩
      clear HA
      have hown2 := HOWN.out.below hb2 (Nat.le_refl _)
      obtain ⟨A2, c2, rfl, hc2, hm2, hbs2, _, _⟩ := ho2.form
      rw [HEX.out] at hbs2 hc2
      rw [HEX.out]
      have hb2' := hb.trans (hb2.mono hz)
      have hz2' := hb2'.size
      clear ho2 hb2 HOWN
      go_wp2_with (at_builtin; refine wpList_append_src _ rfl (.tmp 16) (.tmp 18) 23 rfl w.heap.size 5 i0 _ 1 Try.underlying23 hi0 hz0 hz1 hz2 rfl _ acc.length (bvs acc) rfl hown2 w2.heap.size A2 exn c2 (bvs ex) rfl ?h1 hbs2.lies (bvs_one _) ?h2 ?h3 ?h4 ?_)
      case h1 => rw [bvs_length]; exact HEX.out
      case h2 => unfold maxLen; omega
      case h3 => omega
      case h4 => omega
      intro v3 w3 hown3 hg3 _
      have hb3 := hb2'.trans (grown_below hown2 hg3 hz2')
      have R : Own w3 w.heap.size v3 (acc ++ ex) := by
        unfold Own
        rw [bvs_append, List.length_append, HEX.out]
        exact hown3
      clear hown3 hg3 hown2 hbs2
      go_wp2
      go_roundw
      case rel => exact ⟨k + 1, by omega, by go_num, by rw [HS.out]; exact R, hb3⟩
      case measure => simp [intOf]; omega
    · obtain rfl : k = n := by omega
      rw [List.take_of_length_le (by omega)] at hown
      go_wp2_with fail
      go_ret
      exact ⟨u3, rfl, hown, hb⟩
end Go.Proofs.Ytgbdgpacnpeahaa
