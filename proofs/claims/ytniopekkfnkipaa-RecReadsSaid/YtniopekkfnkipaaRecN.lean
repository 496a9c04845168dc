/-
  What rec.numbers and rec.common do; Join of two parts and of four.
-/
import Derived.Test.YtniopekkfnkipaaRecC
import Derived.Test.YtniopekkfnkipaaWireJoin
namespace Go.Proofs.Ytniopekkfnkipaa
open Go.RowKit
set_option linter.unusedVariables false
set_option linter.unusedSimpArgs false

/-- unsigned numbers, one behind the other -/
def encN (L : List Nat) : List UInt8 := (L.map Wn.enc).flatten
theorem encN_succ (L : List Nat) (k : Nat) (h : k < L.length) : encN (L.take (k + 1)) = encN (L.take k) ++ Wn.enc (L.getD k 0) := by
  unfold encN
  rw [List.take_succ_eq_append_getElem h, List.map_append, List.flatten_append, List.getD_eq_getElem?_getD, List.getElem?_eq_getElem h]
  simp
theorem encN_len (L : List Nat) : (encN L).length ≤ L.length * 10 := by
  induction L with
  | nil => simp [encN]
  | cons x L ih =>
    have e : encN (x :: L) = Wn.enc x ++ encN L := by simp [encN]
    rw [e, List.length_append, List.length_cons]
    have := (Wn.enc_len x).2
    omega

set_option maxRecDepth 100000 in
set_option maxHeartbeats 1000000 in
theorem numI_any (a : Addr) (n c : Nat) (L : List Nat) (w : World) (hn : L.length = n) (hn2 : n ≤ 100) (hL : ∀ k, k < n → w.cell? (a.add k) = some (.int .i64 (L.getD k 0 : Nat))) (hr : ∀ k, k < n → L.getD k 0 < 9223372036854775808) (hlt : a.block < w.heap.size) :
    Calls Try.prog 26 #[.slice (some a) n c] w fun e w' => ∃ v', e = .returned v' ∧ Own w' w.heap.size v' (encN L) ∧ Below w.heap.size w w' := by
  obtain ⟨i0, qi0, qz0, qz1, qz2⟩ := info_parts byte_info
  have HN := Lib.hid hn
  have HL := Lib.hid hL
  have HR := Lib.hid hr
  clear hn hL hr
  go_enter Try.func26, Try.ntmps26
  go_wp2_with fail
  go_loopw [3, 8] (fun v i wr => ∃ k : Nat, k ≤ n ∧ i = .int .i64 k ∧ Own wr w.heap.size v (encN (L.take k)) ∧ Below w.heap.size w wr) (fun _ i _ => n - (intOf i).toNat)
  case atStart => exact ⟨0, by omega, rfl, by simpa [encN] using Own.nil_ _ _, Below.refl _ _⟩
  case round =>
    obtain ⟨k, hk, rfl, hown, hb⟩ := hrel
    have hz := hb.size
    by_cases hltk : k < n
    · have hc : wr.cell? (a.add k) = some (.int .i64 (L.getD k 0 : Nat)) := (hb.cell (by rw [add_block]; exact hlt)).trans (HL.out k hltk)
      have hx := HR.out k hltk
      have HS := Lib.hid (encN_succ L k (by rw [HN.out]; exact hltk))
      have hel : (encN (L.take k)).length ≤ 1000 := by
        have := encN_len (L.take k)
        rw [List.length_take] at this
        omega
      generalize L.getD k 0 = x at *
      generalize encN (L.take k) = acc at *
      have HU : Hid (Calls Try.prog 50 #[.int .u64 (x : Int)] wr fun e w' => ∃ v', e = .returned v' ∧ Own w' wr.heap.size v' (Wn.enc x) ∧ Below wr.heap.size wr w') := wUint_any x wr (by omega)
      have hexl := (Wn.enc_len x).2
      generalize Wn.enc x = ex at *
      obtain ⟨exn, hexn⟩ : ∃ m, ex.length = m := ⟨_, rfl⟩
      rw [hexn] at hexl
      have HEX := Lib.hid hexn
      clear hexn
      have HOWN := Lib.hid hown
      clear hown
      go_wp2_with fail
      refine HU.out.mono ?_
      rintro e w2 ⟨v2, rfl, ho2, hb2⟩
      have hown2 := HOWN.out.below hb2 (Nat.le_refl _)
      obtain ⟨A2, c2, rfl, hc2, hm2, hbs2, _, _⟩ := ho2.form
      rw [HEX.out] at hbs2 hc2
      rw [HEX.out]
      have hb2' := hb.trans (hb2.mono hz)
      have hz2' := hb2'.size
      clear ho2 hb2 HOWN HU
      go_wp2_with (at_builtin; refine wpList_append_src _ rfl (.tmp 12) (.tmp 15) 25 rfl w.heap.size 5 i0 _ 1 Try.underlying25 qi0 qz0 qz1 qz2 rfl _ acc.length (bvs acc) rfl hown2 w2.heap.size A2 exn c2 (bvs ex) rfl ?h1 hbs2.lies (bvs_one _) ?h2 ?h3 ?h4 ?_)
      case h1 => rw [bvs_length]; exact HEX.out
      case h2 => unfold maxLen; omega
      case h3 => omega
      case h4 => omega
      intro v3 w3 hown3 hg3 _
      have hb3 := hb2'.trans (grown_below hown2 hg3 hz2')
      have R : Own w3 w.heap.size v3 (acc ++ ex) := by
        unfold Own
        rw [bvs_append, List.length_append, HEX.out]
        exact hown3
      clear hown3 hg3 hown2 hbs2
      go_wp2
      go_roundw
      case rel => exact ⟨k + 1, by omega, by go_num, by rw [HS.out]; exact R, hb3⟩
      case measure => simp [intOf]; omega
    · obtain rfl : k = n := by omega
      rw [List.take_of_length_le (by rw [HN.out]; exact Nat.le_refl _)] at hown
      go_wp2_with fail
      go_ret
      exact ⟨u3, rfl, hown, hb⟩
theorem numI1 (a : Addr) (c x : Nat) (w : World) (h0 : w.cell? a = some (.int .i64 (x : Int))) (hx : x < 9223372036854775808) :
    Calls Try.prog 26 #[.slice (some a) 1 c] w fun e w' => ∃ v', e = .returned v' ∧ Own w' w.heap.size v' (Wn.enc x) ∧ Below w.heap.size w w' := by
  have := numI_any a 1 c [x] w rfl (by omega) (fun k hk => by obtain rfl : k = 0 := by omega
                                                              simpa [Addr.add] using h0) (fun k hk => by obtain rfl : k = 0 := by omega
                                                                                                         simpa using hx) (World.block_lt_of_cell? w a h0)
  simpa [encN] using this
theorem numI2 (a : Addr) (c x y : Nat) (w : World) (h0 : w.cell? a = some (.int .i64 (x : Int))) (h1 : w.cell? (a.add 1) = some (.int .i64 (y : Int))) (hx : x < 9223372036854775808) (hy : y < 9223372036854775808) :
    Calls Try.prog 26 #[.slice (some a) 2 c] w fun e w' => ∃ v', e = .returned v' ∧ Own w' w.heap.size v' (Wn.enc x ++ Wn.enc y) ∧ Below w.heap.size w w' := by
  have := numI_any a 2 c [x, y] w rfl (by omega) (fun k hk => by
    rcases Nat.lt_or_ge k 1 with g | g
    · obtain rfl : k = 0 := by omega
      simpa [Addr.add] using h0
    · obtain rfl : k = 1 := by omega
      simpa using h1) (fun k hk => by
    rcases Nat.lt_or_ge k 1 with g | g
    · obtain rfl : k = 0 := by omega
      simpa using hx
    · obtain rfl : k = 1 := by omega
      simpa using hy) (World.block_lt_of_cell? w a h0)
  simpa [encN] using this

set_option maxRecDepth 100000 in
set_option maxHeartbeats 1000000 in
theorem numL_any (a : Addr) (n c : Nat) (L : List Nat) (w : World) (hn : L.length = n) (hn2 : n ≤ 100) (hL : ∀ k, k < n → w.cell? (a.add k) = some (.int .i64 (L.getD k 0 : Nat))) (hr : ∀ k, k < n → L.getD k 0 < 9223372036854775808) (hlt : a.block < w.heap.size) :
    Calls Try.prog 49 #[.slice (some a) n c] w fun e w' => ∃ v', e = .returned v' ∧ Own w' w.heap.size v' (encN L) ∧ Below w.heap.size w w' := by
  obtain ⟨i0, qi0, qz0, qz1, qz2⟩ := info_parts byte_info
  have HN := Lib.hid hn
  have HL := Lib.hid hL
  have HR := Lib.hid hr
  clear hn hL hr
  go_enter Try.func49, Try.ntmps49
  go_wp2_with fail
  go_loopw [3, 8] (fun v i wr => ∃ k : Nat, k ≤ n ∧ i = .int .i64 k ∧ Own wr w.heap.size v (encN (L.take k)) ∧ Below w.heap.size w wr) (fun _ i _ => n - (intOf i).toNat)
  case atStart => exact ⟨0, by omega, rfl, by simpa [encN] using Own.nil_ _ _, Below.refl _ _⟩
  case round =>
    obtain ⟨k, hk, rfl, hown, hb⟩ := hrel
    have hz := hb.size
    by_cases hltk : k < n
    · have hc : wr.cell? (a.add k) = some (.int .i64 (L.getD k 0 : Nat)) := (hb.cell (by rw [add_block]; exact hlt)).trans (HL.out k hltk)
      have hx := HR.out k hltk
      have HS := Lib.hid (encN_succ L k (by rw [HN.out]; exact hltk))
      have hel : (encN (L.take k)).length ≤ 1000 := by
        have := encN_len (L.take k)
        rw [List.length_take] at this
        omega
      generalize L.getD k 0 = x at *
      generalize encN (L.take k) = acc at *
      have HU : Hid (Calls Try.prog 50 #[.int .u64 (x : Int)] wr fun e w' => ∃ v', e = .returned v' ∧ Own w' wr.heap.size v' (Wn.enc x) ∧ Below wr.heap.size wr w') := wUint_any x wr (by omega)
      have hexl := (Wn.enc_len x).2
      generalize Wn.enc x = ex at *
      obtain ⟨exn, hexn⟩ : ∃ m, ex.length = m := ⟨_, rfl⟩
      rw [hexn] at hexl
      have HEX := Lib.hid hexn
      clear hexn
      have HOWN := Lib.hid hown
      clear hown
      go_wp2_with fail
      refine HU.out.mono ?_
      rintro e w2 ⟨v2, rfl, ho2, hb2⟩
      have hown2 := HOWN.out.below hb2 (Nat.le_refl _)
      obtain ⟨A2, c2, rfl, hc2, hm2, hbs2, _, _⟩ := ho2.form
      rw [HEX.out] at hbs2 hc2
      rw [HEX.out]
      have hb2' := hb.trans (hb2.mono hz)
      have hz2' := hb2'.size
      clear ho2 hb2 HOWN HU
      go_wp2_with (at_builtin; refine wpList_append_src _ rfl (.tmp 12) (.tmp 15) 25 rfl w.heap.size 5 i0 _ 1 Try.underlying25 qi0 qz0 qz1 qz2 rfl _ acc.length (bvs acc) rfl hown2 w2.heap.size A2 exn c2 (bvs ex) rfl ?h1 hbs2.lies (bvs_one _) ?h2 ?h3 ?h4 ?_)
      case h1 => rw [bvs_length]; exact HEX.out
      case h2 => unfold maxLen; omega
      case h3 => omega
      case h4 => omega
      intro v3 w3 hown3 hg3 _
      have hb3 := hb2'.trans (grown_below hown2 hg3 hz2')
      have R : Own w3 w.heap.size v3 (acc ++ ex) := by
        unfold Own
        rw [bvs_append, List.length_append, HEX.out]
        exact hown3
      clear hown3 hg3 hown2 hbs2
      go_wp2
      go_roundw
      case rel => exact ⟨k + 1, by omega, by go_num, by rw [HS.out]; exact R, hb3⟩
      case measure => simp [intOf]; omega
    · obtain rfl : k = n := by omega
      rw [List.take_of_length_le (by rw [HN.out]; exact Nat.le_refl _)] at hown
      go_wp2_with fail
      go_ret
      exact ⟨u3, rfl, hown, hb⟩
theorem numL1 (a : Addr) (c x : Nat) (w : World) (h0 : w.cell? a = some (.int .i64 (x : Int))) (hx : x < 9223372036854775808) :
    Calls Try.prog 49 #[.slice (some a) 1 c] w fun e w' => ∃ v', e = .returned v' ∧ Own w' w.heap.size v' (Wn.enc x) ∧ Below w.heap.size w w' := by
  have := numL_any a 1 c [x] w rfl (by omega) (fun k hk => by obtain rfl : k = 0 := by omega
                                                              simpa [Addr.add] using h0) (fun k hk => by obtain rfl : k = 0 := by omega
                                                                                                         simpa using hx) (World.block_lt_of_cell? w a h0)
  simpa [encN] using this
theorem numL2 (a : Addr) (c x y : Nat) (w : World) (h0 : w.cell? a = some (.int .i64 (x : Int))) (h1 : w.cell? (a.add 1) = some (.int .i64 (y : Int))) (hx : x < 9223372036854775808) (hy : y < 9223372036854775808) :
    Calls Try.prog 49 #[.slice (some a) 2 c] w fun e w' => ∃ v', e = .returned v' ∧ Own w' w.heap.size v' (Wn.enc x ++ Wn.enc y) ∧ Below w.heap.size w w' := by
  have := numL_any a 2 c [x, y] w rfl (by omega) (fun k hk => by
    rcases Nat.lt_or_ge k 1 with g | g
    · obtain rfl : k = 0 := by omega
      simpa [Addr.add] using h0
    · obtain rfl : k = 1 := by omega
      simpa using h1) (fun k hk => by
    rcases Nat.lt_or_ge k 1 with g | g
    · obtain rfl : k = 0 := by omega
      simpa using hx
    · obtain rfl : k = 1 := by omega
      simpa using hy) (World.block_lt_of_cell? w a h0)
  simpa [encN] using this

end Go.Proofs.Ytniopekkfnkipaa
