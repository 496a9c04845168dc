/-
  What wire's addUint, Uint, addInt and Int do.
-/
import Derived.Test.YtniopekkfnkipaaWireNumW
import Derived.Test.YtniopekkfnkipaaBytesA
namespace Go.Proofs.Ytniopekkfnkipaa
open Go.RowKit
set_option linter.unusedVariables false
set_option linter.unusedSimpArgs false

set_option maxRecDepth 100000 in
theorem u8_or_all : ∀ b : Fin 256, bits .or .u8 ((b.val : Nat) : Int) 128 = ((b.val % 128 + 128 : Nat) : Int) := by decide
theorem u8_or_more (m : Nat) : bits .or .u8 ((m : Int) % 256) 128 = ((m % 128 + 128 : Nat) : Int) := by
  have h := u8_or_all ⟨m % 256, Nat.mod_lt _ (by omega)⟩
  simp only at h
  rw [show ((m : Int) % 256) = ((m % 256 : Nat) : Int) from by simp, h]
  congr 1
  omega
theorem encF_small (k n : Nat) (hk : 0 < k) (h : n < 128) : Wn.encF k n = [UInt8.ofNat n] := by
  obtain ⟨j, rfl⟩ : ∃ j, k = j + 1 := ⟨k - 1, by omega⟩
  simp only [Wn.encF]
  rw [if_pos h]
theorem encF_more (k n : Nat) (h : ¬ n < 128) : Wn.encF (k + 1) n = UInt8.ofNat (n % 128 + 128) :: Wn.encF k (n / 128) := by
  simp only [Wn.encF]
  rw [if_neg h]
theorem ofNat_cell (x : Nat) (h : x < 256) : bvs [UInt8.ofNat x] = [.int .u8 (x : Int)] := by
  simp only [bvs, List.map_cons, List.map_nil, bv, UInt8.toNat_ofNat']
  rw [Nat.mod_eq_of_lt (by simpa using h)]

set_option maxRecDepth 100000 in
set_option maxHeartbeats 1000000 in
theorem addUint_any (v : Value) (base : Nat) (l : List UInt8) (n : Nat) (w : World) (hn : n < 18446744073709551616) (hown : Own w base v l) (hlen : l.length ≤ 1099511627776) (hbase : base ≤ w.heap.size) :
    Calls Try.prog 65 #[v, .int .u64 (n : Int)] w fun e w' => ∃ v', e = .returned v' ∧ Own w' base v' (l ++ Wn.enc n) ∧ Below base w w' := by
  obtain ⟨i0, hi0, hz0, hz1, hz2⟩ := info_parts byte_info
  have HL := Lib.hid hlen
  clear hlen
  go_enter Try.func65, Try.ntmps65
  go_wp2
  go_loopw [0, 1] (fun s t wr => ∃ k m : Nat, ∃ pre : List UInt8, k ≤ 9 ∧ t = .int .u64 (m : Int) ∧ m < 18446744073709551616 ∧ m < 128 ^ (10 - k) ∧ pre.length = k ∧ Wn.enc n = pre ++ Wn.encF (10 - k) m ∧ Own wr base s (l ++ pre) ∧ Below base w wr) (fun _ t _ => (intOf t).toNat)
  case atStart => exact ⟨0, n, [], by omega, rfl, hn, Nat.lt_of_lt_of_le hn (by decide), rfl, rfl, by simpa using hown, Below.refl _ _⟩
  case round =>
    obtain ⟨k, m, pre, hk, rfl, hm, hmk, hpl, hE, ho, hb⟩ := hrel
    have hz := hb.size
    have hbz : base ≤ wr.heap.size := by omega
    have hacc : (l ++ pre).length ≤ 1099511627786 := by have := HL.out; rw [List.length_append]; omega
    by_cases hsm : m < 128
    · have HE : Hid (l ++ Wn.enc n = (l ++ pre) ++ [UInt8.ofNat m]) := by
        show _ = _
        rw [hE, encF_small _ _ (by omega) hsm, List.append_assoc]
      have HM := Lib.hid hmk
      clear hE hown hmk
      generalize l ++ pre = acc at *
      have HO := Lib.hid ho
      clear ho
      have hcv : (m : Int) % 256 = (m : Int) := by omega
      go_wp2_with (at_builtin; refine wpList_append_src _ rfl (.tmp 15) (.tmp 18) 25 rfl base 5 i0 _ 1 Try.underlying25 hi0 hz0 hz1 hz2 rfl _ acc.length (bvs acc) rfl (HO.out.alloc _) (wr.heap.size + 1) (some ⟨wr.heap.size, 0, none⟩) 1 1 _ rfl rfl (Lies.of_new _ _ _) ?h1 ?h2 ?h3 ?h4 ?_)
      case h1 => rfl
      case h2 => unfold maxLen; omega
      case h3 => omega
      case h4 => simp; omega
      intro v' w1 hown' hg _
      have hbw : Below base w w1 := (hb.alloc hbz _).trans ((Below.refl _ _).grown hg (by simp; omega) (fun k hk => (World.ownsRow.lt HO.out k hk).1))
      have R : Own w1 base v' (acc ++ [UInt8.ofNat m]) := by
        unfold Own
        rw [bvs_append, List.length_append, ofNat_cell m (by omega)]
        simpa using hown'
      clear hown' hg HO hb
      go_wp2
      go_ret
      exact ⟨v', rfl, by rw [HE.out]; exact R, hbw⟩
    · have hk9 : k < 9 := by
        rcases Nat.lt_or_ge k 9 with h | h
        · exact h
        · have : k = 9 := by omega
          subst this
          simp at hmk
          omega
      have HE : Hid (Wn.enc n = (pre ++ [UInt8.ofNat (m % 128 + 128)]) ++ Wn.encF (10 - (k + 1)) (m / 128)) := by
        show _ = _
        rw [hE, show 10 - k = (10 - (k + 1)) + 1 from by omega, encF_more _ _ hsm]
        simp
      have HM : Hid (m / 128 < 128 ^ (10 - (k + 1))) := by
        show _ < _
        rw [show 10 - k = (10 - (k + 1)) + 1 from by omega, Nat.pow_succ] at hmk
        exact Nat.div_lt_of_lt_mul (by rw [Nat.mul_comm]; exact hmk)
      have HP : Hid ((pre ++ [UInt8.ofNat (m % 128 + 128)]).length = k + 1) := by show _ = _; simp [hpl]
      have HA : Hid (l ++ (pre ++ [UInt8.ofNat (m % 128 + 128)]) = (l ++ pre) ++ [UInt8.ofNat (m % 128 + 128)]) := by show _ = _; simp
      clear hE hown hmk hpl
      generalize l ++ pre = acc at *
      have HO := Lib.hid ho
      clear ho
      have hor := u8_or_more m
      have hge : (128 : Int) ≤ (m : Int) := by omega
      go_wp2_with (at_builtin; refine wpList_append_src _ rfl (.tmp 7) (.tmp 11) 25 rfl base 5 i0 _ 1 Try.underlying25 hi0 hz0 hz1 hz2 rfl _ acc.length (bvs acc) rfl (HO.out.alloc _) (wr.heap.size + 1) (some ⟨wr.heap.size, 0, none⟩) 1 1 _ rfl rfl (Lies.of_new _ _ _) ?h1 ?h2 ?h3 ?h4 ?_)
      case h1 => rfl
      case h2 => unfold maxLen; omega
      case h3 => omega
      case h4 => simp; omega
      intro v' w1 hown' hg _
      have hbw : Below base w w1 := (hb.alloc hbz _).trans ((Below.refl _ _).grown hg (by simp; omega) (fun k hk => (World.ownsRow.lt HO.out k hk).1))
      have R : Own w1 base v' (acc ++ [UInt8.ofNat (m % 128 + 128)]) := by
        unfold Own
        rw [bvs_append, List.length_append, ofNat_cell _ (by omega)]
        simpa using hown'
      clear hown' hg HO hb hor
      go_wp2
      go_roundw
      case rel => exact ⟨k + 1, m / 128, _, by omega, by go_num, by omega, HM.out, HP.out, HE.out, by rw [HA.out]; exact R, hbw⟩
      case measure => simp [intOf]; omega

set_option maxHeartbeats 400000 in
theorem wUint_any (n : Nat) (w : World) (hn : n < 18446744073709551616) :
    Calls Try.prog 50 #[.int .u64 (n : Int)] w fun e w' => ∃ v', e = .returned v' ∧ Own w' w.heap.size v' (Wn.enc n) ∧ Below w.heap.size w w' := by
  have HU := Lib.hid (addUint_any (.slice none 0 0) w.heap.size [] n w hn (Own.nil_ _ _) (by simp) (Nat.le_refl _))
  go_enter Try.func50, Try.ntmps50
  go_wp2_with fail
  refine HU.out.mono ?_
  rintro e w1 ⟨v1, rfl, ho, hb⟩
  go_wp2_with fail
  go_ret
  exact ⟨_, rfl, ho, hb⟩

end Go.Proofs.Ytniopekkfnkipaa
