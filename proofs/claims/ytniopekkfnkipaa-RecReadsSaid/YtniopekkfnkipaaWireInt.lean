/-
  What wire's addInt and Int do.
-/
import Derived.Test.YtniopekkfnkipaaWireEnc
import Derived.Laws.BitsAllLaws
namespace Go.Proofs.Ytniopekkfnkipaa
open Go.RowKit
set_option linter.unusedVariables false
set_option linter.unusedSimpArgs false

theorem xor_ones (a : Nat) (h : a < 18446744073709551616) : a ^^^ 18446744073709551615 = 18446744073709551615 - a := by
  have e := congrArg BitVec.toNat (BitVec.xor_allOnes (x := BitVec.ofNat 64 a))
  rw [BitVec.toNat_xor, BitVec.toNat_not, BitVec.toNat_allOnes, BitVec.toNat_ofNat, Nat.mod_eq_of_lt (by simpa using h)] at e
  simpa using e
theorem zig_pos (m : Nat) (hm : m < 9223372036854775808) : bits .xor .u64 ((m : Int) * 2) ((m : Int) / 9223372036854775808) = ((2 * m : Nat) : Int) := by
  have e1 : (m : Int) / 9223372036854775808 = ((0 : Nat) : Int) := by omega
  have e2 : (m : Int) * 2 = ((2 * m : Nat) : Int) := by omega
  rw [e1, e2, u64_xor_nat (2 * m) 0 (by omega) (by omega), Nat.xor_zero]
theorem u64_wrap (x : Int) : IntKind.u64.wrap x = x % 18446744073709551616 := by
  simp [IntKind.wrap, IntKind.bits, IntKind.signed]
theorem zig_neg (m : Nat) (hm : m < 9223372036854775808) : bits .xor .u64 (IntKind.u64.wrap (IntKind.u64.wrap (-(m : Int) - 1) * 2)) (IntKind.u64.wrap ((-(m : Int) - 1) / 9223372036854775808)) = ((2 * m + 1 : Nat) : Int) := by
  have e1 : IntKind.u64.wrap ((-(m : Int) - 1) / 9223372036854775808) = ((18446744073709551615 : Nat) : Int) := by rw [u64_wrap]; omega
  have e2 : IntKind.u64.wrap (IntKind.u64.wrap (-(m : Int) - 1) * 2) = ((18446744073709551614 - 2 * m : Nat) : Int) := by rw [u64_wrap, u64_wrap]; omega
  rw [e1, e2, u64_xor_nat _ _ (by omega) (by omega), xor_ones _ (by omega)]
  congr 1
  omega

set_option maxHeartbeats 400000 in
theorem addInt_pos (v : Value) (base : Nat) (l : List UInt8) (m : Nat) (w : World) (hm : m < 9223372036854775808) (hown : Own w base v l) (hlen : l.length ≤ 1099511627776) (hbase : base ≤ w.heap.size) :
    Calls Try.prog 66 #[v, .int .i64 (m : Int)] w fun e w' => ∃ v', e = .returned v' ∧ Own w' base v' (l ++ Wn.enc (2 * m)) ∧ Below base w w' := by
  have HU := Lib.hid (addUint_any v base l (2 * m) w (by omega) hown hlen hbase)
  have hx := zig_pos m hm
  generalize 2 * m = z at *
  clear hown
  go_enter Try.func66, Try.ntmps66
  go_wp2_with fail
  refine HU.out.mono ?_
  rintro e w1 ⟨v1, rfl, ho, hb⟩
  go_wp2_with fail
  go_ret
  exact ⟨_, rfl, ho, hb⟩
set_option maxHeartbeats 400000 in
theorem addInt_neg (v : Value) (base : Nat) (l : List UInt8) (m : Nat) (w : World) (hm : m < 9223372036854775808) (hown : Own w base v l) (hlen : l.length ≤ 1099511627776) (hbase : base ≤ w.heap.size) :
    Calls Try.prog 66 #[v, .int .i64 (-(m : Int) - 1)] w fun e w' => ∃ v', e = .returned v' ∧ Own w' base v' (l ++ Wn.enc (2 * m + 1)) ∧ Below base w w' := by
  have HU := Lib.hid (addUint_any v base l (2 * m + 1) w (by omega) hown hlen hbase)
  have hx := zig_neg m hm
  generalize 2 * m + 1 = z at *
  clear hown
  go_enter Try.func66, Try.ntmps66
  go_wp2_with fail
  refine HU.out.mono ?_
  rintro e w1 ⟨v1, rfl, ho, hb⟩
  go_wp2_with fail
  go_ret
  exact ⟨_, rfl, ho, hb⟩
theorem addInt_any (v : Value) (base : Nat) (l : List UInt8) (n : Int) (w : World) (h1 : -9223372036854775808 ≤ n) (h2 : n ≤ 9223372036854775807) (hown : Own w base v l) (hlen : l.length ≤ 1099511627776) (hbase : base ≤ w.heap.size) :
    Calls Try.prog 66 #[v, .int .i64 n] w fun e w' => ∃ v', e = .returned v' ∧ Own w' base v' (l ++ Wn.enc (Wn.zig n)) ∧ Below base w w' := by
  by_cases h : 0 ≤ n
  · obtain ⟨m, rfl⟩ : ∃ m : Nat, n = (m : Int) := ⟨n.toNat, by omega⟩
    have e : Wn.zig (m : Int) = 2 * m := by unfold Wn.zig; rw [if_pos h]; omega
    rw [e]
    exact addInt_pos v base l m w (by omega) hown hlen hbase
  · obtain ⟨m, rfl⟩ : ∃ m : Nat, n = -(m : Int) - 1 := ⟨(-n - 1).toNat, by omega⟩
    have e : Wn.zig (-(m : Int) - 1) = 2 * m + 1 := by unfold Wn.zig; rw [if_neg h]; omega
    rw [e]
    exact addInt_neg v base l m w (by omega) hown hlen hbase

set_option maxHeartbeats 400000 in
theorem wInt_any (n : Int) (w : World) (h1 : -9223372036854775808 ≤ n) (h2 : n ≤ 9223372036854775807) :
    Calls Try.prog 52 #[.int .i64 n] w fun e w' => ∃ v', e = .returned v' ∧ Own w' w.heap.size v' (Wn.enc (Wn.zig n)) ∧ Below w.heap.size w w' := by
  have HU := Lib.hid (addInt_any (.slice none 0 0) w.heap.size [] n w h1 h2 (Own.nil_ _ _) (by simp) (Nat.le_refl _))
  generalize Wn.zig n = z at *
  go_enter Try.func52, Try.ntmps52
  go_wp2_with fail
  refine HU.out.mono ?_
  rintro e w1 ⟨v1, rfl, ho, hb⟩
  go_wp2_with fail
  go_ret
  exact ⟨_, rfl, ho, hb⟩
end Go.Proofs.Ytniopekkfnkipaa
