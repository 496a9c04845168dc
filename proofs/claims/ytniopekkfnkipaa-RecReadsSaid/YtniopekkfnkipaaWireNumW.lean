/-
  What position.octet, lastGroup and unsigned do.
-/
import Derived.Test.YtniopekkfnkipaaWireRd
import Derived.Test.YtniopekkfnkipaaWireNum
import Derived.Laws.BitsAllLaws
namespace Go.Proofs.Ytniopekkfnkipaa
open Go.RowKit
set_option linter.unusedVariables false
set_option linter.unusedSimpArgs false

set_option maxHeartbeats 400000 in
theorem octet_no (g c err : Nat) (A : Option Addr) (l : List UInt8) (w : World) (h : Rd w g A c l l.length err) :
    Calls Try.prog 58 #[.pointer (some ⟨g, 0, none⟩)] w fun e w' => e = .returned (.tuple #[.int .i64 0, .int .i64 6]) ∧ ∃ k, w' = w.drewN k := by
  have HL := Lib.hid (left_any g c l.length err A l w h)
  rw [Nat.sub_self] at HL
  go_enter Try.func58, Try.ntmps58
  go_wp2_with fail
  refine HL.out.mono ?_
  rintro e w1 ⟨rfl, k, rfl⟩
  go_wp2_with fail
  go_ret2
  exact ⟨rfl, k, rfl⟩

set_option maxHeartbeats 400000 in
theorem octet_yes (g c p err : Nat) (A : Option Addr) (l : List UInt8) (w : World) (h : Rd w g A c l p err) (hp : p < l.length) :
    Calls Try.prog 58 #[.pointer (some ⟨g, 0, none⟩)] w fun e w' => e = .returned (.tuple #[.int .i64 ((l.getD p 0).toNat : Int), .int .i64 0]) ∧ Rd w' g A c l (p + 1) err ∧ w.grownBy w' (some g) := by
  have HL := Lib.hid (left_any g c p err A l w h)
  have hne : (((l.length - p : Nat) : Int) == 0) = false := by rw [beq_eq_false_iff_ne]; omega
  have hsm := h.small
  generalize hx : l.length - p = x at *
  have hxx : x ≤ 1099511627776 := by omega
  have HX := Lib.hid hx
  clear hx
  go_enter Try.func58, Try.ntmps58
  go_wp2_with fail
  refine HL.out.mono ?_
  rintro e w1 ⟨rfl, k, rfl⟩
  go_wp2_with fail
  refine (cut_any g c p err 1 A l _ (h.drewN k) (by omega)).mono ?_
  rintro e w2 ⟨A', c', rfl, hc1, hc2, hbs, hrd, hg⟩
  obtain ⟨ad, rfl, hadb, hcell⟩ := hbs.at_ (k := 0) (by omega)
  have hv : ((l.drop p).take 1).getD 0 0 = l.getD p 0 := by
    rw [List.getD_eq_getElem?_getD, List.getD_eq_getElem?_getD, List.getElem?_take, if_pos (by omega), List.getElem?_drop, Nat.add_zero]
  rw [hv] at hcell
  simp only [Addr.add] at hcell
  simp at hcell
  have hb := (l.getD p 0).toNat_lt
  have HR := Lib.hid hrd
  have HG := Lib.hid (grown_trans (grown_draws w k (some g)) hg)
  clear hrd hg hbs hv h
  generalize hbb : (l.getD p 0).toNat = b at *
  have HBB := Lib.hid hbb
  have hcell2 : w2.cell? ad = some (.int .u8 (b : Int)) := by
    have := HBB.out
    rw [← this]
    rw [List.getD_eq_getElem?_getD]
    exact hcell
  clear hbb hcell
  unfold maxLen at hc2
  go_wp2_with fail
  go_ret2
  exact ⟨by rw [HBB.out]; rfl, HR.out, HG.out⟩

set_option maxHeartbeats 400000 in
theorem lastGroup_bad (i b : Nat) (w : World) (hi : i ≤ 9) (hb : b < 128) (h : (0 < i ∧ b = 0) ∨ (i = 9 ∧ 1 < b)) :
    Calls Try.prog 76 #[.int .i64 (i : Int), .int .i64 (b : Int)] w fun e w' => e = .returned (.int .i64 6) ∧ w = w' := by
  rcases h with ⟨h1, h2⟩ | ⟨h1, h2⟩
  · have e1 : (0 : Int) < (i : Int) := by omega
    have e2 : ((b : Int) == 0) = true := by rw [beq_iff_eq]; omega
    clear h2
    go_enter Try.func76, Try.ntmps76
    go_wp2
    go_ret
    exact ⟨rfl, rfl⟩
  · have e1 : (0 : Int) < (i : Int) := by omega
    have e0 : 0 < i := by omega
    have e2 : ((b : Int) == 0) = false := by rw [beq_eq_false_iff_ne]; omega
    have e3 : ((i : Int) == 9) = true := by rw [beq_iff_eq]; omega
    have e4 : (1 : Int) < (b : Int) := by omega
    clear h1
    go_enter Try.func76, Try.ntmps76
    go_wp2
    go_ret
    exact ⟨rfl, rfl⟩

set_option maxHeartbeats 400000 in
theorem lastGroup_ok (i b : Nat) (w : World) (hi : i ≤ 9) (hb : b < 128) (h : ¬ ((0 < i ∧ b = 0) ∨ (i = 9 ∧ 1 < b))) :
    Calls Try.prog 76 #[.int .i64 (i : Int), .int .i64 (b : Int)] w fun e w' => e = .returned (.int .i64 0) ∧ w = w' := by
  rcases Nat.eq_zero_or_pos i with h0 | h0
  · subst h0
    have e3 : ((0 : Int) == 9) = false := by decide
    clear h
    go_enter Try.func76, Try.ntmps76
    go_wp2
    go_ret
    exact ⟨rfl, rfl⟩
  · have e1 : (0 : Int) < (i : Int) := by omega
    have e2 : ((b : Int) == 0) = false := by rw [beq_eq_false_iff_ne]; omega
    rcases Nat.lt_or_ge i 9 with h9 | h9
    · have e3 : ((i : Int) == 9) = false := by rw [beq_eq_false_iff_ne]; omega
      clear h
      go_enter Try.func76, Try.ntmps76
      go_wp2
      go_ret
      exact ⟨rfl, rfl⟩
    · have e3 : ((i : Int) == 9) = true := by rw [beq_iff_eq]; omega
      have e4 : ¬ (1 : Int) < (b : Int) := by omega
      clear h
      go_enter Try.func76, Try.ntmps76
      go_wp2
      go_ret
      exact ⟨rfl, rfl⟩

/-- what is read of a number -/
def UPost (w : World) (g c err : Nat) (A : Option Addr) (l : List UInt8) (p : Nat) (r : Option (Nat × Nat)) (e : Ending) (w' : World) : Prop :=
  match r with
  | some x => e = .returned (.tuple #[.int .u64 (x.1 : Int), .int .i64 0]) ∧ Rd w' g A c l (p + x.2) err ∧ w.grownBy w' (some g)
  | none => ∃ y : Int, ∃ q : Nat, e = .returned (.tuple #[.int .u64 y, .int .i64 6]) ∧ Rd w' g A c l q err ∧ w.grownBy w' (some g)

theorem numF_nil (k i : Nat) : Wn.numF k i [] = none := by cases k <;> rfl
theorem drop_get (l : List UInt8) (p : Nat) (h : p < l.length) : l.drop p = l.getD p 0 :: l.drop (p + 1) := by
  rw [List.drop_eq_getElem_cons h, List.getD_eq_getElem?_getD, List.getElem?_eq_getElem h]
  rfl
theorem pow128 (i : Nat) : (128 : Nat) ^ i = 2 ^ (7 * i) := by rw [Nat.pow_mul]
theorem or_group (acc b i : Nat) (hi : i ≤ 8) (hacc : acc < 128 ^ i) (hb : b < 128) : bits .or .u64 (acc : Int) ((b : Int) * 2 ^ (7 * i)) = ((acc + 128 ^ i * b : Nat) : Int) ∧ acc + 128 ^ i * b < 128 ^ (i + 1) ∧ acc + 128 ^ i * b < 18446744073709551616 := by
  have hp : 128 ^ i ≤ 128 ^ 8 := Nat.pow_le_pow_right (by omega) hi
  have h8 : (128 : Nat) ^ 8 = 72057594037927936 := by decide
  have hmul : 128 ^ i * b ≤ 128 ^ i * 127 := Nat.mul_le_mul_left _ (by omega)
  have hsum : acc + 128 ^ i * b < 128 ^ (i + 1) := by rw [Nat.pow_succ]; omega
  have hb2 : acc + 128 ^ i * b < 18446744073709551616 := by omega
  refine ⟨?_, hsum, hb2⟩
  have e : ((b : Int) * 2 ^ (7 * i)) = ((128 ^ i * b : Nat) : Int) := by
    rw [pow128]
    push_cast
    rw [Int.mul_comm]
  rw [e, u64_or_nat acc (128 ^ i * b) (by omega) (by omega), Nat.or_comm, nat_join (7 * i) (128 ^ i * b) acc (by rw [pow128]; exact Nat.mul_mod_right _ _) (by rw [← pow128]; exact hacc), Nat.add_comm]
end Go.Proofs.Ytniopekkfnkipaa
