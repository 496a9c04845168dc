/-
  What frame.shiftByte does.
-/
import Derived.Test.YthkkjefcdedlfaaProg
import Derived.Test.YthkkjefcdedlfaaCrc
import Derived.Test.YthkkjefcdedlfaaWords
import Derived.WalkKit
import Derived.WalkSpells
import Derived.WalkLawsBesides
import Derived.Laws.BitsAllLaws
namespace Go.Proofs.Ythkkjefcdedlfaa
open Go.RowKit


theorem even_step (z : Nat) (_h : z < 4294967296) (he : z % 2 = 0) : Crc.zs z = z / 2 := by unfold Crc.zs; rw [if_neg (by omega)]
theorem odd_step (z : Nat) (_h : z < 4294967296) (he : z % 2 = 1) : ((z / 2 ^^^ 3988292384 : Nat)) = Crc.zs z := by unfold Crc.zs; rw [if_pos he]; rfl

set_option maxHeartbeats 400000 in
theorem shiftByte_any (x : Nat) (w : World) (hx : x < 4294967296) :
    Calls Try.prog 111 #[.int .u32 (x : Int)] w fun e w' => e = .returned (.int .u32 (Crc.zn 8 x : Nat)) ∧ w = w' := by
  go_enter Try.func111, Try.ntmps111
  go_wp2
  go_loop [0, 4] (fun s i => ∃ k : Nat, k ≤ 8 ∧ i = .int .i64 k ∧ s = .int .u32 (Crc.zn k x : Nat)) (fun _ i => 8 - (intOf i).toNat)
  case atStart => exact ⟨0, by omega, rfl, rfl⟩
  case round =>
    obtain ⟨k, hk, rfl, rfl⟩ := hrel
    have hz := Crc.zn_lt k hx
    have HS : Hid (Crc.zn (k + 1) x = Crc.zs (Crc.zn k x)) := Crc.zn_succ k x
    by_cases hlt : k < 8
    · generalize Crc.zn k x = z at *
      have hb : bits .and .u32 (z : Int) 1 = ((z % 2 : Nat) : Int) := by
        have := u32_and_nat z 1 hz (by omega)
        rw [nat_mask1] at this
        exact this
      rcases Nat.mod_two_eq_zero_or_one z with he | he
      · have hb0 : bits .and .u32 (z : Int) 1 = 0 := by rw [hb, he]; rfl
        clear hb
        go_wp2
        go_round
        case rel => exact ⟨k + 1, by omega, by go_num, by rw [HS.out, even_step z hz he]; go_num⟩
        case measure => simp [intOf]; omega
      · have hb0 : bits .and .u32 (z : Int) 1 = 1 := by rw [hb, he]; rfl
        have hx2 : bits .xor .u32 ((z : Int) / 2) 3988292384 = ((z / 2 ^^^ 3988292384 : Nat) : Int) := by
          have := u32_xor_nat (z / 2) 3988292384 (by omega) (by omega)
          simpa using this
        rw [odd_step z hz he] at hx2
        clear hb
        generalize Crc.zs z = y at *
        go_wp2
        go_round
        case rel => exact ⟨k + 1, by omega, by go_num, by rw [HS.out]⟩
        case measure => simp [intOf]; omega
    · obtain rfl : k = 8 := by omega
      go_wp2
      go_ret
      exact ⟨rfl, rfl⟩

/-- 'More' where the parts are listed -/
theorem more_loop_in (s : Nat) (l : List UInt8) (k : Nat) (h : k < l.length) : Crc.run s (l.take (k + 1)) = Crc.upd (Crc.run s (l.take k)) (l.getD k 0) := by
  rw [List.take_succ_eq_append_getElem h, Crc.run_append, List.getD_eq_getElem?_getD, List.getElem?_eq_getElem h]; rfl
theorem more_loop_out (s : Nat) (L : List (List UInt8)) (k : Nat) (h : k < L.length) : Crc.run s ((L.take (k + 1)).flatten) = Crc.run (Crc.run s ((L.take k).flatten)) (L.getD k []) := by
  rw [List.take_succ_eq_append_getElem h, List.flatten_append, Crc.run_append, List.getD_eq_getElem?_getD, List.getElem?_eq_getElem h]
  simp

set_option maxHeartbeats 400000 in
theorem more_any (s : Nat) (A : Option Addr) (n c : Nat) (L : List (List UInt8)) (B : Nat) (w : World) (hs : s < 4294967296) (hL : Rs w B A n L) (hn : n ≤ maxLen) :
    Calls Try.prog 42 #[.int .u32 (s : Int), .slice A n c] w fun e w' => e = .returned (.int .u32 (Crc.more s L.flatten : Nat)) ∧ w = w' := by
  unfold maxLen at hn
  have hlen := hL.len
  have hlen1 : L.length ≤ n := by omega
  have hlen2 : n ≤ L.length := by omega
  clear hlen
  have hi : bits .xor .u32 IntKind.u32.max (s : Int) = ((Crc.ones ^^^ s : Nat) : Int) := u32_xor_nat 4294967295 s (by omega) hs
  have ho := Crc.ones_xor_lt hs
  have Hfin : Hid (Crc.more s L.flatten = Crc.ones ^^^ Crc.run (Crc.ones ^^^ s) L.flatten) := rfl
  generalize Crc.ones ^^^ s = s0 at *
  go_enter Try.func42, Try.ntmps42
  go_wp2
  clear hi
  go_loop [5, 14] (fun t i => ∃ k : Nat, k ≤ n ∧ i = .int .i64 k ∧ t = .int .u32 (Crc.run s0 ((L.take k).flatten) : Nat)) (fun _ i => n - (intOf i).toNat)
  case atStart => exact ⟨0, by omega, rfl, rfl⟩
  case round =>
    obtain ⟨k, hk, rfl, rfl⟩ := hrel
    by_cases hlt : k < n
    · obtain ⟨ad, A', c', rfl, hb, hc, hl, hm, hr⟩ := hL.row k hlt
      have HS : Hid (Crc.run s0 ((L.take (k + 1)).flatten) = Crc.run (Crc.run s0 ((L.take k).flatten)) (L.getD k [])) := more_loop_out s0 L k (by omega)
      have hz := Crc.run_lt ((L.take k).flatten) ho
      generalize Crc.run s0 ((L.take k).flatten) = z at *
      generalize L.getD k [] = l at *
      unfold maxLen at hm
      go_wp2
      go_loop [5, 20] (fun t i => ∃ m : Nat, m ≤ l.length ∧ i = .int .i64 m ∧ t = .int .u32 (Crc.run z (l.take m) : Nat)) (fun _ i => l.length - (intOf i).toNat)
      case atStart => exact ⟨0, by omega, rfl, rfl⟩
      case round =>
        obtain ⟨m, hml, rfl, rfl⟩ := hrel
        by_cases hlt2 : m < l.length
        · obtain ⟨ad', rfl, hb', hc'⟩ := hr.at_ hlt2
          have HI : Hid (Crc.run z (l.take (m + 1)) = Crc.upd (Crc.run z (l.take m)) (l.getD m 0)) := more_loop_in z l m hlt2
          have hy := Crc.run_lt (l.take m) hz
          have hu := (l.getD m 0).toNat_lt
          have hxx : bits .xor .u32 (Crc.run z (l.take m) : Nat) ((l.getD m 0).toNat : Int) = ((Crc.run z (l.take m) ^^^ (l.getD m 0).toNat : Nat) : Int) := u32_xor_nat _ _ hy (by omega)
          have hxl : Crc.run z (l.take m) ^^^ (l.getD m 0).toNat < 4294967296 := Nat.xor_lt_two_pow (n := 32) (by omega) (by omega)
          have HI2 : Hid (Crc.run z (l.take (m + 1)) = Crc.zn 8 (Crc.run z (l.take m) ^^^ (l.getD m 0).toNat)) := HI
          clear HI
          generalize Crc.run z (l.take m) ^^^ (l.getD m 0).toNat = y2 at *
          generalize Crc.run z (l.take m) = y at *
          generalize (l.getD m 0).toNat = bt at *
          go_wp2_with (go_at_call 111; refine (shiftByte_any _ _ hxl).mono ?_; rintro e w' ⟨rfl, rfl⟩)
          go_round
          case rel => exact ⟨m + 1, by omega, by go_num, by rw [HI2.out]⟩
          case measure => simp [intOf]; omega
        · obtain rfl : m = l.length := by omega
          have HI : Hid (Crc.run z (l.take l.length) = Crc.run s0 ((L.take (k + 1)).flatten)) := by rw [List.take_length, HS.out]; rfl
          go_wp2
          go_round
          case rel => exact ⟨k + 1, by omega, by go_num, by rw [HI.out]⟩
          case measure => simp [intOf]; omega
    · obtain rfl : k = n := by omega
      have HT : Hid (Crc.run s0 ((L.take k).flatten) = Crc.run s0 L.flatten) := by rw [List.take_of_length_le (by omega)]; rfl
      have hz := Crc.run_lt ((L.take k).flatten) ho
      have hxx : bits .xor .u32 IntKind.u32.max (Crc.run s0 ((L.take k).flatten) : Nat) = ((Crc.ones ^^^ Crc.run s0 ((L.take k).flatten) : Nat) : Int) := u32_xor_nat 4294967295 _ (by omega) hz
      go_wp2
      go_ret
      exact ⟨ret_num (by rw [HT.out, Hfin.out]), rfl⟩

theorem sum_any (A : Option Addr) (n c : Nat) (L : List (List UInt8)) (B : Nat) (w : World) (hL : Rs w B A n L) (hn : n ≤ maxLen) :
    Calls Try.prog 41 #[.slice A n c] w fun e w' => e = .returned (.int .u32 (Crc.crc L.flatten : Nat)) ∧ w = w' := by
  go_enter Try.func41, Try.ntmps41
  go_wp2_with (go_at_call 42; refine (more_any 0 _ _ _ L B _ (by omega) hL hn).mono ?_; rintro e w' ⟨rfl, rfl⟩)
  go_ret
  exact ⟨rfl, rfl⟩
end Go.Proofs.Ythkkjefcdedlfaa
