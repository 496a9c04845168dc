/-
  What position.signed, octet, flag, size and text do.
-/
import Derived.Test.YtniopekkfnkipaaWireUint
import Derived.Laws.BitsAllLaws
namespace Go.Proofs.Ytniopekkfnkipaa
open Go.RowKit
set_option linter.unusedVariables false
set_option linter.unusedSimpArgs false

theorem i64_xor_zero (m : Nat) (h : m < 9223372036854775808) : bits .xor .i64 (m : Int) 0 = (m : Int) := by
  show IntKind.i64.wrap ((BitVec.ofInt 64 (m : Int) ^^^ BitVec.ofInt 64 0).toNat : Int) = _
  rw [BitVec.toNat_xor, ofInt_u64 m (by omega), show (BitVec.ofInt 64 0).toNat = 0 from by decide, Nat.xor_zero, IntKind.wrap_i64]
  omega
theorem i64_xor_ones (m : Nat) (h : m < 9223372036854775808) : bits .xor .i64 (m : Int) (-1) = -(m : Int) - 1 := by
  show IntKind.i64.wrap ((BitVec.ofInt 64 (m : Int) ^^^ BitVec.ofInt 64 (-1)).toNat : Int) = _
  have e : m ^^^ 18446744073709551615 = 18446744073709551615 - m := by
    have e := congrArg BitVec.toNat (BitVec.xor_allOnes (x := BitVec.ofNat 64 m))
    rw [BitVec.toNat_xor, BitVec.toNat_not, BitVec.toNat_allOnes, BitVec.toNat_ofNat, Nat.mod_eq_of_lt (show m < 2 ^ 64 from by omega)] at e
    simpa using e
  rw [BitVec.toNat_xor, ofInt_u64 m (by omega), show (BitVec.ofInt 64 (-1)).toNat = 18446744073709551615 from by decide, e, IntKind.wrap_i64]
  omega
theorem zag_bits (x : Nat) (h : x < 18446744073709551616) : bits .xor .i64 ((x : Int) / 2) (wrap64 (-wrap64 (bits .and .u64 (x : Int) 1))) = Wn.zag x := by
  have e1 : bits .and .u64 (x : Int) 1 = ((x % 2 : Nat) : Int) := by
    rw [show (1 : Int) = ((1 : Nat) : Int) from rfl, u64_and_nat x 1 h (by omega), Nat.and_one_is_mod]
  have e2 : (x : Int) / 2 = ((x / 2 : Nat) : Int) := by simp
  rw [e1, e2]
  unfold Wn.zag
  rcases Nat.mod_two_eq_zero_or_one x with he | he
  · rw [he, if_neg (by omega), show wrap64 (-wrap64 ((0 : Nat) : Int)) = 0 from by simp [wrap64]]
    exact i64_xor_zero _ (by omega)
  · rw [he, if_pos rfl, show wrap64 (-wrap64 ((1 : Nat) : Int)) = -1 from by simp [wrap64]]
    exact i64_xor_ones _ (by omega)

def dInt (l : List UInt8) (p : Nat) : Dr := match Wn.num (l.drop p) with
  | some x => .ok (.int .i64 (Wn.zag x.1)) (p + x.2)
  | none => .bad 6

set_option maxHeartbeats 1000000 in
theorem signed_d (g c p err : Nat) (A : Option Addr) (l : List UInt8) (w : World) (h : Rd w g A c l p err) :
    Calls Try.prog 79 #[.pointer (some ⟨g, 0, none⟩)] w (DPost w g c err A l (dInt l p)) := by
  have HU := Lib.hid (unsigned_any g c p err A l w h)
  unfold dInt
  have HLT : Hid (∀ x, Wn.num (l.drop p) = some x → x.1 < 18446744073709551616) := fun x hx => Wn.num_lt hx
  generalize Wn.num (l.drop p) = r at *
  go_enter Try.func79, Try.ntmps79
  go_wp2_with fail
  refine HU.out.mono ?_
  intro e w1 hp
  cases r with
  | some x =>
    obtain ⟨rfl, hr, hg⟩ := hp
    have HR := Lib.hid hr
    clear hr
    obtain ⟨x, k⟩ := x
    have hlt : x < 18446744073709551616 := HLT.out _ rfl
    have HZ := Lib.hid (zag_bits x hlt)
    clear HLT HU h
    simp only at HR ⊢
    go_wp2_with fail
    go_ret2
    exact ⟨by rw [← HZ.out]; rfl, HR.out, hg⟩
  | none =>
    obtain ⟨y, q, rfl, hr, hg⟩ := hp
    have HR := Lib.hid hr
    clear hr
    go_wp2_with fail
    go_ret2
    exact ⟨_, q, rfl, by omega, HR.out, hg⟩

def dByte (l : List UInt8) (p : Nat) : Dr := if p < l.length then .ok (.int .i64 ((l.getD p 0).toNat : Int)) (p + 1) else .bad 6
theorem octet_d (g c p err : Nat) (A : Option Addr) (l : List UInt8) (w : World) (h : Rd w g A c l p err) :
    Calls Try.prog 58 #[.pointer (some ⟨g, 0, none⟩)] w (DPost w g c err A l (dByte l p)) := by
  unfold dByte
  by_cases hp : p < l.length
  · rw [if_pos hp]
    exact octet_yes g c p err A l w h hp
  · rw [if_neg hp]
    have e : p = l.length := by have := h.pos; omega
    subst e
    refine (octet_no g c err A l w h).mono ?_
    rintro e w1 ⟨rfl, k, rfl⟩
    exact ⟨_, _, rfl, by omega, h.drewN k, grown_draws _ _ _⟩

def dFlag (l : List UInt8) (p : Nat) : Dr := if p < l.length then (if (l.getD p 0).toNat ≤ 1 then .ok (.bool (((l.getD p 0).toNat : Int) == 1)) (p + 1) else .bad 6) else .bad 6
set_option maxHeartbeats 1000000 in
theorem flag_d (g c p err : Nat) (A : Option Addr) (l : List UInt8) (w : World) (h : Rd w g A c l p err) :
    Calls Try.prog 82 #[.pointer (some ⟨g, 0, none⟩)] w (DPost w g c err A l (dFlag l p)) := by
  unfold dFlag
  by_cases hp : p < l.length
  · rw [if_pos hp]
    have HO := Lib.hid (octet_yes g c p err A l w h hp)
    have hb := (l.getD p 0).toNat_lt
    generalize (l.getD p 0).toNat = b at *
    by_cases h1 : b ≤ 1
    · rw [if_pos h1]
      go_enter Try.func82, Try.ntmps82
      go_wp2_with fail
      refine HO.out.mono ?_
      rintro e w1 ⟨rfl, hr, hg⟩
      have HR := Lib.hid hr
      clear hr HO
      have hle : ¬ (1 : Int) < (b : Int) := by omega
      go_wp2_with fail
      go_ret2
      exact ⟨rfl, HR.out, hg⟩
    · rw [if_neg h1]
      go_enter Try.func82, Try.ntmps82
      go_wp2_with fail
      refine HO.out.mono ?_
      rintro e w1 ⟨rfl, hr, hg⟩
      have HR := Lib.hid hr
      clear hr HO
      have hlt : 1 < b := by omega
      go_wp2_with fail
      go_ret2
      exact ⟨_, _, rfl, by omega, HR.out, hg⟩
  · rw [if_neg hp]
    have e : p = l.length := by have := h.pos; omega
    subst e
    have HO := Lib.hid (octet_no g c err A l w h)
    go_enter Try.func82, Try.ntmps82
    go_wp2_with fail
    refine HO.out.mono ?_
    rintro e w1 ⟨rfl, k, rfl⟩
    go_wp2_with fail
    go_ret2
    exact ⟨_, _, rfl, by omega, h.drewN k, grown_draws _ _ _⟩

def dSize (l : List UInt8) (p : Nat) (most : Int) : Dr := match Wn.num (l.drop p) with
  | some x => if most.toNat < x.1 then .bad 7 else .ok (.int .u64 (x.1 : Int)) (p + x.2)
  | none => .bad 6
set_option maxHeartbeats 1000000 in
theorem size_d (g c p err : Nat) (A : Option Addr) (l : List UInt8) (most : Int) (w : World) (h : Rd w g A c l p err) (hm1 : -9223372036854775808 ≤ most) (hm2 : most ≤ 9223372036854775807) :
    Calls Try.prog 86 #[.pointer (some ⟨g, 0, none⟩), .int .i64 most] w (DPost w g c err A l (dSize l p most)) := by
  have HU := Lib.hid (unsigned_any g c p err A l w h)
  unfold dSize
  have HLT : Hid (∀ x, Wn.num (l.drop p) = some x → x.1 < 18446744073709551616) := fun x hx => Wn.num_lt hx
  generalize Wn.num (l.drop p) = r at *
  clear h
  cases r with
  | some x =>
    obtain ⟨x, k⟩ := x
    have hlt : x < 18446744073709551616 := HLT.out _ rfl
    clear HLT
    simp only
    by_cases hm0 : 0 ≤ most
    · obtain ⟨m, rfl⟩ : ∃ m : Nat, most = (m : Int) := ⟨most.toNat, by omega⟩
      rw [Int.toNat_natCast]
      by_cases hc : m < x
      · rw [if_pos hc]
        go_enter Try.func86, Try.ntmps86
        go_wp2_with fail
        refine HU.out.mono ?_
        rintro e w1 ⟨rfl, hr, hg⟩
        have HR := Lib.hid hr
        clear hr HU
        go_wp2_with fail
        go_ret2
        exact ⟨_, _, rfl, by omega, HR.out, hg⟩
      · rw [if_neg hc]
        go_enter Try.func86, Try.ntmps86
        go_wp2_with fail
        refine HU.out.mono ?_
        rintro e w1 ⟨rfl, hr, hg⟩
        have HR := Lib.hid hr
        clear hr HU
        go_wp2_with fail
        go_ret2
        exact ⟨rfl, HR.out, hg⟩
    · rw [show most.toNat = 0 from by omega]
      by_cases hc : 0 < x
      · rw [if_pos hc]
        go_enter Try.func86, Try.ntmps86
        go_wp2_with fail
        refine HU.out.mono ?_
        rintro e w1 ⟨rfl, hr, hg⟩
        have HR := Lib.hid hr
        clear hr HU
        go_wp2_with fail
        go_ret2
        exact ⟨_, _, rfl, by omega, HR.out, hg⟩
      · rw [if_neg hc]
        obtain rfl : x = 0 := by omega
        go_enter Try.func86, Try.ntmps86
        go_wp2_with fail
        refine HU.out.mono ?_
        rintro e w1 ⟨rfl, hr, hg⟩
        have HR := Lib.hid hr
        clear hr HU
        go_wp2_with fail
        go_ret2
        exact ⟨rfl, HR.out, hg⟩
  | none =>
    simp only
    go_enter Try.func86, Try.ntmps86
    go_wp2_with fail
    refine HU.out.mono ?_
    rintro e w1 ⟨y, q, rfl, hr, hg⟩
    have HR := Lib.hid hr
    clear hr HU
    go_wp2_with fail
    go_ret2
    exact ⟨_, q, rfl, by omega, HR.out, hg⟩

def dText (l : List UInt8) (p : Nat) (most : Int) : Dr := match Wn.num (l.drop p) with
  | some x => if most.toNat < x.1 then .bad 7 else if l.length - (p + x.2) < x.1 then .bad 6 else .ok (.string ⟨((l.drop (p + x.2)).take x.1).toArray⟩) (p + x.2 + x.1)
  | none => .bad 6
set_option maxHeartbeats 1000000 in
theorem text_d (g c p err : Nat) (A : Option Addr) (l : List UInt8) (most : Int) (w : World) (h : Rd w g A c l p err) (hm1 : -9223372036854775808 ≤ most) (hm2 : most ≤ 9223372036854775807) :
    Calls Try.prog 85 #[.pointer (some ⟨g, 0, none⟩), .int .i64 most] w (DPost w g c err A l (dText l p most)) := by
  have HS := Lib.hid (size_d g c p err A l most w h hm1 hm2)
  unfold dSize at HS
  unfold dText
  have hsm := h.small
  have HLE : Hid (∀ x, Wn.num (l.drop p) = some x → x.2 ≤ l.length - p) := fun x hx => by have := (Wn.num_le hx).1; rw [List.length_drop] at this; exact this
  have HPOS := Lib.hid h.pos
  generalize Wn.num (l.drop p) = r at *
  clear h
  cases r with
  | some x =>
    obtain ⟨x, k⟩ := x
    have hke : k ≤ l.length - p := HLE.out _ rfl
    clear HLE
    simp only at HS ⊢
    by_cases hc : most.toNat < x
    · rw [if_pos hc] at HS ⊢
      go_enter Try.func85, Try.ntmps85
      go_wp2_with fail
      refine HS.out.mono ?_
      rintro e w1 ⟨y, q, rfl, her, hr, hg⟩
      have HR := Lib.hid hr
      clear hr HS
      go_wp2_with fail
      go_ret2
      exact ⟨_, _, rfl, by omega, HR.out, hg⟩
    · rw [if_neg hc] at HS ⊢
      by_cases hx : l.length - (p + k) < x
      · rw [if_pos hx]
        go_enter Try.func85, Try.ntmps85
        go_wp2_with fail
        refine HS.out.mono ?_
        rintro e w1 ⟨rfl, hr, hg⟩
        have HL := Lib.hid (left_any g c (p + k) err A l w1 hr)
        have HR := Lib.hid hr
        generalize hL : l.length - (p + k) = L at *
        have hLs : L ≤ 1099511627776 := by omega
        clear hr HS hL
        go_wp2_with fail
        refine HL.out.mono ?_
        rintro e w2 ⟨rfl, n2, rfl⟩
        clear HL
        go_wp2_with fail
        go_ret2
        exact ⟨_, _, rfl, by omega, HR.out.drewN n2, grown_trans hg (grown_draws _ _ _)⟩
      · rw [if_neg hx]
        have hfit : p + k + x ≤ l.length := by have := HPOS.out; omega
        have hxs : x ≤ 1099511627776 := by omega
        go_enter Try.func85, Try.ntmps85
        go_wp2_with fail
        refine HS.out.mono ?_
        rintro e w1 ⟨rfl, hr, hg⟩
        have HL := Lib.hid (left_any g c (p + k) err A l w1 hr)
        have HC := Lib.hid fun n2 => cut_any g c (p + k) err x A l (w1.drewN n2) (hr.drewN n2) hfit
        generalize hL : l.length - (p + k) = L at *
        have hLs : L ≤ 1099511627776 := by omega
        clear hr HS hL hfit
        go_wp2_with fail
        refine HL.out.mono ?_
        rintro e w2 ⟨rfl, n2, rfl⟩
        clear HL
        go_wp2_with fail
        refine (HC.out n2).mono ?_
        rintro e w3 ⟨A', c', rfl, hc1, hc2, hbs, hrd, hg3⟩
        have s1 := hbs.str (P := Try.prog) (src := 25) (dst := 9) (e := 5) Try.underlying25 Try.underlying5 Try.underlying9 c'
        have HR := Lib.hid hrd
        have HG := Lib.hid (grown_trans (grown_trans hg (grown_draws _ n2 _)) hg3)
        clear hrd hg3 hbs HC hg
        go_wp2_with fail
        go_ret2
        exact ⟨rfl, HR.out, HG.out⟩
  | none =>
    simp only at HS ⊢
    go_enter Try.func85, Try.ntmps85
    go_wp2_with fail
    refine HS.out.mono ?_
    rintro e w1 ⟨y, q, rfl, her, hr, hg⟩
    have HR := Lib.hid hr
    clear hr HS
    go_wp2_with fail
    go_ret2
    exact ⟨_, _, rfl, by omega, HR.out, hg⟩
end Go.Proofs.Ytniopekkfnkipaa
