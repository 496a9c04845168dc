/-
  What position.unsigned does.
-/
import Derived.Test.YtniopekkfnkipaaWireNumW
namespace Go.Proofs.Ytniopekkfnkipaa
open Go.RowKit
set_option linter.unusedVariables false
set_option linter.unusedSimpArgs false

theorem or_fits (acc b i : Nat) (hacc : acc < 128 ^ i) (hs : acc + 128 ^ i * b < 18446744073709551616) : bits .or .u64 (acc : Int) ((b : Int) * 2 ^ (7 * i)) = ((acc + 128 ^ i * b : Nat) : Int) := by
  have e : ((b : Int) * 2 ^ (7 * i)) = ((128 ^ i * b : Nat) : Int) := by
    rw [pow128]
    push_cast
    rw [Int.mul_comm]
  rw [e, u64_or_nat acc (128 ^ i * b) (by omega) (by omega), Nat.or_comm, nat_join (7 * i) (128 ^ i * b) acc (by rw [pow128]; exact Nat.mul_mod_right _ _) (by rw [← pow128]; exact hacc), Nat.add_comm]

theorem or_wrap (acc b k : Nat) (hacc : acc < 128 ^ k) (hs : acc + 128 ^ k * (b % 128) < 18446744073709551616) : bits .or .u64 (acc : Int) (IntKind.u64.wrap ((b : Int) % 128 * 2 ^ (7 * k))) = ((acc + 128 ^ k * (b % 128) : Nat) : Int) := by
  have e : ((b : Int) % 128 * 2 ^ (7 * k)) = ((b % 128 : Nat) : Int) * 2 ^ (7 * k) := by simp
  have e2 : ((b % 128 : Nat) : Int) * 2 ^ (7 * k) = ((128 ^ k * (b % 128) : Nat) : Int) := by
    rw [pow128]
    push_cast
    rw [Int.mul_comm]
  have e3 : IntKind.u64.wrap (((b % 128 : Nat) : Int) * 2 ^ (7 * k)) = ((b % 128 : Nat) : Int) * 2 ^ (7 * k) := by
    rw [e2]
    have : 128 ^ k * (b % 128) < 18446744073709551616 := by omega
    generalize 128 ^ k * (b % 128) = y at *
    simp only [IntKind.wrap, IntKind.bits, IntKind.signed]
    simp
    omega
  rw [e, e3]
  exact or_fits acc (b % 128) k hacc hs

section
variable {l : List UInt8} {p k acc : Nat} {bb : UInt8} {r : List UInt8} {x : Option (Nat × Nat)}
theorem num_bad (h : x = (Wn.numF (10 - k) k (bb :: r)).map (fun x => (acc + 128 ^ k * x.1, x.2 + k))) (hk : k < 10) (hb : bb.toNat < 128) (hbad : (0 < k ∧ bb.toNat = 0) ∨ (k = 9 ∧ 1 < bb.toNat)) : x = none := by
  rw [h, show 10 - k = (9 - k) + 1 from by omega]
  simp only [Wn.numF]
  rw [if_pos hb, if_pos hbad]
  rfl
theorem num_ok (h : x = (Wn.numF (10 - k) k (bb :: r)).map (fun x => (acc + 128 ^ k * x.1, x.2 + k))) (hk : k < 10) (hb : bb.toNat < 128) (hbad : ¬ ((0 < k ∧ bb.toNat = 0) ∨ (k = 9 ∧ 1 < bb.toNat))) : x = some (acc + 128 ^ k * bb.toNat, 1 + k) := by
  rw [h, show 10 - k = (9 - k) + 1 from by omega]
  simp only [Wn.numF]
  rw [if_pos hb, if_neg hbad]
  rfl
theorem num_more (h : x = (Wn.numF (10 - k) k (bb :: r)).map (fun x => (acc + 128 ^ k * x.1, x.2 + k))) (hk : k < 10) (hb : ¬ bb.toNat < 128) : x = (Wn.numF (10 - (k + 1)) (k + 1) r).map (fun x => (acc + 128 ^ k * (bb.toNat % 128) + 128 ^ (k + 1) * x.1, x.2 + (k + 1))) := by
  have hb2 := bb.toNat_lt
  rw [h, show 10 - k = (9 - k) + 1 from by omega, show 10 - (k + 1) = 9 - k from by omega]
  simp only [Wn.numF]
  rw [if_neg hb, Option.map_map]
  congr 1
  funext y
  simp only [Function.comp]
  have e : bb.toNat - 128 = bb.toNat % 128 := by omega
  rw [e, Nat.mul_add, Nat.pow_succ, Nat.mul_assoc, Nat.add_assoc, Nat.add_assoc, Nat.add_comm 1 k]
end

set_option maxRecDepth 100000 in
set_option maxHeartbeats 2000000 in
theorem unsigned_any (g c p err : Nat) (A : Option Addr) (l : List UInt8) (w : World) (h : Rd w g A c l p err) :
    Calls Try.prog 72 #[.pointer (some ⟨g, 0, none⟩)] w (UPost w g c err A l p (Wn.num (l.drop p))) := by
  have hsm := h.small
  go_enter Try.func72, Try.ntmps72
  go_wp2_with fail
  go_loopw [4, 8] (fun s i wr => ∃ k : Nat, ∃ acc : Nat, k ≤ 10 ∧ p + k ≤ l.length ∧ i = .int .i64 k ∧ ((s = .int .u64 (acc : Int) ∧ acc < 128 ^ k) ∨ k = 10) ∧
    Wn.num (l.drop p) = (Wn.numF (10 - k) k (l.drop (p + k))).map (fun x => (acc + 128 ^ k * x.1, x.2 + k)) ∧ Rd wr g A c l (p + k) err ∧ w.grownBy wr (some g)) (fun _ i _ => 10 - (intOf i).toNat)
  case atStart => exact ⟨0, 0, by omega, h.pos, rfl, .inl ⟨rfl, by omega⟩, by simp [Wn.num], h, World.grownBy.refl _ _⟩
  case round =>
    obtain ⟨k, acc, hk, hpk, rfl, hs, hnum, hrd, hg⟩ := hrel
    have HNUM := Lib.hid hnum
    clear hnum h
    rcases Nat.lt_or_ge k 10 with hlt | hge
    · obtain ⟨rfl, hacc⟩ : u4 = .int .u64 (acc : Int) ∧ acc < 128 ^ k := by
        rcases hs with hs | hs
        · exact hs
        · omega
      clear hs
      rcases Nat.lt_or_ge (p + k) l.length with hin | hout
      · have HOC := Lib.hid (octet_yes g c (p + k) err A l wr hrd hin)
        have HD := Lib.hid (drop_get l (p + k) hin)
        rw [HD.out] at HNUM
        have hb := (l.getD (p + k) 0).toNat_lt
        generalize hbb : l.getD (p + k) 0 = bb at *
        clear hbb HD
        have HG := Lib.hid hg
        clear hrd hg
        by_cases hsmall : bb.toNat < 128
        · by_cases hbad : (0 < k ∧ bb.toNat = 0) ∨ (k = 9 ∧ 1 < bb.toNat)
          · have HLG := Lib.hid fun W => lastGroup_bad k bb.toNat W (by omega) hsmall hbad
            have HX := Lib.hid (num_bad HNUM.out hlt hsmall hbad)
            clear hbad HNUM
            generalize bb.toNat = b at *
            go_wp2_with fail
            refine HOC.out.mono ?_
            rintro e w2 ⟨rfl, hrd2, hg2⟩
            go_wp2_with fail
            refine (HLG.out _).mono ?_
            rintro e w3 ⟨rfl, rfl⟩
            go_wp2_with fail
            go_ret2
            rw [HX.out]
            exact ⟨_, _, rfl, hrd2, grown_trans HG.out hg2⟩
          · have HLG := Lib.hid fun W => lastGroup_ok k bb.toNat W (by omega) hsmall hbad
            have HX := Lib.hid (num_ok HNUM.out hlt hsmall hbad)
            have hlt64 : acc + 128 ^ k * (bb.toNat % 128) < 18446744073709551616 := by
              rcases Nat.lt_or_ge k 9 with h9 | h9
              · exact (or_group acc (bb.toNat % 128) k (by omega) hacc (by omega)).2.2
              · obtain rfl : k = 9 := by omega
                have h1 : bb.toNat % 128 ≤ 1 := by omega
                have h2 : (128 : Nat) ^ 9 * (bb.toNat % 128) ≤ 128 ^ 9 * 1 := Nat.mul_le_mul_left _ h1
                have e : (128 : Nat) ^ 9 = 9223372036854775808 := by decide
                omega
            have hor := or_wrap acc bb.toNat k hacc hlt64
            have HE : Hid (acc + 128 ^ k * (bb.toNat % 128) = acc + 128 ^ k * bb.toNat) := by rw [Nat.mod_eq_of_lt hsmall]; rfl
            clear hbad HNUM
            generalize hvv : acc + 128 ^ k * (bb.toNat % 128) = vv at *
            have HV := Lib.hid hvv
            clear hvv
            generalize hbx : bb.toNat = b at *
            have HB := Lib.hid hbx
            clear hbx
            go_wp2_with fail
            refine HOC.out.mono ?_
            rintro e w2 ⟨rfl, hrd2, hg2⟩
            go_wp2_with fail
            refine (HLG.out _).mono ?_
            rintro e w3 ⟨rfl, rfl⟩
            go_wp2_with fail
            go_ret2
            rw [HX.out]
            exact ⟨by rw [← HE.out]; rfl, by rw [Nat.add_comm 1 k, ← Nat.add_assoc]; exact hrd2, grown_trans HG.out hg2⟩
        · have HX := Lib.hid (num_more HNUM.out hlt hsmall)
          rcases Nat.lt_or_ge k 9 with h9 | h9
          · obtain ⟨_, hsum, hbd⟩ := or_group acc (bb.toNat % 128) k (by omega) hacc (by omega)
            have hor := or_wrap acc bb.toNat k hacc hbd
            have hsmall' : 128 ≤ bb.toNat := by omega
            clear hsmall HNUM
            have HSUM := Lib.hid hsum
            generalize hvv : acc + 128 ^ k * (bb.toNat % 128) = vv at *
            have HV := Lib.hid hvv
            clear hvv hsum
            generalize hbx : bb.toNat = b at *
            have HB := Lib.hid hbx
            clear hbx
            go_wp2_with fail
            refine HOC.out.mono ?_
            rintro e w2 ⟨rfl, hrd2, hg2⟩
            go_wp2_with fail
            go_roundw
            case rel => exact ⟨k + 1, vv, by omega, by omega, by go_num, .inl ⟨rfl, HSUM.out⟩, HX.out, by rw [← Nat.add_assoc]; exact hrd2, grown_trans HG.out hg2⟩
            case measure => simp [intOf]; omega
          · have hsmall' : 128 ≤ bb.toNat := by omega
            have HK : Hid (k + 1 = 10) := by show _ = _; omega
            clear hsmall HNUM
            generalize hvv : acc + 128 ^ k * (bb.toNat % 128) = vv at *
            have HV := Lib.hid hvv
            clear hvv
            generalize hbx : bb.toNat = b at *
            have HB := Lib.hid hbx
            clear hbx
            go_wp2_with fail
            refine HOC.out.mono ?_
            rintro e w2 ⟨rfl, hrd2, hg2⟩
            go_wp2_with fail
            go_roundw
            case rel => exact ⟨k + 1, vv, by omega, by omega, by go_num, .inr HK.out, HX.out, by rw [← Nat.add_assoc]; exact hrd2, grown_trans HG.out hg2⟩
            case measure => simp [intOf]; omega
      · have hpl : p + k = l.length := by omega
        have HX : Hid (Wn.num (l.drop p) = none) := by
          rw [HNUM.out, hpl, List.drop_length, numF_nil]
          rfl
        rw [hpl] at hrd
        have HOC := Lib.hid (octet_no g c err A l wr hrd)
        clear hpl HNUM
        go_wp2_with fail
        refine HOC.out.mono ?_
        rintro e w2 ⟨rfl, q, rfl⟩
        go_wp2_with fail
        go_ret2
        rw [HX.out]
        exact ⟨_, _, rfl, hrd.drewN q, grown_trans hg (grown_draws _ _ _)⟩
    · have hk10 : k = 10 := by omega
      have HX : Hid (Wn.num (l.drop p) = none) := by
        rw [HNUM.out, hk10]
        rfl
      have hlt' : ¬ k < 10 := by omega
      clear HNUM hk10 hs
      go_wp2_with fail
      go_ret2
      rw [HX.out]
      exact ⟨_, _, rfl, hrd, hg⟩
end Go.Proofs.Ytniopekkfnkipaa
