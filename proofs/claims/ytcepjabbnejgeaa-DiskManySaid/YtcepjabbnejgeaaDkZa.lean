/-
  DiskMany.
-/
import Derived.Test.YtcepjabbnejgeaaDkZb
namespace Go.Proofs.Ytcepjabbnejgeaa
open Go.RowKit Go.Lib Go.Sort Go.Maps
set_option linter.unusedVariables false
set_option linter.unusedSimpArgs false

set_option maxRecDepth 100000 in
set_option maxHeartbeats 8000000 in
theorem diskMany_any (n : Int) (w : World) (n1 : -9223372036854775808 ≤ n) (n2 : n ≤ 9223372036854775807) : Calls Try.prog 9 #[.int .i64 n] w fun e w' => e = .returned (.bool true) ∧ Below w.heap.size w w' := by
  have HN : Hid (∀ W, Calls Try.prog 14 #[.int .i64 1000] W fun e w' => ∃ d, e = .returned (.tuple #[.pointer (some ⟨d, 0, none⟩), .int .i64 0]) ∧ Aw W w' d (manyP 0) []) := fun W => (new_any4 1000 W).mono fun e w' h => by
    rw [if_neg (by omega)] at h
    obtain ⟨⟨d, he, hd, hk⟩, hb⟩ := h
    exact ⟨d, he, _, hk, rfl, hb, fun x hx => by cases hx⟩
  have HAW := Lib.hid awake4_any
  obtain ⟨t, ht⟩ : ∃ t, Int.tmod n 20 = t := ⟨_, rfl⟩
  have ht1 : -19 ≤ t ∧ t ≤ 19 := by
    have h1 := Int.natAbs_tmod n 20
    rw [ht] at h1
    have h2 : (20 : Int).natAbs = 20 := rfl
    rw [h2] at h1
    have h3 := Nat.mod_lt n.natAbs (show 0 < 20 by decide)
    omega
  obtain ⟨N, hN⟩ : ∃ N : Nat, 128 + t = (N : Int) := ⟨(128 + t).toNat, by omega⟩
  have ew : IntKind.i64.wrap (128 + t) = (N : Int) := by rw [IntKind.wrap_i64]; omega
  have kc := fun (w : World) (C : Array Value) (n c : Nat) => Lib.run_convert_bytes_const (P := Try.prog) w 36 5 C n c Try.underlying36 Try.underlying5
  have kc2 : ∀ (W : World) (C0 C : Array Value) (fr : Nat × Nat) (n c : Nat), (convert 36 36 (.slice (some ⟨W.heap.size + 1, 0, none⟩) n c)).run Try.prog ((W.alloc (.cells C0 5 fr)).alloc (.cells C 5)) = .ok (.slice (some ⟨W.heap.size + 1, 0, none⟩) n c) ((W.alloc (.cells C0 5 fr)).alloc (.cells C 5 (C.size, C.size + 1))) := fun W C0 C fr n c => by
    have := kc (W.alloc (.cells C0 5 fr)) C n c
    rwa [show (W.alloc (.cells C0 5 fr)).heap.size = W.heap.size + 1 by simp] at this
  go_enter Try.func9, Try.ntmps9
  go_wp2_with (go_at_call 14; (with_reducible refine (HN.out _).mono ?_); rintro e w2 ⟨d, rfl, ha2⟩; have HA2 := Lib.hid ha2; clear ha2)
  go_loopw [5] (fun iv wr => ∃ k : Nat, k ≤ N ∧ iv = .int .i64 k ∧ Hid (Aw w wr d (manyP (min k 128)) [])) (fun iv _ => N - (RowKit.intOf iv).toNat)
  case atStart => exact ⟨0, by omega, rfl, HA2.out⟩
  case round =>
    obtain ⟨k, hk, rfl, HK⟩ := hrel
    by_cases hlt : k < N
    · have hk2 : k ≤ 146 := by omega
      have e1 : Int.tdiv (k : Int) 26 = ((k / 26 : Nat) : Int) := rfl
      have e2 : Int.tmod (k : Int) 26 = ((k % 26 : Nat) : Int) := rfl
      obtain ⟨b1, hb1⟩ : ∃ b : UInt8, 97 + k / 26 = b.toNat := ⟨UInt8.ofNat (97 + k / 26), by simp; omega⟩
      obtain ⟨b2, hb2⟩ : ∃ b : UInt8, 97 + k % 26 = b.toNat := ⟨UInt8.ofNat (97 + k % 26), by simp; omega⟩
      have q1 : 97 + (k : Int) / 26 = (b1.toNat : Int) := by omega
      have q2 : 97 + (k : Int) % 26 = (b2.toNat : Int) := by omega
      have hnm : Hid ((⟨#[102]⟩ ++ ⟨#[b1, b2]⟩ : ByteArray) = nmM k) := by
        unfold nmM
        rw [Hid, show (⟨#[102]⟩ ++ ⟨#[b1, b2]⟩ : ByteArray) = ⟨#[102, b1, b2]⟩ from ByteArray.ext (by rw [ByteArray.data_append]; rfl), show UInt8.ofNat (97 + k / 26) = b1 by rw [hb1]; simp, show UInt8.ofNat (97 + k % 26) = b2 by rw [hb2]; simp]
      have hstr : ∀ W : World, (convert 36 9 (.slice (some ⟨W.heap.size, 0, none⟩) 2 2)).run Try.prog (W.alloc (.cells #[.int .u8 (97 + (k : Int) / 26), .int .u8 (97 + (k : Int) % 26)] 5)) = .ok (.string ⟨#[b1, b2]⟩) (W.alloc (.cells #[.int .u8 (97 + (k : Int) / 26), .int .u8 (97 + (k : Int) % 26)] 5)) := fun W => by
        rw [q1, q2]
        have h1 : Bs (W.alloc (.cells #[.int .u8 (b1.toNat : Int), .int .u8 (b2.toNat : Int)] 5)) (W.heap.size + 1) (some ⟨W.heap.size, 0, none⟩) 2 [b1, b2] := bs_at (l := [b1, b2]) (heap_alloc_new W _) (by omega) rfl
        exact h1.str (P := Try.prog) (src := 36) (dst := 9) (e := 5) Try.underlying36 Try.underlying5 Try.underlying9 2
      clear q1 q2 hb1 hb2
      have HK2 := Lib.hid (HK.out.next ((Below.refl wr.heap.size wr).alloc (Nat.le_refl _) (.cells #[.int .u8 (97 + (k : Int) / 26), .int .u8 (97 + (k : Int) % 26)] 5)))
      have d1 : decide ((k : Int) < (N : Int)) = true := by rw [decide_eq_true_iff]; omega
      have d1' : decide (k < N) = true := decide_eq_true hlt
      by_cases h128 : k < 128
      · have d2 : decide ((128 : Int) ≤ (k : Int)) = false := by rw [decide_eq_false_iff_not]; omega
        have d2' : decide (128 ≤ k) = false := by rw [decide_eq_false_iff_not]; omega
        have HAP : Hid (Calls Try.prog 18 #[.pointer (some ⟨d, 0, none⟩), .string (⟨#[102]⟩ ++ ⟨#[b1, b2]⟩), .slice (some ⟨wr.heap.size + 1 + 1, 0, none⟩) 1 1] (((wr.alloc (.cells #[.int .u8 (97 + (k : Int) / 26), .int .u8 (97 + (k : Int) % 26)] 5)).alloc (.cells #[.int .u8 120] 5 (1, 2))).alloc (.cells #[.slice (some ⟨wr.heap.size + 1, 0, none⟩) 1 1] 36)) fun e w' => e = .returned (.int .i64 0) ∧ Aw w w' d (manyP (k + 1)) []) := by
          have h1 : (manyP (min k 128)).append (⟨#[102]⟩ ++ ⟨#[b1, b2]⟩ : ByteArray) [[(120 : UInt8)]].flatten = (0, manyP (k + 1)) := by rw [hnm.out, show min k 128 = k by omega]; exact many_step k h128
          have := HK2.out.append1 (⟨#[102]⟩ ++ ⟨#[b1, b2]⟩ : ByteArray) [120] 1 #[.int .u8 120] 5 36 (1, 2) rfl rfl (by rw [hnm.out]; show (3 : Nat) ≤ _; decide) (by decide) h1
          rw [show (wr.alloc (.cells #[.int .u8 (97 + (k : Int) / 26), .int .u8 (97 + (k : Int) % 26)] 5)).heap.size = wr.heap.size + 1 by simp] at this
          exact this
        go_wp2_with (go_at_call 18; (with_reducible refine HAP.out.mono ?_); rintro e w5 ⟨rfl, ha5⟩; have HA5 := Lib.hid ha5; clear ha5)
        go_roundw
        case rel => exact ⟨k + 1, by omega, by go_num, by rw [show min (k + 1) 128 = (k + 1) by omega]; exact HA5.out⟩
        case measure => simp [RowKit.intOf]; omega
      · have d2 : decide ((128 : Int) ≤ (k : Int)) = true := by rw [decide_eq_true_iff]; omega
        have d2' : decide (128 ≤ k) = true := by rw [decide_eq_true_iff]; omega
        have HAP : Hid (Calls Try.prog 18 #[.pointer (some ⟨d, 0, none⟩), .string (⟨#[102]⟩ ++ ⟨#[b1, b2]⟩), .slice (some ⟨wr.heap.size + 1 + 1, 0, none⟩) 1 1] (((wr.alloc (.cells #[.int .u8 (97 + (k : Int) / 26), .int .u8 (97 + (k : Int) % 26)] 5)).alloc (.cells #[.int .u8 120] 5 (1, 2))).alloc (.cells #[.slice (some ⟨wr.heap.size + 1, 0, none⟩) 1 1] 36)) fun e w' => e = .returned (.int .i64 5) ∧ Aw w w' d (manyP 128) []) := by
          have h1 : (manyP (min k 128)).append (⟨#[102]⟩ ++ ⟨#[b1, b2]⟩ : ByteArray) [[(120 : UInt8)]].flatten = (5, manyP 128) := by
            have h2 := many_full (k - 128) (by omega)
            rw [show 128 + (k - 128) = k by omega] at h2
            rw [hnm.out, show min k 128 = 128 by omega]
            exact h2
          have := HK2.out.append1 (⟨#[102]⟩ ++ ⟨#[b1, b2]⟩ : ByteArray) [120] 1 #[.int .u8 120] 5 36 (1, 2) rfl rfl (by rw [hnm.out]; show (3 : Nat) ≤ _; decide) (by decide) h1
          rw [show (wr.alloc (.cells #[.int .u8 (97 + (k : Int) / 26), .int .u8 (97 + (k : Int) % 26)] 5)).heap.size = wr.heap.size + 1 by simp] at this
          exact this
        go_wp2_with (go_at_call 18; (with_reducible refine HAP.out.mono ?_); rintro e w5 ⟨rfl, ha5⟩; have HA5 := Lib.hid ha5; clear ha5)
        go_roundw
        case rel => exact ⟨k + 1, by omega, by go_num, by rw [show min (k + 1) 128 = 128 by omega]; exact HA5.out⟩
        case measure => simp [RowKit.intOf]; omega
    · have hkN : k = N := by omega
      subst hkN
      have d1 : decide ((k : Int) < (k : Int)) = false := by rw [decide_eq_false_iff_not]; omega
      have d1' : decide (k < k) = false := decide_eq_false (by omega)
      have kk : ((k : Int) == (k : Int)) = true := by simp
      by_cases hneg : t < 0
      · have d2 : decide (t < 0) = true := decide_eq_true hneg
        have h128 : k < 128 := by omega
        rw [show min k 128 = k by omega] at HK
        have HC := Lib.hid (mc2 k h128)
        have HNF := Lib.hid (HK.out.names ⟨#[102]⟩)
        rw [HC.out] at HNF
        go_wp2_with (first
          | (go_at_call 21; (with_reducible refine HNF.out.mono ?_); rintro e w5 ⟨A5, c5, rfl, hb5⟩; have HA5 := Lib.hid (HK.out.next hb5); clear hb5)
          | (go_at_call 12; (with_reducible refine (HAW.out _).mono ?_); rintro e w6 ⟨rfl, hb6⟩))
        go_ret
        exact ⟨rfl, HA5.out.below.trans (hb6.mono HA5.out.below.size)⟩
      · have d2 : decide (t < 0) = false := decide_eq_false hneg
        rw [show min k 128 = 128 by omega] at HK
        have M := mc1
        have M0 := mc0
        have HK9 : Hid (Aw w wr d (manyP 128) []) := HK.out
        clear HK
        revert HK9 M M0
        generalize manyP 128 = m0
        generalize mp1 = q1
        generalize mp2 = q2
        generalize mp3 = q3
        intro M M0 HK
        have HN1 : Hid (∀ W, Aw w W d m0 [] → Calls Try.prog 21 #[.pointer (some ⟨d, 0, none⟩), .string ⟨#[]⟩] W fun e w' => ∃ A c, e = .returned (.slice A 128 c) ∧ Below W.heap.size W w') := fun W h => by have := h.names ⟨#[]⟩; rw [M0.1] at this; exact this
        have HN2 : Hid (∀ W, Aw w W d m0 [] → Calls Try.prog 21 #[.pointer (some ⟨d, 0, none⟩), .string ⟨#[102, 98]⟩] W fun e w' => ∃ A c, e = .returned (.slice A 26 c) ∧ Below W.heap.size W w') := fun W h => by have := h.names ⟨#[102, 98]⟩; rw [M0.2] at this; exact this
        go_wp2_with (first
          | (go_at_call 21; (with_reducible refine (HN2.out _ HA5.out).mono ?_); rintro e w6 ⟨A6, c6, rfl, hb6⟩; have HA6 := Lib.hid (HA5.out.next hb6); clear hb6)
          | (go_at_call 21; (with_reducible refine (HN1.out _ HK.out).mono ?_); rintro e w5 ⟨A5, c5, rfl, hb5⟩; have HA5 := Lib.hid (HK.out.next hb5); clear hb5)
          | (go_at_call 18; refine (HA9.out.append (Below.refl _ _) mz none 0 0 [] (by decide) (by decide) (fun W' _ => ⟨rfl, fun k hk => by omega⟩) M.2.2.2).mono ?_; rintro e w10 ⟨rfl, ha10⟩; have HA10 := Lib.hid ha10; clear ha10)
          | (go_at_call 18; refine (HA7.out.append (Below.refl _ _) mz none 0 0 [] (by decide) (by decide) (fun W' _ => ⟨rfl, fun k hk => by omega⟩) M.2.1).mono ?_; rintro e w8 ⟨rfl, ha8⟩; have HA8 := Lib.hid ha8; clear ha8)
          | (go_at_call 18; refine (HA6.out.append1 mf [121] 1 _ _ _ _ rfl rfl (by decide) (by decide) M.1).mono ?_; rintro e w7 ⟨rfl, ha7⟩; have HA7 := Lib.hid ha7; clear ha7)
          | (go_at_call 35; refine (HA8.out.remove mf (by decide) M.2.2.1).mono ?_; rintro e w9 ⟨rfl, ha9⟩; have HA9 := Lib.hid ha9; clear ha9)
          | (go_at_call 12; (with_reducible refine (HAW.out _).mono ?_); rintro e w11 ⟨rfl, hb11⟩))
        go_ret
        exact ⟨rfl, HA10.out.below.trans (hb11.mono HA10.out.below.size)⟩
end Go.Proofs.Ytcepjabbnejgeaa
