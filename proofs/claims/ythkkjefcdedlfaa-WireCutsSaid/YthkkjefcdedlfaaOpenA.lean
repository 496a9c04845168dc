/-
  What frame.word, frame.size, frame.body, frame.Open and frame.First do.
-/
import Derived.Test.YthkkjefcdedlfaaSealA
import Derived.Deep.QuietTactic
import Derived.BigQuiet
import Derived.Deep.RegionHeld3
import Derived.Deep.RegionWith
import Derived.StillTailTactics
namespace Go.Proofs.Ythkkjefcdedlfaa
open Go.RowKit
set_option linter.unusedVariables false
set_option linter.unusedSimpArgs false

theorem un4_or (a b c d : Nat) (_ha : a < 256) (hb : b < 256) (hc : c < 256) (hd : d < 256) :
    bits .or .u32 (bits .or .u32 (bits .or .u32 (a : Int) ((b : Int) * 256)) ((c : Int) * 65536)) ((d : Int) * 16777216) = ((a + 256 * b + 65536 * c + 16777216 * d : Nat) : Int) := by
  have e1 : bits .or .u32 (a : Int) ((b : Int) * 256) = ((a + 256 * b : Nat) : Int) := by
    have := u32_or_nat a (256 * b) (by omega) (by omega)
    rw [Nat.or_comm, nat_join 8 (256 * b) a (by omega) (by omega)] at this
    rw [show ((b : Int) * 256) = ((256 * b : Nat) : Int) from by omega, this]; omega
  have e2 : bits .or .u32 ((a + 256 * b : Nat) : Int) ((c : Int) * 65536) = ((a + 256 * b + 65536 * c : Nat) : Int) := by
    have := u32_or_nat (a + 256 * b) (65536 * c) (by omega) (by omega)
    rw [Nat.or_comm, nat_join 16 (65536 * c) (a + 256 * b) (by omega) (by omega)] at this
    rw [show ((c : Int) * 65536) = ((65536 * c : Nat) : Int) from by omega, this]; omega
  have e3 : bits .or .u32 ((a + 256 * b + 65536 * c : Nat) : Int) ((d : Int) * 16777216) = ((a + 256 * b + 65536 * c + 16777216 * d : Nat) : Int) := by
    have := u32_or_nat (a + 256 * b + 65536 * c) (16777216 * d) (by omega) (by omega)
    rw [Nat.or_comm, nat_join 24 (16777216 * d) (a + 256 * b + 65536 * c) (by omega) (by omega)] at this
    rw [show ((d : Int) * 16777216) = ((16777216 * d : Nat) : Int) from by omega, this]; omega
  rw [e1, e2, e3]

set_option maxHeartbeats 400000 in
theorem word_any (A : Option Addr) (n c : Nat) (l : List UInt8) (B : Nat) (w : World) (hl : Bs w B A n l) (hn : 4 ≤ n) (hm : n ≤ maxLen) :
    Calls Try.prog 124 #[.slice A n c] w fun e w' => e = .returned (.int .u32 (Crc.un4 l : Nat)) ∧ ∃ k, w' = w.drewN k := by
  unfold maxLen at hm
  obtain ⟨p, rfl, hb, h0⟩ := hl.at_ (k := 0) (by omega)
  obtain ⟨p', hp, _, h1⟩ := hl.at_ (k := 1) (by omega)
  injection hp with hp; subst hp
  obtain ⟨p', hp, _, h2⟩ := hl.at_ (k := 2) (by omega)
  injection hp with hp; subst hp
  obtain ⟨p', hp, _, h3⟩ := hl.at_ (k := 3) (by omega)
  injection hp with hp; subst hp
  have b0 := (l.getD 0 0).toNat_lt
  have b1 := (l.getD 1 0).toNat_lt
  have b2 := (l.getD 2 0).toNat_lt
  have b3 := (l.getD 3 0).toNat_lt
  have HF : Hid (Crc.un4 l = (l.getD 0 0).toNat + 256 * (l.getD 1 0).toNat + 65536 * (l.getD 2 0).toNat + 16777216 * (l.getD 3 0).toNat) := rfl
  have HO := Lib.hid (un4_or (l.getD 0 0).toNat (l.getD 1 0).toNat (l.getD 2 0).toNat (l.getD 3 0).toNat b0 b1 b2 b3)
  clear hl
  generalize (l.getD 0 0).toNat = v0 at *
  generalize (l.getD 1 0).toNat = v1 at *
  generalize (l.getD 2 0).toNat = v2 at *
  generalize (l.getD 3 0).toNat = v3 at *
  have n0 : (0 : Int) < (n : Int) := by omega
  have n1 : (1 : Int) < (n : Int) := by omega
  have n2 : (2 : Int) < (n : Int) := by omega
  have n3 : (3 : Int) < (n : Int) := by omega
  have m0 : 0 < n := by omega
  have m1 : 1 < n := by omega
  have m2 : 2 < n := by omega
  have m3 : 3 < n := by omega
  have w0 : IntKind.u32.wrap (v0 : Int) = v0 := by rw [IntKind.wrap_u32']; omega
  have w1 : IntKind.u32.wrap (v1 : Int) = v1 := by rw [IntKind.wrap_u32']; omega
  have w2 : IntKind.u32.wrap (v2 : Int) = v2 := by rw [IntKind.wrap_u32']; omega
  have w3 : IntKind.u32.wrap (v3 : Int) = v3 := by rw [IntKind.wrap_u32']; omega
  simp only [Addr.add] at h0 h1 h2 h3
  simp at h0 h1 h2 h3
  go_enter Try.func124, Try.ntmps124
  go_wp2
  go_quiet (fail)
  go_wp2
  go_ret
  exact ⟨ret_num (by rw [HO.out, HF.out]), nq, rfl⟩

set_option maxHeartbeats 400000 in
theorem clone_any (A : Option Addr) (n c : Nat) (l : List UInt8) (B : Nat) (w : World) (hl : Bs w B A n l) (hB : B ≤ w.heap.size) (hn : n ≤ 1099511627776) :
    Calls Try.prog 64 #[.slice A n c] w fun e w' => ∃ v, e = .returned v ∧ Own w' w.heap.size v l ∧ Below w.heap.size w w' := by
  obtain ⟨i0, hi0, hz0, hz1, hz2⟩ := info_parts byte_info
  have hlen := hl.len
  have hnil := fun W : World => Lib.run_eql_slice_nil (P := Try.prog) W 23 5 A n c 0 0 Try.underlying23
  cases A with
  | none =>
    have hl0 : l = [] := by
      cases l with
      | nil => rfl
      | cons b r => obtain ⟨p, hp, _⟩ := hl.lies.get 0 _ rfl; cases hp
    subst hl0
    go_enter Try.func64, Try.ntmps64
    go_wp2
    go_ret
    exact ⟨_, rfl, Own.nil_ _ _, Below.refl _ _⟩
  | some p =>
    have HL := Lib.hid hlen
    clear hlen
    go_enter Try.func64, Try.ntmps64
    go_wp2_with (at_builtin; refine wpList_append_src _ rfl (.tmp 5) (.tmp 6) 23 rfl w.heap.size 5 i0 _ 1 Try.underlying23 hi0 hz0 hz1 hz2 rfl (.slice (some ⟨w.heap.size, 0, none⟩) 0 0) 0 [] rfl (World.ownsRow_made w #[] 0 (Nat.le_refl _) (by simp [maxLen]) (by simp)) B (some p) n c (bvs l) rfl ?h1 (hl.alloc hB _).lies (bvs_one l) ?h2 ?h3 ?h4 ?_)
    case h1 => rw [bvs_length]; exact HL.out
    case h2 => unfold maxLen; omega
    case h3 => omega
    case h4 => simp
    intro v' w1 hown' hg _
    go_wp2
    go_ret
    refine ⟨v', rfl, ?_, ?_⟩
    · unfold Own
      rw [HL.out]
      simpa using hown'
    · exact ((Below.refl _ _).alloc (Nat.le_refl _) _).trans ((Below.refl _ _).grown hg (by simp) (by simp [Value.ownBlock]))

theorem body_eq (l : List UInt8) (n : Nat) : ((l.drop 4).take (n - 4 - 4)) = (l.take (n - 4)).drop 4 := by
  rw [List.drop_take]

set_option maxHeartbeats 400000 in
theorem body_any (A : Option Addr) (n c m : Nat) (l : List UInt8) (B : Nat) (w : World) (hl : Bs w B A n l) (hB : B ≤ w.heap.size) (hn : n ≤ c) (hc : c ≤ maxLen) (hm : 8 ≤ m) (hmn : m ≤ n) (hs : m ≤ 1099511627776) :
    Calls Try.prog 115 #[.slice A n c, .int .i64 (m : Int)] w fun e w' => ∃ v, e = .returned v ∧ Own w' w.heap.size v ((l.take (m - 4)).drop 4) ∧ Below w.heap.size w w' := by
  unfold maxLen at hc
  have hd := ((hl.take (m - 4) (by omega)).drop 4 c (by omega))
  go_enter Try.func115, Try.ntmps115
  rw [if_neg (by omega)] at hd
  go_wp2_with fail
  refine (clone_any _ _ _ _ B _ hd hB (by omega)).mono ?_
  rintro e w1 ⟨v, rfl, hown, hb⟩
  go_wp2_with fail
  go_ret
  exact ⟨v, rfl, hown, hb⟩

theorem size_0 (l : List UInt8) (h : l.length < 8) : Crc.size l = 0 := by unfold Crc.size; rw [if_pos h]
theorem size_1 (l : List UInt8) (h : 262144 < Crc.un4 l ∨ l.length < Crc.un4 l + 8) : Crc.size l = 0 := by
  unfold Crc.size
  split
  · rfl
  · first | rfl | rw [if_pos h]
theorem size_2 (l : List UInt8) (h8 : 8 ≤ l.length) (h : Crc.un4 l ≤ 262144) (h2 : Crc.un4 l + 8 ≤ l.length) (hc : ¬ Crc.crc (l.take (Crc.un4 l + 4)) = Crc.un4 (l.drop (Crc.un4 l + 4))) : Crc.size l = 0 := by
  unfold Crc.size
  rw [if_neg (by omega), if_neg (by omega), if_neg hc]
theorem size_3 (l : List UInt8) (h8 : 8 ≤ l.length) (h : Crc.un4 l ≤ 262144) (h2 : Crc.un4 l + 8 ≤ l.length) (hc : Crc.crc (l.take (Crc.un4 l + 4)) = Crc.un4 (l.drop (Crc.un4 l + 4))) : Crc.size l = Crc.un4 l + 8 := by
  unfold Crc.size
  rw [if_neg (by omega), if_neg (by omega), if_pos hc]

set_option maxHeartbeats 400000 in
theorem sizef_any (A : Option Addr) (n c : Nat) (l : List UInt8) (B : Nat) (w : World) (hl : Bs w B A n l) (hB : B ≤ w.heap.size) (hn : n ≤ c) (hc : c ≤ maxLen) :
    Calls Try.prog 114 #[.slice A n c] w fun e w' => e = .returned (.int .i64 (Crc.size l : Nat)) ∧ Below w.heap.size w w' := by
  unfold maxLen at hc
  have hlen := hl.len
  by_cases h8 : n < 8
  · have HS := Lib.hid (size_0 l (by omega))
    clear hlen
    go_enter Try.func114, Try.ntmps114
    go_wp2_with fail
    go_ret
    exact ⟨by rw [HS.out]; rfl, Below.refl _ _⟩
  · have hu := Crc.un4_lt l
    by_cases h1 : 262144 < Crc.un4 l ∨ l.length < Crc.un4 l + 8
    · have HS := Lib.hid (size_1 l h1)
      have HL := Lib.hid hlen
      have h1' : 262144 < Crc.un4 l ∨ n < Crc.un4 l + 8 := by omega
      clear h1 hlen
      have HW := Lib.hid (word_any A n c l B w hl (by omega) (by unfold maxLen; omega))
      generalize Crc.un4 l = u at *
      rcases (show 262144 < u ∨ (u ≤ 262144 ∧ n < u + 8) from by omega) with h2 | ⟨h2, h3⟩
      all_goals
        clear h1'
        go_enter Try.func114, Try.ntmps114
        go_wp2_with fail
        refine HW.out.mono ?_
        rintro e w1 ⟨rfl, k, rfl⟩
        go_wp2_with fail
        go_ret
        exact ⟨by rw [HS.out]; rfl, below_draws (Below.refl _ _) _⟩
    · have h1' : Crc.un4 l ≤ 262144 ∧ Crc.un4 l + 8 ≤ n := by omega
      obtain ⟨h2, h3⟩ := h1'
      clear h1
      have HS : Hid (Crc.size l = if Crc.crc (l.take (Crc.un4 l + 4)) = Crc.un4 (l.drop (Crc.un4 l + 4)) then Crc.un4 l + 8 else 0) := by
        show Crc.size l = _
        split
        · exact size_3 l (by omega) (by omega) (by omega) (by assumption)
        · exact size_2 l (by omega) (by omega) (by omega) (by assumption)
      have HL := Lib.hid hlen
      clear hlen
      have HW := Lib.hid (word_any A n c l B w hl (by omega) (by unfold maxLen; omega))
      generalize Crc.un4 l = u at *
      go_enter Try.func114, Try.ntmps114
      go_wp2_with fail
      refine HW.out.mono ?_
      rintro e w1 ⟨rfl, k, rfl⟩
      go_wp2_with fail
      have hl1 := hl.drewN k
      have hb1 : Below w.heap.size w (w.drewN k) := below_draws (Below.refl _ _) _
      have hz1 : w.heap.size ≤ (w.drewN k).heap.size := Nat.le_refl _
      clear HW hl
      generalize w.drewN k = w1 at *
      obtain ⟨q, hq⟩ : ∃ q, u + 4 = q := ⟨_, rfl⟩
      rw [hq] at HS
      have q1 : u + 4 ≤ q := by omega
      have q2 : q ≤ u + 4 := by omega
      clear hq
      have htk := hl1.take q (by omega)
      have hdp := hl1.drop q c (by omega)
      have e1 : (4 + (u : Int)).toNat = q := by omega
      have e2 : (0 : Int) ≤ 4 + (u : Int) := by omega
      have e3 : (4 + (u : Int)) ≤ (c : Int) := by omega
      have e4 : (4 + (u : Int)) ≤ (n : Int) := by omega
      rw [if_neg (by omega)] at hdp
      have e5 : ¬ c = q := by omega
      have e6 : q ≤ c := by omega
      have e7 : q ≤ n := by omega
      have e8 : ¬ q = 0 := by omega
      have hBz : B ≤ w1.heap.size := by omega
      go_region_with (first
        | (go_at_call 41; refine (sum_any _ _ _ [l.take q] (w1.heap.size + 1) _ (by exact (Rs.one (htk.wider hBz) e6 (by unfold maxLen; omega) _).drew) (by simp [maxLen])).mono ?_; rintro e w2 ⟨rfl, rfl⟩)
        | (go_at_call 124; refine (word_any _ _ _ (l.drop q) B _ (by exact (hdp.alloc hBz _).drew) (by omega) (by unfold maxLen; omega)).mono ?_; rintro e w3 ⟨rfl, k3, rfl⟩))
      have hbw : Below w.heap.size w ((w1.alloc (Obj.cells #[Value.slice A q c] 23)).drewN (1 + k3)) := below_draws (hb1.alloc hz1 _) _
      clear hl1 hb1 htk hdp e1 e2 e3 e4 e5
      by_cases hcc : Crc.crc (l.take q) = Crc.un4 (l.drop q)
      · have HS2 : Hid (Crc.size l = u + 8) := by have := HS.out; rw [if_pos hcc] at this; exact this
        have hbb : (((Crc.crc (l.take q) : Nat) : Int) != ((Crc.un4 (l.drop q) : Nat) : Int)) = false := by rw [hcc]; simp
        clear hcc HS
        generalize Crc.crc (l.take q) = x1 at *
        generalize Crc.un4 (l.drop q) = x2 at *
        go_wp2
        go_ret
        exact ⟨ret_num (by rw [HS2.out]; go_num), hbw⟩
      · have HS2 : Hid (Crc.size l = 0) := by have := HS.out; rw [if_neg hcc] at this; exact this
        have hbb : (((Crc.crc (l.take q) : Nat) : Int) != ((Crc.un4 (l.drop q) : Nat) : Int)) = true := by rw [bne_iff_ne]; omega
        clear hcc HS
        generalize Crc.crc (l.take q) = x1 at *
        generalize Crc.un4 (l.drop q) = x2 at *
        go_wp2
        go_ret
        exact ⟨ret_num (by rw [HS2.out]; rfl), hbw⟩

set_option maxHeartbeats 400000 in
theorem open_no (A : Option Addr) (n c : Nat) (l : List UInt8) (B : Nat) (w : World) (hl : Bs w B A n l) (hB : B ≤ w.heap.size) (hn : n ≤ c) (hc : c ≤ maxLen) (h : Crc.size l = 0 ∨ Crc.size l ≠ n) :
    Calls Try.prog 46 #[.slice A n c] w fun e w' => e = .returned (.tuple #[.slice none 0 0, .bool false]) ∧ Below w.heap.size w w' := by
  have hsz := Crc.size_bound l
  have HC := Lib.hid (sizef_any A n c l B w hl hB hn hc)
  generalize Crc.size l = z at *
  unfold maxLen at hc
  clear hl
  rcases h with h | h
  · have h1 : ((z : Int) == 0) = true := by rw [beq_iff_eq]; omega
    clear h
    go_enter Try.func46, Try.ntmps46
    go_wp2_with fail
    refine HC.out.mono ?_
    rintro e w1 ⟨rfl, hb⟩
    go_wp2_with fail
    go_ret2
    exact ⟨rfl, hb⟩
  · by_cases h0 : z = 0
    · have h1 : ((z : Int) == 0) = true := by rw [beq_iff_eq]; omega
      clear h h0
      go_enter Try.func46, Try.ntmps46
      go_wp2_with fail
      refine HC.out.mono ?_
      rintro e w1 ⟨rfl, hb⟩
      go_wp2_with fail
      go_ret2
      exact ⟨rfl, hb⟩
    · have h1 : ((z : Int) == 0) = false := by rw [beq_eq_false_iff_ne]; omega
      have h2 : ((z : Int) != (n : Int)) = true := by rw [bne_iff_ne]; omega
      clear h h0
      go_enter Try.func46, Try.ntmps46
      go_wp2_with fail
      refine HC.out.mono ?_
      rintro e w1 ⟨rfl, hb⟩
      go_wp2_with fail
      go_ret2
      exact ⟨rfl, hb⟩

set_option maxHeartbeats 400000 in
theorem open_yes (A : Option Addr) (n c : Nat) (l : List UInt8) (B : Nat) (w : World) (hl : Bs w B A n l) (hB : B ≤ w.heap.size) (hn : n ≤ c) (hc : c ≤ maxLen) (h0 : Crc.size l ≠ 0) (h : Crc.size l = n) :
    Calls Try.prog 46 #[.slice A n c] w fun e w' => ∃ v, e = .returned (.tuple #[v, .bool true]) ∧ Own w' w.heap.size v (Crc.body l) ∧ Below w.heap.size w w' := by
  have hsz := Crc.size_bound l
  have hge := Crc.size_ge l h0
  have HC := Lib.hid (sizef_any A n c l B w hl hB hn hc)
  have HB := Lib.hid (show Crc.body l = (l.take (n - 4)).drop 4 from by unfold Crc.body; rw [h])
  have HN := Lib.hid h
  rw [h] at hge hsz HC
  clear h h0
  have h1 : ((n : Int) == 0) = false := by rw [beq_eq_false_iff_ne]; omega
  have h2 : ((n : Int) != (n : Int)) = false := by simp
  go_enter Try.func46, Try.ntmps46
  go_wp2_with fail
  refine HC.out.mono ?_
  rintro e w1 ⟨rfl, hb⟩
  go_wp2_with fail
  refine (body_any A n c n l B w1 (hl.below (hb.mono hB)) (Nat.le_trans hB hb.size) hn hc hge (Nat.le_refl _) (by omega)).mono ?_
  rintro e w2 ⟨v, rfl, hown, hb2⟩
  go_wp2_with fail
  go_ret2
  exact ⟨v, rfl, by rw [HB.out]; exact hown.base_le hb.size, hb.trans (hb2.mono hb.size)⟩

set_option maxHeartbeats 400000 in
theorem first_no (A : Option Addr) (n c : Nat) (l : List UInt8) (B : Nat) (w : World) (hl : Bs w B A n l) (hB : B ≤ w.heap.size) (hn : n ≤ c) (hc : c ≤ maxLen) (h : Crc.size l = 0) :
    Calls Try.prog 51 #[.slice A n c] w fun e w' => e = .returned (.tuple #[.slice none 0 0, .int .i64 0, .bool false]) ∧ Below w.heap.size w w' := by
  have HC := Lib.hid (sizef_any A n c l B w hl hB hn hc)
  rw [h] at HC
  clear h hl
  go_enter Try.func51, Try.ntmps51
  go_wp2_with fail
  refine HC.out.mono ?_
  rintro e w1 ⟨rfl, hb⟩
  go_wp2_with fail
  go_ret3
  exact ⟨rfl, hb⟩

set_option maxHeartbeats 400000 in
theorem first_yes (A : Option Addr) (n c : Nat) (l : List UInt8) (B : Nat) (w : World) (hl : Bs w B A n l) (hB : B ≤ w.heap.size) (hn : n ≤ c) (hc : c ≤ maxLen) (h0 : Crc.size l ≠ 0) :
    Calls Try.prog 51 #[.slice A n c] w fun e w' => ∃ v, e = .returned (.tuple #[v, .int .i64 (Crc.size l : Nat), .bool true]) ∧ Own w' w.heap.size v (Crc.body l) ∧ Below w.heap.size w w' := by
  have hsz := Crc.size_bound l
  have hge := Crc.size_ge l h0
  have hle := Crc.size_le l
  have hlen := hl.len
  rw [hlen] at hle
  clear hlen
  have HC := Lib.hid (sizef_any A n c l B w hl hB hn hc)
  have HB : Hid (Crc.body l = (l.take (Crc.size l - 4)).drop 4) := rfl
  clear h0
  generalize Crc.size l = z at *
  have h1 : ((z : Int) == 0) = false := by rw [beq_eq_false_iff_ne]; omega
  go_enter Try.func51, Try.ntmps51
  go_wp2_with fail
  refine HC.out.mono ?_
  rintro e w1 ⟨rfl, hb⟩
  go_wp2_with fail
  refine (body_any A n c z l B w1 (hl.below (hb.mono hB)) (Nat.le_trans hB hb.size) hn hc hge hle (by omega)).mono ?_
  rintro e w2 ⟨v, rfl, hown, hb2⟩
  go_wp2_with fail
  go_ret3
  exact ⟨v, rfl, by rw [HB.out]; exact hown.base_le hb.size, hb.trans (hb2.mono hb.size)⟩
end Go.Proofs.Ythkkjefcdedlfaa
