/-
  What the reference's four, Seal, First and Scan do.
-/
import Derived.Test.YthkkjefcdedlfaaRefSum
import Derived.Test.YthkkjefcdedlfaaScanA
namespace Go.Proofs.Ythkkjefcdedlfaa
open Go.RowKit
set_option linter.unusedVariables false
set_option linter.unusedSimpArgs false

theorem le4_succ (n k : Nat) (hk : k < 4) : (Crc.le4 n).take (k + 1) = (Crc.le4 n).take k ++ [UInt8.ofNat (n / 256 ^ k)] := by
  rcases (show k = 0 ∨ k = 1 ∨ k = 2 ∨ k = 3 from by omega) with rfl | rfl | rfl | rfl <;> simp [Crc.le4]

set_option maxRecDepth 100000 in
set_option maxHeartbeats 1000000 in
theorem four_any (n : Nat) (w : World) (hn : n < 4294967296) :
    Calls Try.prog 113 #[.int .u32 (n : Int)] w fun e w' => ∃ v, e = .returned v ∧ Own w' w.heap.size v (Crc.le4 n) ∧ Below w.heap.size w w' := by
  obtain ⟨i0, hi0, hz0, hz1, hz2⟩ := info_parts byte_info
  go_enter Try.func113, Try.ntmps113
  go_wp2
  go_loopw [0, 3, 4] (fun s v i wr => ∃ k : Nat, k ≤ 4 ∧ i = .int .i64 k ∧ s = .int .u32 (n / 256 ^ k : Nat) ∧ Own wr w.heap.size v ((Crc.le4 n).take k) ∧ Below w.heap.size w wr) (fun _ _ i _ => 4 - (intOf i).toNat)
  case atStart => exact ⟨0, by omega, rfl, by simp, Own.nil_ _ _, Below.refl _ _⟩
  case round =>
    obtain ⟨k, hk, rfl, rfl, hown, hb⟩ := hrel
    by_cases hlt : k < 4
    · have HS := Lib.hid (le4_succ n k hlt)
      have HD : Hid (n / 256 ^ (k + 1) = n / 256 ^ k / 256) := by
        show _ = _
        rw [Nat.pow_succ, Nat.div_div_eq_div_mul]
      have hx : n / 256 ^ k < 4294967296 := Nat.lt_of_le_of_lt (Nat.div_le_self _ _) hn
      have hl : ((Crc.le4 n).take k).length ≤ 4 := by rw [List.length_take, Crc.le4_length]; omega
      have hz := hb.size
      generalize hxx : n / 256 ^ k = x at *
      have HX := Lib.hid hxx
      clear hxx
      generalize (Crc.le4 n).take k = acc at *
      have HO := Lib.hid hown
      clear hown
      go_wp2_with (at_builtin; refine wpList_append_src _ rfl (.tmp 9) (.tmp 13) 23 rfl w.heap.size 5 i0 _ 1 Try.underlying23 hi0 hz0 hz1 hz2 rfl _ acc.length (bvs acc) rfl (HO.out.alloc _) (wr.heap.size + 1) (some ⟨wr.heap.size, 0, none⟩) 1 1 _ rfl rfl (Lies.of_new _ _ _) ?h1 ?h2 ?h3 ?h4 ?_)
      case h1 => rfl
      case h2 => unfold maxLen; omega
      case h3 => omega
      case h4 => simp; omega
      intro v' w1 hown' hg _
      have hbw : Below w.heap.size w w1 := (hb.alloc hz _).trans ((Below.refl _ _).grown hg (by simp; omega) (fun k hk => (World.ownsRow.lt HO.out k hk).1))
      have R : Own w1 w.heap.size v' (acc ++ [UInt8.ofNat x]) := by
        unfold Own
        rw [bvs_append, List.length_append]
        have e : bvs [UInt8.ofNat x] = [.int .u8 ((x : Int) % 256)] := by
          simp only [bvs, List.map_cons, List.map_nil, bv, UInt8.toNat_ofNat']
          simp
        rw [e]
        simpa using hown'
      clear hown' hg HO hb
      go_wp2
      go_roundw
      case rel => exact ⟨k + 1, by omega, by go_num, by rw [HD.out]; go_num, by rw [HS.out]; exact R, hbw⟩
      case measure => simp [intOf]; omega
    · obtain rfl : k = 4 := by omega
      have hT : (Crc.le4 n).take 4 = Crc.le4 n := rfl
      rw [hT] at hown
      clear hT
      go_wp2
      go_ret
      exact ⟨u3, rfl, hown, hb⟩

set_option maxRecDepth 100000 in
set_option maxHeartbeats 1000000 in
theorem refSeal_any (A : Option Addr) (n c : Nat) (l : List UInt8) (w : World) (hl : Bs w w.heap.size A n l) (hn : n ≤ 262144) :
    Calls Try.prog 45 #[.slice A n c] w fun e w' => ∃ v, e = .returned v ∧ Own w' w.heap.size v (Crc.seal_ l) ∧ Below w.heap.size w w' := by
  obtain ⟨i0, hi0, hz0, hz1, hz2⟩ := info_parts byte_info
  have hlen := hl.len
  have HE : Hid (Crc.seal_ l = (Crc.le4 n ++ l) ++ Crc.le4 (Crc.crc (Crc.le4 n ++ l))) := by
    show _ = _
    unfold Crc.seal_
    rw [hlen]
  have HL := Lib.hid hlen
  clear hlen
  go_enter Try.func45, Try.ntmps45
  go_wp2_with fail
  refine (four_any n w (by omega)).mono ?_
  rintro e w1 ⟨v1, rfl, hown1, hb1⟩
  have hz1' := hb1.size
  have hl1 := hl.below hb1
  have h4 := Crc.le4_length n
  have hlt1 := hown1
  go_wp2_with (at_builtin; refine wpList_append_src _ rfl (.tmp 11) (.tmp 12) 23 rfl w.heap.size 5 i0 _ 1 Try.underlying23 hi0 hz0 hz1 hz2 rfl _ (Crc.le4 n).length (bvs (Crc.le4 n)) rfl hown1 w.heap.size A n c (bvs l) rfl ?h1 hl1.lies (bvs_one l) ?h2 ?h3 ?h4 ?_)
  case h1 => rw [bvs_length]; exact HL.out
  case h2 => rw [h4]; unfold maxLen; omega
  case h3 => rw [h4]; omega
  case h4 => omega
  intro v2 w2 hown2 hg2 _
  have R : Own w2 w.heap.size v2 (Crc.le4 n ++ l) := by
    unfold Own
    rw [bvs_append, List.length_append, HL.out]
    exact hown2
  have hb2 := hb1.trans (grown_below hlt1 hg2 hz1')
  clear hown2 hg2 hlt1 hown1 hl1 hb1
  have hle : (Crc.le4 n ++ l).length ≤ 262148 := by rw [List.length_append, h4, HL.out]; omega
  generalize Crc.le4 n ++ l = acc at *
  clear h4
  obtain ⟨A2, c2, rfl, hc2, hm2, hbs2, _, _⟩ := R.form
  have z2 := hb2.size
  go_wp2_with fail
  refine (refSum_any A2 acc.length c2 acc w2 hbs2 (by unfold maxLen; omega)).mono ?_
  rintro e w3 ⟨rfl, hb3⟩
  have R3 := R.below hb3 (Nat.le_refl _)
  have hb3' := hb2.trans (hb3.mono z2)
  have z3 := hb3.size
  clear R hb3 hb2 hbs2
  go_wp2_with fail
  refine (four_any _ w3 (Crc.crc_lt _)).mono ?_
  rintro e w4 ⟨v4, rfl, hown4, hb4⟩
  have R4 := R3.below hb4 (Nat.le_refl _)
  have hb4' := hb3'.trans (hb4.mono (by omega))
  have z4 := hb4.size
  obtain ⟨A4, c4, rfl, hc4, hm4, hbs4, _, _⟩ := hown4.form
  rw [Crc.le4_length] at hbs4
  rw [Crc.le4_length]
  clear R3 hb4 hb3' hown4
  go_wp2_with (at_builtin; refine wpList_append_src _ rfl (.tmp 14) (.tmp 17) 23 rfl w.heap.size 5 i0 _ 1 Try.underlying23 hi0 hz0 hz1 hz2 rfl _ acc.length (bvs acc) rfl R4 w4.heap.size A4 4 c4 (bvs (Crc.le4 (Crc.crc acc))) rfl rfl hbs4.lies (bvs_one _) ?k2 ?k3 ?k4 ?_)
  case k2 => unfold maxLen; omega
  case k3 => omega
  case k4 => omega
  intro v5 w5 hown5 hg5 _
  have R5 : Own w5 w.heap.size v5 (acc ++ Crc.le4 (Crc.crc acc)) := by
    unfold Own
    rw [bvs_append, List.length_append, Crc.le4_length]
    exact hown5
  have hb5 := hb4'.trans (grown_below R4 hg5 hb4'.size)
  clear hown5 hg5 R4 hb4'
  go_wp2
  go_ret
  exact ⟨v5, rfl, by rw [HE.out]; exact R5, hb5⟩

theorem le4_un4 (l : List UInt8) (h : 4 ≤ l.length) : Crc.le4 (Crc.un4 l) = l.take 4 := by
  match l, h with
  | a :: b :: c :: d :: r, _ =>
    have ha := a.toNat_lt; have hb := b.toNat_lt; have hc := c.toNat_lt; have hd := d.toNat_lt
    have e : Crc.un4 (a :: b :: c :: d :: r) = a.toNat + 256 * b.toNat + 65536 * c.toNat + 16777216 * d.toNat := rfl
    rw [e]
    simp only [Crc.le4, List.take_succ_cons, List.take_zero, List.cons.injEq, and_true]
    refine ⟨?_, ?_, ?_, ?_⟩ <;> (apply UInt8.toNat_inj.1; rw [UInt8.toNat_ofNat']; omega)
theorem seal_iff (b : List UInt8) (n : Nat) (hn : Crc.un4 b = n) (h2 : n + 8 ≤ b.length) :
    (Crc.seal_ ((b.drop 4).take n) = b.take (n + 8)) ↔ Crc.crc (b.take (n + 4)) = Crc.un4 (b.drop (n + 4)) := by
  have hbl : ((b.drop 4).take n).length = n := by rw [List.length_take, List.length_drop]; omega
  have e1 : Crc.le4 n ++ (b.drop 4).take n = b.take (n + 4) := by
    rw [← hn, le4_un4 b (by omega), hn, Nat.add_comm n 4, ← List.take_add]
  have e2 : b.take (n + 8) = b.take (n + 4) ++ (b.drop (n + 4)).take 4 := by rw [← List.take_add]
  unfold Crc.seal_
  rw [hbl, e1, e2, List.append_cancel_left_eq, ← le4_un4 (b.drop (n + 4)) (by rw [List.length_drop]; omega)]
  constructor
  · intro h
    have := congrArg Crc.un4 h
    have u1 := Crc.un4_le4 (Crc.crc (b.take (n + 4))) (Crc.crc_lt _) []
    have u2 := Crc.un4_le4 (Crc.un4 (b.drop (n + 4))) (Crc.un4_lt _) []
    rw [List.append_nil] at u1 u2
    rw [u1, u2] at this
    exact this
  · intro h
    rw [h]

theorem top_succ (l : List UInt8) (k : Nat) (hk : k < 4) : Crc.un4 l / 256 ^ (4 - (k + 1)) = Crc.un4 l / 256 ^ (4 - k) * 256 + (l.getD (3 - k) 0).toNat := by
  have h0 := (l.getD 0 0).toNat_lt; have h1 := (l.getD 1 0).toNat_lt; have h2 := (l.getD 2 0).toNat_lt; have h3 := (l.getD 3 0).toNat_lt
  rcases (show k = 0 ∨ k = 1 ∨ k = 2 ∨ k = 3 from by omega) with rfl | rfl | rfl | rfl <;> simp only [Crc.un4, Nat.reduceSub, Nat.reduceAdd, Nat.reducePow] <;> omega

theorem size_eq (l : List UInt8) (h8 : 8 ≤ l.length) (h1 : Crc.un4 l ≤ 262144) (h2 : Crc.un4 l + 8 ≤ l.length) : Crc.size l = if Crc.seal_ ((l.drop 4).take (Crc.un4 l)) = l.take (Crc.un4 l + 8) then Crc.un4 l + 8 else 0 := by
  by_cases h : Crc.crc (l.take (Crc.un4 l + 4)) = Crc.un4 (l.drop (Crc.un4 l + 4))
  · rw [size_3 l h8 h1 h2 h, if_pos ((seal_iff l _ rfl h2).2 h)]
  · rw [size_2 l h8 h1 h2 h, if_neg (fun e => h ((seal_iff l _ rfl h2).1 e))]

set_option maxRecDepth 100000 in
set_option maxHeartbeats 2000000 in
theorem refFirst_any (A : Option Addr) (n c : Nat) (l : List UInt8) (w : World) (hl : Bs w w.heap.size A n l) (hn : n ≤ c) (hc : c ≤ maxLen) :
    Calls Try.prog 48 #[.slice A n c] w fun e w' => ∃ v, e = .returned (.tuple #[v, .int .i64 (Crc.size l : Nat)]) ∧ (Crc.size l ≠ 0 → Own w' w.heap.size v (Crc.body l)) ∧ (Crc.size l = 0 → v = .slice none 0 0) ∧ Below w.heap.size w w' := by
  obtain ⟨i0, hi0, hz0, hz1, hz2⟩ := info_parts byte_info
  unfold maxLen at hc
  have hlen := hl.len
  by_cases h8 : n < 8
  · have HS := Lib.hid (size_0 l (by omega))
    clear hlen
    go_enter Try.func48, Try.ntmps48
    go_wp2
    go_ret2
    exact ⟨_, by rw [HS.out]; rfl, fun h => absurd HS.out h, fun _ => rfl, Below.refl _ _⟩
  · have HL := Lib.hid hlen
    clear hlen
    have hu := Crc.un4_lt l
    go_enter Try.func48, Try.ntmps48
    go_wp2
    go_loop [4, 5] (fun s i => ∃ k : Nat, k ≤ 4 ∧ i = .int .i64 (3 - (k : Int)) ∧ s = .int .i64 (Crc.un4 l / 256 ^ (4 - k) : Nat)) (fun _ i => (1 + intOf i).toNat)
    case atStart => exact ⟨0, by omega, rfl, by
      have : Crc.un4 l / 256 ^ (4 - 0) = 0 := Nat.div_eq_of_lt (by simpa using hu)
      rw [this]; rfl⟩
    case round =>
      obtain ⟨k, hk, rfl, rfl⟩ := hrel
      by_cases hlt : k < 4
      · obtain ⟨ad, rfl, hadb, hcell⟩ := hl.at_ (k := 3 - k) (by omega)
        have HT := Lib.hid (top_succ l k hlt)
        have hb := (l.getD (3 - k) 0).toNat_lt
        have hx : Crc.un4 l / 256 ^ (4 - k) < 4294967296 := Nat.lt_of_le_of_lt (Nat.div_le_self _ _) hu
        generalize Crc.un4 l / 256 ^ (4 - k) = x at *
        generalize (l.getD (3 - k) 0).toNat = bt at *
        have e1 : (3 - (k : Int)).toNat = 3 - k := by omega
        go_wp2
        go_round
        case rel => exact ⟨k + 1, by omega, by go_num, by rw [HT.out]; go_num⟩
        case measure => simp [intOf]; omega
      · have hk4 : k = 4 := by omega
        subst hk4
        have hT : Crc.un4 l / 256 ^ (4 - 4) = Crc.un4 l := by simp
        rw [hT]
        clear hT
        by_cases h1 : 262144 < Crc.un4 l ∨ n < Crc.un4 l + 8
        · have HS := Lib.hid (size_1 l (by rw [HL.out]; exact h1))
          generalize Crc.un4 l = u at *
          rcases (show 262144 < u ∨ (u ≤ 262144 ∧ n < u + 8) from by omega) with h2 | ⟨h2, h3⟩
          all_goals
            clear h1
            go_wp2
            go_ret2
            exact ⟨_, by rw [HS.out]; rfl, fun h => absurd HS.out h, fun _ => rfl, Below.refl _ _⟩
        · have h2 : Crc.un4 l ≤ 262144 := by omega
          have h3 : Crc.un4 l + 8 ≤ n := by omega
          clear h1
          have HS := Lib.hid (size_eq l (by rw [HL.out]; omega) h2 (by rw [HL.out]; exact h3))
          have hbs := (hl.drop 4 c hn).take (Crc.un4 l) (by omega)
          rw [if_neg (by omega)] at hbs
          have htk := hl.take (Crc.un4 l + 8) h3
          have HBL := Lib.hid hbs.len
          generalize hdd : (l.drop 4).take (Crc.un4 l) = bd at *
          have HDD := Lib.hid hdd
          generalize hee : l.take (Crc.un4 l + 8) = fr at *
          clear hdd hee
          generalize huu : Crc.un4 l = u at *
          have HU := Lib.hid huu
          clear huu
          go_wp2_with (at_builtin; refine wpList_append_src _ rfl (.tmp 31) (.tmp 35) 23 rfl w.heap.size 5 i0 _ 1 Try.underlying23 hi0 hz0 hz1 hz2 rfl _ 0 [] rfl (World.ownsRow_nil _ _ _ _) w.heap.size (A.map (·.add 4)) u (c - 4) (bvs bd) ?h0 ?h1 hbs.lies (bvs_one bd) ?h2 ?h3 ?h4 ?_)
          case h1 => rw [bvs_length]; exact HBL.out
          case h2 => unfold maxLen; omega
          case h3 => omega
          intro v1 w1 hown1 hg1 _
          have R1 : Own w1 w.heap.size v1 bd := by
            unfold Own
            rw [HBL.out]
            simpa using hown1
          have hb1 : Below w.heap.size w w1 := (Below.refl _ _).grown hg1 (Nat.le_refl _) (by simp [Value.ownBlock])
          have z1 := hb1.size
          clear hown1 hg1 hbs
          have htk1 := htk.below hb1
          obtain ⟨A2, c2, rfl, hc2, hm2, hbs2, _, _⟩ := R1.form
          rw [HBL.out] at hbs2 hc2 R1
          rw [HBL.out]
          have s2 : (convert 23 9 (.slice A (u + 8) c)).run Try.prog w1.drew = .ok (.string ⟨fr.toArray⟩) w1.drew := htk1.drew.str (P := Try.prog) (src := 23) (dst := 9) (e := 5) Try.underlying23 Try.underlying5 Try.underlying9 c
          have HC := Lib.hid (refSeal_any A2 u c2 bd w1.drew hbs2.drew h2)
          have e3 : u + 8 ≤ c := by omega
          have e1 : ((u : Int) + 8).toNat = u + 8 := by omega
          have e2 : (0 : Int) ≤ (u : Int) + 8 := by omega
          have e4 : (u : Int) + 8 ≤ (c : Int) := by omega
          go_wp2_with fail
          have ew : IntKind.i64.wrap ((u : Int) + 8) = (u : Int) + 8 := by rw [IntKind.wrap_i64]; omega
          have HTK := Lib.hid htk1
          clear htk1
          go_region_with ((go_at_call 45; refine HC.out.mono ?_; rintro e w2 ⟨v2, rfl, hown2, hb2⟩; obtain ⟨A4, c4, rfl, hc4, hm4, hbs4, _, _⟩ := hown2.form; have s3 := hbs4.str (P := Try.prog) (src := 23) (dst := 9) (e := 5) Try.underlying23 Try.underlying5 Try.underlying9 c4; have s4 := ((HTK.out.wider z1).drew.below hb2).str (P := Try.prog) (src := 23) (dst := 9) (e := 5) Try.underlying23 Try.underlying5 Try.underlying9 c))
          all_goals
            have hbw2 : Below w.heap.size w w2 := hb1.drew.trans (hb2.mono z1)
            have R2 : Own w2 w.heap.size (.slice A2 u c2) bd := R1.drew.below hb2 (Nat.le_refl _)
            clear ew e1 e2 e4 s2 s3 s4 hbs4 hown2 hb2 hbs2 R1 HC HTK hb1
            by_cases hyes : Crc.seal_ bd = fr
            · have HS2 : Hid (Crc.size l = u + 8) := by have := HS.out; rw [if_pos hyes] at this; exact this
              have HB : Hid (Crc.body l = bd) := by
                show _ = _
                unfold Crc.body
                rw [HS2.out, show u + 8 - 4 = u + 4 from by omega, ← HDD.out, Nat.add_comm u 4, List.drop_take]
                simp
              have hbb : (Crc.seal_ bd == fr) = true := by rw [hyes]; simp
              have hbc : (Crc.seal_ bd != fr) = false := by rw [hyes]; simp
              clear HS
              first | rw [hbb] | rw [hbc]
              go_wp2
              go_ret2
              exact ⟨_, by rw [HS2.out, show ((u + 8 : Nat) : Int) = (u : Int) + 8 from by omega]; rfl, fun _ => by rw [HB.out]; exact R2, fun h => absurd h (by rw [HS2.out]; omega), hbw2⟩
            · have HS2 : Hid (Crc.size l = 0) := by have := HS.out; rw [if_neg hyes] at this; exact this
              have hbb : (Crc.seal_ bd == fr) = false := by simp [hyes]
              have hbc : (Crc.seal_ bd != fr) = true := by simp [hyes]
              clear HS
              first | rw [hbb] | rw [hbc]
              go_wp2
              go_ret2
              exact ⟨_, by rw [HS2.out]; rfl, fun h => absurd HS2.out h, fun _ => rfl, hbw2⟩
end Go.Proofs.Ythkkjefcdedlfaa
