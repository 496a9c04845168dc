/-
  FrameSeals.
-/
import Derived.Test.YthkkjefcdedlfaaRefFrame
import Derived.Test.YthkkjefcdedlfaaSums
import Derived.Test.YthkkjefcdedlfaaOwnSet
import Derived.Deep.DeepCutAuto
import Derived.Deep.RegionHeld
namespace Go.Proofs.Ythkkjefcdedlfaa
open Go.RowKit
set_option linter.unusedVariables false
set_option linter.unusedSimpArgs false

theorem Bs.other {w w' : World} {B n g : Nat} {A : Option Addr} {l : List UInt8} (h : Bs w B A n l) (hk : ∀ p : Addr, p.block ≠ g → w'.cell? p = w.cell? p) (hne : l ≠ [] → ∀ p, A = some p → p.block ≠ g) : Bs w' B A n l := by
  cases l with
  | nil => exact ⟨h.len, Lies.empty⟩
  | cons x r => exact h.far fun p hp i => hk _ (by rw [add_block]; exact hne (by simp) p hp)
theorem seal_back (l : List UInt8) (h0 : Crc.size l ≠ 0) (h : Crc.size l = l.length) : Crc.seal_ (Crc.body l) = l := by
  have h8 : 8 ≤ l.length := by have := Crc.size_ge l h0; omega
  have hu : Crc.un4 l ≤ 262144 ∧ Crc.un4 l + 8 ≤ l.length := by
    by_cases hh : 262144 < Crc.un4 l ∨ l.length < Crc.un4 l + 8
    · exact absurd (size_1 l hh) h0
    · omega
  have hs := size_eq l h8 hu.1 hu.2
  by_cases hy : Crc.seal_ ((l.drop 4).take (Crc.un4 l)) = l.take (Crc.un4 l + 8)
  · rw [if_pos hy] at hs
    have e : Crc.body l = (l.drop 4).take (Crc.un4 l) := by
      unfold Crc.body
      rw [hs, List.drop_take]
      congr 1
    rw [e, hy]
    exact List.take_of_length_le (by omega)
  · rw [if_neg hy] at hs
    exact absurd hs h0
theorem zeros_succ (S : List UInt8) (k : Nat) (h : k < S.length) : (List.replicate k 0 ++ S.drop k).set k 0 = List.replicate (k + 1) 0 ++ S.drop (k + 1) := by
  rw [List.set_append_right _ _ (by simp), List.length_replicate, Nat.sub_self, List.drop_eq_getElem_cons h, List.set_cons_zero, List.replicate_succ', List.append_assoc]
  rfl
theorem zeros_length (S : List UInt8) (k : Nat) (h : k ≤ S.length) : (List.replicate k (0 : UInt8) ++ S.drop k).length = S.length := by simp; omega

set_option maxRecDepth 100000 in
set_option maxHeartbeats 6000000 in
theorem seals_walk (A : Option Addr) (n c : Nat) (L0 : List (List UInt8)) (A9 : Option Addr) (n9 c9 : Nat) (l9 : List UInt8) (w : World) (hL : Rs w w.heap.size A n L0) (hn : n ≤ maxLen) (hl9 : Bs w w.heap.size A9 n9 l9) (hn9 : n9 ≤ c9) (hc9 : c9 ≤ maxLen) :
    Calls Try.prog 10 #[.slice A n c, .slice A9 n9 c9] w fun e w' => e = .returned (.bool true) ∧ Below w.heap.size w w' := by
  have HF := Lib.hid (few_any A n c L0 w hL hn)
  have ht := few_tot L0
  have hln := few_len L0
  clear hL
  generalize few L0 = L at *
  go_enter Try.func10, Try.ntmps10
  go_wp2_with fail
  refine HF.out.mono ?_
  rintro e w1 ⟨v1, rfl, hown1, hb1⟩
  obtain ⟨A1, c1, rfl, hc1, hm1, hR1⟩ := hown1.rs
  have z1 := hb1.size
  clear hown1 HF
  go_wp2_with fail
  refine (all_any A1 L.length c1 L w1 hR1 (by unfold maxLen; omega) (by omega)).mono ?_
  rintro e w2 ⟨v2, rfl, hown2, hb2⟩
  obtain ⟨A2, c2, rfl, hc2, hm2, hbs2, _, _⟩ := hown2.form
  have hR2 := hR1.below hb2
  have z2 := hb2.size
  have hB2 : Below w.heap.size w w2 := hb1.trans (hb2.mono z1)
  clear hown2 hb1 hb2 hR1
  obtain ⟨N, hN⟩ : ∃ N, L.flatten.length = N := ⟨_, rfl⟩
  have hN1 : N ≤ 1600 := by rw [← hN]; exact ht
  rw [hN] at hbs2 hc2
  rw [hN]
  obtain ⟨b, hb⟩ : ∃ b, L.flatten = b := ⟨_, rfl⟩
  rw [hb] at hbs2 hN
  have HBB := Lib.hid hb
  have HN := Lib.hid hN
  clear hb hN
  go_wp2_with fail
  refine (seal_any A1 L.length c1 L w1.heap.size w2 hR2 z2 (by unfold maxLen; omega) (by omega)).mono ?_
  rintro e w3 ⟨v3, rfl, hown3, hb3⟩
  rw [HBB.out] at hown3
  clear hR2
  have hSl : (Crc.seal_ b).length = N + 8 := by rw [Crc.seal_length, HN.out]
  obtain ⟨M, hM⟩ : ∃ M, (Crc.seal_ b).length = M := ⟨_, rfl⟩
  have hM1 : M ≤ N + 8 := by omega
  have hM2 : N + 8 ≤ M := by omega
  obtain ⟨A3, c3, rfl, hc3, hm3, hbs3, hlt3, _⟩ := hown3.form
  rw [hM] at hbs3 hc3 hown3
  rw [hM]
  have HM := Lib.hid hM
  have z3 := hb3.size
  have hB3 := hB2.trans (hb3.mono (by omega))
  have hbs2' := (hbs2.below hb3)
  clear hM hSl hb3 hbs2 hB2 hlt3
  obtain ⟨g, rfl, hg⟩ := hown3.head (by have := HM.out; omega)
  have hgl : g < w3.heap.size := (World.ownsRow.lt hown3 g rfl).2
  have s1 : (convert 23 9 (.slice (some ⟨g, 0, none⟩) M c3)).run Try.prog w3.drew = .ok (.string ⟨(Crc.seal_ b).toArray⟩) w3.drew := hbs3.drew.str (P := Try.prog) (src := 23) (dst := 9) (e := 5) Try.underlying23 Try.underlying5 Try.underlying9 c3
  have HSE := Lib.hid (refSeal_any A2 N c2 b w3.drew ((hbs2'.wider z3).drew) (by omega))
  have HB3 := Lib.hid hbs3
  clear hbs3
  go_wp2_with fail
  go_cut [25] (fun s25 wx => s25 = .bool false ∧ Below w3.heap.size w3 wx)
  case first =>
    go_region_with ((go_at_call 45; refine HSE.out.mono ?_; rintro e w4 ⟨v4, rfl, hown4, hb4⟩; obtain ⟨A4, c4, rfl, hc4, hm4, hbs4, _, _⟩ := hown4.form; have s3 := hbs4.str (P := Try.prog) (src := 23) (dst := 9) (e := 5) Try.underlying23 Try.underlying5 Try.underlying9 c4; have s4 := (HB3.out.drew.below hb4).str (P := Try.prog) (src := 23) (dst := 9) (e := 5) Try.underlying23 Try.underlying5 Try.underlying9 c3))
    all_goals (go_wp2_with fail; go_meet; exact ⟨rfl, (Below.refl _ _).drew.trans hb4⟩)
  case rest =>
    obtain ⟨rfl, hb4⟩ := hcut
    have hbs4 := HB3.out.below hb4
    have hbb4 := hbs2'.below (hb4.mono z3)
    have hown4 := hown3.below hb4 (Nat.le_refl _)
    have z4 := hb4.size
    have hB4 := hB3.trans (hb4.mono (by omega))
    clear HSE s1 HB3 hbs2' hown3 hB3 hb4
    have HS1 := Lib.hid (Crc.size_seal0 b (by rw [HN.out]; omega))
    have HS3 : Hid (Crc.size (Crc.seal_ b) = M) := by rw [HS1.out, HN.out]; show _ = _; omega
    have HS2 := Lib.hid (Crc.body_seal0 b (by rw [HN.out]; omega))
    go_wp2_with fail
    refine (open_yes _ M c3 (Crc.seal_ b) wc.heap.size wc (hbs4.wider z4) (Nat.le_refl _) hc3 hm3 (by rw [HS3.out]; omega) HS3.out).mono ?_
    rintro e w5 ⟨v5, rfl, hown5, hb5⟩
    rw [HS2.out] at hown5
    obtain ⟨A5, c5, rfl, hc5, hm5, hbs5, hlt5, _⟩ := hown5.form
    rw [HN.out] at hbs5 hc5
    rw [HN.out]
    have hbb5 := hbb4.below (hb5.mono (by omega))
    have hsw5 := hown4.below hb5 (Nat.le_refl _)
    have z5 := hb5.size
    have hB5 := hB4.trans (hb5.mono (by omega))
    have t1 := hbs5.str (P := Try.prog) (src := 23) (dst := 9) (e := 5) Try.underlying23 Try.underlying5 Try.underlying9 c5
    have t2 := hbb5.str (P := Try.prog) (src := 23) (dst := 9) (e := 5) Try.underlying23 Try.underlying5 Try.underlying9 c2
    clear hown5 hbs4 hbb4 hown4 hB4 hb5 HS1 HS2 HS3
    go_wp2_with fail
    clear t1 t2
    go_loopw [42] (fun i wr => ∃ k : Nat, k ≤ M ∧ i = .int .i64 k ∧ Own wr w2.heap.size (.slice (some ⟨g, 0, none⟩) M c3) (List.replicate k 0 ++ (Crc.seal_ b).drop k) ∧ (∀ p : Addr, p.block ≠ g → wr.cell? p = w5.cell? p) ∧ w5.heap.size ≤ wr.heap.size ∧ Below w.heap.size w wr) (fun i _ => M - (intOf i).toNat)
    case atStart => exact ⟨0, by omega, rfl, hsw5, fun _ _ => rfl, Nat.le_refl _, hB5⟩
    case round =>
      obtain ⟨k, hk, rfl, hob, hsame, hzr, hBr⟩ := hrel
      have HSAME := Lib.hid hsame
      clear hsame
      have HZL : Hid ((List.replicate k 0 ++ (Crc.seal_ b).drop k).length = M) := by rw [zeros_length _ k (by rw [HM.out]; exact hk)]; exact HM.out
      by_cases hlt : k < M
      · have HZ := Lib.hid (zeros_succ (Crc.seal_ b) k (by rw [HM.out]; exact hlt))
        have hcell := hob.cell_ HZL.out k hlt
        have hfree := hob.free_ HZL.out k
        have HO := Lib.hid (hob.set_ HZL.out k 0)
        rw [HZ.out] at HO
        have HS : Hid (∀ p : Addr, p.block ≠ g → (wr.setCell ⟨g, k, none⟩ (.int .u8 0)).cell? p = w5.cell? p) := fun p hp => by
          rw [World.cell?_setCell_other wr _ _ _ (fun e => hp (by rw [← e]))]
          exact HSAME.out p hp
        have hz' : wr.heap.size ≤ (wr.setCell ⟨g, k, none⟩ (.int .u8 0)).heap.size := by simp [World.setCell]
        clear hob HZ
        go_wp2
        go_roundw
        case rel => exact ⟨k + 1, by omega, by go_num, HO.out, HS.out, by omega, hBr.setCell (show w.heap.size ≤ g by omega) _⟩
        case measure => simp [intOf]; omega
      · have hx6 : Bs wr w5.heap.size A5 N b := hbs5.other HSAME.out (fun hb0 p hp he => by
          have := (hlt5 p.block (by rw [hp]; rfl)).1
          omega)
        have hb6 : Bs wr w2.heap.size A2 N b := hbb5.other HSAME.out (fun hb0 p hp he => by
          have := hbb5.block_lt hb0 p hp
          omega)
        have t1 := hx6.str (P := Try.prog) (src := 23) (dst := 9) (e := 5) Try.underlying23 Try.underlying5 Try.underlying9 c5
        have t2 := hb6.str (P := Try.prog) (src := 23) (dst := 9) (e := 5) Try.underlying23 Try.underlying5 Try.underlying9 c2
        clear hx6 hb6 hob HSAME hsw5 hB5 hbb5 hbs5 hlt5 HZL
        have hsh := hl9.take (min n9 300) (Nat.min_le_left _ _)
        have HSH := Lib.hid (short_any A9 n9 c9 300 wr hn9 hc9 (by omega))
        have hmm : min n9 300 ≤ 300 := Nat.min_le_right _ _
        have hmc : min n9 300 ≤ c9 := by omega
        have HLM := Lib.hid hsh.len
        have zr := hBr.size
        have hsh2 := (hsh.below hBr).wider zr
        generalize l9.take (min n9 300) = ot at *
        generalize min n9 300 = m9 at *
        clear hl9 hsh
        go_wp2_with fail
        refine HSH.out.mono ?_
        rintro e w6 ⟨rfl, rfl⟩
        clear t1 t2 HSH
        unfold maxLen at hc9
        have hsb := Crc.size_bound ot
        by_cases hyes : Crc.size ot ≠ 0 ∧ Crc.size ot = m9
        · obtain ⟨h0, hm⟩ := hyes
          have HSB := Lib.hid (seal_back ot h0 (by rw [HLM.out]; exact hm))
          have HH := Lib.hid h0
          have hbl : (Crc.body ot).length ≤ 262144 := by
            unfold Crc.body
            rw [List.length_drop, List.length_take, HLM.out]
            omega
          go_wp2_with fail
          refine (open_yes A9 m9 c9 ot wr.heap.size wr hsh2 (Nat.le_refl _) hmc hc9 h0 hm).mono ?_
          rintro e w7 ⟨v7, rfl, hown7, hb7⟩
          have z7 := hb7.size
          have hsh3 := (hsh2.below hb7).wider z7
          obtain ⟨A7, c7, rfl, hc7, hm7, hbs7, _, _⟩ := hown7.form
          go_wp2_with fail
          refine (refFirst_any A9 m9 c9 ot w7 hsh3 hmc hc9).mono ?_
          rintro e w8 ⟨v8, rfl, hown8, _, hb8⟩
          replace hown8 := hown8 HH.out
          obtain ⟨A8, c8, rfl, hc8, hm8, hbs8, _, _⟩ := hown8.form
          have z8 := hb8.size
          have hB8 := (hBr.trans (hb7.mono zr)).trans (hb8.mono (by omega))
          have hy8 := (hbs7.below hb8).wider z8
          have ho8 := (hsh3.below hb8).wider z8
          clear hb7 hb8 hsh2 hsh3 hBr hown7 hown8 hbs7
          rw [hm]
          have e2 : (0 : Int) < (m9 : Int) := by omega
          have e2n : 0 < m9 := by omega
          have e1 : ((m9 : Int) == (m9 : Int)) = true := by simp
          clear h0 hm
          generalize Crc.body ot = bd at *
          have s1 : (convert 23 9 (.slice A7 bd.length c7)).run Try.prog w8.drew = .ok (.string ⟨bd.toArray⟩) w8.drew := hy8.drew.str (P := Try.prog) (src := 23) (dst := 9) (e := 5) Try.underlying23 Try.underlying5 Try.underlying9 c7
          have s2 : (convert 23 9 (.slice A8 bd.length c8)).run Try.prog w8.drew = .ok (.string ⟨bd.toArray⟩) w8.drew := hbs8.drew.str (P := Try.prog) (src := 23) (dst := 9) (e := 5) Try.underlying23 Try.underlying5 Try.underlying9 c8
          have s3 : (convert 23 9 (.slice A9 m9 c9)).run Try.prog w8.drew = .ok (.string ⟨ot.toArray⟩) w8.drew := ho8.drew.str (P := Try.prog) (src := 23) (dst := 9) (e := 5) Try.underlying23 Try.underlying5 Try.underlying9 c9
          have hz7 := (hy8.alloc (Nat.le_refl _) (.cells #[.slice A7 bd.length c7] 23)).drew
          have hz8 := (hbs8.alloc (Nat.le_refl _) (.cells #[.slice A7 bd.length c7] 23)).drew
          have hz9 := (ho8.alloc (Nat.le_refl _) (.cells #[.slice A7 bd.length c7] 23)).drew
          have r1 : (convert 23 9 (.slice A7 bd.length c7)).run Try.prog (w8.alloc (.cells #[.slice A7 bd.length c7] 23)).drew = .ok (.string ⟨bd.toArray⟩) (w8.alloc (.cells #[.slice A7 bd.length c7] 23)).drew := hz7.str (P := Try.prog) (src := 23) (dst := 9) (e := 5) Try.underlying23 Try.underlying5 Try.underlying9 c7
          have r2 : (convert 23 9 (.slice A8 bd.length c8)).run Try.prog (w8.alloc (.cells #[.slice A7 bd.length c7] 23)).drew = .ok (.string ⟨bd.toArray⟩) (w8.alloc (.cells #[.slice A7 bd.length c7] 23)).drew := hz8.str (P := Try.prog) (src := 23) (dst := 9) (e := 5) Try.underlying23 Try.underlying5 Try.underlying9 c8
          have r3 : (convert 23 9 (.slice A9 m9 c9)).run Try.prog (w8.alloc (.cells #[.slice A7 bd.length c7] 23)).drew = .ok (.string ⟨ot.toArray⟩) (w8.alloc (.cells #[.slice A7 bd.length c7] 23)).drew := hz9.str (P := Try.prog) (src := 23) (dst := 9) (e := 5) Try.underlying23 Try.underlying5 Try.underlying9 c9
          have HC := Lib.hid (seal_any (some ⟨w8.heap.size, 0, none⟩) 1 1 [bd] (w8.heap.size + 1) (w8.alloc (.cells #[.slice A7 bd.length c7] 23)).drew ((Rs.one hy8 hc7 hm7 _).drew) (by simp) (by decide) (by simp [tot]; exact hbl))
          rw [show [bd].flatten = bd from by simp, HSB.out] at HC
          have hB9 := hB8.alloc hB8.size (.cells #[.slice A7 bd.length c7] 23)
          have hzz9 : w8.heap.size ≤ (w8.alloc (.cells #[.slice A7 bd.length c7] 23)).drew.heap.size := by simp
          have HZ9 := Lib.hid hzz9
          have HB9 := Lib.hid hB9
          have H7 := Lib.hid hz7
          have H8 := Lib.hid hz8
          have H9 := Lib.hid hz9
          clear hy8 hbs8 ho8 hz7 hz8 hz9 hzz9 hB9 HSB HH
          go_wp2_with fail
          first
            | go_region_held (fun w' => (convert 23 9 (.slice A7 bd.length c7)).run Try.prog w' = .ok (.string ⟨bd.toArray⟩) w' ∧ (convert 23 9 (.slice A8 bd.length c8)).run Try.prog w' = .ok (.string ⟨bd.toArray⟩) w' ∧ (convert 23 9 (.slice A9 m9 c9)).run Try.prog w' = .ok (.string ⟨ot.toArray⟩) w') (first | exact ⟨s1, s2, s3⟩ | exact ⟨r1, r2, r3⟩ | exact ⟨q1, q2, q3⟩) ((go_at_call 44; refine HC.out.mono ?_; rintro e w9 ⟨v9, rfl, hown9, hb9⟩; obtain ⟨Aq, cq, rfl, hcq, hmq, hbsq, _, _⟩ := hown9.form; have s5 := hbsq.str (P := Try.prog) (src := 23) (dst := 9) (e := 5) Try.underlying23 Try.underlying5 Try.underlying9 cq; have q1 := (H7.out.below (hb9.mono HZ9.out)).str (P := Try.prog) (src := 23) (dst := 9) (e := 5) Try.underlying23 Try.underlying5 Try.underlying9 c7; have q2 := (H8.out.below (hb9.mono HZ9.out)).str (P := Try.prog) (src := 23) (dst := 9) (e := 5) Try.underlying23 Try.underlying5 Try.underlying9 c8; have q3 := (H9.out.below (hb9.mono HZ9.out)).str (P := Try.prog) (src := 23) (dst := 9) (e := 5) Try.underlying23 Try.underlying5 Try.underlying9 c9))
            | fail "held"
          all_goals
            have hBq := HB9.out.drew.trans (hb9.mono HB9.out.size)
            clear s1 s2 s3 r1 r2 r3 q1 q2 q3 s5 HC hbsq hown9 hb9
            go_wp2_with fail
            refine (awake2_any _).mono ?_
            rintro e w10 ⟨rfl, hb10⟩
            go_wp2_with fail
            go_ret
            exact ⟨rfl, hBq.trans (hb10.mono hBq.size)⟩
        · have hno : Crc.size ot = 0 ∨ Crc.size ot ≠ m9 := by
            rcases Nat.eq_zero_or_pos (Crc.size ot) with h | h
            · exact .inl h
            · exact .inr (fun e => hyes ⟨by omega, e⟩)
          clear hyes
          go_wp2_with fail
          refine (open_no A9 m9 c9 ot wr.heap.size wr hsh2 (Nat.le_refl _) hmc hc9 hno).mono ?_
          rintro e w7 ⟨rfl, hb7⟩
          have z7 := hb7.size
          have hsh3 := (hsh2.below hb7).wider z7
          go_wp2_with fail
          refine (refFirst_any A9 m9 c9 ot w7 hsh3 hmc hc9).mono ?_
          rintro e w8 ⟨v8, rfl, _, _, hb8⟩
          have z8 := hb8.size
          have hB8 := (hBr.trans (hb7.mono zr)).trans (hb8.mono (by omega))
          clear hb7 hb8 hsh2 hsh3 hBr
          generalize Crc.size ot = z at *
          rcases hno with h0 | h0
          · have hz : (z : Int) = 0 := by omega
            rw [hz]
            clear hz h0
            go_wp2_with fail
            go_quiet (fail)
            go_wp2_with fail
            refine (awake2_any _).mono ?_
            rintro e w9 ⟨rfl, hb9⟩
            go_wp2_with fail
            go_ret
            exact ⟨rfl, (below_draws hB8 _).trans (hb9.mono (by have := hB8.size; exact this))⟩
          · have e1 : ((z : Int) == (m9 : Int)) = false := by rw [beq_eq_false_iff_ne]; omega
            rcases Nat.eq_zero_or_pos z with hzz | hzz
            · have hz : (z : Int) = 0 := by omega
              rw [hz]
              clear hz h0 hzz
              go_wp2_with fail
              go_quiet (fail)
              go_wp2_with fail
              refine (awake2_any _).mono ?_
              rintro e w9 ⟨rfl, hb9⟩
              go_wp2_with fail
              go_ret
              exact ⟨rfl, (below_draws hB8 _).trans (hb9.mono (by have := hB8.size; exact this))⟩
            · have e2 : (0 : Int) < (z : Int) := by omega
              clear h0
              go_wp2_with fail
              go_quiet (fail)
              go_wp2_with fail
              refine (awake2_any _).mono ?_
              rintro e w9 ⟨rfl, hb9⟩
              go_wp2_with fail
              go_ret
              exact ⟨rfl, (below_draws hB8 _).trans (hb9.mono (by have := hB8.size; exact this))⟩
end Go.Proofs.Ythkkjefcdedlfaa
