/-
  What compact's lasts, Clean and Spare do.
-/
import Derived.Test.YtmlekkbjmfknfaaCpA
namespace Go.Proofs.Ytmlekkbjmfknfaa
open Go.RowKit Go.Maps
set_option linter.unusedVariables false
set_option linter.unusedSimpArgs false

theorem keyedS : Keyed Try.prog 9 := string_keyed Try.underlying9
theorem zero_int9 (w : World) : (zeroValue 3).run Try.prog w = .ok (.int .i64 0) w := by kernel_rfl
theorem zero_at : (Try.prog.info? 81).map (fun i => (i.zero, i.size, i.bytes)) = some (some (.agg #[.int .i64 0, .string ⟨#[]⟩, .string ⟨#[]⟩, .bool false, .int .i64 0]), 5, 56) := by kernel_rfl
theorem zero_rat : (Try.prog.info? 90).map (fun i => (i.zero, i.size, i.bytes)) = some (some (.agg #[.int .i64 0, .string ⟨#[]⟩, .string ⟨#[]⟩, .bool false, .int .i64 0]), 5, 56) := by kernel_rfl
abbrev MsP (w : World) (m n : Nat) (f : ByteArray → Option Nat) : Prop := Ms Try.prog 9 w m n f
set_option maxRecDepth 100000 in
set_option maxHeartbeats 8000000 in
theorem lasts_any (A : Option Addr) (n c : Nat) (L : List AtC) (w : World) (h : Acs w w.heap.size A n L) (hn : n ≤ 1000000) :
    Calls Try.prog 82 #[.slice A n c] w fun e w' => ∃ m, e = .returned (.map (some m)) ∧ w.heap.size ≤ m ∧ MsP w' m n (lastN L n) ∧ Below w.heap.size w w' := by
  have HL := Lib.hid h
  have hmm := @run_makeMap Try.prog
  have HOK : Hid (∀ k, k < n → (L.getD k default).ok) := fun k hk => h.ok_at hk
  have HLN : Hid (∀ k, lastN L (k + 1) = fun s => if (L.getD k default).key = s then some k else lastN L k s) := fun k => rfl
  have HL0 : Hid (lastN L 0 = fun _ => none) := rfl
  generalize lastN L = LN at *
  clear h
  go_enter Try.func82, Try.ntmps82
  go_wp2_with fail
  clear hmm
  go_loopw [9] (fun i wr => ∃ k : Nat, k ≤ n ∧ i = .int .i64 k ∧ Hid (MsP wr w.heap.size k (LN k)) ∧ Hid (Below w.heap.size w wr)) (fun i _ => n - (intOf i).toNat)
  case atStart => exact ⟨0, by omega, rfl, by rw [HL0.out]; exact Ms.made w, (Below.refl _ _).alloc (Nat.le_refl _) _⟩
  case round =>
    obtain ⟨k, hk, rfl, HM, HB⟩ := hrel
    by_cases hlt : k < n
    · obtain ⟨p, rfl, hp, r0, r1, r2, r3, r4⟩ := (HL.out.below HB.out).row hlt
      obtain ⟨_, _, hks, _⟩ := HOK.out k hlt
      have HS := Lib.hid (HLN.out k)
      generalize L.getD k default = re at *
      obtain ⟨off, key, value, gone, time⟩ := re
      simp only at r0 r1 r2 r3 r4 hks HS
      have hkz : (k : Int) < (n : Int) := by omega
      have hal := (Below.refl wr.heap.size wr).alloc (Nat.le_refl _) (.cells #[.int .i64 off, .string key, .string value, .bool gone, .int .i64 time] 81)
      have hN := heap_alloc_new wr (.cells #[.int .i64 off, .string key, .string value, .bool gone, .int .i64 time] 81)
      obtain ⟨w5, hw5⟩ : ∃ w5, wr.alloc (.cells #[.int .i64 off, .string key, .string value, .bool gone, .int .i64 time] 81) = w5 := ⟨_, rfl⟩
      rw [hw5] at hal hN
      have HW5 := Lib.hid hw5
      have hm5 : MsP w5 w.heap.size k (LN k) := HM.out.kept (hal.block _ HM.out.lt)
      obtain ⟨w6, hst, hm6, hg6⟩ := Ms.store hm5 keyedS Try.underlying129 Try.underlying9 (show k < maxLen by unfold maxLen; omega) key (by unfold maxLen; omega) k
      have HB6 : Hid (Below w.heap.size w w6) := (HB.out.trans (hal.mono HB.out.size)).trans ((Below.refl _ _).grown hg6 (by have := HB.out.size; have := hal.size; omega) (fun q hq => by injection hq with hq; omega))
      have HM6 : Hid (MsP w6 w.heap.size (k + 1) (LN (k + 1))) := by show Ms _ _ _ _ _ _; rw [HS.out]; exact hm6
      clear hw5 hm5 hm6 hg6 hal hks
      go_upto_region 5 with fail
      rw [HW5.out]
      have n0 := cell_of_row _ _ 0 _ _ _ hN
      have n1 := cell_of_row _ _ 1 _ _ _ hN
      clear r0 r1 r2 r3 r4
      go_wp2_with fail
      go_roundw
      case rel => exact ⟨k + 1, by omega, by go_num, HM6, HB6⟩
      case measure => simp [intOf]; omega
    · have d8 : decide ((k : Int) < (n : Int)) = false := by rw [decide_eq_false_iff_not]; omega
      obtain rfl : k = n := by omega
      go_wp2_with fail
      go_ret
      exact ⟨_, rfl, Nat.le_refl _, HM.out, HB.out⟩
-- FROM HERE: cpb.py
set_option maxRecDepth 100000 in
set_option maxHeartbeats 8000000 in
theorem clean_any (hz : Int) (A : Option Addr) (n c : Nat) (L : List AtC) (w : World) (h : Acs w w.heap.size A n L) (hn : n ≤ 1000000) :
    Calls Try.prog 53 #[.int .i64 hz, .slice A n c] w fun e w' => ∃ v, e = .returned v ∧ w'.ownsRow w.heap.size 81 5 v (cleanR hz L).length (ccells (cleanR hz L)) ∧ Below w.heap.size w w' := by
  obtain ⟨j0, qj0, qy0, qy1, qy2⟩ := info_parts zero_at
  have HL := Lib.hid h
  have HLA := Lib.hid (lasts_any A n c L w h hn)
  have HOK : Hid (∀ k, k < n → (L.getD k default).ok) := fun k hk => h.ok_at hk
  have HLS : Hid (∀ k, k < n → ∃ j : Nat, lastN L n (L.getD k default).key = some j) := fun k hk => lastN_some L n k hk
  have HKE : Hid (∀ k, keepK hz L k = (decide (lastN L n (L.getD k default).key = some k) && !oldB hz (L.getD k default))) := fun k => by show _ = _; rw [← h.len]; rfl
  have HST : Hid (∀ k, k < n → cleanR hz (L.drop k) = (if keepK hz L k = true then [L.getD k default] else []) ++ cleanR hz (L.drop (k + 1))) := fun k hk => clean_step hz L k (by rw [h.len]; exact hk)
  have HEN : Hid (cleanR hz (L.drop n) = []) := by show _ = _; rw [← h.len, List.drop_length]; rfl
  have HLE : Hid ((cleanR hz L).length ≤ n) := by show _ ≤ _; have := cleanR_len hz L; have := h.len; omega
  have HD0 : Hid (cleanR hz (L.drop 0) = cleanR hz L) := rfl
  generalize lastN L n = LN at *
  generalize keepK hz L = KE at *
  generalize cleanR hz L = CL at *
  have HCR : Hid (∃ D : Nat → List AtC, ∀ k, D k = cleanR hz (L.drop k)) := ⟨_, fun _ => rfl⟩
  obtain ⟨D, hD⟩ := HCR.out
  simp only [← hD] at HST HEN HD0
  clear hD HCR h
  go_enter Try.func53, Try.ntmps53
  go_wp2_with (go_at_call 82; refine HLA.out.mono ?_; rintro e w1 ⟨m, rfl, hm, hms, hb1⟩)
  have HMS := Lib.hid hms
  have HB1 := Lib.hid hb1
  clear hms hb1 HLA
  go_loopw [6, 13] (fun v i wr => ∃ (k : Nat) (C : List AtC), k ≤ n ∧ i = .int .i64 k ∧ Hid (C ++ D k = CL) ∧ Hid (wr.ownsRow w1.heap.size 81 5 v C.length (ccells C)) ∧ Hid (Below w1.heap.size w1 wr)) (fun _ i _ => n - (intOf i).toNat)
  case atStart => exact ⟨0, [], by omega, rfl, by show _ = _; rw [HD0.out]; rfl, World.ownsRow_nil _ _ _ _, Below.refl _ _⟩
  case round =>
    obtain ⟨k, C, hk, rfl, HC, HO, HB⟩ := hrel
    have hzr := HB.out.size
    have hz1 := HB1.out.size
    by_cases hlt : k < n
    · obtain ⟨p, rfl, hp, r0, r1, r2, r3, r4⟩ := (HL.out.below (HB1.out.trans (HB.out.mono hz1))).row hlt
      obtain ⟨_, _, hks, _⟩ := HOK.out k hlt
      obtain ⟨j, hj⟩ := HLS.out k hlt
      have hkp := HKE.out k
      have HS := Lib.hid (HST.out k hlt)
      have HCL : Hid (C.length ≤ n) := by have e := congrArg List.length HC.out; have := HLE.out; rw [List.length_append] at e; show _ ≤ _; omega
      generalize L.getD k default = re at *
      obtain ⟨off, key, value, gone, time⟩ := re
      simp only [oldB] at r0 r1 r2 r3 r4 hks HS hj hkp
      rw [hj] at hkp
      have hkz : (k : Int) < (n : Int) := by omega
      have hal := (Below.refl wr.heap.size wr).alloc (Nat.le_refl _) (.cells #[.int .i64 off, .string key, .string value, .bool gone, .int .i64 time] 81)
      have hN := heap_alloc_new wr (.cells #[.int .i64 off, .string key, .string value, .bool gone, .int .i64 time] 81)
      have HO5 := Lib.hid (HO.out.alloc (.cells #[.int .i64 off, .string key, .string value, .bool gone, .int .i64 time] 81))
      obtain ⟨w5, hw5⟩ : ∃ w5, wr.alloc (.cells #[.int .i64 off, .string key, .string value, .bool gone, .int .i64 time] 81) = w5 := ⟨_, rfl⟩
      rw [hw5] at hal hN HO5
      have HW5 := Lib.hid hw5
      have HB5 := Lib.hid (HB.out.trans (hal.mono hzr))
      have hlk := Ms.look (HMS.out.kept (HB5.out.block m HMS.out.lt)) keyedS Try.underlying129 Try.underlying9 (zero_int9 _) key (by unfold maxLen; omega) hj
      clear hw5 hal hks hj hzr hz1
      go_upto_region 6 with fail
      rw [HW5.out]
      have n0 := cell_of_row _ _ 0 _ _ _ hN
      have n1 := cell_of_row _ _ 1 _ _ _ hN
      have n2 := cell_of_row _ _ 2 _ _ _ hN
      have n3 := cell_of_row _ _ 3 _ _ _ hN
      have n4 := cell_of_row _ _ 4 _ _ _ hN
      clear r0 r1 r2 r3 r4
      by_cases hjk : j = k
      · subst hjk
        cases gone with
        | false =>
          have HKT : Hid (KE j = true) := by show _ = _; rw [hkp]; simp
          clear hkp
          have hown := HO5.out
          have hown8 := hown.alloc (.cells #[.int .i64 off, .string key, .string value, .bool false, .int .i64 time] 81)
          have hCn := HCL.out
          clear HCL
          go_wp2_with (at_builtin; go_loud (refine wpList_append_own_at _ rfl (.tmp 38) (.tmp 40) 68 rfl w1.heap.size 81 j0 _ 5 56 Try.underlying68 qj0 qy0 qy1 qy2 rfl (by decide) _ C.length (ccells C) rfl hown8 ⟨w5.heap.size, 0, none⟩ 1 1 [.int .i64 off, .string key, .string value, .bool false, .int .i64 time] rfl rfl (new_cells5 w5 [.int .i64 off, .string key, .string value, .bool false, .int .i64 time] _) ?g1 ?g2 ?g3 ?g4 ?_))
          case g1 => first | exact ⟨rfl, rfl, rfl, rfl, rfl⟩ | (intro u hu; simp at hu; rcases hu with rfl | rfl | rfl | rfl | rfl <;> rfl)
          case g2 => unfold maxLen; omega
          case g3 => omega
          case g4 => have := HB5.out.size; simp; omega
          intro va w7 hown7 hg7 _ _
          have HO7 : Hid (w7.ownsRow w1.heap.size 81 5 va (C ++ [(⟨off, key, value, false, time⟩ : AtC)]).length (ccells (C ++ [(⟨off, key, value, false, time⟩ : AtC)]))) := by show World.ownsRow _ _ _ _ _ _ _; rw [ccells_append, List.length_append]; simpa [ccells, AtC.cells] using hown7
          have HB7 := Lib.hid ((HB5.out.alloc HB5.out.size _).trans ((Below.refl _ _).grown hg7 (by have := HB5.out.size; simp; omega) (fun q hq => (World.ownsRow.lt hown8 q hq).1)))
          clear hown8 hown7 hg7 hown n0 n1 n2 n3 n4
          go_wp2_with fail
          go_roundw
          case rel => exact ⟨j + 1, C ++ [(⟨off, key, value, false, time⟩ : AtC)], by omega, by go_num, by have e := HC.out; rw [HS.out] at e; show _ = _; rw [← e, HKT.out]; simp, HO7, HB7⟩
          case measure => simp [intOf]; omega

        | true =>
          by_cases htm : time < hz
          · have HKT : Hid (KE j = false) := by show _ = _; rw [hkp]; simp [htm]
            clear hkp
            go_wp2_with fail
            go_roundw
            case rel => exact ⟨j + 1, C, by omega, by go_num, by have e := HC.out; rw [HS.out] at e; show _ = _; rw [← e, HKT.out]; simp, HO5, HB5⟩
            case measure => simp [intOf]; omega

          · have HKT : Hid (KE j = true) := by show _ = _; rw [hkp]; simp; omega
            have htd : decide (time < hz) = false := by simp; omega
            clear hkp
            have hown := HO5.out
            have hown8 := hown.alloc (.cells #[.int .i64 off, .string key, .string value, .bool true, .int .i64 time] 81)
            have hCn := HCL.out
            clear HCL
            go_wp2_with (at_builtin; go_loud (refine wpList_append_own_at _ rfl (.tmp 38) (.tmp 40) 68 rfl w1.heap.size 81 j0 _ 5 56 Try.underlying68 qj0 qy0 qy1 qy2 rfl (by decide) _ C.length (ccells C) rfl hown8 ⟨w5.heap.size, 0, none⟩ 1 1 [.int .i64 off, .string key, .string value, .bool true, .int .i64 time] rfl rfl (new_cells5 w5 [.int .i64 off, .string key, .string value, .bool true, .int .i64 time] _) ?g1 ?g2 ?g3 ?g4 ?_))
            case g1 => first | exact ⟨rfl, rfl, rfl, rfl, rfl⟩ | (intro u hu; simp at hu; rcases hu with rfl | rfl | rfl | rfl | rfl <;> rfl)
            case g2 => unfold maxLen; omega
            case g3 => omega
            case g4 => have := HB5.out.size; simp; omega
            intro va w7 hown7 hg7 _ _
            have HO7 : Hid (w7.ownsRow w1.heap.size 81 5 va (C ++ [(⟨off, key, value, true, time⟩ : AtC)]).length (ccells (C ++ [(⟨off, key, value, true, time⟩ : AtC)]))) := by show World.ownsRow _ _ _ _ _ _ _; rw [ccells_append, List.length_append]; simpa [ccells, AtC.cells] using hown7
            have HB7 := Lib.hid ((HB5.out.alloc HB5.out.size _).trans ((Below.refl _ _).grown hg7 (by have := HB5.out.size; simp; omega) (fun q hq => (World.ownsRow.lt hown8 q hq).1)))
            clear hown8 hown7 hg7 hown n0 n1 n2 n3 n4
            go_wp2_with fail
            go_roundw
            case rel => exact ⟨j + 1, C ++ [(⟨off, key, value, true, time⟩ : AtC)], by omega, by go_num, by have e := HC.out; rw [HS.out] at e; show _ = _; rw [← e, HKT.out]; simp, HO7, HB7⟩
            case measure => simp [intOf]; omega

      · have HKT : Hid (KE k = false) := by show _ = _; rw [hkp]; simp [hjk]
        have hjz : ((j : Int) = (k : Int)) = False := by simp; omega
        have hjd : decide ((j : Int) = (k : Int)) = false := by simp; omega
        clear hkp
        go_wp2_with fail
        go_roundw
        case rel => exact ⟨k + 1, C, by omega, by go_num, by have e := HC.out; rw [HS.out] at e; show _ = _; rw [← e, HKT.out]; simp, HO5, HB5⟩
        case measure => simp [intOf]; omega

    · have d8 : decide ((k : Int) < (n : Int)) = false := by rw [decide_eq_false_iff_not]; omega
      obtain rfl : k = n := by omega
      go_wp2_with fail
      go_ret
      have e := HC.out
      rw [HEN.out, List.append_nil] at e
      subst e
      exact ⟨_, rfl, row_base5 HO.out HB1.out.size, HB1.out.trans (HB.out.mono HB1.out.size)⟩
set_option maxRecDepth 100000 in
set_option maxHeartbeats 8000000 in
theorem spare_any (hz : Int) (A : Option Addr) (n c : Nat) (L : List AtC) (w : World) (h : Acs w w.heap.size A n L) (hn : n ≤ 1000000) :
    Calls Try.prog 55 #[.int .i64 hz, .slice A n c] w fun e w' => e = .returned (.int .i64 ((n : Int) - ((cleanR hz L).length : Int))) ∧ Below w.heap.size w w' := by
  have HC := Lib.hid (clean_any hz A n c L w h hn)
  have hle : (cleanR hz L).length ≤ n := by have := cleanR_len hz L; have := h.len; omega
  generalize cleanR hz L = CL at *
  go_enter Try.func55, Try.ntmps55
  go_wp2_with (go_at_call 53; refine HC.out.mono ?_; rintro e w1 ⟨v, rfl, hown, hb1⟩; obtain ⟨A1, c1, rfl, _, _⟩ := row_any hown)
  go_ret
  exact ⟨rfl, hb1⟩
end Go.Proofs.Ytmlekkbjmfknfaa
