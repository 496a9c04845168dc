/-
  What the document's Clean and alike of chapter 9's statements do.
-/
import Derived.Test.YtapnhhoegoakiaaCpO
namespace Go.Proofs.Ytapnhhoegoakiaa
open Go.RowKit Go.Lib Go.Sort
set_option linter.unusedVariables false
set_option linter.unusedSimpArgs false

theorem noKey_snoc (s : ByteArray) (l : List AtC) (j : Nat) (hj : j < l.length) : noKey s (l.take (j + 1)) = (noKey s (l.take j) && !decide ((l.getD j default).key = s)) := by
  unfold noKey
  rw [List.take_succ_eq_append_getElem hj, List.all_append, List.getD_eq_getElem?_getD, List.getElem?_eq_getElem hj]
  simp
set_option maxRecDepth 100000 in
set_option maxHeartbeats 8000000 in
theorem rclean_any (hz : Int) (A : Option Addr) (n c : Nat) (L : List AtC) (w : World) (h : Acs w w.heap.size A n L) (hn : n ≤ 1000000) (hc : n ≤ c) (hcm : c ≤ maxLen) :
    Calls Try.prog 15 #[.int .i64 hz, .slice A n c] w fun e w' => ∃ v, e = .returned v ∧ w'.ownsRow w.heap.size 75 5 v (cleanR hz L).length (ccells (cleanR hz L)) ∧ Below w.heap.size w w' := by
  obtain ⟨j0, qj0, qy0, qy1, qy2⟩ := info_parts zero_rat
  unfold maxLen at hcm
  have HL := Lib.hid h
  have HKE : Hid (∀ k, k < n → keepK hz L k = (noKey (L.getD k default).key (L.drop (k + 1)) && !((L.getD k default).gone && decide ((L.getD k default).time < hz)))) := fun k hk => by
    show _ = _; unfold keepK; rw [last_all L k (by rw [h.len]; exact hk)]; rfl
  have HST : Hid (∀ k, k < n → cleanR hz (L.drop k) = (if keepK hz L k = true then [L.getD k default] else []) ++ cleanR hz (L.drop (k + 1))) := fun k hk => clean_step hz L k (by rw [h.len]; exact hk)
  have HEN : Hid (cleanR hz (L.drop n) = []) := by show _ = _; rw [← h.len, List.drop_length]; rfl
  have HLE : Hid ((cleanR hz L).length ≤ n) := by show _ ≤ _; have := cleanR_len hz L; have := h.len; omega
  have HD0 : Hid (cleanR hz (L.drop 0) = cleanR hz L) := rfl
  generalize keepK hz L = KE at *
  generalize cleanR hz L = CL at *
  have HCR : Hid (∃ D : Nat → List AtC, ∀ k, D k = cleanR hz (L.drop k)) := ⟨_, fun _ => rfl⟩
  obtain ⟨D, hD⟩ := HCR.out
  simp only [← hD] at HST HEN HD0
  clear hD HCR h
  go_enter Try.func15, Try.ntmps15
  go_wp2_with fail
  go_loopw [5, 13] (fun v i wr => ∃ (k : Nat) (C : List AtC), k ≤ n ∧ i = .int .i64 k ∧ Hid (C ++ D k = CL) ∧ Hid (wr.ownsRow w.heap.size 75 5 v C.length (ccells C)) ∧ Hid (Below w.heap.size w wr)) (fun _ i _ => n - (RowKit.intOf i).toNat)
  case atStart => exact ⟨0, [], by omega, rfl, by show _ = _; rw [HD0.out]; rfl, World.ownsRow_nil _ _ _ _, Below.refl _ _⟩
  case round =>
    obtain ⟨k, C, hk, rfl, HC, HO, HB⟩ := hrel
    have hzr := HB.out.size
    by_cases hlt : k < n
    · have HLD := Lib.hid ((HL.out.below HB.out).drop (k + 1) c (by omega) hc)
      obtain ⟨p, rfl, hp, r0, r1, r2, r3, r4⟩ := (HL.out.below HB.out).row hlt
      have HLAST := Lib.hid (HKE.out k hlt)
      have HS := Lib.hid (HST.out k hlt)
      have HCL : Hid (C.length ≤ n) := by have e := congrArg List.length HC.out; have := HLE.out; rw [List.length_append] at e; show _ ≤ _; omega
      generalize L.getD k default = re at *
      obtain ⟨off, key, value, gone, time⟩ := re
      simp only at r0 r1 r2 r3 r4 HS HLAST
      have hkz : (k : Int) < (n : Int) := by omega
      have hkz1 : (k : Int) + 1 ≤ (n : Int) := by omega
      have hkn1 : k + 1 ≤ n := by omega
      have hk0 : (0 : Int) ≤ (k : Int) + 1 := by omega
      have hkt : ((k : Int) + 1).toNat = k + 1 := by omega
      have hal := (Below.refl wr.heap.size wr).alloc (Nat.le_refl _) (.cells #[.int .i64 off, .string key, .string value, .bool gone, .int .i64 time] 75)
      have hN := heap_alloc_new wr (.cells #[.int .i64 off, .string key, .string value, .bool gone, .int .i64 time] 75)
      have HO5 := Lib.hid (HO.out.alloc (.cells #[.int .i64 off, .string key, .string value, .bool gone, .int .i64 time] 75))
      obtain ⟨w5, hw5⟩ : ∃ w5, wr.alloc (.cells #[.int .i64 off, .string key, .string value, .bool gone, .int .i64 time] 75) = w5 := ⟨_, rfl⟩
      rw [hw5] at hal hN HO5
      have HW5 := Lib.hid hw5
      have HB5 := Lib.hid (HB.out.trans (hal.mono hzr))
      have HLD5 := Lib.hid ((HLD.out.below (hal.mono hzr)).wider (show w.heap.size ≤ w5.heap.size from Nat.le_trans hzr hal.size))
      have hz5 : wr.heap.size < w5.heap.size := (Array.getElem?_eq_some_iff.1 hN).1
      clear hw5 hal hzr HLD
      go_upto_region 5 with fail
      rw [HW5.out]
      have n0 := cell_of_row _ _ 0 _ _ _ hN
      have n1 := cell_of_row _ _ 1 _ _ _ hN
      have n2 := cell_of_row _ _ 2 _ _ _ hN
      have n3 := cell_of_row _ _ 3 _ _ _ hN
      have n4 := cell_of_row _ _ 4 _ _ _ hN
      clear r0 r1 r2 r3 r4 HW5 hN
      generalize wr = wo at *
      obtain ⟨A', hA', HTLA⟩ : ∃ A' : Addr, (if c = k + 1 then some p else some (p.add ((k + 1) * 5))) = some A' ∧ Hid (Acs w5 w5.heap.size (some A') (n - (k + 1)) (L.drop (k + 1))) := by
        by_cases hck : c = k + 1
        · exact ⟨p, by rw [if_pos hck], by have := HLD5.out; rw [if_pos hck] at this; exact this⟩
        · exact ⟨p.add ((k + 1) * 5), by rw [if_neg hck], by have := HLD5.out; rw [if_neg hck] at this; exact this⟩
      skip
      obtain ⟨lst, hlst⟩ : ∃ lst, L.drop (k + 1) = lst := ⟨_, rfl⟩
      rw [hlst] at HTLA HLAST
      clear hlst
      go_upto_region 7 with fail
      go_loopw [8, 23] (fun b jx wr => ∃ j : Nat, j ≤ n - (k + 1) ∧ jx = .int .i64 j ∧ ∃ bb : Bool, b = .bool bb ∧ Hid (bb = noKey key (lst.take j)) ∧ Hid (Below w5.heap.size w5 wr)) (fun _ jx _ => n - (k + 1) - (RowKit.intOf jx).toNat)
      case atStart => exact ⟨0, by omega, rfl, true, rfl, rfl, Below.refl _ _⟩
      case round =>
        obtain ⟨j, hj, rfl, bb, rfl, HBB, HBJ⟩ := hrel
        have hzj := HBJ.out.size
        have o1 := (HBJ.out.cell (p := ⟨wo.heap.size, 1, none⟩) hz5).trans n1
        have o3 := (HBJ.out.cell (p := ⟨wo.heap.size, 3, none⟩) hz5).trans n3
        have o4 := (HBJ.out.cell (p := ⟨wo.heap.size, 4, none⟩) hz5).trans n4
        by_cases hjt : j < n - (k + 1)
        · obtain ⟨p', hp', hpb, s0, s1, s2, s3, s4⟩ := (HTLA.out.below HBJ.out).row hjt
          have hlen := HTLA.out.len
          have HNK : Hid (noKey key (lst.take (j + 1)) = (noKey key (lst.take j) && !decide ((lst.getD j default).key = key))) := noKey_snoc key lst j (by omega)
          generalize lst.getD j default = xe at *
          injection hp' with hp'
          subst hp'
          obtain ⟨xo, xk, xv, xg, xt⟩ := xe
          simp only at s0 s1 s2 s3 s4 HNK
          have hjz : (j : Int) < ((n - (k + 1) : Nat) : Int) := by omega
          have hal2 := (Below.refl wr.heap.size wr).alloc (Nat.le_refl _) (.cells #[.int .i64 xo, .string xk, .string xv, .bool xg, .int .i64 xt] 75)
          have hN2 := heap_alloc_new wr (.cells #[.int .i64 xo, .string xk, .string xv, .bool xg, .int .i64 xt] 75)
          obtain ⟨w6, hw6⟩ : ∃ w6, wr.alloc (.cells #[.int .i64 xo, .string xk, .string xv, .bool xg, .int .i64 xt] 75) = w6 := ⟨_, rfl⟩
          rw [hw6] at hal2 hN2
          have HW6 := Lib.hid hw6
          have HB6 := Lib.hid (HBJ.out.trans (hal2.mono hzj))
          have q1 := (hal2.cell (p := ⟨wo.heap.size, 1, none⟩) (by show wo.heap.size < _; omega)).trans o1
          clear hw6 hal2 hlen o3 o4
          go_upto_region 9 with fail
          rw [HW6.out]
          have t1 := cell_of_row _ _ 1 _ _ _ hN2
          clear s0 s1 s2 s3 s4 o1
          cases bb with
          | false =>
            have HNB : Hid (false = noKey key (lst.take (j + 1))) := by show _ = _; rw [HNK.out, ← HBB.out, Bool.false_and]
            go_wp2_with fail
            go_roundw
            case rel => exact ⟨j + 1, by omega, by go_num, false, rfl, HNB, HB6⟩
            case measure => simp [RowKit.intOf]; omega
          | true =>
            have HNB : Hid ((!(xk.toList == key.toList)) = noKey key (lst.take (j + 1))) := by show _ = _; rw [HNK.out, ← HBB.out, Bool.true_and, beqB]
            go_wp2_with fail
            go_roundw
            case rel => exact ⟨j + 1, by omega, by go_num, _, rfl, HNB, HB6⟩
            case measure => simp [RowKit.intOf]; omega
        · have d9 : decide ((j : Int) < ((n - (k + 1) : Nat) : Int)) = false := by rw [decide_eq_false_iff_not]; omega
          have HKB : Hid (KE k = (bb && !(gone && decide (time < hz)))) := by
            show _ = _
            rw [HLAST.out, HBB.out, List.take_of_length_le (by have := HTLA.out.len; omega)]
          have HO6 := Lib.hid (rowb5 HO5.out HBJ.out)
          have HB6 := Lib.hid (HB5.out.trans (HBJ.out.mono HB5.out.size))
          have o0 := (HBJ.out.cell (p := ⟨wo.heap.size, 0, none⟩) hz5).trans n0
          have o2 := (HBJ.out.cell (p := ⟨wo.heap.size, 2, none⟩) hz5).trans n2
          clear n0 n1 n2 n3 n4
          cases bb with
          | false =>
            have HKT : Hid (KE k = false) := HKB.out
            go_wp2_with fail
            go_roundw
            case rel => exact ⟨k + 1, C, by omega, by go_num, by have e := HC.out; rw [HS.out] at e; show _ = _; rw [← e, HKT.out]; simp, HO6, HB6⟩
            case measure => simp [RowKit.intOf]; omega
          | true =>
            cases gone with
            | false =>
              have HKT : Hid (KE k = true) := by show _ = _; rw [HKB.out]; simp
              have hown := HO6.out
              have hown8 := hown.alloc (.cells #[.int .i64 off, .string key, .string value, .bool false, .int .i64 time] 75)
              have hCn := HCL.out
              go_wp2_with (at_builtin; go_loud (refine wpList_append_own_at _ rfl (.tmp 52) (.tmp 54) 37 rfl w.heap.size 75 j0 _ 5 56 Try.underlying37 qj0 qy0 qy1 qy2 rfl (by decide) _ C.length (ccells C) rfl hown8 ⟨wr.heap.size, 0, none⟩ 1 1 [.int .i64 off, .string key, .string value, .bool false, .int .i64 time] rfl rfl (new_cells5 wr [.int .i64 off, .string key, .string value, .bool false, .int .i64 time] _) ?g1 ?g2 ?g3 ?g4 ?_))
              case g1 => first | exact ⟨rfl, rfl, rfl, rfl, rfl⟩ | (intro u hu; simp at hu; rcases hu with rfl | rfl | rfl | rfl | rfl <;> rfl)
              case g2 => unfold maxLen; omega
              case g3 => omega
              case g4 => have := HB6.out.size; simp; omega
              intro va w7 hown7 hg7 _ _
              have HO7 : Hid (w7.ownsRow w.heap.size 75 5 va (C ++ [(⟨off, key, value, false, time⟩ : AtC)]).length (ccells (C ++ [(⟨off, key, value, false, time⟩ : AtC)]))) := by show World.ownsRow _ _ _ _ _ _ _; rw [ccells_append, List.length_append]; simpa [ccells, AtC.cells] using hown7
              have HB7 := Lib.hid ((HB6.out.alloc HB6.out.size _).trans ((Below.refl _ _).grown hg7 (by have := HB6.out.size; simp; omega) (fun q hq => (World.ownsRow.lt hown8 q hq).1)))
              clear hown8 hown7 hg7 hown o0 o1 o2 o3 o4
              go_wp2_with fail
              go_roundw
              case rel => exact ⟨k + 1, C ++ [(⟨off, key, value, false, time⟩ : AtC)], by omega, by go_num, by have e := HC.out; rw [HS.out] at e; show _ = _; rw [← e, HKT.out]; simp, HO7, HB7⟩
              case measure => simp [RowKit.intOf]; omega
            | true =>
              by_cases htm : time < hz
              · have HKT : Hid (KE k = false) := by show _ = _; rw [HKB.out]; simp [htm]
                go_wp2_with fail
                go_roundw
                case rel => exact ⟨k + 1, C, by omega, by go_num, by have e := HC.out; rw [HS.out] at e; show _ = _; rw [← e, HKT.out]; simp, HO6, HB6⟩
                case measure => simp [RowKit.intOf]; omega
              · have HKT : Hid (KE k = true) := by show _ = _; rw [HKB.out]; simp; omega
                have htd : decide (time < hz) = false := by simp; omega
                have hown := HO6.out
                have hown8 := hown.alloc (.cells #[.int .i64 off, .string key, .string value, .bool true, .int .i64 time] 75)
                have hCn := HCL.out
                go_wp2_with (at_builtin; go_loud (refine wpList_append_own_at _ rfl (.tmp 52) (.tmp 54) 37 rfl w.heap.size 75 j0 _ 5 56 Try.underlying37 qj0 qy0 qy1 qy2 rfl (by decide) _ C.length (ccells C) rfl hown8 ⟨wr.heap.size, 0, none⟩ 1 1 [.int .i64 off, .string key, .string value, .bool true, .int .i64 time] rfl rfl (new_cells5 wr [.int .i64 off, .string key, .string value, .bool true, .int .i64 time] _) ?g1 ?g2 ?g3 ?g4 ?_))
                case g1 => first | exact ⟨rfl, rfl, rfl, rfl, rfl⟩ | (intro u hu; simp at hu; rcases hu with rfl | rfl | rfl | rfl | rfl <;> rfl)
                case g2 => unfold maxLen; omega
                case g3 => omega
                case g4 => have := HB6.out.size; simp; omega
                intro va w7 hown7 hg7 _ _
                have HO7 : Hid (w7.ownsRow w.heap.size 75 5 va (C ++ [(⟨off, key, value, true, time⟩ : AtC)]).length (ccells (C ++ [(⟨off, key, value, true, time⟩ : AtC)]))) := by show World.ownsRow _ _ _ _ _ _ _; rw [ccells_append, List.length_append]; simpa [ccells, AtC.cells] using hown7
                have HB7 := Lib.hid ((HB6.out.alloc HB6.out.size _).trans ((Below.refl _ _).grown hg7 (by have := HB6.out.size; simp; omega) (fun q hq => (World.ownsRow.lt hown8 q hq).1)))
                clear hown8 hown7 hg7 hown o0 o1 o2 o3 o4
                go_wp2_with fail
                go_roundw
                case rel => exact ⟨k + 1, C ++ [(⟨off, key, value, true, time⟩ : AtC)], by omega, by go_num, by have e := HC.out; rw [HS.out] at e; show _ = _; rw [← e, HKT.out]; simp, HO7, HB7⟩
                case measure => simp [RowKit.intOf]; omega

    · have d8 : decide ((k : Int) < (n : Int)) = false := by rw [decide_eq_false_iff_not]; omega
      obtain rfl : k = n := by omega
      go_wp2_with fail
      go_ret
      have e := HC.out
      rw [HEN.out, List.append_nil] at e
      subst e
      exact ⟨_, rfl, HO.out, HB.out⟩
end Go.Proofs.Ytapnhhoegoakiaa
