/-
  What laid of chapter 9's statements does, from any first offset on, of any number.
-/
import Derived.Test.YtmlekkbjmfknfaaCpO
namespace Go.Proofs.Ytmlekkbjmfknfaa
open Go.RowKit Go.Lib
set_option linter.unusedVariables false
set_option linter.unusedSimpArgs false

def laidQ (mo : Nat) (w : World) (e : Ending) (w' : World) : Prop := ∃ v u L, e = .returned (.tuple #[v, u]) ∧ L.length ≤ mo ∧ Laid2 w w' v u L
set_option maxRecDepth 100000 in
set_option maxHeartbeats 4000000 in
theorem laid_at (y0 : Int) (hy0 : -9223372036854775808 ≤ y0 ∧ y0 ≤ 9223372036854775807) (mo : Nat) (hmo : mo ≤ 150) (A : Option Addr) (n c : Nat) (M : List OneC) (w : World) (h : Ocs w w.heap.size A n M) (hn : n ≤ maxLen) :
    Calls Try.prog 46 #[.slice A n c, .int .i64 y0, .int .i64 mo] w fun e w' => laidQ mo w e w' := by
  obtain ⟨j0, qj0, qy0, qy1, qy2⟩ := info_parts zero_at
  obtain ⟨k0, qk0, qz0, qz1, qz2⟩ := info_parts zero_rat
  obtain ⟨X, hX⟩ : ∃ X : Ending → World → Prop, (fun e w' => laidQ mo w e w') = X := ⟨_, rfl⟩
  have HX : Hid (∀ v u L w', L.length ≤ mo → Laid2 w w' v u L → X (.returned (.tuple #[v, u])) w') := fun v u L w' h1 h2 => by rw [← hX]; exact ⟨v, u, L, rfl, h1, h2⟩
  rw [hX]
  clear hX
  have HL := Lib.hid h
  have HCT : Hid (∀ s : ByteArray, (1100 < s.size → s.extract 0 1100 = cut9 s) ∧ (s.size ≤ 1100 → s = cut9 s)) := fun s => ⟨fun h => by unfold cut9; rw [if_pos h], fun h => by unfold cut9; rw [if_neg (by omega)]⟩
  unfold maxLen at hn
  clear h
  go_enter Try.func46, Try.ntmps46
  go_wp2_with fail
  go_loopw [8, 9, 10, 18] (fun v u x i wr => ∃ k : Nat, k ≤ n ∧ i = .int .i64 k ∧ ∃ y : Int, x = .int .i64 y ∧ (-9223372036854775808 ≤ y ∧ y ≤ 9223372036854775807) ∧ ∃ L : List AtC, L.length = k ∧ k ≤ mo ∧ Hid (Laid2 w wr v u L)) (fun _ _ _ i _ => n - (RowKit.intOf i).toNat)
  case atStart => exact ⟨0, by omega, rfl, y0, rfl, hy0, [], rfl, by omega, ⟨World.ownsRow_nil _ _ _ _, World.ownsRow_nil _ _ _ _, .inl rfl, (fun r h => by cases h), Below.refl _ _⟩⟩
  case round =>
    obtain ⟨k, hk, rfl, y, rfl, hy, L, hlk, hk60, HLA⟩ := hrel
    by_cases hlt : k < n
    · obtain ⟨p, rfl, hp, r0, r1, r2, r3, r4, r5⟩ := (HL.out.below HLA.out.bel).row hlt
      obtain ⟨hs1, hs2, hks, hvs, ht1, ht2⟩ := HL.out.ok_at hlt
      generalize M.getD k default = re at *
      obtain ⟨st, raw, key, value, gone, time⟩ := re
      simp only at r0 r1 r2 r3 r4 r5 hs1 hs2 hks hvs ht1 ht2
      unfold maxLen at hks hvs
      have hkz : (k : Int) < (n : Int) := by omega
      by_cases hlm : k < mo
      · have d8 : decide ((mo : Int) ≤ (k : Int)) = false := by rw [decide_eq_false_iff_not]; omega
        go_upto_if 31 with fail
        clear r0 r1 r2 r3 r4 r5
        go_cut [31] (fun s31 wx => wx = (wr.alloc (.cells #[.int .i64 st, .bool raw, .string key, .string value, .bool gone, .int .i64 time] 123)).alloc (.cells #[.string (cut9 key), .string value, .bool gone, .int .i64 time] 79))
        case first =>
          rcases Nat.lt_or_ge 1100 key.size with h1 | h1
          · have hd : decide (1100 < (key.size : Int)) = true := by simp; omega
            go_wp2_with fail
            go_meet
            rw [← (HCT.out key).1 h1]
          · have hd : decide (1100 < (key.size : Int)) = false := by simp; omega
            go_wp2_with fail
            go_meet
            rw [← (HCT.out key).2 h1]
        case rest =>
          subst hcut
          go_upto_if 39 with fail
          go_cut [39] (fun s39 wx => wx = (wr.alloc (.cells #[.int .i64 st, .bool raw, .string key, .string value, .bool gone, .int .i64 time] 123)).alloc (.cells #[.string (cut9 key), .string (cut9 value), .bool gone, .int .i64 time] 79))
          case first =>
            rcases Nat.lt_or_ge 1100 value.size with h1 | h1
            · have hd : decide (1100 < (value.size : Int)) = true := by simp; omega
              go_wp2_with fail
              go_meet
              rw [← (HCT.out value).1 h1]
            · have hd : decide (1100 < (value.size : Int)) = false := by simp; omega
              go_wp2_with fail
              go_meet
              rw [← (HCT.out value).2 h1]
          case rest =>
            subst hcut
            have hck := cut9_size key
            have hcv := cut9_size value
            obtain ⟨ck, hck'⟩ : ∃ ck, cut9 key = ck := ⟨_, rfl⟩
            obtain ⟨cv, hcv'⟩ : ∃ cv, cut9 value = cv := ⟨_, rfl⟩
            rw [hck'] at hck ⊢
            rw [hcv'] at hcv ⊢
            clear hck' hcv'
            go_upto_if 48 with fail
            have htm : -3 ≤ st.tmod 4 ∧ st.tmod 4 ≤ 3 := by rw [Go.tmod_eq_if]; split <;> omega
            obtain ⟨tm, htme⟩ : ∃ tm, st.tmod 4 = tm := ⟨_, rfl⟩
            rw [htme] at htm ⊢
            clear htme
            go_cut [48, 14] (fun s48 s14 wx => ∃ z : Int, s14 = .int .i64 z ∧ (0 ≤ z ∧ z ≤ 3) ∧ wx = (wr.alloc (.cells #[.int .i64 st, .bool raw, .string key, .string value, .bool gone, .int .i64 time] 123)).alloc (.cells #[.string ck, .string cv, .bool gone, .int .i64 time] 79))
            case first =>
              by_cases h1 : tm < 0
              · have hd : decide (tm < 0) = true := by simp [h1]
                go_wp2_with fail
                go_meet
                exact ⟨-tm, by first | rfl | go_num, by omega, rfl⟩
              · have hd : decide (tm < 0) = false := by simp; omega
                go_wp2_with fail
                go_meet
                exact ⟨tm, rfl, by omega, rfl⟩
            case rest =>
              obtain ⟨z, rfl, hz, rfl⟩ := hcut
              go_upto_if 55 with fail
              have hwr : -9223372036854775808 ≤ wrap64 (y + z) ∧ wrap64 (y + z) ≤ 9223372036854775807 := by unfold wrap64; omega
              obtain ⟨wy, hwy⟩ : ∃ wy, wrap64 (y + z) = wy := ⟨_, rfl⟩
              rw [hwy] at hwr ⊢
              clear hwy
              go_cut [55, 10] (fun s55 s10 wx => ∃ z : Int, s10 = .int .i64 z ∧ (-9223372036854775808 ≤ z ∧ z ≤ 9223372036854775807) ∧ wx = (wr.alloc (.cells #[.int .i64 st, .bool raw, .string key, .string value, .bool gone, .int .i64 time] 123)).alloc (.cells #[.string ck, .string cv, .bool gone, .int .i64 time] 79))
              case first =>
                cases raw with
                | true =>
                  go_wp2_with fail
                  go_meet
                  exact ⟨st, rfl, by omega, rfl⟩
                | false =>
                  go_wp2_with fail
                  go_meet
                  exact ⟨wy, rfl, hwr, rfl⟩
              case rest =>
                obtain ⟨y', rfl, hy', rfl⟩ := hcut
                have hN := heap_alloc_new (wr.alloc (.cells #[.int .i64 st, .bool raw, .string key, .string value, .bool gone, .int .i64 time] 123)) (.cells #[.string ck, .string cv, .bool gone, .int .i64 time] 79)
                rw [show (wr.alloc (.cells #[.int .i64 st, .bool raw, .string key, .string value, .bool gone, .int .i64 time] 123)).heap.size = wr.heap.size + 1 from by simp] at hN
                have HLB := Lib.hid ((HLA.out.alloc (.cells #[.int .i64 st, .bool raw, .string key, .string value, .bool gone, .int .i64 time] 123)).alloc (.cells #[.string ck, .string cv, .bool gone, .int .i64 time] 79))
                have hzb : ((wr.alloc (.cells #[.int .i64 st, .bool raw, .string key, .string value, .bool gone, .int .i64 time] 123)).alloc (.cells #[.string ck, .string cv, .bool gone, .int .i64 time] 79)).heap.size = wr.heap.size + 2 := by simp
                have HLT1 : Hid (∀ b, u8.ownBlock = some b → b < wr.heap.size) := fun b hb => (World.ownsRow.lt HLA.out.p b hb).2
                have HLT2 : Hid (∀ b, u9.ownBlock = some b → b < wr.heap.size) := fun b hb => (World.ownsRow.lt HLA.out.q b hb).2
                obtain ⟨w5, hw5⟩ : ∃ w5, (wr.alloc (.cells #[.int .i64 st, .bool raw, .string key, .string value, .bool gone, .int .i64 time] 123)).alloc (.cells #[.string ck, .string cv, .bool gone, .int .i64 time] 79) = w5 := ⟨_, rfl⟩
                rw [hw5] at hN HLB hzb ⊢
                have n0 := cell_of_row _ _ 0 _ _ _ hN
                have n1 := cell_of_row _ _ 1 _ _ _ hN
                have n2 := cell_of_row _ _ 2 _ _ _ hN
                have n3 := cell_of_row _ _ 3 _ _ _ hN
                have HN := Lib.hid hN
                have HZB := Lib.hid hzb
                clear hw5 hN HLA hzb
                have hownP := HLB.out.p.alloc (.cells #[.int .i64 y', .string ck, .string cv, .bool gone, .int .i64 time] 81)
                go_upto_region 20 with (at_builtin; go_loud (refine wpList_append_own_at _ rfl (.tmp 58) (.tmp 62) 68 rfl w.heap.size 81 j0 _ 5 56 Try.underlying68 qj0 qy0 qy1 qy2 rfl (by decide) _ L.length (ccells L) rfl hownP ⟨w5.heap.size, 0, none⟩ 1 1 [.int .i64 y', .string ck, .string cv, .bool gone, .int .i64 time] rfl rfl (new_cells5 w5 [.int .i64 y', .string ck, .string cv, .bool gone, .int .i64 time] _) ?g1 ?g2 ?g3 ?g4 ?_))
                case g1 => first | exact ⟨rfl, rfl, rfl, rfl, rfl⟩ | (intro u hu; simp at hu; rcases hu with rfl | rfl | rfl | rfl | rfl <;> rfl)
                case g2 => unfold maxLen; omega
                case g3 => omega
                case g4 => have := HLB.out.bel.size; simp; omega
                intro va w7 hown7 hg7 _ hat7
                have hz7 := hg7.size
                have HB7 : Hid (Below w.heap.size w w7) := (HLB.out.bel.alloc HLB.out.bel.size (.cells #[.int .i64 y', .string ck, .string cv, .bool gone, .int .i64 time] 81)).trans ((Below.refl _ _).grown hg7 (by have := HLB.out.bel.size; simp; omega) (fun q hq => (World.ownsRow.lt hownP q hq).1))
                have HP7 : Hid (w7.ownsRow w.heap.size 81 5 va (L ++ [(⟨y', ck, cv, gone, time⟩ : AtC)]).length (ccells (L ++ [(⟨y', ck, cv, gone, time⟩ : AtC)]))) := by show World.ownsRow _ _ _ _ _ _ _; rw [ccells_append, List.length_append]; simpa [ccells, AtC.cells, hlk] using hown7
                have hq7 : w7.ownsRow w.heap.size 90 5 u9 L.length (ccells L) := (HLB.out.q.alloc (.cells #[.int .i64 y', .string ck, .string cv, .bool gone, .int .i64 time] 81)).kept hg7 (sep_symm HLB.out.sep)
                have HSE : Hid (va.ownBlock = none ∨ va.ownBlock ≠ u9.ownBlock) := by
                  rcases hat7 with e | e
                  · show _ ∨ _; rw [e]; exact HLB.out.sep
                  · right; rw [e]; intro e2; have h1 := HLT2.out _ e2.symm; have h2 := HZB.out; try simp at h1
                    omega
                have hN7 : w7.heap[wr.heap.size + 1]? = some (.cells #[.string ck, .string cv, .bool gone, .int .i64 time] 79 (0, 0)) := by
                  rw [hg7.block (wr.heap.size + 1) (by have := HZB.out; simp; omega) (fun e => by have := HLT1.out _ e.symm; omega), heap_alloc_old w5 _ (by have := HZB.out; omega)]; exact HN.out
                have m0 := cell_of_row _ _ 0 _ _ _ hN7
                have m1 := cell_of_row _ _ 1 _ _ _ hN7
                have m2 := cell_of_row _ _ 2 _ _ _ hN7
                have m3 := cell_of_row _ _ 3 _ _ _ hN7
                have HB7s : Hid (w.heap.size ≤ w7.heap.size) := HB7.out.size
                have HVL : Hid (∀ b, va.ownBlock = some b → b < w7.heap.size) := fun b hb => (World.ownsRow.lt HP7.out b hb).2
                have HOK := Lib.hid HLB.out.ok
                clear hown7 hg7 hat7 hownP hN7 HLB HN HZB HLT1 HLT2 n0 n1 n2 n3 hz7
                have hownQ := hq7.alloc (.cells #[.int .i64 y', .string ck, .string cv, .bool gone, .int .i64 time] 90)
                go_upto_if 71 with (at_builtin; go_loud (refine wpList_append_own_at _ rfl (.tmp 64) (.tmp 68) 26 rfl w.heap.size 90 k0 _ 5 56 Try.underlying26 qk0 qz0 qz1 qz2 rfl (by decide) _ L.length (ccells L) rfl hownQ ⟨w7.heap.size, 0, none⟩ 1 1 [.int .i64 y', .string ck, .string cv, .bool gone, .int .i64 time] rfl rfl (new_cells5 w7 [.int .i64 y', .string ck, .string cv, .bool gone, .int .i64 time] _) ?g1 ?g2 ?g3 ?g4 ?_))
                case g1 => first | exact ⟨rfl, rfl, rfl, rfl, rfl⟩ | (intro u hu; simp at hu; rcases hu with rfl | rfl | rfl | rfl | rfl <;> rfl)
                case g2 => unfold maxLen; omega
                case g3 => omega
                case g4 => have := HB7s.out; simp; omega
                intro vb w9 hown9 hg9 _ hat9
                have HLN : Hid (Laid2 w w9 va vb (L ++ [(⟨y', ck, cv, gone, time⟩ : AtC)])) := by
                  refine ⟨(HP7.out.alloc (.cells #[.int .i64 y', .string ck, .string cv, .bool gone, .int .i64 time] 90)).kept hg9 HSE.out, ?_, ?_, ?_, (HB7.out.alloc HB7.out.size _).trans ((Below.refl _ _).grown hg9 (by have := HB7s.out; simp; omega) (fun q hq => (World.ownsRow.lt hownQ q hq).1))⟩
                  · rw [ccells_append, List.length_append]; simpa [ccells, AtC.cells, hlk] using hown9
                  · rcases hat9 with e | e
                    · rw [e]; exact HSE.out
                    · rw [e]
                      cases hv : va.ownBlock with
                      | none => exact .inl rfl
                      | some b => right; intro e2; injection e2 with e2; have h1 := HVL.out _ hv; have e3 : (w7.alloc (.cells #[.int .i64 y', .string ck, .string cv, .bool gone, .int .i64 time] 90)).heap.size = w7.heap.size + 1 := by simp
                                  omega
                  · intro r hr
                    rcases List.mem_append.1 hr with hr | hr
                    · exact HOK.out r hr
                    · simp at hr; subst hr; exact ⟨hy'.1, hy'.2, by show ck.size ≤ _; omega, by show cv.size ≤ _; omega, ht1, ht2⟩
                clear hown9 hg9 hat9 hownQ hq7 m0 m1 m2 m3 HP7 HB7 HSE HVL HB7s
                by_cases h62 : y' < 4611686018427387904
                · have hd : decide (y' < 4611686018427387904) = true := by simp [h62]
                  go_wp2_with fail
                  go_roundw
                  case rel => exact ⟨k + 1, by omega, by go_num, y' + 1, by first | rfl | go_num, by omega, L ++ [(⟨y', ck, cv, gone, time⟩ : AtC)], by simp [hlk], by omega, HLN⟩
                  case measure => simp [RowKit.intOf]; omega
                · have hd : decide (y' < 4611686018427387904) = false := by simp; omega
                  go_wp2_with fail
                  go_roundw
                  case rel => exact ⟨k + 1, by omega, by go_num, y', rfl, hy', L ++ [(⟨y', ck, cv, gone, time⟩ : AtC)], by simp [hlk], by omega, HLN⟩
                  case measure => simp [RowKit.intOf]; omega
      · have d8 : decide ((mo : Int) ≤ (k : Int)) = true := by rw [decide_eq_true_iff]; omega
        have HEN := Lib.hid (HX.out _ _ L _ (by omega) (HLA.out.alloc (.cells #[.int .i64 st, .bool raw, .string key, .string value, .bool gone, .int .i64 time] 123)))
        go_wp2_with fail
        exact HEN.out
    · have d8 : decide ((k : Int) < (n : Int)) = false := by rw [decide_eq_false_iff_not]; omega
      have HEN := Lib.hid (HX.out _ _ L _ (by omega) HLA.out)
      go_wp2_with fail
      exact HEN.out
end Go.Proofs.Ytmlekkbjmfknfaa
