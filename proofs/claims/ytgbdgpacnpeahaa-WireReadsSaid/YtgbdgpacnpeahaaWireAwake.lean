/-
  Chapter 1's examples: towpathlaw01.awake answers true.
-/
import Derived.Test.YtgbdgpacnpeahaaWireJoin
import Derived.Test.YtgbdgpacnpeahaaWireTexts
namespace Go.Proofs.Ytgbdgpacnpeahaa
open Go.RowKit
set_option linter.unusedVariables false
set_option linter.unusedSimpArgs false

def ex1 : List UInt8 := [172, 2, 3, 2, 97, 98, 1]
theorem ex1_a : dUint ex1 0 = .ok (.int .u64 300) 2 := by rfl
theorem ex1_b : dInt ex1 2 = .ok (.int .i64 (-2)) 3 := by rfl
theorem ex1_c : dText ex1 3 9 = .ok (.string ⟨#[97, 98]⟩) 6 := by rfl
theorem ex1_d : dFlag ex1 6 = .ok (.bool true) 7 := by rfl
theorem ex2_a : Wn.enc 2 ++ encTs [⟨#[]⟩, ⟨#[98]⟩] = [2, 0, 1, 98] := by rfl
theorem ex3_a : Wn.enc 300 = [172, 2] := by rfl
theorem ex3_b : Wn.enc (Wn.zig (-2)) = [3] := by rfl

theorem Rs.two {w : World} {A1 A2 : Option Addr} {m1 c1 m2 c2 : Nat} {l1 l2 : List UInt8} (h1 : Bs w w.heap.size A1 m1 l1) (hm1 : m1 ≤ c1) (hc1 : c1 ≤ maxLen) (h2 : Bs w w.heap.size A2 m2 l2) (hm2 : m2 ≤ c2) (hc2 : c2 ≤ maxLen) (e : TypeId) :
    Rs (w.alloc (.cells #[.slice A1 m1 c1, .slice A2 m2 c2] e)) (w.heap.size + 1) (some ⟨w.heap.size, 0, none⟩) 2 [l1, l2] := by
  refine ⟨rfl, fun k hk => ?_⟩
  have hl1 : l1.length = m1 := h1.len
  have hl2 : l2.length = m2 := h2.len
  rcases Nat.lt_or_ge k 1 with hk1 | hk1
  · obtain rfl : k = 0 := by omega
    refine ⟨_, A1, c1, rfl, by simp, ?_, ?_, hc1, ?_⟩
    · simp [Addr.add, hl1]
    · simpa [hl1] using hm1
    · simpa [hl1] using (h1.alloc (Nat.le_refl _) _).wider (Nat.le_succ _)
  · obtain rfl : k = 1 := by omega
    refine ⟨_, A2, c2, rfl, by simp, ?_, ?_, hc2, ?_⟩
    · simp [Addr.add, hl2]
    · simpa [hl2] using hm2
    · simpa [hl2] using (h2.alloc (Nat.le_refl _) _).wider (Nat.le_succ _)
theorem Ts.of_new (w : World) (m : Nat) (L : List ByteArray) (e : TypeId) (hm : ∀ s ∈ L, s.size ≤ m) : Ts (w.alloc (.cells (L.map Value.string).toArray e)) (w.heap.size + 1) (some ⟨w.heap.size, 0, none⟩) L.length m L :=
  ⟨rfl, Lies.of_new _ _ _, hm⟩

set_option maxRecDepth 100000 in
set_option maxHeartbeats 2000000 in
theorem awake1_any (w : World) :
    Calls Try.prog 16 #[] w fun e w' => e = .returned (.bool true) ∧ Below w.heap.size w w' := by
  have HN := Lib.hid (newReader_any (some ⟨w.heap.size, 0, none⟩) 7 7 (w.heap.size + 1) ex1 (w.alloc (.cells #[.int .u8 172, .int .u8 2, .int .u8 3, .int .u8 2, .int .u8 97, .int .u8 98, .int .u8 1] 5)) (Bs.of_new w ex1 _ _ _ rfl) (by omega) (by simp))
  have hB0 := (Below.refl w.heap.size w).alloc (Nat.le_refl _) (.cells #[.int .u8 172, .int .u8 2, .int .u8 3, .int .u8 2, .int .u8 97, .int .u8 98, .int .u8 1] 5)
  have hl : ex1.length = 7 := rfl
  go_enter Try.func16, Try.ntmps16
  go_wp2_with fail
  refine HN.out.mono ?_
  rintro e w1 ⟨g, A1, c1, rfl, hg, hr1, hb1⟩
  have hg0 : w.heap.size ≤ g := by simp at hg; omega
  have HB1 := Lib.hid (hB0.trans (hb1.mono (by simp)))
  have HU := Lib.hid (rUint_any g c1 0 A1 ex1 w1 hr1)
  rw [ex1_a] at HU
  clear HN hb1 hr1 hB0 hg
  go_wp2_with fail
  refine HU.out.mono ?_
  rintro e w2 ⟨rfl, hr2, hg2⟩
  have HB2 := Lib.hid (HB1.out.trans (below_of_grown hg2 hg0 HB1.out.size))
  have HI := Lib.hid (rInt_any g c1 2 A1 ex1 w2 hr2)
  rw [ex1_b] at HI
  clear HU hr2 hg2 HB1
  go_wp2_with fail
  refine HI.out.mono ?_
  rintro e w3 ⟨rfl, hr3, hg3⟩
  have HB3 := Lib.hid (HB2.out.trans (below_of_grown hg3 hg0 HB2.out.size))
  have HT := Lib.hid (rText_any g c1 3 A1 ex1 9 w3 hr3 (by omega) (by omega))
  rw [ex1_c] at HT
  clear HI hr3 hg3 HB2
  go_wp2_with fail
  refine HT.out.mono ?_
  rintro e w4 ⟨rfl, hr4, hg4⟩
  have HB4 := Lib.hid (HB3.out.trans (below_of_grown hg4 hg0 HB3.out.size))
  have HF := Lib.hid (rFlag_any g c1 6 A1 ex1 w4 hr4)
  rw [ex1_d] at HF
  clear HT hr4 hg4 HB3
  go_wp2_with fail
  refine HF.out.mono ?_
  rintro e w5 ⟨rfl, hr5, hg5⟩
  have HB5 := Lib.hid (HB4.out.trans (below_of_grown hg5 hg0 HB4.out.size))
  have HE := Lib.hid (end_ok g c1 A1 ex1 w5 hr5)
  clear HF hr5 hg5 HB4
  go_wp2_with fail
  refine HE.out.mono ?_
  rintro e w6 ⟨rfl, k, rfl⟩
  have HB6 := Lib.hid (below_draws HB5.out k)
  clear HE HB5
  generalize w5.drewN k = w6 at *
  have HTS := Lib.hid (wTexts_any (some ⟨w6.heap.size, 0, none⟩) 2 2 1 (w6.heap.size + 1) [⟨#[]⟩, ⟨#[98]⟩] (w6.alloc (.cells #[.string ⟨#[]⟩, .string ⟨#[98]⟩] 9)) (Ts.of_new w6 1 [⟨#[]⟩, ⟨#[98]⟩] _ (by intro s hs; simp at hs; rcases hs with rfl | rfl <;> decide)) (by simp) (by omega) (by omega))
  rw [ex2_a] at HTS
  have HB7 := Lib.hid (HB6.out.alloc HB6.out.size (.cells #[.string ⟨#[]⟩, .string ⟨#[98]⟩] 9))
  clear HB6
  go_wp2_with fail
  refine HTS.out.mono ?_
  rintro e w7 ⟨v7, rfl, ho7, hb7⟩
  obtain ⟨A7, c7, rfl, hc7, hm7, hbs7, _, _⟩ := ho7.form
  have s7 : (convert 23 9 (.slice A7 4 c7)).run Try.prog w7 = .ok (.string ⟨#[2, 0, 1, 98]⟩) w7 := hbs7.str (P := Try.prog) (src := 23) (dst := 9) (e := 5) Try.underlying23 Try.underlying5 Try.underlying9 c7
  have HB8 := Lib.hid (HB7.out.trans (hb7.mono HB7.out.size))
  clear HTS HB7 hb7 ho7 hbs7
  have HU3 := Lib.hid (wUint_any 300 w7 (by omega))
  rw [ex3_a] at HU3
  go_wp2_with fail
  refine HU3.out.mono ?_
  rintro e w8 ⟨v8, rfl, ho8, hb8⟩
  have HB9 := Lib.hid (HB8.out.trans (hb8.mono HB8.out.size))
  have HI3 := Lib.hid (wInt_any (-2) w8 (by omega) (by omega))
  rw [ex3_b] at HI3
  clear HU3 s7 HB8 hb8
  go_wp2_with fail
  refine HI3.out.mono ?_
  rintro e w9 ⟨v9, rfl, ho9, hb9⟩
  have HB10 := Lib.hid (HB9.out.trans (hb9.mono HB9.out.size))
  have ho8' := ho8.below hb9 (Nat.le_refl _)
  obtain ⟨A8, c8, rfl, hc8, hm8, hbs8, _, _⟩ := ho8'.form
  obtain ⟨A9, c9, rfl, hc9, hm9, hbs9, _, _⟩ := ho9.form
  have HJ := Lib.hid (join_any (some ⟨w9.heap.size, 0, none⟩) 2 2 [[172, 2], [3]] (w9.heap.size + 1) _ (Rs.two (l1 := [172, 2]) (l2 := [3]) hbs8 hc8 hm8 hbs9 hc9 hm9 23) (by simp) (by unfold maxLen; omega) (by simp [tot]))
  have HB11 := Lib.hid (HB10.out.alloc HB10.out.size (.cells #[.slice A8 2 c8, .slice A9 1 c9] 23))
  clear HI3 HB9 HB10 ho8 ho9 hb9 ho8' hbs8 hbs9
  go_wp2_with fail
  refine HJ.out.mono ?_
  rintro e w10 ⟨v10, rfl, ho10, hb10⟩
  obtain ⟨A10, c10, rfl, hc10, hm10, hbs10, _, _⟩ := ho10.form
  have s10 : (convert 23 9 (.slice A10 3 c10)).run Try.prog w10 = .ok (.string ⟨#[172, 2, 3]⟩) w10 := hbs10.str (P := Try.prog) (src := 23) (dst := 9) (e := 5) Try.underlying23 Try.underlying5 Try.underlying9 c10
  have HB12 := Lib.hid (HB11.out.trans (hb10.mono HB11.out.size))
  clear HJ ho10 hbs10 hb10 HB11
  go_wp2_with fail
  go_ret
  exact ⟨rfl, HB12.out⟩
end Go.Proofs.Ytgbdgpacnpeahaa
