/-
  The walk through CompactCleans.
-/
import Derived.Test.YtapnhhoegoakiaaCpR
namespace Go.Proofs.Ytapnhhoegoakiaa
open Go.RowKit Go.Lib Go.Sort
set_option linter.unusedVariables false
set_option linter.unusedSimpArgs false

set_option maxRecDepth 100000 in
set_option maxHeartbeats 4000000 in
theorem compactCleans_any (A : Option Addr) (n c : Nat) (M : List OneC) (hz : Int) (w : World) (h : Ocs w w.heap.size A n M) (hn : n ≤ maxLen) :
    Calls Try.prog 4 #[.slice A n c, .int .i64 hz] w fun e w' => e = .returned (.bool true) ∧ Below w.heap.size w w' := by
  have HLD := Lib.hid (laid_any9 A n c M w h hn)
  have HRC : Hid (∀ (W : World) A c L, Acs W W.heap.size A (List.length L) L → L.length ≤ 60 → L.length ≤ c → c ≤ maxLen → Calls Try.prog 15 #[.int .i64 hz, .slice A L.length c] W fun e w' => ∃ v, e = .returned v ∧ w'.ownsRow W.heap.size 75 5 v (cleanR hz L).length (ccells (cleanR hz L)) ∧ Below W.heap.size W w') := fun W A c L h1 h2 h3 h4 => rclean_any hz A L.length c L W h1 (by omega) h3 h4
  have HCL : Hid (∀ (W : World) A c L, Acs W W.heap.size A (List.length L) L → L.length ≤ 60 → Calls Try.prog 16 #[.int .i64 hz, .slice A L.length c] W fun e w' => ∃ v, e = .returned v ∧ w'.ownsRow W.heap.size 48 5 v (cleanR hz L).length (ccells (cleanR hz L)) ∧ Below W.heap.size W w') := fun W A c L h1 h2 => clean_any hz A L.length c L W h1 (by omega)
  have HSP : Hid (∀ (W : World) A c L, Acs W W.heap.size A (List.length L) L → L.length ≤ 60 → Calls Try.prog 18 #[.int .i64 hz, .slice A L.length c] W fun e w' => e = .returned (.int .i64 ((L.length : Int) - ((cleanR hz L).length : Int))) ∧ Below W.heap.size W w') := fun W A c L h1 h2 => spare_any hz A L.length c L W h1 (by omega)
  have HAL : Hid (∀ (W : World) A A' c c' L, Acs W W.heap.size A (List.length L) L → Acs W W.heap.size A' (List.length L) L → L.length ≤ 60 → Calls Try.prog 17 #[.slice A L.length c, .slice A' L.length c'] W fun e w' => e = .returned (.bool true) ∧ Below W.heap.size W w') := fun W A A' c c' L h1 h2 h3 => alike_any A A' L.length c c' L W h1 h2 (by omega)
  have HAW : Hid (∀ W, Calls Try.prog 19 #[] W fun e w' => e = .returned (.bool true) ∧ Below W.heap.size W w') := awake9_any
  clear h
  go_enter Try.func4, Try.ntmps4
  go_upto_region 2 with (go_at_call 14; (with_reducible refine HLD.out.mono ?_); rintro e w1 ⟨v, u, L, rfl, hL60, hla⟩)
  obtain ⟨A1, c1, rfl, _, _, hP⟩ := Acs.of_row hla.p rfl hla.ok
  obtain ⟨A2, c2, rfl, hc2, hcm2, hQ⟩ := Acs.of_row hla.q rfl hla.ok
  have P1 := Lib.hid hP
  have Q1 := Lib.hid hQ
  have B1 := Lib.hid hla.bel
  have HOK := Lib.hid hla.ok
  have HCC : Hid (cleanR hz L = cleanR hz L) := rfl
  have HLE : Hid ((cleanR hz L).length ≤ L.length) := cleanR_len hz L
  have HSB : Hid (∀ r ∈ cleanR hz L, r.ok) := fun r hr => HOK.out r (cleanR_sub hz L r hr)
  clear hla hP hQ HLD
  go_upto_region 3 with (go_at_call 15; (with_reducible refine (HRC.out _ _ _ L Q1.out hL60 hc2 hcm2).mono ?_); rintro e w2 ⟨v2, rfl, hv2, hb2⟩)
  obtain ⟨A3, c3, rfl, _, _, hR⟩ := Acs.of_row hv2 rfl HSB.out
  have P2 := Lib.hid ((P1.out.below hb2).wider hb2.size)
  have Q2 := Lib.hid ((Q1.out.below hb2).wider hb2.size)
  have R2 := Lib.hid hR
  have B2 := Lib.hid (B1.out.trans (hb2.mono B1.out.size))
  clear hv2 hb2 hR P1 Q1 B1
  go_upto_region 4 with (go_at_call 16; (with_reducible refine (HCL.out _ _ _ L P2.out hL60).mono ?_); rintro e w3 ⟨v3, rfl, hv3, hb3⟩)
  obtain ⟨A4, c4, rfl, _, _, hS⟩ := Acs.of_row hv3 rfl HSB.out
  have P3 := Lib.hid ((P2.out.below hb3).wider hb3.size)
  have Q3 := Lib.hid ((Q2.out.below hb3).wider hb3.size)
  have R3 := Lib.hid ((R2.out.below hb3).wider hb3.size)
  have S3 := Lib.hid hS
  have B3 := Lib.hid (B2.out.trans (hb3.mono B2.out.size))
  have hle := HLE.out
  obtain ⟨CL, hCL⟩ : ∃ CL, cleanR hz L = CL := ⟨_, rfl⟩
  have HSP2 := Lib.hid (fun W A c h1 => HSP.out W A c L h1 hL60)
  rw [hCL] at hle R3 S3 HSP2 ⊢
  clear hv3 hb3 hS P2 Q2 B2 R2 HLE HSB HCC HOK hCL HRC HCL HSP
  have hCL60 : CL.length ≤ 60 := by omega
  go_wp2_with (first
    | (go_at_call 17; (with_reducible refine (HAL.out _ _ _ _ _ CL S3.out R3.out hCL60).mono ?_); rintro e w4 ⟨rfl, hb4⟩; have P4 := Lib.hid ((P3.out.below hb4).wider hb4.size); have Q4 := Lib.hid ((Q3.out.below hb4).wider hb4.size); have B4 := Lib.hid (B3.out.trans (hb4.mono B3.out.size)); clear hb4)
    | (go_at_call 18; (with_reducible refine (HSP2.out _ _ _ P4.out).mono ?_); rintro e w5 ⟨rfl, hb5⟩; have P5 := Lib.hid ((P4.out.below hb5).wider hb5.size); have Q5 := Lib.hid ((Q4.out.below hb5).wider hb5.size); have B5 := Lib.hid (B4.out.trans (hb5.mono B4.out.size)); clear hb5)
    | (go_at_call 17; (with_reducible refine (HAL.out _ _ _ _ _ L P5.out Q5.out hL60).mono ?_); rintro e w6 ⟨rfl, hb6⟩; have B6 := Lib.hid (B5.out.trans (hb6.mono B5.out.size)); clear hb6)
    | (go_at_call 19; (with_reducible refine (HAW.out _).mono ?_); rintro e w7 ⟨rfl, hb7⟩; have B7 := Lib.hid (B6.out.trans (hb7.mono B6.out.size)); clear hb7))
  go_ret
  exact ⟨rfl, B7.out⟩
end Go.Proofs.Ytapnhhoegoakiaa
