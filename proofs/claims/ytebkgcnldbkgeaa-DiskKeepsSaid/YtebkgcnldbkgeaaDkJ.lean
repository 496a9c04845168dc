/-
  What change does with each of the closures that it is handed.
-/
import Derived.Test.YtebkgcnldbkgeaaDkI
namespace Go.Proofs.Ytebkgcnldbkgeaa
open Go.RowKit Go.Lib Go.Sort Go.Maps
set_option linter.unusedVariables false
set_option linter.unusedSimpArgs false

/-- a call answers er, and leaves D' -/
def Ans (base d : Nat) (w : World) (D : Dsk) (Q : Nat → Dsk → Prop) (e : Ending) (w' : World) : Prop := ∃ (er : Nat) (D' : Dsk), e = .returned (.int .i64 (er : Int)) ∧ Then base d w w' D D' ∧ SameD D D' ∧ Q er D'
def ChgP (D : Dsk) (Q : Nat → Dsk → Prop) (er : Nat) (D' : Dsk) : Prop := if burntB D = true then er = 9 ∧ D' = D else ∃ D1, SameD D D1 ∧ Q er D1 ∧ D' = if er = 0 then burnD D1 else D1
theorem Turn.mono {F F' : List Nat} {w w' : World} (h : Turn F w w') (hF : ∀ k ∈ F, k ∈ F') : Turn F' w w' := ⟨h.os, h.tape, h.output, h.size, fun k hk hn => h.block k hk (fun h2 => hn (hF k h2))⟩
theorem burn_foot (D : Dsk) (d : Nat) : (burnD D).foot d = D.foot d := by unfold burnD Dsk.foot; split <;> rfl
theorem burn_then {base d : Nat} {w w' : World} {D : Dsk} (h : Dk w' base d (burnD D)) (ht : Turn [d] w w') : Then base d w w' D (burnD D) :=
  ⟨h, ht.mono fun k hk => by rw [List.mem_singleton] at hk; subst hk; exact foot_d, fun k hk => by rw [burn_foot] at hk; exact .inl hk⟩
theorem burnt_same {D D1 : Dsk} (h : SameD D D1) : burntB D1 = burntB D := by unfold burntB; rw [h.set, h.left]
set_option maxRecDepth 100000 in
set_option maxHeartbeats 2000000 in
theorem change_append (base d b0 b1 b2 : Nat) (D : Dsk) (Q : Nat → Dsk → Prop) (w : World) (h : Dk w base d D)
    (hC : ∀ W, Below w.heap.size w W → Calls Try.prog 52 #[.pointer (some ⟨b0, 0, none⟩), .pointer (some ⟨b1, 0, none⟩), .pointer (some ⟨b2, 0, none⟩)] W (Ans base d W D Q)) :
    Calls Try.prog 38 #[.pointer (some ⟨d, 0, none⟩), .func (.func 52) #[] #[.pointer (some ⟨b0, 0, none⟩), .pointer (some ⟨b1, 0, none⟩), .pointer (some ⟨b2, 0, none⟩)]] w fun e w' => ∃ (er : Nat) (D' : Dsk), e = .returned (.int .i64 (er : Int)) ∧ Then base d w w' D D' ∧ ChgP D Q er D' := by
  obtain ⟨X, hX⟩ : ∃ X : Ending → World → Prop, (fun e w' => ∃ (er : Nat) (D' : Dsk), e = .returned (.int .i64 (er : Int)) ∧ Then base d w w' D D' ∧ ChgP D Q er D') = X := ⟨_, rfl⟩
  have HX : Hid (∀ (er : Nat) (D' : Dsk) w', Then base d w w' D D' → ChgP D Q er D' → X (.returned (.int .i64 (er : Int))) w') := fun er D' w' h1 h2 => by rw [← hX]; exact ⟨er, D', rfl, h1, h2⟩
  rw [hX]
  clear hX
  have HB := Lib.hid (burnt_any base d D w h)
  have HC := Lib.hid hC
  have HD := Lib.hid h
  clear hC h
  cases hb : burntB D with
  | true =>
    rw [hb] at HB
    have HBU := Lib.hid hb
    clear hb
    go_enter Try.func38, Try.ntmps38
    go_wp2_with (go_at_call 36; (with_reducible refine HB.out.mono ?_); rintro e w1 ⟨rfl, hb1⟩)
    first
      | exact HX.out 9 D w1 (Then.of_below HD.out hb1) (by unfold ChgP; rw [if_pos HBU.out]; exact ⟨rfl, rfl⟩)
      | (go_ret; exact HX.out 9 D w1 (Then.of_below HD.out hb1) (by unfold ChgP; rw [if_pos HBU.out]; exact ⟨rfl, rfl⟩))
  | false =>
    rw [hb] at HB
    have HBU := Lib.hid hb
    clear hb
    go_enter Try.func38, Try.ntmps38
    go_upto_region 6 with (first
      | (go_at_call 36; (with_reducible refine HB.out.mono ?_); rintro e w1 ⟨rfl, hb1⟩)
      | (go_at_call 52; (with_reducible refine (HC.out w1 hb1).mono ?_); rintro e w2 ⟨er, D2, rfl, ht2, hs2, hq2⟩))
    have HT2 := Lib.hid ((Then.of_below HD.out hb1).trans ht2)
    have HS2 := Lib.hid hs2
    have HQ2 := Lib.hid hq2
    clear ht2 hs2 hq2
    by_cases h0 : er = 0
    · subst h0
      have HBN := Lib.hid (burn_any base d D2 w2 HT2.out.dk (by rw [burnt_same HS2.out]; exact HBU.out))
      go_wp2_with (go_at_call 60; (with_reducible refine HBN.out.mono ?_); rintro e w3 ⟨rfl, hd3, ht3⟩)
      first
        | exact HX.out 0 (burnD D2) w3 (HT2.out.trans (burn_then hd3 ht3)) (by unfold ChgP; rw [if_neg (by rw [HBU.out]; simp)]; exact ⟨D2, HS2.out, HQ2.out, by rw [if_pos rfl]⟩)
        | (go_ret; exact HX.out 0 (burnD D2) w3 (HT2.out.trans (burn_then hd3 ht3)) (by unfold ChgP; rw [if_neg (by rw [HBU.out]; simp)]; exact ⟨D2, HS2.out, HQ2.out, by rw [if_pos rfl]⟩))
    · have en : ((er : Int) == 0) = false := by rw [beq_eq_false_iff_ne]; omega
      have HN := Lib.hid h0
      clear h0
      go_wp2_with fail
      first
        | exact HX.out er D2 w2 HT2.out (by unfold ChgP; rw [if_neg (by rw [HBU.out]; simp)]; exact ⟨D2, HS2.out, HQ2.out, by rw [if_neg HN.out]⟩)
        | (go_ret; exact HX.out er D2 w2 HT2.out (by unfold ChgP; rw [if_neg (by rw [HBU.out]; simp)]; exact ⟨D2, HS2.out, HQ2.out, by rw [if_neg HN.out]⟩))
set_option maxRecDepth 100000 in
set_option maxHeartbeats 2000000 in
theorem change_sync (base d b0 b1 : Nat) (D : Dsk) (Q : Nat → Dsk → Prop) (w : World) (h : Dk w base d D)
    (hC : ∀ W, Below w.heap.size w W → Calls Try.prog 39 #[.pointer (some ⟨b0, 0, none⟩), .pointer (some ⟨b1, 0, none⟩)] W (Ans base d W D Q)) :
    Calls Try.prog 38 #[.pointer (some ⟨d, 0, none⟩), .func (.func 39) #[] #[.pointer (some ⟨b0, 0, none⟩), .pointer (some ⟨b1, 0, none⟩)]] w fun e w' => ∃ (er : Nat) (D' : Dsk), e = .returned (.int .i64 (er : Int)) ∧ Then base d w w' D D' ∧ ChgP D Q er D' := by
  obtain ⟨X, hX⟩ : ∃ X : Ending → World → Prop, (fun e w' => ∃ (er : Nat) (D' : Dsk), e = .returned (.int .i64 (er : Int)) ∧ Then base d w w' D D' ∧ ChgP D Q er D') = X := ⟨_, rfl⟩
  have HX : Hid (∀ (er : Nat) (D' : Dsk) w', Then base d w w' D D' → ChgP D Q er D' → X (.returned (.int .i64 (er : Int))) w') := fun er D' w' h1 h2 => by rw [← hX]; exact ⟨er, D', rfl, h1, h2⟩
  rw [hX]
  clear hX
  have HB := Lib.hid (burnt_any base d D w h)
  have HC := Lib.hid hC
  have HD := Lib.hid h
  clear hC h
  cases hb : burntB D with
  | true =>
    rw [hb] at HB
    have HBU := Lib.hid hb
    clear hb
    go_enter Try.func38, Try.ntmps38
    go_wp2_with (go_at_call 36; (with_reducible refine HB.out.mono ?_); rintro e w1 ⟨rfl, hb1⟩)
    first
      | exact HX.out 9 D w1 (Then.of_below HD.out hb1) (by unfold ChgP; rw [if_pos HBU.out]; exact ⟨rfl, rfl⟩)
      | (go_ret; exact HX.out 9 D w1 (Then.of_below HD.out hb1) (by unfold ChgP; rw [if_pos HBU.out]; exact ⟨rfl, rfl⟩))
  | false =>
    rw [hb] at HB
    have HBU := Lib.hid hb
    clear hb
    go_enter Try.func38, Try.ntmps38
    go_upto_region 6 with (first
      | (go_at_call 36; (with_reducible refine HB.out.mono ?_); rintro e w1 ⟨rfl, hb1⟩)
      | (go_at_call 39; (with_reducible refine (HC.out w1 hb1).mono ?_); rintro e w2 ⟨er, D2, rfl, ht2, hs2, hq2⟩))
    have HT2 := Lib.hid ((Then.of_below HD.out hb1).trans ht2)
    have HS2 := Lib.hid hs2
    have HQ2 := Lib.hid hq2
    clear ht2 hs2 hq2
    by_cases h0 : er = 0
    · subst h0
      have HBN := Lib.hid (burn_any base d D2 w2 HT2.out.dk (by rw [burnt_same HS2.out]; exact HBU.out))
      go_wp2_with (go_at_call 60; (with_reducible refine HBN.out.mono ?_); rintro e w3 ⟨rfl, hd3, ht3⟩)
      first
        | exact HX.out 0 (burnD D2) w3 (HT2.out.trans (burn_then hd3 ht3)) (by unfold ChgP; rw [if_neg (by rw [HBU.out]; simp)]; exact ⟨D2, HS2.out, HQ2.out, by rw [if_pos rfl]⟩)
        | (go_ret; exact HX.out 0 (burnD D2) w3 (HT2.out.trans (burn_then hd3 ht3)) (by unfold ChgP; rw [if_neg (by rw [HBU.out]; simp)]; exact ⟨D2, HS2.out, HQ2.out, by rw [if_pos rfl]⟩))
    · have en : ((er : Int) == 0) = false := by rw [beq_eq_false_iff_ne]; omega
      have HN := Lib.hid h0
      clear h0
      go_wp2_with fail
      first
        | exact HX.out er D2 w2 HT2.out (by unfold ChgP; rw [if_neg (by rw [HBU.out]; simp)]; exact ⟨D2, HS2.out, HQ2.out, by rw [if_neg HN.out]⟩)
        | (go_ret; exact HX.out er D2 w2 HT2.out (by unfold ChgP; rw [if_neg (by rw [HBU.out]; simp)]; exact ⟨D2, HS2.out, HQ2.out, by rw [if_neg HN.out]⟩))
set_option maxRecDepth 100000 in
set_option maxHeartbeats 2000000 in
theorem change_rename (base d b0 b1 b2 : Nat) (D : Dsk) (Q : Nat → Dsk → Prop) (w : World) (h : Dk w base d D)
    (hC : ∀ W, Below w.heap.size w W → Calls Try.prog 66 #[.pointer (some ⟨b0, 0, none⟩), .pointer (some ⟨b1, 0, none⟩), .pointer (some ⟨b2, 0, none⟩)] W (Ans base d W D Q)) :
    Calls Try.prog 38 #[.pointer (some ⟨d, 0, none⟩), .func (.func 66) #[] #[.pointer (some ⟨b0, 0, none⟩), .pointer (some ⟨b1, 0, none⟩), .pointer (some ⟨b2, 0, none⟩)]] w fun e w' => ∃ (er : Nat) (D' : Dsk), e = .returned (.int .i64 (er : Int)) ∧ Then base d w w' D D' ∧ ChgP D Q er D' := by
  obtain ⟨X, hX⟩ : ∃ X : Ending → World → Prop, (fun e w' => ∃ (er : Nat) (D' : Dsk), e = .returned (.int .i64 (er : Int)) ∧ Then base d w w' D D' ∧ ChgP D Q er D') = X := ⟨_, rfl⟩
  have HX : Hid (∀ (er : Nat) (D' : Dsk) w', Then base d w w' D D' → ChgP D Q er D' → X (.returned (.int .i64 (er : Int))) w') := fun er D' w' h1 h2 => by rw [← hX]; exact ⟨er, D', rfl, h1, h2⟩
  rw [hX]
  clear hX
  have HB := Lib.hid (burnt_any base d D w h)
  have HC := Lib.hid hC
  have HD := Lib.hid h
  clear hC h
  cases hb : burntB D with
  | true =>
    rw [hb] at HB
    have HBU := Lib.hid hb
    clear hb
    go_enter Try.func38, Try.ntmps38
    go_wp2_with (go_at_call 36; (with_reducible refine HB.out.mono ?_); rintro e w1 ⟨rfl, hb1⟩)
    first
      | exact HX.out 9 D w1 (Then.of_below HD.out hb1) (by unfold ChgP; rw [if_pos HBU.out]; exact ⟨rfl, rfl⟩)
      | (go_ret; exact HX.out 9 D w1 (Then.of_below HD.out hb1) (by unfold ChgP; rw [if_pos HBU.out]; exact ⟨rfl, rfl⟩))
  | false =>
    rw [hb] at HB
    have HBU := Lib.hid hb
    clear hb
    go_enter Try.func38, Try.ntmps38
    go_upto_region 6 with (first
      | (go_at_call 36; (with_reducible refine HB.out.mono ?_); rintro e w1 ⟨rfl, hb1⟩)
      | (go_at_call 66; (with_reducible refine (HC.out w1 hb1).mono ?_); rintro e w2 ⟨er, D2, rfl, ht2, hs2, hq2⟩))
    have HT2 := Lib.hid ((Then.of_below HD.out hb1).trans ht2)
    have HS2 := Lib.hid hs2
    have HQ2 := Lib.hid hq2
    clear ht2 hs2 hq2
    by_cases h0 : er = 0
    · subst h0
      have HBN := Lib.hid (burn_any base d D2 w2 HT2.out.dk (by rw [burnt_same HS2.out]; exact HBU.out))
      go_wp2_with (go_at_call 60; (with_reducible refine HBN.out.mono ?_); rintro e w3 ⟨rfl, hd3, ht3⟩)
      first
        | exact HX.out 0 (burnD D2) w3 (HT2.out.trans (burn_then hd3 ht3)) (by unfold ChgP; rw [if_neg (by rw [HBU.out]; simp)]; exact ⟨D2, HS2.out, HQ2.out, by rw [if_pos rfl]⟩)
        | (go_ret; exact HX.out 0 (burnD D2) w3 (HT2.out.trans (burn_then hd3 ht3)) (by unfold ChgP; rw [if_neg (by rw [HBU.out]; simp)]; exact ⟨D2, HS2.out, HQ2.out, by rw [if_pos rfl]⟩))
    · have en : ((er : Int) == 0) = false := by rw [beq_eq_false_iff_ne]; omega
      have HN := Lib.hid h0
      clear h0
      go_wp2_with fail
      first
        | exact HX.out er D2 w2 HT2.out (by unfold ChgP; rw [if_neg (by rw [HBU.out]; simp)]; exact ⟨D2, HS2.out, HQ2.out, by rw [if_neg HN.out]⟩)
        | (go_ret; exact HX.out er D2 w2 HT2.out (by unfold ChgP; rw [if_neg (by rw [HBU.out]; simp)]; exact ⟨D2, HS2.out, HQ2.out, by rw [if_neg HN.out]⟩))
set_option maxRecDepth 100000 in
set_option maxHeartbeats 2000000 in
theorem change_remove (base d b0 b1 : Nat) (D : Dsk) (Q : Nat → Dsk → Prop) (w : World) (h : Dk w base d D)
    (hC : ∀ W, Below w.heap.size w W → Calls Try.prog 68 #[.pointer (some ⟨b0, 0, none⟩), .pointer (some ⟨b1, 0, none⟩)] W (Ans base d W D Q)) :
    Calls Try.prog 38 #[.pointer (some ⟨d, 0, none⟩), .func (.func 68) #[] #[.pointer (some ⟨b0, 0, none⟩), .pointer (some ⟨b1, 0, none⟩)]] w fun e w' => ∃ (er : Nat) (D' : Dsk), e = .returned (.int .i64 (er : Int)) ∧ Then base d w w' D D' ∧ ChgP D Q er D' := by
  obtain ⟨X, hX⟩ : ∃ X : Ending → World → Prop, (fun e w' => ∃ (er : Nat) (D' : Dsk), e = .returned (.int .i64 (er : Int)) ∧ Then base d w w' D D' ∧ ChgP D Q er D') = X := ⟨_, rfl⟩
  have HX : Hid (∀ (er : Nat) (D' : Dsk) w', Then base d w w' D D' → ChgP D Q er D' → X (.returned (.int .i64 (er : Int))) w') := fun er D' w' h1 h2 => by rw [← hX]; exact ⟨er, D', rfl, h1, h2⟩
  rw [hX]
  clear hX
  have HB := Lib.hid (burnt_any base d D w h)
  have HC := Lib.hid hC
  have HD := Lib.hid h
  clear hC h
  cases hb : burntB D with
  | true =>
    rw [hb] at HB
    have HBU := Lib.hid hb
    clear hb
    go_enter Try.func38, Try.ntmps38
    go_wp2_with (go_at_call 36; (with_reducible refine HB.out.mono ?_); rintro e w1 ⟨rfl, hb1⟩)
    first
      | exact HX.out 9 D w1 (Then.of_below HD.out hb1) (by unfold ChgP; rw [if_pos HBU.out]; exact ⟨rfl, rfl⟩)
      | (go_ret; exact HX.out 9 D w1 (Then.of_below HD.out hb1) (by unfold ChgP; rw [if_pos HBU.out]; exact ⟨rfl, rfl⟩))
  | false =>
    rw [hb] at HB
    have HBU := Lib.hid hb
    clear hb
    go_enter Try.func38, Try.ntmps38
    go_upto_region 6 with (first
      | (go_at_call 36; (with_reducible refine HB.out.mono ?_); rintro e w1 ⟨rfl, hb1⟩)
      | (go_at_call 68; (with_reducible refine (HC.out w1 hb1).mono ?_); rintro e w2 ⟨er, D2, rfl, ht2, hs2, hq2⟩))
    have HT2 := Lib.hid ((Then.of_below HD.out hb1).trans ht2)
    have HS2 := Lib.hid hs2
    have HQ2 := Lib.hid hq2
    clear ht2 hs2 hq2
    by_cases h0 : er = 0
    · subst h0
      have HBN := Lib.hid (burn_any base d D2 w2 HT2.out.dk (by rw [burnt_same HS2.out]; exact HBU.out))
      go_wp2_with (go_at_call 60; (with_reducible refine HBN.out.mono ?_); rintro e w3 ⟨rfl, hd3, ht3⟩)
      first
        | exact HX.out 0 (burnD D2) w3 (HT2.out.trans (burn_then hd3 ht3)) (by unfold ChgP; rw [if_neg (by rw [HBU.out]; simp)]; exact ⟨D2, HS2.out, HQ2.out, by rw [if_pos rfl]⟩)
        | (go_ret; exact HX.out 0 (burnD D2) w3 (HT2.out.trans (burn_then hd3 ht3)) (by unfold ChgP; rw [if_neg (by rw [HBU.out]; simp)]; exact ⟨D2, HS2.out, HQ2.out, by rw [if_pos rfl]⟩))
    · have en : ((er : Int) == 0) = false := by rw [beq_eq_false_iff_ne]; omega
      have HN := Lib.hid h0
      clear h0
      go_wp2_with fail
      first
        | exact HX.out er D2 w2 HT2.out (by unfold ChgP; rw [if_neg (by rw [HBU.out]; simp)]; exact ⟨D2, HS2.out, HQ2.out, by rw [if_neg HN.out]⟩)
        | (go_ret; exact HX.out er D2 w2 HT2.out (by unfold ChgP; rw [if_neg (by rw [HBU.out]; simp)]; exact ⟨D2, HS2.out, HQ2.out, by rw [if_neg HN.out]⟩))
set_option maxRecDepth 100000 in
set_option maxHeartbeats 2000000 in
theorem change_cut (base d b0 b1 b2 : Nat) (D : Dsk) (Q : Nat → Dsk → Prop) (w : World) (h : Dk w base d D)
    (hC : ∀ W, Below w.heap.size w W → Calls Try.prog 65 #[.pointer (some ⟨b0, 0, none⟩), .pointer (some ⟨b1, 0, none⟩), .pointer (some ⟨b2, 0, none⟩)] W (Ans base d W D Q)) :
    Calls Try.prog 38 #[.pointer (some ⟨d, 0, none⟩), .func (.func 65) #[] #[.pointer (some ⟨b0, 0, none⟩), .pointer (some ⟨b1, 0, none⟩), .pointer (some ⟨b2, 0, none⟩)]] w fun e w' => ∃ (er : Nat) (D' : Dsk), e = .returned (.int .i64 (er : Int)) ∧ Then base d w w' D D' ∧ ChgP D Q er D' := by
  obtain ⟨X, hX⟩ : ∃ X : Ending → World → Prop, (fun e w' => ∃ (er : Nat) (D' : Dsk), e = .returned (.int .i64 (er : Int)) ∧ Then base d w w' D D' ∧ ChgP D Q er D') = X := ⟨_, rfl⟩
  have HX : Hid (∀ (er : Nat) (D' : Dsk) w', Then base d w w' D D' → ChgP D Q er D' → X (.returned (.int .i64 (er : Int))) w') := fun er D' w' h1 h2 => by rw [← hX]; exact ⟨er, D', rfl, h1, h2⟩
  rw [hX]
  clear hX
  have HB := Lib.hid (burnt_any base d D w h)
  have HC := Lib.hid hC
  have HD := Lib.hid h
  clear hC h
  cases hb : burntB D with
  | true =>
    rw [hb] at HB
    have HBU := Lib.hid hb
    clear hb
    go_enter Try.func38, Try.ntmps38
    go_wp2_with (go_at_call 36; (with_reducible refine HB.out.mono ?_); rintro e w1 ⟨rfl, hb1⟩)
    first
      | exact HX.out 9 D w1 (Then.of_below HD.out hb1) (by unfold ChgP; rw [if_pos HBU.out]; exact ⟨rfl, rfl⟩)
      | (go_ret; exact HX.out 9 D w1 (Then.of_below HD.out hb1) (by unfold ChgP; rw [if_pos HBU.out]; exact ⟨rfl, rfl⟩))
  | false =>
    rw [hb] at HB
    have HBU := Lib.hid hb
    clear hb
    go_enter Try.func38, Try.ntmps38
    go_upto_region 6 with (first
      | (go_at_call 36; (with_reducible refine HB.out.mono ?_); rintro e w1 ⟨rfl, hb1⟩)
      | (go_at_call 65; (with_reducible refine (HC.out w1 hb1).mono ?_); rintro e w2 ⟨er, D2, rfl, ht2, hs2, hq2⟩))
    have HT2 := Lib.hid ((Then.of_below HD.out hb1).trans ht2)
    have HS2 := Lib.hid hs2
    have HQ2 := Lib.hid hq2
    clear ht2 hs2 hq2
    by_cases h0 : er = 0
    · subst h0
      have HBN := Lib.hid (burn_any base d D2 w2 HT2.out.dk (by rw [burnt_same HS2.out]; exact HBU.out))
      go_wp2_with (go_at_call 60; (with_reducible refine HBN.out.mono ?_); rintro e w3 ⟨rfl, hd3, ht3⟩)
      first
        | exact HX.out 0 (burnD D2) w3 (HT2.out.trans (burn_then hd3 ht3)) (by unfold ChgP; rw [if_neg (by rw [HBU.out]; simp)]; exact ⟨D2, HS2.out, HQ2.out, by rw [if_pos rfl]⟩)
        | (go_ret; exact HX.out 0 (burnD D2) w3 (HT2.out.trans (burn_then hd3 ht3)) (by unfold ChgP; rw [if_neg (by rw [HBU.out]; simp)]; exact ⟨D2, HS2.out, HQ2.out, by rw [if_pos rfl]⟩))
    · have en : ((er : Int) == 0) = false := by rw [beq_eq_false_iff_ne]; omega
      have HN := Lib.hid h0
      clear h0
      go_wp2_with fail
      first
        | exact HX.out er D2 w2 HT2.out (by unfold ChgP; rw [if_neg (by rw [HBU.out]; simp)]; exact ⟨D2, HS2.out, HQ2.out, by rw [if_neg HN.out]⟩)
        | (go_ret; exact HX.out er D2 w2 HT2.out (by unfold ChgP; rw [if_neg (by rw [HBU.out]; simp)]; exact ⟨D2, HS2.out, HQ2.out, by rw [if_neg HN.out]⟩))
set_option maxRecDepth 100000 in
set_option maxHeartbeats 2000000 in
theorem append_any4 (base d : Nat) (D : Dsk) (s : ByteArray) (A : Option Addr) (n c : Nat) (L : List (List UInt8)) (w : World) (h : Dk w base d D) (hb : base ≤ w.heap.size) (hs : s.size ≤ 1099511627776) (hn : n ≤ maxLen)
    (hL : ∀ W, Turn (D.foot d) w W → Rs W W.heap.size A n L) :
    Calls Try.prog 26 #[.pointer (some ⟨d, 0, none⟩), .string s, .slice A n c] w fun e w' => ∃ (er : Nat) (D' : Dsk), e = .returned (.int .i64 (er : Int)) ∧ Then base d w w' D D' ∧ ChgP D (fun er D1 => er = appE4 D s (tot L) ∧ filesD D1 = if er = 0 then addF s L.flatten (mkF s (filesD D)) else filesD D) er D' := by
  have hal := (((Below.refl w.heap.size w).alloc (Nat.le_refl _) (.cells #[.pointer (some ⟨d, 0, none⟩)] 23)).alloc (by simp) (.cells #[.string s] 9)).alloc (by simp; omega) (.cells #[.slice A n c] 85)
  obtain ⟨w3, hw3⟩ : ∃ w3, ((w.alloc (.cells #[.pointer (some ⟨d, 0, none⟩)] 23)).alloc (.cells #[.string s] 9)).alloc (.cells #[.slice A n c] 85) = w3 := ⟨_, rfl⟩
  have hz3 : w3.heap.size = w.heap.size + 3 := by rw [← hw3]; simp
  have hb0 : w3.heap[w.heap.size]? = some (.cells #[.pointer (some ⟨d, 0, none⟩)] 23 (0, 0)) := by
    rw [← hw3, Below.heap_alloc _ _ _ (by simp; omega), Below.heap_alloc _ _ _ (by simp)]
    exact heap_alloc_new w _
  have hb1 : w3.heap[w.heap.size + 1]? = some (.cells #[.string s] 9 (0, 0)) := by
    rw [← hw3, Below.heap_alloc _ _ _ (by simp)]
    have := heap_alloc_new (w.alloc (.cells #[.pointer (some ⟨d, 0, none⟩)] 23)) (.cells #[.string s] 9)
    rwa [show (w.alloc (.cells #[.pointer (some ⟨d, 0, none⟩)] 23)).heap.size = w.heap.size + 1 by simp] at this
  have hb2 : w3.heap[w.heap.size + 2]? = some (.cells #[.slice A n c] 85 (0, 0)) := by
    rw [← hw3]
    have := heap_alloc_new ((w.alloc (.cells #[.pointer (some ⟨d, 0, none⟩)] 23)).alloc (.cells #[.string s] 9)) (.cells #[.slice A n c] 85)
    rwa [show ((w.alloc (.cells #[.pointer (some ⟨d, 0, none⟩)] 23)).alloc (.cells #[.string s] 9)).heap.size = w.heap.size + 2 by simp] at this
  rw [hw3] at hal
  have HW3 := Lib.hid hw3
  have HAL := Lib.hid hal
  have HT3 := Lib.hid (Then.of_below h hal)
  have HLT := Lib.hid h.lt
  have y0 : w3.cell? ⟨w.heap.size, 0, none⟩ = some (.pointer (some ⟨d, 0, none⟩)) := cell_of_row _ _ 0 _ _ _ hb0
  have HCH := Lib.hid (change_append base d (w.heap.size + 1) w.heap.size (w.heap.size + 2) D (fun er D1 => er = appE4 D s (tot L) ∧ filesD D1 = if er = 0 then addF s L.flatten (mkF s (filesD D)) else filesD D) w3 HT3.out.dk (fun W hW => by
    have k : ∀ i, i < w3.heap.size → W.heap[i]? = w3.heap[i]? := fun i hi => hW.block i hi
    refine (append1_any base d (w.heap.size + 1) w.heap.size (w.heap.size + 2) D s A n c L W (HT3.out.dk.below hW (Nat.le_refl _)) (by have := hW.size; omega) hs hn (cell_of_row _ _ 0 _ _ _ ((k _ (by omega)).trans hb1)) (cell_of_row _ _ 0 _ _ _ ((k _ (by omega)).trans hb0)) (cell_of_row _ _ 0 _ _ _ ((k _ (by omega)).trans hb2)) (fun i hi => ⟨by have := hW.size; omega, fun h2 => by have := HLT.out i h2; omega⟩) (fun W2 hW2 => hL W2 ((Turn.of_below (HAL.out.trans (hW.mono (by omega)))).trans hW2 (fun k hk => .inl hk)))).mono fun e w' h1 => ?_
    obtain ⟨he, D', a1, a2, a3⟩ := h1
    exact ⟨_, D', he, a1, a2, rfl, a3⟩))
  clear hw3 hal hb0 hb1 hb2 hL h
  go_enter Try.func26, Try.ntmps26
  go_upto_region 1 with fail
  rw [HW3.out]
  go_wp2_with (go_at_call 38; (with_reducible refine HCH.out.mono ?_); rintro e w4 ⟨er, D4, rfl, ht4, hq4⟩)
  go_ret
  exact ⟨er, D4, rfl, HT3.out.trans ht4, hq4⟩
end Go.Proofs.Ytebkgcnldbkgeaa
