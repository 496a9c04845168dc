/-
  Chapter 3's examples: towpathlaw03.awake answers true.
-/
import Derived.Test.YtniopekkfnkipaaRecS
namespace Go.Proofs.Ytniopekkfnkipaa
open Go.RowKit
set_option linter.unusedVariables false
set_option linter.unusedSimpArgs false

set_option maxRecDepth 100000 in
set_option maxHeartbeats 8000000 in
theorem awake3_any (w : World) : Calls Try.prog 10 #[] w fun e w' => e = .returned (.bool true) ∧ Below w.heap.size w w' := by
  have HF := Lib.hid first_any
  have HE := Lib.hid (fun (W : World) (A : Option Addr) (h : Rcs W W.heap.size A 2 ex3.L) => encode_yes ex3 A 2 W.heap.size W h (Nat.le_refl _) ex3_fine)
  have HM := Lib.hid (fun (W : World) => mark_any 3 2 7 true W)
  have HEM := Lib.hid (fun (W : World) => encode_yes (markOf 3 2 true 7) none 0 0 W Rcs.nil_ (Nat.zero_le _) exm_fine)
  have HD := Lib.hid (fun (W : World) (A : Option Addr) (c : Nat) (h : Bs W W.heap.size A 19 exb) => decode_ok ex3 A 19 c W.heap.size exb W h (by omega) (Nat.le_refl _) ex3_at)
  have HS := Lib.hid (fun (W : World) (A1 A2 : Option Addr) (c1 c2 : Nat) (h1 : Rcs W W.heap.size A1 2 ex3.L) (h2 : Rcs W W.heap.size A2 2 ex3.L) => rsame_yes ex3 A1 A2 c1 c2 W.heap.size W h1 h2 (Nat.le_refl _) (by unfold maxLen; decide))
  rw [ex3_enc] at HE
  rw [exm_enc] at HEM
  go_enter Try.func10, Try.ntmps10
  go_wp2_with fail
  refine (HF.out _).mono ?_
  rintro e w1 ⟨A1, rfl, hR1, hB1⟩
  have z1 := hB1.size
  go_wp2_with fail
  refine (HE.out w1 A1 hR1).mono ?_
  rintro e w2 ⟨v2, rfl, ho2, hb2⟩
  have hB2 := hB1.trans (hb2.mono z1)
  have z2 := hB2.size
  clear hR1 hB1 hb2
  have HO2 := Lib.hid ho2
  clear ho2
  go_wp2_with fail
  refine (HM.out _).mono ?_
  rintro e w3 ⟨rfl, hb3⟩
  have hB3 := hB2.trans (hb3.mono z2)
  have z3 := hB3.size
  have ho3 := HO2.out.below hb3 (Nat.le_refl _)
  have HO3 := Lib.hid ho3
  clear hB2 hb3 ho3 HO2
  go_wp2_with fail
  refine (HEM.out _).mono ?_
  rintro e w4 ⟨v4, rfl, ho4, hb4⟩
  have hB4 := hB3.trans (hb4.mono z3)
  have z4 := hB4.size
  have ho2' := HO3.out.below hb4 (Nat.le_refl _)
  obtain ⟨A2, c2, rfl, hc2, hm2, hbs2, _, _⟩ := ho2'.form
  obtain ⟨A4, c4, rfl, hc4, hm4, hbs4, _, _⟩ := ho4.form
  have hbs2' : Bs w4 w4.heap.size A2 19 exb := hbs2
  have hbs4' : Bs w4 w4.heap.size A4 6 [1, 2, 0, 3, 2, 7] := hbs4
  have hl2 : exb.length = 19 := rfl
  have hl4 : ([1, 2, 0, 3, 2, 7] : List UInt8).length = 6 := rfl
  rw [hl2, hl4]
  clear hl2 hl4 hbs2 hbs4 ho2' ho4 HO3 hB3 hb4
  have HBS2 := Lib.hid hbs2'
  have HBS4 := Lib.hid hbs4'
  go_wp2_with fail
  refine (HD.out w4 A2 c2 hbs2').mono ?_
  rintro e w5 ⟨A5, c5, rfl, hc5, hm5, hR5, hb5⟩
  have hB5 := hB4.trans (hb5.mono z4)
  have z5 := hB5.size
  have hq2 := (HBS2.out.below hb5).wider hb5.size
  have hq4 := (HBS4.out.below hb5).wider hb5.size
  clear hbs2' hbs4' HBS2 HBS4 hB4 hb5 HD HEM HM HE
  unfold Bat.cells
  simp only
  have hal := (Below.refl w5.heap.size w5).alloc (Nat.le_refl _) (.cells (ex3.cells A5 c5) 24)
  have hB6 := hB5.alloc z5 (.cells (ex3.cells A5 c5) 24)
  have hb6 := heap_alloc_new w5 (.cells (ex3.cells A5 c5) 24)
  have hq2' := (hq2.below hal).wider hal.size
  have hq4' := (hq4.below hal).wider hal.size
  have hR6 := (hR5.below hal).wider hal.size
  have HAW := Lib.hid hal
  go_wp2_with fail
  change Code.wp _ _ _ _ (w5.alloc (.cells (ex3.cells A5 c5) 24))
  have zz5 : w5.heap.size < (w5.alloc (.cells (ex3.cells A5 c5) 24)).heap.size := by simp
  clear hq2 hq4 hR5 hB5 hal HAW
  generalize w5.alloc (.cells (ex3.cells A5 c5) 24) = W6 at *
  have m0 : W6.cell? ⟨w5.heap.size, 0, none⟩ = some (.int .i64 ex3.base) := cell_of_row _ _ 0 _ _ _ hb6
  have m1 : W6.cell? ⟨w5.heap.size, 1, none⟩ = some (.int .i64 ex3.pid) := cell_of_row _ _ 1 _ _ _ hb6
  have m2 : W6.cell? ⟨w5.heap.size, 2, none⟩ = some (.int .i64 ex3.epoch) := cell_of_row _ _ 2 _ _ _ hb6
  have m3 : W6.cell? ⟨w5.heap.size, 3, none⟩ = some (.int .i64 ex3.seq) := cell_of_row _ _ 3 _ _ _ hb6
  have m4 : W6.cell? ⟨w5.heap.size, 4, none⟩ = some (.int .i64 ex3.kind) := cell_of_row _ _ 4 _ _ _ hb6
  have m5 : W6.cell? ⟨w5.heap.size, 5, none⟩ = some (.int .i64 ex3.time) := cell_of_row _ _ 5 _ _ _ hb6
  have m6 : W6.cell? ⟨w5.heap.size, 6, none⟩ = some (.slice A5 ex3.L.length c5) := cell_of_row _ _ 6 _ _ _ hb6
  have HSS : Hid (∀ W, Below W6.heap.size W6 W → (convert 25 9 (.slice A2 19 c2)).run Try.prog W = .ok (.string ⟨#[1, 0, 5, 0, 9, 2, 0, 0, 0, 2, 97, 98, 1, 120, 1, 1, 1, 1, 99]⟩) W ∧ (convert 25 9 (.slice A4 6 c4)).run Try.prog W = .ok (.string ⟨#[1, 2, 0, 3, 2, 7]⟩) W ∧ W.cell? ⟨w5.heap.size, 0, none⟩ = some (.int .i64 ex3.base) ∧ W.cell? ⟨w5.heap.size, 1, none⟩ = some (.int .i64 ex3.pid) ∧ W.cell? ⟨w5.heap.size, 2, none⟩ = some (.int .i64 ex3.epoch) ∧ W.cell? ⟨w5.heap.size, 3, none⟩ = some (.int .i64 ex3.seq) ∧ W.cell? ⟨w5.heap.size, 4, none⟩ = some (.int .i64 ex3.kind) ∧ W.cell? ⟨w5.heap.size, 5, none⟩ = some (.int .i64 ex3.time) ∧ W.cell? ⟨w5.heap.size, 6, none⟩ = some (.slice A5 ex3.L.length c5)) := fun W h =>
    ⟨(hq2'.below h).str (P := Try.prog) (src := 25) (dst := 9) (e := 5) Try.underlying25 Try.underlying5 Try.underlying9 c2, (hq4'.below h).str (P := Try.prog) (src := 25) (dst := 9) (e := 5) Try.underlying25 Try.underlying5 Try.underlying9 c4,
      (h.cell (p := ⟨w5.heap.size, 0, none⟩) zz5).trans m0, (h.cell (p := ⟨w5.heap.size, 1, none⟩) zz5).trans m1, (h.cell (p := ⟨w5.heap.size, 2, none⟩) zz5).trans m2, (h.cell (p := ⟨w5.heap.size, 3, none⟩) zz5).trans m3, (h.cell (p := ⟨w5.heap.size, 4, none⟩) zz5).trans m4, (h.cell (p := ⟨w5.heap.size, 5, none⟩) zz5).trans m5, (h.cell (p := ⟨w5.heap.size, 6, none⟩) zz5).trans m6⟩
  have s6 := HSS.out W6.drew ((Below.refl _ _).drew)
  have HR6 := Lib.hid hR6
  have HB6 := Lib.hid hB6
  clear hq2' hq4' hR6 hB6 hb6 m0 m1 m2 m3 m4 m5 m6
  first
    | go_region_held (fun w' => (convert 25 9 (.slice A2 19 c2)).run Try.prog w' = .ok (.string ⟨#[1, 0, 5, 0, 9, 2, 0, 0, 0, 2, 97, 98, 1, 120, 1, 1, 1, 1, 99]⟩) w' ∧ (convert 25 9 (.slice A4 6 c4)).run Try.prog w' = .ok (.string ⟨#[1, 2, 0, 3, 2, 7]⟩) w' ∧ w'.cell? ⟨w5.heap.size, 0, none⟩ = some (.int .i64 ex3.base) ∧ w'.cell? ⟨w5.heap.size, 1, none⟩ = some (.int .i64 ex3.pid) ∧ w'.cell? ⟨w5.heap.size, 2, none⟩ = some (.int .i64 ex3.epoch) ∧ w'.cell? ⟨w5.heap.size, 3, none⟩ = some (.int .i64 ex3.seq) ∧ w'.cell? ⟨w5.heap.size, 4, none⟩ = some (.int .i64 ex3.kind) ∧ w'.cell? ⟨w5.heap.size, 5, none⟩ = some (.int .i64 ex3.time) ∧ w'.cell? ⟨w5.heap.size, 6, none⟩ = some (.slice A5 ex3.L.length c5)) (first | exact s6 | exact s7 | exact s8)
        (first
          | (go_at_call 29; refine (HF.out _).mono ?_; rintro e w7 ⟨A7, rfl, hR7, hb7⟩; have hQ7 := ((Below.refl W6.heap.size W6).drew).trans (hb7.mono (Nat.le_refl _)); have s7 := HSS.out w7 hQ7; have hR6 := (HR6.out.below hQ7).wider hQ7.size)
          | (go_at_call 7; refine (HS.out _ A5 A7 c5 2 hR6 hR7).mono ?_; rintro e w8 ⟨rfl, hb8⟩; have hQ8 := hQ7.trans (hb8.mono hQ7.size); have s8 := HSS.out w8 hQ8))
    | fail "held"
  all_goals
    go_wp2_with fail
    go_ret
    exact ⟨rfl, HB6.out.trans (hQ8.mono HB6.out.size)⟩
end Go.Proofs.Ytniopekkfnkipaa
