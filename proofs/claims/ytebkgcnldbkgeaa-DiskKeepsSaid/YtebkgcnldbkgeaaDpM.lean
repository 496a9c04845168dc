/-
  What the document's Crash and Copy do.
-/
import Derived.Test.YtebkgcnldbkgeaaDpL
namespace Go.Proofs.Ytebkgcnldbkgeaa
open Go.RowKit Go.Lib Go.Sort Go.Maps
set_option linter.unusedVariables false
set_option linter.unusedSimpArgs false

section
variable {W W1 w1 : World} {base r : Nat} {v v' : Value} {p : PD}
theorem Rk.pushed (h : Rk W base r v p) (hW : Below W.heap.size W W1) (hg : W1.grownBy w1 v.ownBlock) {F : List Fl} (ho : w1.ownsRow base 84 3 v' F.length (fcs F)) (hat : ∀ g, v'.ownBlock = some g → v.ownBlock = some g ∨ g = W1.heap.size) : RT base r W (w1.setCell ⟨r, 1, none⟩ v') v v' { p with F := F } := by
  have hr1 := (hW.block r h.rlt).trans h.blk
  have hz := hW.size
  have hrl := h.rlt
  have hne : some r ≠ v.ownBlock := fun e => h.far e.symm
  have hr2 := (hg.block r (by omega) hne).trans hr1
  have hf : v'.ownBlock ≠ some r := fun e => by
    rcases hat r e with e2 | e2
    · exact hne e2.symm
    · omega
  refine ⟨⟨h.br, by rw [heap_setCell_same w1 r 1 _ _ _ hr2]; rfl, row_setF ho hf⟩, ⟨by rw [World.setCell]; exact hg.os.trans hW.os, by rw [World.setCell]; exact hg.tape.trans hW.tape, by rw [World.setCell]; exact hg.output.trans hW.output, by simp; exact Nat.le_trans hz hg.size, fun k h1 h2 => ?_⟩, fun k e => ?_⟩
  · have h3 : k ≠ r := fun e => h2 (by rw [e]; exact List.mem_cons_self ..)
    have h4 : some k ≠ v.ownBlock := fun e => h2 (List.mem_cons_of_mem _ (Option.mem_toList.2 e.symm))
    exact (Below.heap_setCell w1 ⟨r, 1, none⟩ v' k (fun e => h3 e)).trans ((hg.block k (by omega) h4).trans (hW.block k h1))
  · exact (hat k e).imp id fun e2 => by omega
end
theorem crashF_len (P : List Int) (F : List Fl) : ∀ n, (crashF P F n).length = n
  | 0 => rfl
  | n + 1 => by unfold crashF; rw [List.length_append, crashF_len P F n]; rfl
def crashP (p : PD) (P : List Int) (n : Nat) : PD := ⟨crashF P p.F n, p.room, false, 0⟩
theorem fcs_push (C : List Fl) (n s : ByteArray) (k : Nat) (x : Fl) (hn : x.name = n) (hs : bst x.b = s) (hk : x.kept = k) : fcs C ++ [.string n, .string s, .int .i64 (k : Int)] = fcs (C ++ [x]) := by
  subst hn; subst hs; subst hk
  rw [fcs_append]
  simp [fcs, Fl.cells]
set_option maxRecDepth 100000 in
set_option maxHeartbeats 8000000 in
theorem rcrash_any (base r : Nat) (v : Value) (p : PD) (A1 : Option Addr) (n c1 : Nat) (P : List Int) (w : World) (h : Rk w base r v p) (hp : p.Ok) (hP : Isd w w.heap.size A1 n P) (hn : n ≤ 1000000) :
    Calls Try.prog 25 #[.pointer (some ⟨r, 0, none⟩), .slice A1 n c1] w fun e w' => ∃ r2 v2, e = .returned (.pointer (some ⟨r2, 0, none⟩)) ∧ Rk w' w.heap.size r2 v2 (p.crash P) ∧ Below w.heap.size w w' := by
  obtain ⟨k0, qk0, qz0, qz1, qz2⟩ := info_parts zero_rfile
  obtain ⟨X, hX⟩ : ∃ X : Ending → World → Prop, (fun e w' => ∃ r2 v2, e = .returned (.pointer (some ⟨r2, 0, none⟩)) ∧ Rk w' w.heap.size r2 v2 (p.crash P) ∧ Below w.heap.size w w') = X := ⟨_, rfl⟩
  have HX : Hid (∀ r2 v2 w', Rk w' w.heap.size r2 v2 (crashP p P p.F.length) → Below w.heap.size w w' → X (.returned (.pointer (some ⟨r2, 0, none⟩))) w') := fun r2 v2 w' h1 h2 => by rw [← hX]; exact ⟨r2, v2, rfl, h1, h2⟩
  rw [hX]
  clear hX
  have c0 := h.c0
  have HNW := Lib.hid (rnew_any p.room w)
  obtain ⟨A, c, rfl, hc, hcm, hF⟩ := Ths.of_row h.row rfl
  have HF := Lib.hid hF
  have HC1 : Hid (∀ W, Below w.heap.size w W → W.cell? ⟨r, 1, none⟩ = some (.slice A p.F.length c)) := fun W hW => (hW.cell (p := ⟨r, 1, none⟩) h.rlt).trans h.c1
  have hl := hp.len
  have HKP : Hid (∀ i, i < p.F.length → (p.F.getD i default).kept ≤ (p.F.getD i default).b.length ∧ (p.F.getD i default).b.length ≤ 4194304) := fun i hi => ⟨hp.kept _ (mem_getD hi), Nat.le_trans (len_le_sum (mem_getD hi)) hp.tot⟩
  have HST : Hid (∀ i, crashF P p.F (i + 1) = crashF P p.F i ++ [crash1 P i (p.F.getD i default)]) := fun i => rfl
  have HPP := Lib.hid hP
  have hpl := hP.len
  have HP0 : Hid (crashP p P 0 = newP p.room) := rfl
  have HCP : Hid (∀ i, crashP p P i = ⟨crashF P p.F i, p.room, false, 0⟩) := fun i => rfl
  have HCL : Hid (∀ i, (crashF P p.F i).length = i) := crashF_len P p.F
  obtain ⟨CP, hCP⟩ : ∃ CP : Nat → PD, ∀ i, CP i = crashP p P i := ⟨_, fun _ => rfl⟩
  obtain ⟨CF, hCF⟩ : ∃ CF : Nat → List Fl, ∀ i, CF i = crashF P p.F i := ⟨_, fun _ => rfl⟩
  simp only [← hCP, ← hCF] at HX HST HP0 HCP HCL
  generalize p.room = room at *
  generalize p.F = F at *
  generalize hk : F.length = k at *
  clear h hp hP hF hk hCP hCF
  go_enter Try.func25, Try.ntmps25
  go_upto_region 2 with (go_at_call 16; (with_reducible refine HNW.out.mono ?_); rintro e w1 ⟨r1, rfl, hr1, hb1⟩)
  have y1 := HC1.out w1 hb1
  have HR1 := Lib.hid hr1
  have HB1 := Lib.hid hb1
  clear hr1 hb1 c0
  go_wp2_with fail
  clear y1
  go_loopw [20] (fun iv wr => ∃ i : Nat, i ≤ k ∧ iv = .int .i64 i ∧ ∃ vi, Hid (Rk wr w.heap.size r1 vi (CP i)) ∧ Hid (Below w.heap.size w wr)) (fun iv _ => k - (RowKit.intOf iv).toNat)
  case atStart => exact ⟨0, by omega, rfl, _, by rw [HP0.out]; exact HR1.out, HB1.out⟩
  case round =>
    obtain ⟨i, hi, rfl, vi, HR, HB⟩ := hrel
    by_cases hit : i < k
    · have hiz : (i : Int) < (k : Int) := by omega
      obtain ⟨q, rfl, _, s0, s1, s2⟩ := Fs.row (HF.out.below HB.out) hit
      obtain ⟨hkb, hbl⟩ := HKP.out i hit
      have hst := HST.out i
      generalize hfe : F.getD i default = f at *
      obtain ⟨xn, xb, xk⟩ := f
      simp only at s0 s1 s2 hkb hbl
      unfold crash1 at hst
      simp only at hst
      obtain ⟨sb, hsb⟩ : ∃ x, bst xb = x := ⟨_, rfl⟩
      rw [hsb] at s1
      have hsz : sb.size = xb.length := by rw [← hsb]; exact bst_size _
      have HSB := Lib.hid hsb
      obtain ⟨pk, hpk⟩ : ∃ x, pickAt P i = x := ⟨_, rfl⟩
      rw [hpk] at hst
      obtain ⟨N, hN⟩ : ∃ N, lastN4 xk xb.length pk = N := ⟨_, rfl⟩
      rw [hN] at hst
      have hNle : xk ≤ N ∧ N ≤ xb.length := by rw [← hN]; exact lastN4_le hkb pk
      have HNV : Hid ((N : Int) = (xk : Int) + min (max pk 0) ((xb.length : Int) - (xk : Int))) := by show _ = _; rw [← hN]; unfold lastN4; omega
      rw [← hsz] at HNV hNle hkb hbl
      have HST1 := Lib.hid hst
      have HPK : Hid ((n = 0 → pk = 0) ∧ (0 < n → ∃ pa, A1 = some pa ∧ w.cell? (pa.add (i % n)) = some (.int .i64 pk) ∧ pa.block < w.heap.size ∧ -9223372036854775808 ≤ pk ∧ pk ≤ 9223372036854775807)) := by
        refine ⟨fun h0 => ?_, fun h0 => ?_⟩
        · rw [← hpk]; unfold pickAt; rw [if_pos (by omega)]
        · obtain ⟨pa, e, a1, a2, a3, a4⟩ := HPP.out.row (i % n) (Nat.mod_lt _ h0)
          have e5 : P.getD (i % n) 0 = pk := by rw [← hpk]; unfold pickAt; rw [if_neg (by omega), hpl]
          rw [e5] at a2 a3 a4
          exact ⟨pa, e, a2, a1, a3, a4⟩
      have HB6 := Lib.hid (HB.out.alloc HB.out.size (.cells #[.string xn, .string sb, .int .i64 (xk : Int)] 84))
      have HR6 := Lib.hid (HR.out.below ((Below.refl wr.heap.size wr).alloc (Nat.le_refl _) (.cells #[.string xn, .string sb, .int .i64 (xk : Int)] 84)) (Nat.le_refl _))
      have hN2 := heap_alloc_new wr (.cells #[.string xn, .string sb, .int .i64 (xk : Int)] 84)
      obtain ⟨w6, hw6⟩ : ∃ w6, wr.alloc (.cells #[.string xn, .string sb, .int .i64 (xk : Int)] 84) = w6 := ⟨_, rfl⟩
      rw [hw6] at HB6 HR6 hN2
      have HW6 := Lib.hid hw6
      clear hw6 hsb hpk hN hst hsz hfe HNW HX
      go_upto_region 5 with fail
      rw [HW6.out]
      have t0 := cell_of_row _ _ 0 _ _ _ hN2
      have t1 := cell_of_row _ _ 1 _ _ _ hN2
      have t2 := cell_of_row _ _ 2 _ _ _ hN2
      have HN2 := Lib.hid hN2
      clear s0 s1 s2 hN2
      have hrow6 : w6.ownsRow w.heap.size 84 3 vi i (fcs (CF i)) := by
        have h1 := HR6.out.row
        rw [HCP.out] at h1
        simp only [HCL.out] at h1
        exact h1
      have hal := (Below.refl w6.heap.size w6).alloc (Nat.le_refl _) (.cells #[.string xn, .string (sb.extract 0 N), .int .i64 (N : Int)] 84)
      have HOW : Hid (∀ W : World, W.heap = (w6.alloc (.cells #[.string xn, .string (sb.extract 0 N), .int .i64 (N : Int)] 84)).heap → W.ownsRow w.heap.size 84 3 vi i (fcs (CF i))) := fun W e => row_same (hrow6.alloc _) (fun g _ => by rw [e])
      have HNC : Hid (∀ W : World, W.heap = (w6.alloc (.cells #[.string xn, .string (sb.extract 0 N), .int .i64 (N : Int)] 84)).heap → ∀ j u, [Value.string xn, .string (sb.extract 0 N), .int .i64 (N : Int)][j]? = some u → W.cell? ((⟨w6.heap.size, 0, none⟩ : Addr).add j) = some u) := fun W e j u hj => (World.cell?_of_block (by rw [e])).trans (new_cellsF w6 [.string xn, .string (sb.extract 0 N), .int .i64 (N : Int)] _ j u hj)
      have HSZ : Hid (∀ W : World, W.heap = (w6.alloc (.cells #[.string xn, .string (sb.extract 0 N), .int .i64 (N : Int)] 84)).heap → w.heap.size ≤ W.heap.size) := fun W e => by have := HB6.out.size; rw [e]; simp; omega
      have HPU : Hid (∀ (W w1 : World) (gg cap : Nat), W.heap = (w6.alloc (.cells #[.string xn, .string (sb.extract 0 N), .int .i64 (N : Int)] 84)).heap → W.os = w6.os → W.tape = w6.tape → W.output = w6.output → w1.ownsRow w.heap.size 84 3 (.slice (some ⟨gg, 0, none⟩) (i + 1) cap) (i + 1) (fcs (CF i) ++ [Value.string xn, .string (sb.extract 0 N), .int .i64 (N : Int)]) → W.grownBy w1 vi.ownBlock → (vi.ownBlock = some gg ∨ gg = W.heap.size) → (Rk (w1.setCell ⟨r1, 1, none⟩ (.slice (some ⟨gg, 0, none⟩) (i + 1) cap)) w.heap.size r1 (.slice (some ⟨gg, 0, none⟩) (i + 1) cap) (CP (i + 1)) ∧ Below w.heap.size w (w1.setCell ⟨r1, 1, none⟩ (.slice (some ⟨gg, 0, none⟩) (i + 1) cap))) ∧ w1.cell? ⟨r1, 1, none⟩ = some vi ∧ w1.frozen? ⟨r1, 1, none⟩ = false) := fun W w1 gg cap e1 e2 e3 e4 h1 h2 h3 => by
        have hW : Below w6.heap.size w6 W := ⟨e2, e3, e4, by rw [e1]; exact hal.size, fun k hk => by rw [e1]; exact hal.block k hk⟩
        have e5 : fcs (CF i) ++ [Value.string xn, .string (sb.extract 0 N), .int .i64 (N : Int)] = fcs (CF (i + 1)) := by
          rw [HST1.out]
          exact fcs_push (CF i) xn (sb.extract 0 N) N ⟨xn, xb.take N, N⟩ rfl (by rw [← HSB.out, bst_take]) rfl
        have e6 : (CF (i + 1)).length = i + 1 := HCL.out (i + 1)
        rw [e5, ← e6] at h1
        have h4 := HR6.out.pushed hW h2 (v' := .slice (some ⟨gg, 0, none⟩) (i + 1) cap) (F := CF (i + 1)) (by rw [e6] at h1 ⊢; exact h1) (fun g e => by injection e with e; subst e; exact h3)
        have hrl := HR6.out.rlt
        have hr1 := (hW.block r1 hrl).trans HR6.out.blk
        have hr2 := (h2.block r1 (by have := hW.size; omega) (fun e => HR6.out.far e.symm)).trans hr1
        refine ⟨⟨?_, ?_⟩, cell_of_row _ _ 1 _ _ _ hr2, frozen_of_row _ r1 1 _ _ hr2⟩
        · have h5 := h4.rk
          have e7 : ({ CP i with F := CF (i + 1) } : PD) = CP (i + 1) := by rw [HCP.out, HCP.out]
          rw [e7] at h5
          exact h5
        · exact HB6.out.trans (h4.tu.below HR6.out.le HB6.out.size)
      have y1 := HR6.out.c1
      have y2 : (w6.alloc (.cells #[.string xn, .string (sb.extract 0 N), .int .i64 (N : Int)] 84)).cell? ⟨r1, 1, none⟩ = some vi := (World.cell?_of_block (a := ⟨r1, 1, none⟩) (Below.heap_alloc _ _ _ HR6.out.rlt)).trans y1
      have hmz : (N : Int) ≤ (sb.size : Int) := by omega
      have HNL : Hid (N ≤ sb.size) := hNle.2
      clear hrow6 hal HCP HCL HST HP0
      obtain ⟨xx, hxx⟩ : ∃ xx : Int, (sb.size : Int) - (xk : Int) = xx := ⟨_, rfl⟩
      have ew : IntKind.i64.wrap ((sb.size : Int) - (xk : Int)) = xx := by rw [IntKind.wrap_i64]; omega
      have hnv := HNV.out
      rw [hxx] at hnv
      have hx0 : 0 ≤ xx := by omega
      have hx1 : xx ≤ 4194304 := by omega
      clear hxx
      rcases Nat.eq_zero_or_pos n with h0 | h0
      · subst h0
        have hpk0 := HPK.out.1 rfl
        subst hpk0
        have hN0 : (N : Int) = (xk : Int) := by omega
        have d1 : decide (xx < 0) = false := by rw [decide_eq_false_iff_not]; omega
        clear hnv hpl HPK
        go_upto_region 13 with fail
        rw [← hN0]
        clear hN0
        go_region_law (refine step_append_lies _ (by rfl) (.tmp 58) (.tmp 67) 76 (by rfl) w.heap.size 84 k0 _ 3 40 Try.underlying76 qk0 qz0 qz1 qz2 (by rfl) (by decide) vi i (fcs (CF i)) (by rfl) (HOW.out _ (by rfl)) ⟨w6.heap.size, 0, none⟩ 1 1 [.string xn, .string (sb.extract 0 N), .int .i64 (N : Int)] (by rfl) (by rfl) (HNC.out _ (by rfl)) (by intro u hu; simp at hu; rcases hu with rfl | rfl | rfl <;> rfl) (by decide) (by unfold maxLen; omega) (by omega) (HSZ.out _ (by rfl)) _ rfl ?_; intro gg cap w8 hown8 hgrow hat hlt'; obtain ⟨hf8, y8, z8⟩ := HPU.out _ w8 gg cap (by rfl) (by rfl) (by rfl) (by rfl) hown8 hgrow hat; have HF8 := Lib.hid hf8; clear hgrow hown8 hat hf8)
        all_goals
          go_wp2_with fail
          go_roundw
          case rel => exact ⟨i + 1, by omega, by go_num, _, HF8.out.1, HF8.out.2⟩
          case measure => simp [RowKit.intOf]; omega
      · obtain ⟨pa, hA, hca, hpb, hp1, hp2⟩ := HPK.out.2 h0
        have hcw : w6.cell? (pa.add (i % n)) = some (.int .i64 pk) := (HB6.out.cell (by rw [add_block]; exact hpb)).trans hca
        have hkn : i % n < n := Nat.mod_lt _ h0
        subst hA
        have hrem : Int.tmod (i : Int) (n : Int) = ((i % n : Nat) : Int) := rfl
        obtain ⟨j, hj⟩ : ∃ j, i % n = j := ⟨_, rfl⟩
        rw [hj] at hrem hkn hcw
        have hjz : (j : Int) < (n : Int) := by omega
        have hn0 : (0 : Int) < (n : Int) := by omega
        have hnz : ¬ ((n : Int) = 0) := by omega
        have hnz2 : ¬ (n = 0) := by omega
        have hnz3 : ((n : Int) == 0) = false := by rw [beq_eq_false_iff_ne]; omega
        have d0 : decide ((0 : Int) < (n : Int)) = true := decide_eq_true hn0
        have d0' : decide (0 < n) = true := decide_eq_true h0
        have ej : IntKind.i64.wrap ((i : Int).tmod (n : Int)) = (j : Int) := by rw [hrem, IntKind.wrap_i64]; omega
        clear hca hpb hpl HPK h0 hj
        by_cases hA : xx < pk
        · have d1 : decide (xx < pk) = true := decide_eq_true hA
          by_cases hB : 0 < xx
          · have d2 : decide (0 < xx) = true := decide_eq_true hB
            have ew2 : IntKind.i64.wrap ((xk : Int) + xx) = (N : Int) := by rw [IntKind.wrap_i64]; omega
            clear hnv
            go_upto_region 13 with fail
            go_region_law (refine step_append_lies _ (by rfl) (.tmp 58) (.tmp 67) 76 (by rfl) w.heap.size 84 k0 _ 3 40 Try.underlying76 qk0 qz0 qz1 qz2 (by rfl) (by decide) vi i (fcs (CF i)) (by rfl) (HOW.out _ (by rfl)) ⟨w6.heap.size, 0, none⟩ 1 1 [.string xn, .string (sb.extract 0 N), .int .i64 (N : Int)] (by rfl) (by rfl) (HNC.out _ (by rfl)) (by intro u hu; simp at hu; rcases hu with rfl | rfl | rfl <;> rfl) (by decide) (by unfold maxLen; omega) (by omega) (HSZ.out _ (by rfl)) _ rfl ?_; intro gg cap w8 hown8 hgrow hat hlt'; obtain ⟨hf8, y8, z8⟩ := HPU.out _ w8 gg cap (by rfl) (by rfl) (by rfl) (by rfl) hown8 hgrow hat; have HF8 := Lib.hid hf8; clear hgrow hown8 hat hf8)
            all_goals
              go_wp2_with fail
              go_roundw
              case rel => exact ⟨i + 1, by omega, by go_num, _, HF8.out.1, HF8.out.2⟩
              case measure => simp [RowKit.intOf]; omega
          · have d2 : decide (0 < xx) = false := decide_eq_false hB
            have e9 : (N : Int) = (xk : Int) := by omega
            clear hnv
            go_upto_region 13 with fail
            rw [← e9]
            clear e9
            go_region_law (refine step_append_lies _ (by rfl) (.tmp 58) (.tmp 67) 76 (by rfl) w.heap.size 84 k0 _ 3 40 Try.underlying76 qk0 qz0 qz1 qz2 (by rfl) (by decide) vi i (fcs (CF i)) (by rfl) (HOW.out _ (by rfl)) ⟨w6.heap.size, 0, none⟩ 1 1 [.string xn, .string (sb.extract 0 N), .int .i64 (N : Int)] (by rfl) (by rfl) (HNC.out _ (by rfl)) (by intro u hu; simp at hu; rcases hu with rfl | rfl | rfl <;> rfl) (by decide) (by unfold maxLen; omega) (by omega) (HSZ.out _ (by rfl)) _ rfl ?_; intro gg cap w8 hown8 hgrow hat hlt'; obtain ⟨hf8, y8, z8⟩ := HPU.out _ w8 gg cap (by rfl) (by rfl) (by rfl) (by rfl) hown8 hgrow hat; have HF8 := Lib.hid hf8; clear hgrow hown8 hat hf8)
            all_goals
              go_wp2_with fail
              go_roundw
              case rel => exact ⟨i + 1, by omega, by go_num, _, HF8.out.1, HF8.out.2⟩
              case measure => simp [RowKit.intOf]; omega
        · have d1 : decide (xx < pk) = false := decide_eq_false hA
          by_cases hB : 0 < pk
          · have d2 : decide (0 < pk) = true := decide_eq_true hB
            have ew2 : IntKind.i64.wrap ((xk : Int) + pk) = (N : Int) := by rw [IntKind.wrap_i64]; omega
            clear hnv
            go_upto_region 13 with fail
            go_region_law (refine step_append_lies _ (by rfl) (.tmp 58) (.tmp 67) 76 (by rfl) w.heap.size 84 k0 _ 3 40 Try.underlying76 qk0 qz0 qz1 qz2 (by rfl) (by decide) vi i (fcs (CF i)) (by rfl) (HOW.out _ (by rfl)) ⟨w6.heap.size, 0, none⟩ 1 1 [.string xn, .string (sb.extract 0 N), .int .i64 (N : Int)] (by rfl) (by rfl) (HNC.out _ (by rfl)) (by intro u hu; simp at hu; rcases hu with rfl | rfl | rfl <;> rfl) (by decide) (by unfold maxLen; omega) (by omega) (HSZ.out _ (by rfl)) _ rfl ?_; intro gg cap w8 hown8 hgrow hat hlt'; obtain ⟨hf8, y8, z8⟩ := HPU.out _ w8 gg cap (by rfl) (by rfl) (by rfl) (by rfl) hown8 hgrow hat; have HF8 := Lib.hid hf8; clear hgrow hown8 hat hf8)
            all_goals
              go_wp2_with fail
              go_roundw
              case rel => exact ⟨i + 1, by omega, by go_num, _, HF8.out.1, HF8.out.2⟩
              case measure => simp [RowKit.intOf]; omega
          · have d2 : decide (0 < pk) = false := decide_eq_false hB
            have e9 : (N : Int) = (xk : Int) := by omega
            clear hnv
            go_upto_region 13 with fail
            rw [← e9]
            clear e9
            go_region_law (refine step_append_lies _ (by rfl) (.tmp 58) (.tmp 67) 76 (by rfl) w.heap.size 84 k0 _ 3 40 Try.underlying76 qk0 qz0 qz1 qz2 (by rfl) (by decide) vi i (fcs (CF i)) (by rfl) (HOW.out _ (by rfl)) ⟨w6.heap.size, 0, none⟩ 1 1 [.string xn, .string (sb.extract 0 N), .int .i64 (N : Int)] (by rfl) (by rfl) (HNC.out _ (by rfl)) (by intro u hu; simp at hu; rcases hu with rfl | rfl | rfl <;> rfl) (by decide) (by unfold maxLen; omega) (by omega) (HSZ.out _ (by rfl)) _ rfl ?_; intro gg cap w8 hown8 hgrow hat hlt'; obtain ⟨hf8, y8, z8⟩ := HPU.out _ w8 gg cap (by rfl) (by rfl) (by rfl) (by rfl) hown8 hgrow hat; have HF8 := Lib.hid hf8; clear hgrow hown8 hat hf8)
            all_goals
              go_wp2_with fail
              go_roundw
              case rel => exact ⟨i + 1, by omega, by go_num, _, HF8.out.1, HF8.out.2⟩
              case measure => simp [RowKit.intOf]; omega
    · have d8 : decide ((i : Int) < (k : Int)) = false := by rw [decide_eq_false_iff_not]; omega
      obtain rfl : i = k := by omega
      have HE := Lib.hid (HX.out r1 vi wr HR.out HB.out)
      go_wp2_with fail
      first
        | exact HE.out
        | (go_ret; exact HE.out)
/-! ### Copy -/
theorem run_append_zeroF (t ty e : TypeId) (i : TypeInfo) (z : Value) (ht : Try.prog.underlying t = some (.slice e)) (hi : Try.prog.info? e = some i) (hz : i.zero = some z) (A : Option Addr) (c : Nat) (w : World) :
    (Builtin.append_ #[t, t] ty #[.slice none 0 0, .slice A 0 c]).run Try.prog w = .ok (.slice none 0 0) w := by
  cases A <;> simp [Builtin.append_, run_underlying ht, sizeOf, typeInfo, hi, hz, Builtin.lenOf, Builtin.firstCells, storeCells, loadCells, loadCellsFrom]
theorem step_append_zeroF {w : World} {ops : Array Oper} {o : Oper} {a : Act} {K : Act → World → Prop} {Q : Exit → Act → World → Prop} {E : Prop} (hgd : o.guard = none) (s x : Operand) (t : TypeId)
    (ho : o.op = .call { callee := .builtin .append, args := #[s, x], argTypes := #[t, t] })
    (e : TypeId) (i : TypeInfo) (z : Value) (ht : Try.prog.underlying t = some (.slice e)) (hi : Try.prog.info? e = some i) (hz : i.zero = some z) (A : Option Addr) (c : Nat)
    (hs : a.eval s = .slice none 0 0) (hx : a.eval x = .slice A 0 c) (h : K (a.put o.dst (.slice none 0 0)) w) :
    if Region.wanted o (yielded ops a.tmps) = true then Oper.wp Try.prog o a w K Q else E := by
  rw [if_pos (by simp [Region.wanted, hgd])]
  have hrun := run_append_zeroF t o.type e i z ht hi hz A c w
  unfold Oper.wp execOp
  simp only [ho, resolve, invoke, builtin, Sem.run_bind, Sem.run_pure, Result.andThen_ok, List.map_toArray, List.map_cons, List.map_nil, hs, hx, hrun]
  exact h
theorem Rk.copied {w W1 w2 : World} {nb : Nat} {v2 : Value} {p : PD} (hb : W1.heap[nb]? = some (.cells #[.int .i64 p.room, .slice none 0 0, .int .i64 p.lf, .bool p.burnt] 78 (0, 0))) (hB : Below w.heap.size w W1) (hnb : w.heap.size ≤ nb) (hg : W1.grownBy w2 none) (ho : w2.ownsRow w.heap.size 84 3 v2 p.F.length (fcs p.F)) (hv : v2.ownBlock ≠ some nb) :
    Rk (w2.setCell ⟨nb, 1, none⟩ v2) w.heap.size nb v2 p ∧ Below w.heap.size w (w2.setCell ⟨nb, 1, none⟩ v2) := by
  have hbl := (Array.getElem?_eq_some_iff.1 hb).1
  have hb2 := (hg.block nb hbl (by simp)).trans hb
  refine ⟨⟨hnb, by rw [heap_setCell_same w2 nb 1 _ _ _ hb2]; rfl, row_setF ho hv⟩, ?_⟩
  exact (hB.trans ((Below.refl _ _).grown hg hB.size (fun k hk => by cases hk))).setCell (by show _ ≤ nb; omega) _
theorem own_neF (gg n cap a H : Nat) (hat : (Value.slice none 0 0).ownBlock = some gg ∨ gg = H) (h : a < H) : (Value.slice (some ⟨gg, 0, none⟩) n cap).ownBlock ≠ some a := by
  rcases hat with e | e
  · cases e
  · intro e2
    have e3 : gg = a := by injection e2
    omega
theorem Rk.drew_ {w : World} {base r : Nat} {v : Value} {p : PD} (h : Rk w base r v p) : Rk w.drew base r v p := ⟨h.br, h.blk, h.row⟩
end Go.Proofs.Ytebkgcnldbkgeaa
