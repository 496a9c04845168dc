/-
  What (*dedup.Table).Judge does: records of the row's epoch.
-/
import Derived.Test.YtofakehnadpebaaDdC
namespace Go.Proofs.Ytofakehnadpebaa
open Go.RowKit Go.Maps
set_option linter.unusedVariables false
set_option linter.unusedSimpArgs false

set_option maxRecDepth 100000 in
set_option maxHeartbeats 8000000 in
theorem judge_eqn (b : Bat) (A : Option Addr) (c B g m : Nat) (most next : Int) (L : List Rw) (w : World) (hT : Tb w g m most next L) (hL : Rcs w B A b.L.length b.L) (hB : B ≤ w.heap.size) (hl : b.L.length ≤ maxLen) (hV : validE b = 0) (hP : ¬ b.pid = 0) (h2 : b.epoch = (knownR L b.pid).epoch) (hm : markB b = false) : Calls Try.prog 20 #[.pointer (some ⟨g, 0, none⟩), .agg (b.cells A c)] w fun e w' => e = .returned (jdgV (jdg most L b)) ∧ Below w.heap.size w w' := by
  have HVA : Hid (∀ W, Below w.heap.size w W → Calls Try.prog 17 #[.agg (b.cells A c)] W fun e w' => e = .returned (.int .i64 (validE b)) ∧ Below W.heap.size W w') := fun W h => valid_any b A c B W (hL.below (h.mono hB)) (Nat.le_trans hB h.size) hl
  have HMK : Hid (∀ W, Calls Try.prog 63 #[.agg (b.cells A c)] W fun e w' => e = .returned (.bool (markB b)) ∧ Below W.heap.size W w') := fun W => dmark_any b A c W
  unfold jdg
  rw [if_pos hV, if_neg hP]
  have hF := (fine_iff b).1 hV
  rw [hV] at HVA
  have hp1 := hF.p1
  have hp2 := hF.p2
  have hrk := knownR_ok hT.ok (pid := b.pid) (by omega) hp2
  have HKN : Hid (∀ W, Below w.heap.size w W → Calls Try.prog 61 #[.pointer (some ⟨g, 0, none⟩), .int .i64 b.pid] W fun e w' => e = .returned (.tuple #[(knownR L b.pid).val, .bool (getL Rw.pid L b.pid).isSome]) ∧ Below W.heap.size W w') := fun W h => known_any g m most next b.pid L W (hT.below h) (by omega) (by omega)
  have HLN : Hid (∀ W, Below w.heap.size w W → ∀ n ty, (Builtin.len_ #[89] ty #[.map (some m)]).run Try.prog (W.drewN n) = .ok (.int .i64 L.length) (W.drewN n)) := fun W h n ty => ((hT.below h).mi.kept (w' := W.drewN n) rfl).len (e := 52) Try.underlying89 ty
  have HT : Hid (∀ W, Below w.heap.size w W → W.cell? ⟨g, 0, none⟩ = some (.int .i64 most) ∧ W.cell? ⟨g, 2, none⟩ = some (.map (some m))) := fun W h => ⟨cell_of_row W g 0 _ _ _ (hT.below h).t, cell_of_row W g 2 _ _ _ (hT.below h).t⟩
  have HOP : Hid (∀ W, Calls Try.prog 66 #[(knownR L b.pid).val] W fun e w' => e = .returned (.bool (openR (knownR L b.pid))) ∧ Below W.heap.size W w') := fun W => open_any _ W
  have HPL : Hid (∀ W, Calls Try.prog 65 #[(knownR L b.pid).val, .agg (b.cells A c)] W fun e w' => e = .returned (.int .i64 (placeR (knownR L b.pid) b)) ∧ Below W.heap.size W w') := fun W => place_any _ b A c W
  have HB1 : Hid (∀ W, Calls Try.prog 64 #[.int .i64 (knownR L b.pid).seq, .int .i64 (knownR L b.pid).count] W fun e w' => e = .returned (.int .i64 ((knownR L b.pid).seq + (knownR L b.pid).count)) ∧ W = w') := fun W => behind_any _ _ W (by have := hrk.s; omega) (by have := hrk.s; omega) (by have := hrk.c; omega) (by have := hrk.c; omega)
  have HB2 : Hid (∀ W, Calls Try.prog 64 #[.int .i64 b.seq, .int .i64 (b.L.length : Int)] W fun e w' => e = .returned (.int .i64 (b.seq + (b.L.length : Int))) ∧ W = w') := fun W => behind_any _ _ W (by have := hF.s1; omega) (by have := hF.s2; omega) (by omega) (by have := hF.len; omega)
  have HCM : Hid (∀ W, Calls Try.prog 62 #[.int .i64 b.epoch, .int .i64 (knownR L b.pid).epoch] W fun e w' => e = .returned (.int .i64 (cmpI b.epoch (knownR L b.pid).epoch)) ∧ W = w') := fun W => compare_any _ _ W
  clear hT hL hV
  unfold jdgR
  generalize knownR L b.pid = r at *
  generalize (getL Rw.pid L b.pid).isSome = th at *
  generalize placeR r b = pl at *
  have hmk3 : markB b = true → b.kind ≠ 0 := fun h e => by unfold markB at h; rw [e] at h; cases h
  generalize markB b = mk at *
  generalize openR r = op at *
  obtain ⟨rp, re, rs, rc, rb, rf, rt⟩ := r
  obtain ⟨base, pid, epoch, seq, kind, time, l⟩ := b
  unfold Rw.val Rw.cells Bat.cells at *
  simp only at *
  clear hrk hF hp1 hp2
  generalize hX : jdgX _ _ _ _ _ _ _ _ _ _ _ _ = X
  have HX := Lib.hid hX
  clear hX
  subst hm
  have hcm : cmpI epoch re = 0 := by unfold cmpI; rw [if_neg (by omega), if_neg (by omega)]
  rw [hcm] at HCM
  have h2s := h2.symm
  clear h2
  subst h2s
  clear hcm
  clear hmk3
  go_enter Try.func20, Try.ntmps20
  go_upto_region 9 with (first | (go_at_call 17; (with_reducible refine (HVA.out _ (Jp.start w _).below).mono ?_); rintro e w3 ⟨rfl, hb⟩; have J := (Jp.start w _).next hb; clear hb; obtain ⟨⟨y0, y1, y2, y3, y4, y5, y6⟩, _⟩ := seven J.y; obtain ⟨⟨v0, v1⟩, g0, g1⟩ := J.two; have hlt := J.lt) | (go_at_call 61; (with_reducible refine (HKN.out _ J.below).mono ?_); rintro e w4 ⟨rfl, hb⟩; replace J := J.next hb; clear hb y0 y1 y2 y3 y4 y5 y6 v0 v1 g0 g1 hlt; obtain ⟨⟨y0, y1, y2, y3, y4, y5, y6⟩, _⟩ := seven J.y; obtain ⟨⟨v0, v1⟩, g0, g1⟩ := J.two; have hlt := J.lt; have hlt0 : w.heap.size < w4.heap.size := (by omega); have JR := Jr.start J #[.int .i64 rp, .int .i64 re, .int .i64 rs, .int .i64 rc, .int .i64 rb, .int .i64 rf, .int .i64 rt]) | (go_at_call 62; (with_reducible refine (HCM.out _).mono ?_); rintro e w' ⟨rfl, rfl⟩))
  by_cases h3 : seq + (l.length : Int) ≤ rs + rc
  · have H3 := Lib.hid h3
    go_wp2_with (first | (go_at_call 63; (with_reducible refine (HMK.out _).mono ?_); rintro e w6 ⟨rfl, hb⟩; replace JR := JR.next hb; clear hb; obtain ⟨⟨y0, y1, y2, y3, y4, y5, y6⟩, _⟩ := seven JR.j.y; obtain ⟨⟨v0, v1⟩, g0, g1⟩ := JR.j.two; obtain ⟨⟨r0, r1, r2, r3, r4, r5, r6⟩, _⟩ := seven JR.r; have hlt := JR.lt) | (go_at_call 66; (with_reducible refine (HOP.out _).mono ?_); rintro e w7 ⟨rfl, hb⟩; replace JR := JR.next hb; clear hb; obtain ⟨⟨y0, y1, y2, y3, y4, y5, y6⟩, _⟩ := seven JR.j.y; obtain ⟨⟨v0, v1⟩, g0, g1⟩ := JR.j.two; obtain ⟨⟨r0, r1, r2, r3, r4, r5, r6⟩, _⟩ := seven JR.r; have hlt := JR.lt) | (go_at_call 65; (with_reducible refine (HPL.out _).mono ?_); rintro e w8 ⟨rfl, hb⟩; replace JR := JR.next hb; clear hb; obtain ⟨⟨y0, y1, y2, y3, y4, y5, y6⟩, _⟩ := seven JR.j.y; obtain ⟨⟨v0, v1⟩, g0, g1⟩ := JR.j.two; obtain ⟨⟨r0, r1, r2, r3, r4, r5, r6⟩, _⟩ := seven JR.r; have hlt := JR.lt) | (go_at_call 64; first | ((with_reducible refine (HB1.out _).mono ?_); rintro e w' ⟨rfl, rfl⟩) | ((with_reducible refine (HB2.out _).mono ?_); rintro e w' ⟨rfl, rfl⟩)))
    refine bodyPost_ret (v := .tuple #[.agg #[.bool true, .int .i64 pl], .int .i64 0]) (by simp [results, Try.results20, go_sem, v0, v1]) rfl ⟨by (rw [← HX.out]; have q0 := H3.out; unfold jdgX jdgV; (repeat' split) <;> first | rfl | (exfalso; omega) | (exfalso; simp_all; done) | (exfalso; simp_all; omega)), ?_⟩
    refine Below.setCell (Below.setCell ?_ (by simp) _) (by simp) _
    exact JR.j.below
  · have h3' : decide (seq + (l.length : Int) ≤ rs + rc) = false := by simpa using h3
    have H3 := Lib.hid h3
    clear h3
    go_upto_region 18 with (first | (go_at_call 63; (with_reducible refine (HMK.out _).mono ?_); rintro e w6 ⟨rfl, hb⟩; replace JR := JR.next hb; clear hb; obtain ⟨⟨y0, y1, y2, y3, y4, y5, y6⟩, _⟩ := seven JR.j.y; obtain ⟨⟨v0, v1⟩, g0, g1⟩ := JR.j.two; obtain ⟨⟨r0, r1, r2, r3, r4, r5, r6⟩, _⟩ := seven JR.r; have hlt := JR.lt) | (go_at_call 66; (with_reducible refine (HOP.out _).mono ?_); rintro e w7 ⟨rfl, hb⟩; replace JR := JR.next hb; clear hb; obtain ⟨⟨y0, y1, y2, y3, y4, y5, y6⟩, _⟩ := seven JR.j.y; obtain ⟨⟨v0, v1⟩, g0, g1⟩ := JR.j.two; obtain ⟨⟨r0, r1, r2, r3, r4, r5, r6⟩, _⟩ := seven JR.r; have hlt := JR.lt) | (go_at_call 65; (with_reducible refine (HPL.out _).mono ?_); rintro e w8 ⟨rfl, hb⟩; replace JR := JR.next hb; clear hb; obtain ⟨⟨y0, y1, y2, y3, y4, y5, y6⟩, _⟩ := seven JR.j.y; obtain ⟨⟨v0, v1⟩, g0, g1⟩ := JR.j.two; obtain ⟨⟨r0, r1, r2, r3, r4, r5, r6⟩, _⟩ := seven JR.r; have hlt := JR.lt) | (go_at_call 64; first | ((with_reducible refine (HB1.out _).mono ?_); rintro e w' ⟨rfl, rfl⟩) | ((with_reducible refine (HB2.out _).mono ?_); rintro e w' ⟨rfl, rfl⟩)))
    by_cases h4 : op = true ∧ kind = 0
    · obtain ⟨rfl, rfl⟩ := h4
      go_wp2_with (first | (go_at_call 63; (with_reducible refine (HMK.out _).mono ?_); rintro e w6 ⟨rfl, hb⟩; replace JR := JR.next hb; clear hb; obtain ⟨⟨y0, y1, y2, y3, y4, y5, y6⟩, _⟩ := seven JR.j.y; obtain ⟨⟨v0, v1⟩, g0, g1⟩ := JR.j.two; obtain ⟨⟨r0, r1, r2, r3, r4, r5, r6⟩, _⟩ := seven JR.r; have hlt := JR.lt) | (go_at_call 66; (with_reducible refine (HOP.out _).mono ?_); rintro e w7 ⟨rfl, hb⟩; replace JR := JR.next hb; clear hb; obtain ⟨⟨y0, y1, y2, y3, y4, y5, y6⟩, _⟩ := seven JR.j.y; obtain ⟨⟨v0, v1⟩, g0, g1⟩ := JR.j.two; obtain ⟨⟨r0, r1, r2, r3, r4, r5, r6⟩, _⟩ := seven JR.r; have hlt := JR.lt) | (go_at_call 65; (with_reducible refine (HPL.out _).mono ?_); rintro e w8 ⟨rfl, hb⟩; replace JR := JR.next hb; clear hb; obtain ⟨⟨y0, y1, y2, y3, y4, y5, y6⟩, _⟩ := seven JR.j.y; obtain ⟨⟨v0, v1⟩, g0, g1⟩ := JR.j.two; obtain ⟨⟨r0, r1, r2, r3, r4, r5, r6⟩, _⟩ := seven JR.r; have hlt := JR.lt) | (go_at_call 64; first | ((with_reducible refine (HB1.out _).mono ?_); rintro e w' ⟨rfl, rfl⟩) | ((with_reducible refine (HB2.out _).mono ?_); rintro e w' ⟨rfl, rfl⟩)))
      refine bodyPost_ret (v := .tuple #[.agg #[.bool false, .int .i64 0], .int .i64 22]) (by simp [results, Try.results20, go_sem, v0, v1]) rfl ⟨by (rw [← HX.out]; have q0 := H3.out; unfold jdgX jdgV; (repeat' split) <;> first | rfl | (exfalso; omega) | (exfalso; simp_all; done) | (exfalso; simp_all; omega)), ?_⟩
      refine Below.setCell (Below.setCell ?_ (by simp) _) (by simp) _
      exact JR.j.below
    · have hop : op = false ∨ (op = true ∧ ¬ kind = 0) := by cases op <;> simp_all
      clear h4
      rcases hop with rfl | ⟨rfl, hk⟩
      · have hk0 : True := trivial
        clear hk0
        by_cases h5 : seq = rs + rc
        · have h5' : (seq != rs + rc) = false := by simp [h5]
          have H5 := Lib.hid h5
          clear h5
          go_upto_region 22 with (first | (go_at_call 63; (with_reducible refine (HMK.out _).mono ?_); rintro e w6 ⟨rfl, hb⟩; replace JR := JR.next hb; clear hb; obtain ⟨⟨y0, y1, y2, y3, y4, y5, y6⟩, _⟩ := seven JR.j.y; obtain ⟨⟨v0, v1⟩, g0, g1⟩ := JR.j.two; obtain ⟨⟨r0, r1, r2, r3, r4, r5, r6⟩, _⟩ := seven JR.r; have hlt := JR.lt) | (go_at_call 66; (with_reducible refine (HOP.out _).mono ?_); rintro e w7 ⟨rfl, hb⟩; replace JR := JR.next hb; clear hb; obtain ⟨⟨y0, y1, y2, y3, y4, y5, y6⟩, _⟩ := seven JR.j.y; obtain ⟨⟨v0, v1⟩, g0, g1⟩ := JR.j.two; obtain ⟨⟨r0, r1, r2, r3, r4, r5, r6⟩, _⟩ := seven JR.r; have hlt := JR.lt) | (go_at_call 65; (with_reducible refine (HPL.out _).mono ?_); rintro e w8 ⟨rfl, hb⟩; replace JR := JR.next hb; clear hb; obtain ⟨⟨y0, y1, y2, y3, y4, y5, y6⟩, _⟩ := seven JR.j.y; obtain ⟨⟨v0, v1⟩, g0, g1⟩ := JR.j.two; obtain ⟨⟨r0, r1, r2, r3, r4, r5, r6⟩, _⟩ := seven JR.r; have hlt := JR.lt) | (go_at_call 64; first | ((with_reducible refine (HB1.out _).mono ?_); rintro e w' ⟨rfl, rfl⟩) | ((with_reducible refine (HB2.out _).mono ?_); rintro e w' ⟨rfl, rfl⟩)))
          cases th with
          | true =>
            go_quiet (fail)
            go_wp2_with fail
            refine bodyPost_ret (v := .tuple #[.agg #[.bool false, .int .i64 0], .int .i64 0]) (by simp [results, Try.results20, go_sem, v0, v1]) rfl ⟨by (rw [← HX.out]; have q0 := H3.out; have q1 := H5.out; unfold jdgX jdgV; (repeat' split) <;> first | rfl | (exfalso; omega) | (exfalso; simp_all; done) | (exfalso; simp_all; omega)), ?_⟩
            refine Below.setCell (Below.setCell ?_ (by simp) _) (by simp) _
            exact below_draws JR.j.below _
          | false =>
            have hln := HLN.out _ JR.j.below
            obtain ⟨t0, t2⟩ := HT.out _ JR.j.below
            by_cases hfl : most ≤ (L.length : Int)
            · have hf1 : decide (most ≤ (L.length : Int)) = true := by simpa using hfl
              have HFL := Lib.hid hfl
              clear hfl
              go_quiet (fail)
              go_wp2_with fail
              refine bodyPost_ret (v := .tuple #[.agg #[.bool false, .int .i64 0], .int .i64 5]) (by simp [results, Try.results20, go_sem, v0, v1]) rfl ⟨by (rw [← HX.out]; have q0 := H3.out; have q1 := H5.out; have q2 := HFL.out; unfold jdgX jdgV; (repeat' split) <;> first | rfl | (exfalso; omega) | (exfalso; simp_all; done) | (exfalso; simp_all; omega)), ?_⟩
              refine Below.setCell (Below.setCell ?_ (by simp) _) (by simp) _
              exact below_draws JR.j.below _
            · have hf1 : decide (most ≤ (L.length : Int)) = false := by simpa using hfl
              have HFL := Lib.hid hfl
              clear hfl
              go_quiet (fail)
              go_wp2_with fail
              refine bodyPost_ret (v := .tuple #[.agg #[.bool false, .int .i64 0], .int .i64 0]) (by simp [results, Try.results20, go_sem, v0, v1]) rfl ⟨by (rw [← HX.out]; have q0 := H3.out; have q1 := H5.out; have q2 := HFL.out; unfold jdgX jdgV; (repeat' split) <;> first | rfl | (exfalso; omega) | (exfalso; simp_all; done) | (exfalso; simp_all; omega)), ?_⟩
              refine Below.setCell (Below.setCell ?_ (by simp) _) (by simp) _
              exact below_draws JR.j.below _
        · have h5' : (seq != rs + rc) = true := by simp [h5]
          have H5 := Lib.hid h5
          clear h5
          go_wp2_with (first | (go_at_call 63; (with_reducible refine (HMK.out _).mono ?_); rintro e w6 ⟨rfl, hb⟩; replace JR := JR.next hb; clear hb; obtain ⟨⟨y0, y1, y2, y3, y4, y5, y6⟩, _⟩ := seven JR.j.y; obtain ⟨⟨v0, v1⟩, g0, g1⟩ := JR.j.two; obtain ⟨⟨r0, r1, r2, r3, r4, r5, r6⟩, _⟩ := seven JR.r; have hlt := JR.lt) | (go_at_call 66; (with_reducible refine (HOP.out _).mono ?_); rintro e w7 ⟨rfl, hb⟩; replace JR := JR.next hb; clear hb; obtain ⟨⟨y0, y1, y2, y3, y4, y5, y6⟩, _⟩ := seven JR.j.y; obtain ⟨⟨v0, v1⟩, g0, g1⟩ := JR.j.two; obtain ⟨⟨r0, r1, r2, r3, r4, r5, r6⟩, _⟩ := seven JR.r; have hlt := JR.lt) | (go_at_call 65; (with_reducible refine (HPL.out _).mono ?_); rintro e w8 ⟨rfl, hb⟩; replace JR := JR.next hb; clear hb; obtain ⟨⟨y0, y1, y2, y3, y4, y5, y6⟩, _⟩ := seven JR.j.y; obtain ⟨⟨v0, v1⟩, g0, g1⟩ := JR.j.two; obtain ⟨⟨r0, r1, r2, r3, r4, r5, r6⟩, _⟩ := seven JR.r; have hlt := JR.lt) | (go_at_call 64; first | ((with_reducible refine (HB1.out _).mono ?_); rintro e w' ⟨rfl, rfl⟩) | ((with_reducible refine (HB2.out _).mono ?_); rintro e w' ⟨rfl, rfl⟩)))
          refine bodyPost_ret (v := .tuple #[.agg #[.bool false, .int .i64 0], .int .i64 21]) (by simp [results, Try.results20, go_sem, v0, v1]) rfl ⟨by (rw [← HX.out]; have q0 := H3.out; have q1 := H5.out; unfold jdgX jdgV; (repeat' split) <;> first | rfl | (exfalso; omega) | (exfalso; simp_all; done) | (exfalso; simp_all; omega)), ?_⟩
          refine Below.setCell (Below.setCell ?_ (by simp) _) (by simp) _
          exact JR.j.below
      · have hk0 : (kind == 0) = false := by simpa using hk
        have HK := Lib.hid hk
        clear hk
        by_cases h5 : seq = rs + rc
        · have h5' : (seq != rs + rc) = false := by simp [h5]
          have H5 := Lib.hid h5
          clear h5
          go_upto_region 22 with (first | (go_at_call 63; (with_reducible refine (HMK.out _).mono ?_); rintro e w6 ⟨rfl, hb⟩; replace JR := JR.next hb; clear hb; obtain ⟨⟨y0, y1, y2, y3, y4, y5, y6⟩, _⟩ := seven JR.j.y; obtain ⟨⟨v0, v1⟩, g0, g1⟩ := JR.j.two; obtain ⟨⟨r0, r1, r2, r3, r4, r5, r6⟩, _⟩ := seven JR.r; have hlt := JR.lt) | (go_at_call 66; (with_reducible refine (HOP.out _).mono ?_); rintro e w7 ⟨rfl, hb⟩; replace JR := JR.next hb; clear hb; obtain ⟨⟨y0, y1, y2, y3, y4, y5, y6⟩, _⟩ := seven JR.j.y; obtain ⟨⟨v0, v1⟩, g0, g1⟩ := JR.j.two; obtain ⟨⟨r0, r1, r2, r3, r4, r5, r6⟩, _⟩ := seven JR.r; have hlt := JR.lt) | (go_at_call 65; (with_reducible refine (HPL.out _).mono ?_); rintro e w8 ⟨rfl, hb⟩; replace JR := JR.next hb; clear hb; obtain ⟨⟨y0, y1, y2, y3, y4, y5, y6⟩, _⟩ := seven JR.j.y; obtain ⟨⟨v0, v1⟩, g0, g1⟩ := JR.j.two; obtain ⟨⟨r0, r1, r2, r3, r4, r5, r6⟩, _⟩ := seven JR.r; have hlt := JR.lt) | (go_at_call 64; first | ((with_reducible refine (HB1.out _).mono ?_); rintro e w' ⟨rfl, rfl⟩) | ((with_reducible refine (HB2.out _).mono ?_); rintro e w' ⟨rfl, rfl⟩)))
          cases th with
          | true =>
            go_quiet (fail)
            go_wp2_with fail
            refine bodyPost_ret (v := .tuple #[.agg #[.bool false, .int .i64 0], .int .i64 0]) (by simp [results, Try.results20, go_sem, v0, v1]) rfl ⟨by (rw [← HX.out]; have q0 := H3.out; have q1 := H5.out; have q2 := HK.out; unfold jdgX jdgV; (repeat' split) <;> first | rfl | (exfalso; omega) | (exfalso; simp_all; done) | (exfalso; simp_all; omega)), ?_⟩
            refine Below.setCell (Below.setCell ?_ (by simp) _) (by simp) _
            exact below_draws JR.j.below _
          | false =>
            have hln := HLN.out _ JR.j.below
            obtain ⟨t0, t2⟩ := HT.out _ JR.j.below
            by_cases hfl : most ≤ (L.length : Int)
            · have hf1 : decide (most ≤ (L.length : Int)) = true := by simpa using hfl
              have HFL := Lib.hid hfl
              clear hfl
              go_quiet (fail)
              go_wp2_with fail
              refine bodyPost_ret (v := .tuple #[.agg #[.bool false, .int .i64 0], .int .i64 5]) (by simp [results, Try.results20, go_sem, v0, v1]) rfl ⟨by (rw [← HX.out]; have q0 := H3.out; have q1 := H5.out; have q2 := HK.out; have q3 := HFL.out; unfold jdgX jdgV; (repeat' split) <;> first | rfl | (exfalso; omega) | (exfalso; simp_all; done) | (exfalso; simp_all; omega)), ?_⟩
              refine Below.setCell (Below.setCell ?_ (by simp) _) (by simp) _
              exact below_draws JR.j.below _
            · have hf1 : decide (most ≤ (L.length : Int)) = false := by simpa using hfl
              have HFL := Lib.hid hfl
              clear hfl
              go_quiet (fail)
              go_wp2_with fail
              refine bodyPost_ret (v := .tuple #[.agg #[.bool false, .int .i64 0], .int .i64 0]) (by simp [results, Try.results20, go_sem, v0, v1]) rfl ⟨by (rw [← HX.out]; have q0 := H3.out; have q1 := H5.out; have q2 := HK.out; have q3 := HFL.out; unfold jdgX jdgV; (repeat' split) <;> first | rfl | (exfalso; omega) | (exfalso; simp_all; done) | (exfalso; simp_all; omega)), ?_⟩
              refine Below.setCell (Below.setCell ?_ (by simp) _) (by simp) _
              exact below_draws JR.j.below _
        · have h5' : (seq != rs + rc) = true := by simp [h5]
          have H5 := Lib.hid h5
          clear h5
          go_wp2_with (first | (go_at_call 63; (with_reducible refine (HMK.out _).mono ?_); rintro e w6 ⟨rfl, hb⟩; replace JR := JR.next hb; clear hb; obtain ⟨⟨y0, y1, y2, y3, y4, y5, y6⟩, _⟩ := seven JR.j.y; obtain ⟨⟨v0, v1⟩, g0, g1⟩ := JR.j.two; obtain ⟨⟨r0, r1, r2, r3, r4, r5, r6⟩, _⟩ := seven JR.r; have hlt := JR.lt) | (go_at_call 66; (with_reducible refine (HOP.out _).mono ?_); rintro e w7 ⟨rfl, hb⟩; replace JR := JR.next hb; clear hb; obtain ⟨⟨y0, y1, y2, y3, y4, y5, y6⟩, _⟩ := seven JR.j.y; obtain ⟨⟨v0, v1⟩, g0, g1⟩ := JR.j.two; obtain ⟨⟨r0, r1, r2, r3, r4, r5, r6⟩, _⟩ := seven JR.r; have hlt := JR.lt) | (go_at_call 65; (with_reducible refine (HPL.out _).mono ?_); rintro e w8 ⟨rfl, hb⟩; replace JR := JR.next hb; clear hb; obtain ⟨⟨y0, y1, y2, y3, y4, y5, y6⟩, _⟩ := seven JR.j.y; obtain ⟨⟨v0, v1⟩, g0, g1⟩ := JR.j.two; obtain ⟨⟨r0, r1, r2, r3, r4, r5, r6⟩, _⟩ := seven JR.r; have hlt := JR.lt) | (go_at_call 64; first | ((with_reducible refine (HB1.out _).mono ?_); rintro e w' ⟨rfl, rfl⟩) | ((with_reducible refine (HB2.out _).mono ?_); rintro e w' ⟨rfl, rfl⟩)))
          refine bodyPost_ret (v := .tuple #[.agg #[.bool false, .int .i64 0], .int .i64 21]) (by simp [results, Try.results20, go_sem, v0, v1]) rfl ⟨by (rw [← HX.out]; have q0 := H3.out; have q1 := H5.out; have q2 := HK.out; unfold jdgX jdgV; (repeat' split) <;> first | rfl | (exfalso; omega) | (exfalso; simp_all; done) | (exfalso; simp_all; omega)), ?_⟩
          refine Below.setCell (Below.setCell ?_ (by simp) _) (by simp) _
          exact JR.j.below
end Go.Proofs.Ytofakehnadpebaa
