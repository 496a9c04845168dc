/-
  Law 4's step: Cut, Rename, Remove.
-/
import Derived.Test.YtebkgcnldbkgeaaDpP
namespace Go.Proofs.Ytebkgcnldbkgeaa
open Go.RowKit Go.Lib Go.Sort Go.Maps
set_option linter.unusedVariables false
set_option linter.unusedSimpArgs false

set_option maxRecDepth 100000 in
set_option maxHeartbeats 16000000 in
theorem step4_any (base d r : Nat) (D : Dsk) (v : Value) (p : PD) (o : O4) (w : World) (h : TD w base d r D v p) (hb : base ≤ w.heap.size) (ho : o.Ok w) (hk : o.kd = 4) :
    Calls Try.prog 18 #[.pointer (some ⟨d, 0, none⟩), .pointer (some ⟨r, 0, none⟩), .agg #[.int .i64 4, .string o.a, .string o.b, .string o.s, .int .i64 o.n, .slice o.pA o.pn o.pc]] w (SP base w d r D v p o) := by
  obtain ⟨X, hX⟩ : ∃ X : Ending → World → Prop, SP base w d r D v p o = X := ⟨_, rfl⟩
  have hal := (Below.refl w.heap.size w).alloc (Nat.le_refl _) (.cells #[.int .i64 4, .string o.a, .string o.b, .string o.s, .int .i64 o.n, .slice o.pA o.pn o.pc] 44)
  have hN0 := heap_alloc_new w (.cells #[.int .i64 4, .string o.a, .string o.b, .string o.s, .int .i64 o.n, .slice o.pA o.pn o.pc] 44)
  obtain ⟨w5, hw5⟩ : ∃ w5, w.alloc (.cells #[.int .i64 4, .string o.a, .string o.b, .string o.s, .int .i64 o.n, .slice o.pA o.pn o.pc] 44) = w5 := ⟨_, rfl⟩
  rw [hw5] at hal hN0
  have HX : Hid (∀ w' d' r' D' v', TS base w5 w' d r D v d' r' D' v' (opP p o) → (o.kd ≠ 9 → d' = d ∧ r' = r) → X (.returned (.tuple #[.pointer (some ⟨d', 0, none⟩), .pointer (some ⟨r', 0, none⟩), .bool true])) w') := fun w' d' r' D' v' h1 h2 => by rw [← hX]; exact ⟨d', r', D', v', rfl, (TS.of_below h hal).trans h1, h2⟩
  rw [hX]
  have HT := Lib.hid (h.below hal (Nat.le_refl _))
  have hol : w.heap.size < w5.heap.size := (Array.getElem?_eq_some_iff.1 hN0).1
  have HB5 : Hid (base ≤ w5.heap.size) := Nat.le_trans hb hal.size
  have HOUT : Hid (w.heap.size ∉ D.foot d) := fun h2 => by have := h.dk.lt _ h2; omega
  have HOUR : Hid (w.heap.size ∉ rfoot r v) := fun h2 => by have := h.rk.lt _ h2; omega
  have HHO := Lib.hid (ho.below hal)
  have HW5 := Lib.hid hw5
  obtain ⟨ob, hob⟩ : ∃ ob, w.heap.size = ob := ⟨_, rfl⟩
  rw [hob] at hN0 hol HOUT HOUR
  have HN := Lib.hid hN0
  have HOL := Lib.hid hol
  obtain ⟨b0, b1, b2, b3, b4, b5⟩ := six_cells hN0
  have hfd := HT.out.rk.free 0
  clear hX h hb ho hw5 hal hN0
  obtain ⟨kd, sa, sb, ss, sn, pA, pn, pc, P⟩ := o
  simp only at b0 b1 b2 b3 b4 b5 HX HN HHO HW5 ⊢
  have HSB : Hid (∀ V : World, V.heap[ob]? = some (.cells #[.int .i64 4, .string sa, .string sb, .string ss, .int .i64 sn, .slice pA pn pc] 44 (0, 0)) → (fun w' => w'.cell? ⟨ob, 1, none⟩ = some (.string sa) ∧ w'.cell? ⟨ob, 4, none⟩ = some (.int .i64 sn)) V) := fun V hV => by
    obtain ⟨c0, c1, c2, c3, c4, c5⟩ := six_cells hV
    (try dsimp only)
    (try (refine ⟨?_, ?_⟩))
    all_goals assumption
  have HC1 : Hid (∀ V, Below w5.heap.size w5 V → Calls Try.prog 43 #[.pointer (some ⟨d, 0, none⟩), .string sa, .int .i64 sn] V fun e w' => e = .returned (.int .i64 ((p.cut sa sn).1 : Int)) ∧ ∃ D', Then base d w5 w' D D' ∧ pd D' = (p.cut sa sn).2 ∧ w'.heap[ob]? = some (.cells #[.int .i64 4, .string sa, .string sb, .string ss, .int .i64 sn, .slice pA pn pc] 44 (0, 0))) := fun V hV => by
    have h1 := cut_pd base d D sa sn V (HT.out.dk.below hV (Nat.le_refl _)) (by have := HHO.out.a; simp only at this; unfold maxLen; omega)
    rw [HT.out.pe] at h1
    exact h1.mono fun e w' ⟨D', he, ht, hq⟩ => ⟨he, D', (Then.of_below HT.out.dk hV).trans ht, hq, (((Then.of_below HT.out.dk hV).trans ht).block HOL.out HOUT.out).trans HN.out⟩
  have HC2 : Hid (∀ V D', Then base d w5 V D D' → pd D' = (p.cut sa sn).2 → Calls Try.prog 44 #[.pointer (some ⟨r, 0, none⟩), .string sa, .int .i64 sn] V fun e w' => e = .returned (.int .i64 ((p.cut sa sn).1 : Int)) ∧ ∃ v', TS base w5 w' d r D v d r D' v' (p.cut sa sn).2 ∧ w'.heap[ob]? = some (.cells #[.int .i64 4, .string sa, .string sb, .string ss, .int .i64 sn, .slice pA pn pc] 44 (0, 0))) := fun V D' ht hq =>
    (HT.out.second HB5.out ht hq (Below.refl _ _) fun hr hb2 => rcut_any base r v p sa sn V hr HT.out.ok hb2).mono fun e w' ⟨he, v', ts⟩ => ⟨he, v', ts, (ts.tu.block ob HOL.out (fun hm => (List.mem_append.1 hm).elim HOUT.out HOUR.out)).trans HN.out⟩
  have HXF := Lib.hid (fun w' D' v' (h1 : TS base w5 w' d r D v d r D' v' (p.cut sa sn).2) => HX.out w' d r D' v' (by rw [show opP p ⟨kd, sa, sb, ss, sn, pA, pn, pc, P⟩ = (p.cut sa sn).2 from opP4 hk]; exact h1) (fun _ => ⟨rfl, rfl⟩))
  generalize p.cut sa sn = q at *
  obtain ⟨q1, q2⟩ := q
  simp only at HC1 HC2 HXF
  go_enter Try.func18, Try.ntmps18
  go_upto_region 1 with fail
  rw [HW5.out]
  go_upto_region 11 with fail
  refine wp_region_held_drew (S := fun w' => w'.cell? ⟨ob, 1, none⟩ = some (.string sa) ∧ w'.cell? ⟨ob, 4, none⟩ = some (.int .i64 sn)) (by kernel_rfl) (HSB.out w5.drew HN.out) (fun hHeld => ?_)
  refine wpAnyH_take (i := 0) (oi := _) (v := ?d4u1v0) rfl (by kernel_rfl) (by kernel_rfl) (by kernel_rfl) (fun _ _ _ h => h) (Or.inl ⟨by rfl, ?d4u1y0⟩) hHeld ?d4u1r0
  case d4u1y0 => (intro w hSw; (try dsimp only at hSw); go_simp; (first | done | with_reducible rfl))
  case d4u1r0 =>
  (try simp only [Act.put, List.setIfInBounds_toArray, List.set_cons_zero, List.set_cons_succ, List.getElem_toArray, List.getElem_cons_succ, List.getElem_cons_zero])
  refine wpAnyH_take (i := 1) (oi := _) (v := ?d4u2v1) rfl (by kernel_rfl) (by kernel_rfl) (by kernel_rfl) (fun _ _ _ h => h) (Or.inl ⟨by rfl, ?d4u2y1⟩) hHeld ?d4u2r1
  case d4u2y1 => (intro w hSw; (try dsimp only at hSw); go_simp; (first | done | with_reducible rfl))
  case d4u2r1 =>
  (try simp only [Act.put, List.setIfInBounds_toArray, List.set_cons_zero, List.set_cons_succ, List.getElem_toArray, List.getElem_cons_succ, List.getElem_cons_zero])
  refine wpAnyH_take (i := 2) (oi := _) (v := ?d4u3v2) rfl (by kernel_rfl) (by kernel_rfl) (by kernel_rfl) (fun _ _ _ h => h) (Or.inl ⟨by rfl, ?d4u3y2⟩) hHeld ?d4u3r2
  case d4u3y2 => (intro w hSw; (try dsimp only at hSw); go_simp; (first | done | with_reducible rfl))
  case d4u3r2 =>
  (try simp only [Act.put, List.setIfInBounds_toArray, List.set_cons_zero, List.set_cons_succ, List.getElem_toArray, List.getElem_cons_succ, List.getElem_cons_zero])
  refine wpAnyH_take (i := 3) (oi := _) (v := ?d4u4v3) rfl (by kernel_rfl) (by kernel_rfl) (by kernel_rfl) (fun _ _ _ h => h) (Or.inl ⟨by rfl, ?d4u4y3⟩) hHeld ?d4u4r3
  case d4u4y3 => (intro w hSw; (try dsimp only at hSw); go_simp; (first | done | with_reducible rfl))
  case d4u4r3 =>
  (try simp only [Act.put, List.setIfInBounds_toArray, List.set_cons_zero, List.set_cons_succ, List.getElem_toArray, List.getElem_cons_succ, List.getElem_cons_zero])
  refine wpAnyH_take (i := 4) (oi := _) (v := ?d4u5v4) rfl (by kernel_rfl) (by kernel_rfl) (by kernel_rfl) (fun _ _ _ h => h) (Or.inl ⟨by rfl, ?d4u5y4⟩) hHeld ?d4u5r4
  case d4u5y4 => (intro w hSw; (try dsimp only at hSw); go_simp; (first | done | with_reducible rfl))
  case d4u5r4 =>
  (try simp only [Act.put, List.setIfInBounds_toArray, List.set_cons_zero, List.set_cons_succ, List.getElem_toArray, List.getElem_cons_succ, List.getElem_cons_zero])
  refine wpAnyH_take (i := 5) (oi := _) (v := ?d4u6v5) rfl (by kernel_rfl) (by kernel_rfl) (by kernel_rfl) (fun _ _ _ h => h) (Or.inl ⟨by rfl, ?d4u6y5⟩) hHeld ?d4u6r5
  case d4u6y5 => (intro w hSw; (try dsimp only at hSw); go_simp; (first | done | with_reducible rfl))
  case d4u6r5 =>
  (try simp only [Act.put, List.setIfInBounds_toArray, List.set_cons_zero, List.set_cons_succ, List.getElem_toArray, List.getElem_cons_succ, List.getElem_cons_zero])
  refine wpAnyH_take (i := 6) (oi := _) (v := ?d4u7v6) rfl (by kernel_rfl) (by kernel_rfl) (by kernel_rfl) (fun _ _ _ h => h) (Or.inl ⟨by rfl, ?d4u7y6⟩) hHeld ?d4u7r6
  case d4u7y6 => (intro w hSw; (try dsimp only at hSw); go_simp; (first | done | with_reducible rfl))
  case d4u7r6 =>
  (try simp only [Act.put, List.setIfInBounds_toArray, List.set_cons_zero, List.set_cons_succ, List.getElem_toArray, List.getElem_cons_succ, List.getElem_cons_zero])
  refine wpAnyH_take (i := 8) (oi := _) (v := ?d4u8v8) rfl (by kernel_rfl) (by kernel_rfl) (by kernel_rfl) (fun _ _ _ h => h) (Or.inl ⟨by rfl, ?d4u8y8⟩) hHeld ?d4u8r8
  case d4u8y8 => (intro w hSw; (try dsimp only at hSw); go_simp; (first | done | with_reducible rfl))
  case d4u8r8 =>
  (try simp only [Act.put, List.setIfInBounds_toArray, List.set_cons_zero, List.set_cons_succ, List.getElem_toArray, List.getElem_cons_succ, List.getElem_cons_zero])
  refine wpAnyH_take (i := 9) (oi := _) (v := ?d4u9v9) rfl (by kernel_rfl) (by kernel_rfl) (by kernel_rfl) (fun _ _ _ h => h) (Or.inl ⟨by rfl, ?d4u9y9⟩) hHeld ?d4u9r9
  case d4u9y9 => (intro w hSw; (try dsimp only at hSw); go_simp; (first | done | with_reducible rfl))
  case d4u9r9 =>
  (try simp only [Act.put, List.setIfInBounds_toArray, List.set_cons_zero, List.set_cons_succ, List.getElem_toArray, List.getElem_cons_succ, List.getElem_cons_zero])
  refine wpAnyH_take (i := 10) (oi := _) (v := ?d4u10v10) rfl (by kernel_rfl) (by kernel_rfl) (by kernel_rfl) (fun _ _ _ h => h) (Or.inl ⟨by rfl, ?d4u10y10⟩) hHeld ?d4u10r10
  case d4u10y10 => (intro w hSw; (try dsimp only at hSw); go_simp; (first | done | with_reducible rfl))
  case d4u10r10 =>
  (try simp only [Act.put, List.setIfInBounds_toArray, List.set_cons_zero, List.set_cons_succ, List.getElem_toArray, List.getElem_cons_succ, List.getElem_cons_zero])
  refine wpAnyH_take (i := 11) (oi := _) (v := ?d4u11v11) rfl (by kernel_rfl) (by kernel_rfl) (by kernel_rfl) (fun _ _ _ h => h) (Or.inl ⟨by rfl, ?d4u11y11⟩) hHeld ?d4u11r11
  case d4u11y11 => (intro w hSw; (try dsimp only at hSw); go_simp; (first | done | with_reducible rfl))
  case d4u11r11 =>
  (try simp only [Act.put, List.setIfInBounds_toArray, List.set_cons_zero, List.set_cons_succ, List.getElem_toArray, List.getElem_cons_succ, List.getElem_cons_zero])
  refine wpAnyH_take (i := 12) (oi := _) (v := ?d4u12v12) rfl (by kernel_rfl) (by kernel_rfl) (by kernel_rfl) (fun _ _ _ h => h) (Or.inl ⟨by rfl, ?d4u12y12⟩) hHeld ?d4u12r12
  case d4u12y12 => (intro w hSw; (try dsimp only at hSw); go_simp; (first | done | with_reducible rfl))
  case d4u12r12 =>
  (try simp only [Act.put, List.setIfInBounds_toArray, List.set_cons_zero, List.set_cons_succ, List.getElem_toArray, List.getElem_cons_succ, List.getElem_cons_zero])
  refine wpAnyH_ready (rs := [7]) (by kernel_rfl) (by simp) ?_
  refine (AllReadyH.cons (o := _) rfl ?d4u13k7 AllReadyH.nil)
  case d4u13k7 =>
  intro K hK
  go_simp
  (go_at_call 43; refine (HC1.out w5.drew ((Below.refl w5.heap.size w5).drew)).mono ?_; rintro e w1 ⟨rfl, D1, ht1, hq1, hx1⟩)
  go_wp2_with fail
  refine hK.out _ _ ?d4u13s7 (fun hNow => ?d4u13r7)
  case d4u13s7 => exact HSB.out w1 hx1
  case d4u13r7 =>
  clear hK K hHeld
  have hHeld := hNow
  clear hNow
  (try simp only [Act.put, List.setIfInBounds_toArray, List.set_cons_zero, List.set_cons_succ, List.getElem_toArray, List.getElem_cons_succ, List.getElem_cons_zero])
  refine wpAnyH_ready (rs := [13]) (by kernel_rfl) (by simp) ?_
  refine (AllReadyH.cons (o := _) rfl ?d4u14k13 AllReadyH.nil)
  case d4u14k13 =>
  intro K hK
  go_simp
  (go_at_call 44; refine (HC2.out w1 D1 ht1 hq1).mono ?_; rintro e w2 ⟨rfl, v2, ht2, hx2⟩)
  go_wp2_with fail
  refine hK.out _ _ ?d4u14s13 (fun hNow => ?d4u14r13)
  case d4u14s13 => exact HSB.out w2 hx2
  case d4u14r13 =>
  clear hK K hHeld
  have hHeld := hNow
  clear hNow
  (try simp only [Act.put, List.setIfInBounds_toArray, List.set_cons_zero, List.set_cons_succ, List.getElem_toArray, List.getElem_cons_succ, List.getElem_cons_zero])
  refine wpAnyH_take (i := 14) (oi := _) (v := ?d4u15v14) rfl (by kernel_rfl) (by kernel_rfl) (by kernel_rfl) (fun _ _ _ h => h) (Or.inl ⟨by rfl, ?d4u15y14⟩) hHeld ?d4u15r14
  case d4u15y14 => (intro w hSw; (try dsimp only at hSw); go_simp; (first | done | with_reducible rfl))
  case d4u15r14 =>
  (try simp only [Act.put, List.setIfInBounds_toArray, List.set_cons_zero, List.set_cons_succ, List.getElem_toArray, List.getElem_cons_succ, List.getElem_cons_zero])
  refine wpAnyH_take (i := 15) (oi := _) (v := ?d4u16v15) rfl (by kernel_rfl) (by kernel_rfl) (by kernel_rfl) (fun _ _ _ h => h) (Or.inl ⟨by rfl, ?d4u16y15⟩) hHeld ?d4u16r15
  case d4u16y15 => (intro w hSw; (try dsimp only at hSw); go_simp; (first | done | with_reducible rfl))
  case d4u16r15 =>
  (try simp only [Act.put, List.setIfInBounds_toArray, List.set_cons_zero, List.set_cons_succ, List.getElem_toArray, List.getElem_cons_succ, List.getElem_cons_zero])
  refine wpAnyH_take (i := 16) (oi := _) (v := ?d4u17v16) rfl (by kernel_rfl) (by kernel_rfl) (by kernel_rfl) (fun _ _ _ h => h) (Or.inl ⟨by rfl, ?d4u17y16⟩) hHeld ?d4u17r16
  case d4u17y16 => (intro w hSw; (try dsimp only at hSw); go_simp; (first | done | with_reducible rfl))
  case d4u17r16 =>
  (try simp only [Act.put, List.setIfInBounds_toArray, List.set_cons_zero, List.set_cons_succ, List.getElem_toArray, List.getElem_cons_succ, List.getElem_cons_zero])
  refine wpAnyH_take (i := 17) (oi := _) (v := ?d4u18v17) rfl (by kernel_rfl) (by kernel_rfl) (by kernel_rfl) (fun _ _ _ h => h) (Or.inl ⟨by rfl, ?d4u18y17⟩) hHeld ?d4u18r17
  case d4u18y17 => (intro w hSw; (try dsimp only at hSw); go_simp; (first | done | with_reducible rfl))
  case d4u18r17 =>
  (try simp only [Act.put, List.setIfInBounds_toArray, List.set_cons_zero, List.set_cons_succ, List.getElem_toArray, List.getElem_cons_succ, List.getElem_cons_zero])
  refine wpAnyH_done (by kernel_rfl) ?_ _
  go_wp2_with fail
  go_ret3
  exact HXF.out _ _ _ ht2

set_option maxRecDepth 100000 in
set_option maxHeartbeats 16000000 in
theorem step5_any (base d r : Nat) (D : Dsk) (v : Value) (p : PD) (o : O4) (w : World) (h : TD w base d r D v p) (hb : base ≤ w.heap.size) (ho : o.Ok w) (hk : o.kd = 5) :
    Calls Try.prog 18 #[.pointer (some ⟨d, 0, none⟩), .pointer (some ⟨r, 0, none⟩), .agg #[.int .i64 5, .string o.a, .string o.b, .string o.s, .int .i64 o.n, .slice o.pA o.pn o.pc]] w (SP base w d r D v p o) := by
  obtain ⟨X, hX⟩ : ∃ X : Ending → World → Prop, SP base w d r D v p o = X := ⟨_, rfl⟩
  have hal := (Below.refl w.heap.size w).alloc (Nat.le_refl _) (.cells #[.int .i64 5, .string o.a, .string o.b, .string o.s, .int .i64 o.n, .slice o.pA o.pn o.pc] 44)
  have hN0 := heap_alloc_new w (.cells #[.int .i64 5, .string o.a, .string o.b, .string o.s, .int .i64 o.n, .slice o.pA o.pn o.pc] 44)
  obtain ⟨w5, hw5⟩ : ∃ w5, w.alloc (.cells #[.int .i64 5, .string o.a, .string o.b, .string o.s, .int .i64 o.n, .slice o.pA o.pn o.pc] 44) = w5 := ⟨_, rfl⟩
  rw [hw5] at hal hN0
  have HX : Hid (∀ w' d' r' D' v', TS base w5 w' d r D v d' r' D' v' (opP p o) → (o.kd ≠ 9 → d' = d ∧ r' = r) → X (.returned (.tuple #[.pointer (some ⟨d', 0, none⟩), .pointer (some ⟨r', 0, none⟩), .bool true])) w') := fun w' d' r' D' v' h1 h2 => by rw [← hX]; exact ⟨d', r', D', v', rfl, (TS.of_below h hal).trans h1, h2⟩
  rw [hX]
  have HT := Lib.hid (h.below hal (Nat.le_refl _))
  have hol : w.heap.size < w5.heap.size := (Array.getElem?_eq_some_iff.1 hN0).1
  have HB5 : Hid (base ≤ w5.heap.size) := Nat.le_trans hb hal.size
  have HOUT : Hid (w.heap.size ∉ D.foot d) := fun h2 => by have := h.dk.lt _ h2; omega
  have HOUR : Hid (w.heap.size ∉ rfoot r v) := fun h2 => by have := h.rk.lt _ h2; omega
  have HHO := Lib.hid (ho.below hal)
  have HW5 := Lib.hid hw5
  obtain ⟨ob, hob⟩ : ∃ ob, w.heap.size = ob := ⟨_, rfl⟩
  rw [hob] at hN0 hol HOUT HOUR
  have HN := Lib.hid hN0
  have HOL := Lib.hid hol
  obtain ⟨b0, b1, b2, b3, b4, b5⟩ := six_cells hN0
  have hfd := HT.out.rk.free 0
  clear hX h hb ho hw5 hal hN0
  obtain ⟨kd, sa, sb, ss, sn, pA, pn, pc, P⟩ := o
  simp only at b0 b1 b2 b3 b4 b5 HX HN HHO HW5 ⊢
  have HSB : Hid (∀ V : World, V.heap[ob]? = some (.cells #[.int .i64 5, .string sa, .string sb, .string ss, .int .i64 sn, .slice pA pn pc] 44 (0, 0)) → (fun w' => w'.cell? ⟨ob, 1, none⟩ = some (.string sa) ∧ w'.cell? ⟨ob, 2, none⟩ = some (.string sb)) V) := fun V hV => by
    obtain ⟨c0, c1, c2, c3, c4, c5⟩ := six_cells hV
    (try dsimp only)
    (try (refine ⟨?_, ?_⟩))
    all_goals assumption
  have HC1 : Hid (∀ V, Below w5.heap.size w5 V → Calls Try.prog 45 #[.pointer (some ⟨d, 0, none⟩), .string sa, .string sb] V fun e w' => e = .returned (.int .i64 ((p.rename sa sb).1 : Int)) ∧ ∃ D', Then base d w5 w' D D' ∧ pd D' = (p.rename sa sb).2 ∧ w'.heap[ob]? = some (.cells #[.int .i64 5, .string sa, .string sb, .string ss, .int .i64 sn, .slice pA pn pc] 44 (0, 0))) := fun V hV => by
    have h1 := rename_pd base d D sa sb V (HT.out.dk.below hV (Nat.le_refl _)) (by have := HHO.out.a; simp only at this; unfold maxLen; omega) (by have := HHO.out.b; simp only at this; omega)
    rw [HT.out.pe] at h1
    exact h1.mono fun e w' ⟨D', he, ht, hq⟩ => ⟨he, D', (Then.of_below HT.out.dk hV).trans ht, hq, (((Then.of_below HT.out.dk hV).trans ht).block HOL.out HOUT.out).trans HN.out⟩
  have HC2 : Hid (∀ V D', Then base d w5 V D D' → pd D' = (p.rename sa sb).2 → Calls Try.prog 46 #[.pointer (some ⟨r, 0, none⟩), .string sa, .string sb] V fun e w' => e = .returned (.int .i64 ((p.rename sa sb).1 : Int)) ∧ ∃ v', TS base w5 w' d r D v d r D' v' (p.rename sa sb).2 ∧ w'.heap[ob]? = some (.cells #[.int .i64 5, .string sa, .string sb, .string ss, .int .i64 sn, .slice pA pn pc] 44 (0, 0))) := fun V D' ht hq =>
    (HT.out.second HB5.out ht hq (Below.refl _ _) fun hr hb2 => rrename_any base r v p sa sb V hr HT.out.ok hb2 (by have := HHO.out.b; simp only at this; omega)).mono fun e w' ⟨he, v', ts⟩ => ⟨he, v', ts, (ts.tu.block ob HOL.out (fun hm => (List.mem_append.1 hm).elim HOUT.out HOUR.out)).trans HN.out⟩
  have HXF := Lib.hid (fun w' D' v' (h1 : TS base w5 w' d r D v d r D' v' (p.rename sa sb).2) => HX.out w' d r D' v' (by rw [show opP p ⟨kd, sa, sb, ss, sn, pA, pn, pc, P⟩ = (p.rename sa sb).2 from opP5 hk]; exact h1) (fun _ => ⟨rfl, rfl⟩))
  generalize p.rename sa sb = q at *
  obtain ⟨q1, q2⟩ := q
  simp only at HC1 HC2 HXF
  go_enter Try.func18, Try.ntmps18
  go_upto_region 1 with fail
  rw [HW5.out]
  go_upto_region 13 with fail
  refine wp_region_held_drew (S := fun w' => w'.cell? ⟨ob, 1, none⟩ = some (.string sa) ∧ w'.cell? ⟨ob, 2, none⟩ = some (.string sb)) (by kernel_rfl) (HSB.out w5.drew HN.out) (fun hHeld => ?_)
  refine wpAnyH_take (i := 0) (oi := _) (v := ?d5u19v0) rfl (by kernel_rfl) (by kernel_rfl) (by kernel_rfl) (fun _ _ _ h => h) (Or.inl ⟨by rfl, ?d5u19y0⟩) hHeld ?d5u19r0
  case d5u19y0 => (intro w hSw; (try dsimp only at hSw); go_simp; (first | done | with_reducible rfl))
  case d5u19r0 =>
  (try simp only [Act.put, List.setIfInBounds_toArray, List.set_cons_zero, List.set_cons_succ, List.getElem_toArray, List.getElem_cons_succ, List.getElem_cons_zero])
  refine wpAnyH_take (i := 1) (oi := _) (v := ?d5u20v1) rfl (by kernel_rfl) (by kernel_rfl) (by kernel_rfl) (fun _ _ _ h => h) (Or.inl ⟨by rfl, ?d5u20y1⟩) hHeld ?d5u20r1
  case d5u20y1 => (intro w hSw; (try dsimp only at hSw); go_simp; (first | done | with_reducible rfl))
  case d5u20r1 =>
  (try simp only [Act.put, List.setIfInBounds_toArray, List.set_cons_zero, List.set_cons_succ, List.getElem_toArray, List.getElem_cons_succ, List.getElem_cons_zero])
  refine wpAnyH_take (i := 2) (oi := _) (v := ?d5u21v2) rfl (by kernel_rfl) (by kernel_rfl) (by kernel_rfl) (fun _ _ _ h => h) (Or.inl ⟨by rfl, ?d5u21y2⟩) hHeld ?d5u21r2
  case d5u21y2 => (intro w hSw; (try dsimp only at hSw); go_simp; (first | done | with_reducible rfl))
  case d5u21r2 =>
  (try simp only [Act.put, List.setIfInBounds_toArray, List.set_cons_zero, List.set_cons_succ, List.getElem_toArray, List.getElem_cons_succ, List.getElem_cons_zero])
  refine wpAnyH_take (i := 3) (oi := _) (v := ?d5u22v3) rfl (by kernel_rfl) (by kernel_rfl) (by kernel_rfl) (fun _ _ _ h => h) (Or.inl ⟨by rfl, ?d5u22y3⟩) hHeld ?d5u22r3
  case d5u22y3 => (intro w hSw; (try dsimp only at hSw); go_simp; (first | done | with_reducible rfl))
  case d5u22r3 =>
  (try simp only [Act.put, List.setIfInBounds_toArray, List.set_cons_zero, List.set_cons_succ, List.getElem_toArray, List.getElem_cons_succ, List.getElem_cons_zero])
  refine wpAnyH_take (i := 4) (oi := _) (v := ?d5u23v4) rfl (by kernel_rfl) (by kernel_rfl) (by kernel_rfl) (fun _ _ _ h => h) (Or.inl ⟨by rfl, ?d5u23y4⟩) hHeld ?d5u23r4
  case d5u23y4 => (intro w hSw; (try dsimp only at hSw); go_simp; (first | done | with_reducible rfl))
  case d5u23r4 =>
  (try simp only [Act.put, List.setIfInBounds_toArray, List.set_cons_zero, List.set_cons_succ, List.getElem_toArray, List.getElem_cons_succ, List.getElem_cons_zero])
  refine wpAnyH_take (i := 5) (oi := _) (v := ?d5u24v5) rfl (by kernel_rfl) (by kernel_rfl) (by kernel_rfl) (fun _ _ _ h => h) (Or.inl ⟨by rfl, ?d5u24y5⟩) hHeld ?d5u24r5
  case d5u24y5 => (intro w hSw; (try dsimp only at hSw); go_simp; (first | done | with_reducible rfl))
  case d5u24r5 =>
  (try simp only [Act.put, List.setIfInBounds_toArray, List.set_cons_zero, List.set_cons_succ, List.getElem_toArray, List.getElem_cons_succ, List.getElem_cons_zero])
  refine wpAnyH_take (i := 6) (oi := _) (v := ?d5u25v6) rfl (by kernel_rfl) (by kernel_rfl) (by kernel_rfl) (fun _ _ _ h => h) (Or.inl ⟨by rfl, ?d5u25y6⟩) hHeld ?d5u25r6
  case d5u25y6 => (intro w hSw; (try dsimp only at hSw); go_simp; (first | done | with_reducible rfl))
  case d5u25r6 =>
  (try simp only [Act.put, List.setIfInBounds_toArray, List.set_cons_zero, List.set_cons_succ, List.getElem_toArray, List.getElem_cons_succ, List.getElem_cons_zero])
  refine wpAnyH_take (i := 8) (oi := _) (v := ?d5u26v8) rfl (by kernel_rfl) (by kernel_rfl) (by kernel_rfl) (fun _ _ _ h => h) (Or.inl ⟨by rfl, ?d5u26y8⟩) hHeld ?d5u26r8
  case d5u26y8 => (intro w hSw; (try dsimp only at hSw); go_simp; (first | done | with_reducible rfl))
  case d5u26r8 =>
  (try simp only [Act.put, List.setIfInBounds_toArray, List.set_cons_zero, List.set_cons_succ, List.getElem_toArray, List.getElem_cons_succ, List.getElem_cons_zero])
  refine wpAnyH_take (i := 9) (oi := _) (v := ?d5u27v9) rfl (by kernel_rfl) (by kernel_rfl) (by kernel_rfl) (fun _ _ _ h => h) (Or.inl ⟨by rfl, ?d5u27y9⟩) hHeld ?d5u27r9
  case d5u27y9 => (intro w hSw; (try dsimp only at hSw); go_simp; (first | done | with_reducible rfl))
  case d5u27r9 =>
  (try simp only [Act.put, List.setIfInBounds_toArray, List.set_cons_zero, List.set_cons_succ, List.getElem_toArray, List.getElem_cons_succ, List.getElem_cons_zero])
  refine wpAnyH_take (i := 10) (oi := _) (v := ?d5u28v10) rfl (by kernel_rfl) (by kernel_rfl) (by kernel_rfl) (fun _ _ _ h => h) (Or.inl ⟨by rfl, ?d5u28y10⟩) hHeld ?d5u28r10
  case d5u28y10 => (intro w hSw; (try dsimp only at hSw); go_simp; (first | done | with_reducible rfl))
  case d5u28r10 =>
  (try simp only [Act.put, List.setIfInBounds_toArray, List.set_cons_zero, List.set_cons_succ, List.getElem_toArray, List.getElem_cons_succ, List.getElem_cons_zero])
  refine wpAnyH_take (i := 11) (oi := _) (v := ?d5u29v11) rfl (by kernel_rfl) (by kernel_rfl) (by kernel_rfl) (fun _ _ _ h => h) (Or.inl ⟨by rfl, ?d5u29y11⟩) hHeld ?d5u29r11
  case d5u29y11 => (intro w hSw; (try dsimp only at hSw); go_simp; (first | done | with_reducible rfl))
  case d5u29r11 =>
  (try simp only [Act.put, List.setIfInBounds_toArray, List.set_cons_zero, List.set_cons_succ, List.getElem_toArray, List.getElem_cons_succ, List.getElem_cons_zero])
  refine wpAnyH_take (i := 12) (oi := _) (v := ?d5u30v12) rfl (by kernel_rfl) (by kernel_rfl) (by kernel_rfl) (fun _ _ _ h => h) (Or.inl ⟨by rfl, ?d5u30y12⟩) hHeld ?d5u30r12
  case d5u30y12 => (intro w hSw; (try dsimp only at hSw); go_simp; (first | done | with_reducible rfl))
  case d5u30r12 =>
  (try simp only [Act.put, List.setIfInBounds_toArray, List.set_cons_zero, List.set_cons_succ, List.getElem_toArray, List.getElem_cons_succ, List.getElem_cons_zero])
  refine wpAnyH_ready (rs := [7]) (by kernel_rfl) (by simp) ?_
  refine (AllReadyH.cons (o := _) rfl ?d5u31k7 AllReadyH.nil)
  case d5u31k7 =>
  intro K hK
  go_simp
  (go_at_call 45; refine (HC1.out w5.drew ((Below.refl w5.heap.size w5).drew)).mono ?_; rintro e w1 ⟨rfl, D1, ht1, hq1, hx1⟩)
  go_wp2_with fail
  refine hK.out _ _ ?d5u31s7 (fun hNow => ?d5u31r7)
  case d5u31s7 => exact HSB.out w1 hx1
  case d5u31r7 =>
  clear hK K hHeld
  have hHeld := hNow
  clear hNow
  (try simp only [Act.put, List.setIfInBounds_toArray, List.set_cons_zero, List.set_cons_succ, List.getElem_toArray, List.getElem_cons_succ, List.getElem_cons_zero])
  refine wpAnyH_ready (rs := [13]) (by kernel_rfl) (by simp) ?_
  refine (AllReadyH.cons (o := _) rfl ?d5u32k13 AllReadyH.nil)
  case d5u32k13 =>
  intro K hK
  go_simp
  (go_at_call 46; refine (HC2.out w1 D1 ht1 hq1).mono ?_; rintro e w2 ⟨rfl, v2, ht2, hx2⟩)
  go_wp2_with fail
  refine hK.out _ _ ?d5u32s13 (fun hNow => ?d5u32r13)
  case d5u32s13 => exact HSB.out w2 hx2
  case d5u32r13 =>
  clear hK K hHeld
  have hHeld := hNow
  clear hNow
  (try simp only [Act.put, List.setIfInBounds_toArray, List.set_cons_zero, List.set_cons_succ, List.getElem_toArray, List.getElem_cons_succ, List.getElem_cons_zero])
  refine wpAnyH_take (i := 14) (oi := _) (v := ?d5u33v14) rfl (by kernel_rfl) (by kernel_rfl) (by kernel_rfl) (fun _ _ _ h => h) (Or.inl ⟨by rfl, ?d5u33y14⟩) hHeld ?d5u33r14
  case d5u33y14 => (intro w hSw; (try dsimp only at hSw); go_simp; (first | done | with_reducible rfl))
  case d5u33r14 =>
  (try simp only [Act.put, List.setIfInBounds_toArray, List.set_cons_zero, List.set_cons_succ, List.getElem_toArray, List.getElem_cons_succ, List.getElem_cons_zero])
  refine wpAnyH_take (i := 15) (oi := _) (v := ?d5u34v15) rfl (by kernel_rfl) (by kernel_rfl) (by kernel_rfl) (fun _ _ _ h => h) (Or.inl ⟨by rfl, ?d5u34y15⟩) hHeld ?d5u34r15
  case d5u34y15 => (intro w hSw; (try dsimp only at hSw); go_simp; (first | done | with_reducible rfl))
  case d5u34r15 =>
  (try simp only [Act.put, List.setIfInBounds_toArray, List.set_cons_zero, List.set_cons_succ, List.getElem_toArray, List.getElem_cons_succ, List.getElem_cons_zero])
  refine wpAnyH_take (i := 16) (oi := _) (v := ?d5u35v16) rfl (by kernel_rfl) (by kernel_rfl) (by kernel_rfl) (fun _ _ _ h => h) (Or.inl ⟨by rfl, ?d5u35y16⟩) hHeld ?d5u35r16
  case d5u35y16 => (intro w hSw; (try dsimp only at hSw); go_simp; (first | done | with_reducible rfl))
  case d5u35r16 =>
  (try simp only [Act.put, List.setIfInBounds_toArray, List.set_cons_zero, List.set_cons_succ, List.getElem_toArray, List.getElem_cons_succ, List.getElem_cons_zero])
  refine wpAnyH_take (i := 17) (oi := _) (v := ?d5u36v17) rfl (by kernel_rfl) (by kernel_rfl) (by kernel_rfl) (fun _ _ _ h => h) (Or.inl ⟨by rfl, ?d5u36y17⟩) hHeld ?d5u36r17
  case d5u36y17 => (intro w hSw; (try dsimp only at hSw); go_simp; (first | done | with_reducible rfl))
  case d5u36r17 =>
  (try simp only [Act.put, List.setIfInBounds_toArray, List.set_cons_zero, List.set_cons_succ, List.getElem_toArray, List.getElem_cons_succ, List.getElem_cons_zero])
  refine wpAnyH_done (by kernel_rfl) ?_ _
  go_wp2_with fail
  go_ret3
  exact HXF.out _ _ _ ht2

set_option maxRecDepth 100000 in
set_option maxHeartbeats 16000000 in
theorem step6_any (base d r : Nat) (D : Dsk) (v : Value) (p : PD) (o : O4) (w : World) (h : TD w base d r D v p) (hb : base ≤ w.heap.size) (ho : o.Ok w) (hk : o.kd = 6) :
    Calls Try.prog 18 #[.pointer (some ⟨d, 0, none⟩), .pointer (some ⟨r, 0, none⟩), .agg #[.int .i64 6, .string o.a, .string o.b, .string o.s, .int .i64 o.n, .slice o.pA o.pn o.pc]] w (SP base w d r D v p o) := by
  obtain ⟨X, hX⟩ : ∃ X : Ending → World → Prop, SP base w d r D v p o = X := ⟨_, rfl⟩
  have hal := (Below.refl w.heap.size w).alloc (Nat.le_refl _) (.cells #[.int .i64 6, .string o.a, .string o.b, .string o.s, .int .i64 o.n, .slice o.pA o.pn o.pc] 44)
  have hN0 := heap_alloc_new w (.cells #[.int .i64 6, .string o.a, .string o.b, .string o.s, .int .i64 o.n, .slice o.pA o.pn o.pc] 44)
  obtain ⟨w5, hw5⟩ : ∃ w5, w.alloc (.cells #[.int .i64 6, .string o.a, .string o.b, .string o.s, .int .i64 o.n, .slice o.pA o.pn o.pc] 44) = w5 := ⟨_, rfl⟩
  rw [hw5] at hal hN0
  have HX : Hid (∀ w' d' r' D' v', TS base w5 w' d r D v d' r' D' v' (opP p o) → (o.kd ≠ 9 → d' = d ∧ r' = r) → X (.returned (.tuple #[.pointer (some ⟨d', 0, none⟩), .pointer (some ⟨r', 0, none⟩), .bool true])) w') := fun w' d' r' D' v' h1 h2 => by rw [← hX]; exact ⟨d', r', D', v', rfl, (TS.of_below h hal).trans h1, h2⟩
  rw [hX]
  have HT := Lib.hid (h.below hal (Nat.le_refl _))
  have hol : w.heap.size < w5.heap.size := (Array.getElem?_eq_some_iff.1 hN0).1
  have HB5 : Hid (base ≤ w5.heap.size) := Nat.le_trans hb hal.size
  have HOUT : Hid (w.heap.size ∉ D.foot d) := fun h2 => by have := h.dk.lt _ h2; omega
  have HOUR : Hid (w.heap.size ∉ rfoot r v) := fun h2 => by have := h.rk.lt _ h2; omega
  have HHO := Lib.hid (ho.below hal)
  have HW5 := Lib.hid hw5
  obtain ⟨ob, hob⟩ : ∃ ob, w.heap.size = ob := ⟨_, rfl⟩
  rw [hob] at hN0 hol HOUT HOUR
  have HN := Lib.hid hN0
  have HOL := Lib.hid hol
  obtain ⟨b0, b1, b2, b3, b4, b5⟩ := six_cells hN0
  have hfd := HT.out.rk.free 0
  clear hX h hb ho hw5 hal hN0
  obtain ⟨kd, sa, sb, ss, sn, pA, pn, pc, P⟩ := o
  simp only at b0 b1 b2 b3 b4 b5 HX HN HHO HW5 ⊢
  have HSB : Hid (∀ V : World, V.heap[ob]? = some (.cells #[.int .i64 6, .string sa, .string sb, .string ss, .int .i64 sn, .slice pA pn pc] 44 (0, 0)) → (fun w' => w'.cell? ⟨ob, 1, none⟩ = some (.string sa)) V) := fun V hV => by
    obtain ⟨c0, c1, c2, c3, c4, c5⟩ := six_cells hV
    (try dsimp only)
    (try (refine ⟨?_, ?_⟩))
    all_goals assumption
  have HC1 : Hid (∀ V, Below w5.heap.size w5 V → Calls Try.prog 47 #[.pointer (some ⟨d, 0, none⟩), .string sa] V fun e w' => e = .returned (.int .i64 ((p.remove sa).1 : Int)) ∧ ∃ D', Then base d w5 w' D D' ∧ pd D' = (p.remove sa).2 ∧ w'.heap[ob]? = some (.cells #[.int .i64 6, .string sa, .string sb, .string ss, .int .i64 sn, .slice pA pn pc] 44 (0, 0))) := fun V hV => by
    have h1 := remove_pd base d D sa V (HT.out.dk.below hV (Nat.le_refl _)) (by have := HHO.out.a; simp only at this; unfold maxLen; omega)
    rw [HT.out.pe] at h1
    exact h1.mono fun e w' ⟨D', he, ht, hq⟩ => ⟨he, D', (Then.of_below HT.out.dk hV).trans ht, hq, (((Then.of_below HT.out.dk hV).trans ht).block HOL.out HOUT.out).trans HN.out⟩
  have HC2 : Hid (∀ V D', Then base d w5 V D D' → pd D' = (p.remove sa).2 → Calls Try.prog 48 #[.pointer (some ⟨r, 0, none⟩), .string sa] V fun e w' => e = .returned (.int .i64 ((p.remove sa).1 : Int)) ∧ ∃ v', TS base w5 w' d r D v d r D' v' (p.remove sa).2 ∧ w'.heap[ob]? = some (.cells #[.int .i64 6, .string sa, .string sb, .string ss, .int .i64 sn, .slice pA pn pc] 44 (0, 0))) := fun V D' ht hq =>
    (HT.out.second HB5.out ht hq (Below.refl _ _) fun hr hb2 => rremove_any base r v p sa V hr HT.out.ok hb2).mono fun e w' ⟨he, v', ts⟩ => ⟨he, v', ts, (ts.tu.block ob HOL.out (fun hm => (List.mem_append.1 hm).elim HOUT.out HOUR.out)).trans HN.out⟩
  have HXF := Lib.hid (fun w' D' v' (h1 : TS base w5 w' d r D v d r D' v' (p.remove sa).2) => HX.out w' d r D' v' (by rw [show opP p ⟨kd, sa, sb, ss, sn, pA, pn, pc, P⟩ = (p.remove sa).2 from opP6 hk]; exact h1) (fun _ => ⟨rfl, rfl⟩))
  generalize p.remove sa = q at *
  obtain ⟨q1, q2⟩ := q
  simp only at HC1 HC2 HXF
  go_enter Try.func18, Try.ntmps18
  go_upto_region 1 with fail
  rw [HW5.out]
  go_upto_region 15 with fail
  refine wp_region_held_drew (S := fun w' => w'.cell? ⟨ob, 1, none⟩ = some (.string sa)) (by kernel_rfl) (HSB.out w5.drew HN.out) (fun hHeld => ?_)
  refine wpAnyH_take (i := 0) (oi := _) (v := ?d6u37v0) rfl (by kernel_rfl) (by kernel_rfl) (by kernel_rfl) (fun _ _ _ h => h) (Or.inl ⟨by rfl, ?d6u37y0⟩) hHeld ?d6u37r0
  case d6u37y0 => (intro w hSw; (try dsimp only at hSw); go_simp; (first | done | with_reducible rfl))
  case d6u37r0 =>
  (try simp only [Act.put, List.setIfInBounds_toArray, List.set_cons_zero, List.set_cons_succ, List.getElem_toArray, List.getElem_cons_succ, List.getElem_cons_zero])
  refine wpAnyH_take (i := 1) (oi := _) (v := ?d6u38v1) rfl (by kernel_rfl) (by kernel_rfl) (by kernel_rfl) (fun _ _ _ h => h) (Or.inl ⟨by rfl, ?d6u38y1⟩) hHeld ?d6u38r1
  case d6u38y1 => (intro w hSw; (try dsimp only at hSw); go_simp; (first | done | with_reducible rfl))
  case d6u38r1 =>
  (try simp only [Act.put, List.setIfInBounds_toArray, List.set_cons_zero, List.set_cons_succ, List.getElem_toArray, List.getElem_cons_succ, List.getElem_cons_zero])
  refine wpAnyH_take (i := 2) (oi := _) (v := ?d6u39v2) rfl (by kernel_rfl) (by kernel_rfl) (by kernel_rfl) (fun _ _ _ h => h) (Or.inl ⟨by rfl, ?d6u39y2⟩) hHeld ?d6u39r2
  case d6u39y2 => (intro w hSw; (try dsimp only at hSw); go_simp; (first | done | with_reducible rfl))
  case d6u39r2 =>
  (try simp only [Act.put, List.setIfInBounds_toArray, List.set_cons_zero, List.set_cons_succ, List.getElem_toArray, List.getElem_cons_succ, List.getElem_cons_zero])
  refine wpAnyH_take (i := 3) (oi := _) (v := ?d6u40v3) rfl (by kernel_rfl) (by kernel_rfl) (by kernel_rfl) (fun _ _ _ h => h) (Or.inl ⟨by rfl, ?d6u40y3⟩) hHeld ?d6u40r3
  case d6u40y3 => (intro w hSw; (try dsimp only at hSw); go_simp; (first | done | with_reducible rfl))
  case d6u40r3 =>
  (try simp only [Act.put, List.setIfInBounds_toArray, List.set_cons_zero, List.set_cons_succ, List.getElem_toArray, List.getElem_cons_succ, List.getElem_cons_zero])
  refine wpAnyH_take (i := 4) (oi := _) (v := ?d6u41v4) rfl (by kernel_rfl) (by kernel_rfl) (by kernel_rfl) (fun _ _ _ h => h) (Or.inl ⟨by rfl, ?d6u41y4⟩) hHeld ?d6u41r4
  case d6u41y4 => (intro w hSw; (try dsimp only at hSw); go_simp; (first | done | with_reducible rfl))
  case d6u41r4 =>
  (try simp only [Act.put, List.setIfInBounds_toArray, List.set_cons_zero, List.set_cons_succ, List.getElem_toArray, List.getElem_cons_succ, List.getElem_cons_zero])
  refine wpAnyH_take (i := 6) (oi := _) (v := ?d6u42v6) rfl (by kernel_rfl) (by kernel_rfl) (by kernel_rfl) (fun _ _ _ h => h) (Or.inl ⟨by rfl, ?d6u42y6⟩) hHeld ?d6u42r6
  case d6u42y6 => (intro w hSw; (try dsimp only at hSw); go_simp; (first | done | with_reducible rfl))
  case d6u42r6 =>
  (try simp only [Act.put, List.setIfInBounds_toArray, List.set_cons_zero, List.set_cons_succ, List.getElem_toArray, List.getElem_cons_succ, List.getElem_cons_zero])
  refine wpAnyH_take (i := 7) (oi := _) (v := ?d6u43v7) rfl (by kernel_rfl) (by kernel_rfl) (by kernel_rfl) (fun _ _ _ h => h) (Or.inl ⟨by rfl, ?d6u43y7⟩) hHeld ?d6u43r7
  case d6u43y7 => (intro w hSw; (try dsimp only at hSw); go_simp; (first | done | with_reducible rfl))
  case d6u43r7 =>
  (try simp only [Act.put, List.setIfInBounds_toArray, List.set_cons_zero, List.set_cons_succ, List.getElem_toArray, List.getElem_cons_succ, List.getElem_cons_zero])
  refine wpAnyH_take (i := 8) (oi := _) (v := ?d6u44v8) rfl (by kernel_rfl) (by kernel_rfl) (by kernel_rfl) (fun _ _ _ h => h) (Or.inl ⟨by rfl, ?d6u44y8⟩) hHeld ?d6u44r8
  case d6u44y8 => (intro w hSw; (try dsimp only at hSw); go_simp; (first | done | with_reducible rfl))
  case d6u44r8 =>
  (try simp only [Act.put, List.setIfInBounds_toArray, List.set_cons_zero, List.set_cons_succ, List.getElem_toArray, List.getElem_cons_succ, List.getElem_cons_zero])
  refine wpAnyH_ready (rs := [5]) (by kernel_rfl) (by simp) ?_
  refine (AllReadyH.cons (o := _) rfl ?d6u45k5 AllReadyH.nil)
  case d6u45k5 =>
  intro K hK
  go_simp
  (go_at_call 47; refine (HC1.out w5.drew ((Below.refl w5.heap.size w5).drew)).mono ?_; rintro e w1 ⟨rfl, D1, ht1, hq1, hx1⟩)
  go_wp2_with fail
  refine hK.out _ _ ?d6u45s5 (fun hNow => ?d6u45r5)
  case d6u45s5 => exact HSB.out w1 hx1
  case d6u45r5 =>
  clear hK K hHeld
  have hHeld := hNow
  clear hNow
  (try simp only [Act.put, List.setIfInBounds_toArray, List.set_cons_zero, List.set_cons_succ, List.getElem_toArray, List.getElem_cons_succ, List.getElem_cons_zero])
  refine wpAnyH_ready (rs := [9]) (by kernel_rfl) (by simp) ?_
  refine (AllReadyH.cons (o := _) rfl ?d6u46k9 AllReadyH.nil)
  case d6u46k9 =>
  intro K hK
  go_simp
  (go_at_call 48; refine (HC2.out w1 D1 ht1 hq1).mono ?_; rintro e w2 ⟨rfl, v2, ht2, hx2⟩)
  go_wp2_with fail
  refine hK.out _ _ ?d6u46s9 (fun hNow => ?d6u46r9)
  case d6u46s9 => exact HSB.out w2 hx2
  case d6u46r9 =>
  clear hK K hHeld
  have hHeld := hNow
  clear hNow
  (try simp only [Act.put, List.setIfInBounds_toArray, List.set_cons_zero, List.set_cons_succ, List.getElem_toArray, List.getElem_cons_succ, List.getElem_cons_zero])
  refine wpAnyH_take (i := 10) (oi := _) (v := ?d6u47v10) rfl (by kernel_rfl) (by kernel_rfl) (by kernel_rfl) (fun _ _ _ h => h) (Or.inl ⟨by rfl, ?d6u47y10⟩) hHeld ?d6u47r10
  case d6u47y10 => (intro w hSw; (try dsimp only at hSw); go_simp; (first | done | with_reducible rfl))
  case d6u47r10 =>
  (try simp only [Act.put, List.setIfInBounds_toArray, List.set_cons_zero, List.set_cons_succ, List.getElem_toArray, List.getElem_cons_succ, List.getElem_cons_zero])
  refine wpAnyH_take (i := 11) (oi := _) (v := ?d6u48v11) rfl (by kernel_rfl) (by kernel_rfl) (by kernel_rfl) (fun _ _ _ h => h) (Or.inl ⟨by rfl, ?d6u48y11⟩) hHeld ?d6u48r11
  case d6u48y11 => (intro w hSw; (try dsimp only at hSw); go_simp; (first | done | with_reducible rfl))
  case d6u48r11 =>
  (try simp only [Act.put, List.setIfInBounds_toArray, List.set_cons_zero, List.set_cons_succ, List.getElem_toArray, List.getElem_cons_succ, List.getElem_cons_zero])
  refine wpAnyH_take (i := 12) (oi := _) (v := ?d6u49v12) rfl (by kernel_rfl) (by kernel_rfl) (by kernel_rfl) (fun _ _ _ h => h) (Or.inl ⟨by rfl, ?d6u49y12⟩) hHeld ?d6u49r12
  case d6u49y12 => (intro w hSw; (try dsimp only at hSw); go_simp; (first | done | with_reducible rfl))
  case d6u49r12 =>
  (try simp only [Act.put, List.setIfInBounds_toArray, List.set_cons_zero, List.set_cons_succ, List.getElem_toArray, List.getElem_cons_succ, List.getElem_cons_zero])
  refine wpAnyH_take (i := 13) (oi := _) (v := ?d6u50v13) rfl (by kernel_rfl) (by kernel_rfl) (by kernel_rfl) (fun _ _ _ h => h) (Or.inl ⟨by rfl, ?d6u50y13⟩) hHeld ?d6u50r13
  case d6u50y13 => (intro w hSw; (try dsimp only at hSw); go_simp; (first | done | with_reducible rfl))
  case d6u50r13 =>
  (try simp only [Act.put, List.setIfInBounds_toArray, List.set_cons_zero, List.set_cons_succ, List.getElem_toArray, List.getElem_cons_succ, List.getElem_cons_zero])
  refine wpAnyH_done (by kernel_rfl) ?_ _
  go_wp2_with fail
  go_ret3
  exact HXF.out _ _ _ ht2
end Go.Proofs.Ytebkgcnldbkgeaa
