/-
  Law 4's step: Crash, Sync of one file.
-/
import Derived.Test.YtebkgcnldbkgeaaDpQ
namespace Go.Proofs.Ytebkgcnldbkgeaa
open Go.RowKit Go.Lib Go.Sort Go.Maps
set_option linter.unusedVariables false
set_option linter.unusedSimpArgs false

set_option maxRecDepth 100000 in
set_option maxHeartbeats 16000000 in
theorem step9_any (base d r : Nat) (D : Dsk) (v : Value) (p : PD) (o : O4) (w : World) (h : TD w base d r D v p) (hb : base ≤ w.heap.size) (ho : o.Ok w) (hk : o.kd = 9) :
    Calls Try.prog 18 #[.pointer (some ⟨d, 0, none⟩), .pointer (some ⟨r, 0, none⟩), .agg #[.int .i64 9, .string o.a, .string o.b, .string o.s, .int .i64 o.n, .slice o.pA o.pn o.pc]] w (SP base w d r D v p o) := by
  obtain ⟨X, hX⟩ : ∃ X : Ending → World → Prop, SP base w d r D v p o = X := ⟨_, rfl⟩
  have hal := (Below.refl w.heap.size w).alloc (Nat.le_refl _) (.cells #[.int .i64 9, .string o.a, .string o.b, .string o.s, .int .i64 o.n, .slice o.pA o.pn o.pc] 44)
  have hN0 := heap_alloc_new w (.cells #[.int .i64 9, .string o.a, .string o.b, .string o.s, .int .i64 o.n, .slice o.pA o.pn o.pc] 44)
  obtain ⟨w5, hw5⟩ : ∃ w5, w.alloc (.cells #[.int .i64 9, .string o.a, .string o.b, .string o.s, .int .i64 o.n, .slice o.pA o.pn o.pc] 44) = w5 := ⟨_, rfl⟩
  rw [hw5] at hal hN0
  have HX : Hid (∀ w' d' r' D' v', TS base w5 w' d r D v d' r' D' v' (opP p o) → (o.kd ≠ 9 → d' = d ∧ r' = r) → X (.returned (.tuple #[.pointer (some ⟨d', 0, none⟩), .pointer (some ⟨r', 0, none⟩), .bool true])) w') := fun w' d' r' D' v' h1 h2 => by rw [← hX]; exact ⟨d', r', D', v', rfl, (TS.of_below h hal).trans h1, h2⟩
  rw [hX]
  have HT := Lib.hid (h.below hal (Nat.le_refl _))
  have hol : w.heap.size < w5.heap.size := (Array.getElem?_eq_some_iff.1 hN0).1
  have HB5 : Hid (base ≤ w5.heap.size) := Nat.le_trans hb hal.size
  have HOUT : Hid (w.heap.size ∉ D.foot d) := fun h2 => by have := h.dk.lt _ h2; omega
  have HOUR : Hid (w.heap.size ∉ rfoot r v) := fun h2 => by have := h.rk.lt _ h2; omega
  have HHO := Lib.hid (ho.below hal)
  have HW5 := Lib.hid hw5
  obtain ⟨ob, hob⟩ : ∃ ob, w.heap.size = ob := ⟨_, rfl⟩
  rw [hob] at hN0 hol HOUT HOUR
  have HN := Lib.hid hN0
  have HOL := Lib.hid hol
  obtain ⟨b0, b1, b2, b3, b4, b5⟩ := six_cells hN0
  have hfd := HT.out.rk.free 0
  clear hX h hb ho hw5 hal hN0
  obtain ⟨kd, sa, sb, ss, sn, pA, pn, pc, P⟩ := o
  simp only at b0 b1 b2 b3 b4 b5 HX HN HHO HW5 ⊢
  have HSB : Hid (∀ V : World, Below w5.heap.size w5 V → (fun w' => w'.cell? ⟨ob, 5, none⟩ = some (.slice pA pn pc)) V) := fun V hV => (hV.cell (p := ⟨ob, 5, none⟩) HOL.out).trans b5
  have HC1 : Hid (∀ V, Below w5.heap.size w5 V → Calls Try.prog 9 #[.pointer (some ⟨d, 0, none⟩), .slice pA pn pc] V fun e w' => ∃ (cb : Nat) (Dc : Dsk), e = .returned (.pointer (some ⟨cb, 0, none⟩)) ∧ Dk w' w5.heap.size cb Dc ∧ pd Dc = p.crash P ∧ Below w5.heap.size w5 w') := fun V hV => by
    have hI := (HHO.out.isd.below hV).wider hV.size
    have h1 := crash_pd base d D pA pn pc P V (HT.out.dk.below hV (Nat.le_refl _)) hI (by have := HHO.out.pn; simp only at this; unfold maxLen; omega)
    rw [HT.out.pe] at h1
    exact h1.mono fun e w' ⟨cb, Dc, he, hd, hq, hb⟩ => ⟨cb, Dc, he, hd.lower hV.size, hq, hV.trans (hb.mono hV.size)⟩
  have HC2 : Hid (∀ V, Below w5.heap.size w5 V → Calls Try.prog 25 #[.pointer (some ⟨r, 0, none⟩), .slice pA pn pc] V fun e w' => ∃ r2 v2, e = .returned (.pointer (some ⟨r2, 0, none⟩)) ∧ Rk w' V.heap.size r2 v2 (p.crash P) ∧ Below V.heap.size V w') := fun V hV =>
    rcrash_any base r v p pA pn pc P V (HT.out.rk.below hV (Nat.le_refl _)) HT.out.ok ((HHO.out.isd.below hV).wider hV.size) (by have := HHO.out.pn; simp only at this; omega)
  have HXF := Lib.hid (fun w' d' r' D' v' (h1 : TS base w5 w' d r D v d' r' D' v' (p.crash P)) => HX.out w' d' r' D' v' (by rw [show opP p ⟨kd, sa, sb, ss, sn, pA, pn, pc, P⟩ = p.crash P from opP9 hk]; exact h1) (fun h => absurd hk h))
  go_enter Try.func18, Try.ntmps18
  go_upto_region 1 with fail
  rw [HW5.out]
  go_upto_region 26 with fail
  refine wp_region_held_drew (S := fun w' => w'.cell? ⟨ob, 5, none⟩ = some (.slice pA pn pc)) (by kernel_rfl) (HSB.out w5.drew ((Below.refl w5.heap.size w5).drew)) (fun hHeld => ?_)
  refine wpAnyH_take (i := 0) (oi := _) (v := ?d9u51v0) rfl (by kernel_rfl) (by kernel_rfl) (by kernel_rfl) (fun _ _ _ h => h) (Or.inl ⟨by rfl, ?d9u51y0⟩) hHeld ?d9u51r0
  case d9u51y0 => (intro w hSw; (try dsimp only at hSw); go_simp; (first | done | with_reducible rfl))
  case d9u51r0 =>
  (try simp only [Act.put, List.setIfInBounds_toArray, List.set_cons_zero, List.set_cons_succ, List.getElem_toArray, List.getElem_cons_succ, List.getElem_cons_zero])
  refine wpAnyH_take (i := 1) (oi := _) (v := ?d9u52v1) rfl (by kernel_rfl) (by kernel_rfl) (by kernel_rfl) (fun _ _ _ h => h) (Or.inl ⟨by rfl, ?d9u52y1⟩) hHeld ?d9u52r1
  case d9u52y1 => (intro w hSw; (try dsimp only at hSw); go_simp; (first | done | with_reducible rfl))
  case d9u52r1 =>
  (try simp only [Act.put, List.setIfInBounds_toArray, List.set_cons_zero, List.set_cons_succ, List.getElem_toArray, List.getElem_cons_succ, List.getElem_cons_zero])
  refine wpAnyH_take (i := 2) (oi := _) (v := ?d9u53v2) rfl (by kernel_rfl) (by kernel_rfl) (by kernel_rfl) (fun _ _ _ h => h) (Or.inl ⟨by rfl, ?d9u53y2⟩) hHeld ?d9u53r2
  case d9u53y2 => (intro w hSw; (try dsimp only at hSw); go_simp; (first | done | with_reducible rfl))
  case d9u53r2 =>
  (try simp only [Act.put, List.setIfInBounds_toArray, List.set_cons_zero, List.set_cons_succ, List.getElem_toArray, List.getElem_cons_succ, List.getElem_cons_zero])
  refine wpAnyH_take (i := 4) (oi := _) (v := ?d9u54v4) rfl (by kernel_rfl) (by kernel_rfl) (by kernel_rfl) (fun _ _ _ h => h) (Or.inl ⟨by rfl, ?d9u54y4⟩) hHeld ?d9u54r4
  case d9u54y4 => (intro w hSw; (try dsimp only at hSw); go_simp; (first | done | with_reducible rfl))
  case d9u54r4 =>
  (try simp only [Act.put, List.setIfInBounds_toArray, List.set_cons_zero, List.set_cons_succ, List.getElem_toArray, List.getElem_cons_succ, List.getElem_cons_zero])
  refine wpAnyH_take (i := 5) (oi := _) (v := ?d9u55v5) rfl (by kernel_rfl) (by kernel_rfl) (by kernel_rfl) (fun _ _ _ h => h) (Or.inl ⟨by rfl, ?d9u55y5⟩) hHeld ?d9u55r5
  case d9u55y5 => (intro w hSw; (try dsimp only at hSw); go_simp; (first | done | with_reducible rfl))
  case d9u55r5 =>
  (try simp only [Act.put, List.setIfInBounds_toArray, List.set_cons_zero, List.set_cons_succ, List.getElem_toArray, List.getElem_cons_succ, List.getElem_cons_zero])
  refine wpAnyH_take (i := 6) (oi := _) (v := ?d9u56v6) rfl (by kernel_rfl) (by kernel_rfl) (by kernel_rfl) (fun _ _ _ h => h) (Or.inl ⟨by rfl, ?d9u56y6⟩) hHeld ?d9u56r6
  case d9u56y6 => (intro w hSw; (try dsimp only at hSw); go_simp; (first | done | with_reducible rfl))
  case d9u56r6 =>
  (try simp only [Act.put, List.setIfInBounds_toArray, List.set_cons_zero, List.set_cons_succ, List.getElem_toArray, List.getElem_cons_succ, List.getElem_cons_zero])
  refine wpAnyH_ready (rs := [3]) (by kernel_rfl) (by simp) ?_
  refine (AllReadyH.cons (o := _) rfl ?d9u57k3 AllReadyH.nil)
  case d9u57k3 =>
  intro K hK
  go_simp
  (go_at_call 9; refine (HC1.out w5.drew ((Below.refl w5.heap.size w5).drew)).mono ?_; rintro e w1 ⟨cb, Dc, rfl, hdc, hqc, hb1⟩)
  go_wp2_with fail
  refine hK.out _ _ ?d9u57s3 (fun hNow => ?d9u57r3)
  case d9u57s3 => exact HSB.out w1 hb1
  case d9u57r3 =>
  clear hK K hHeld
  have hHeld := hNow
  clear hNow
  (try simp only [Act.put, List.setIfInBounds_toArray, List.set_cons_zero, List.set_cons_succ, List.getElem_toArray, List.getElem_cons_succ, List.getElem_cons_zero])
  refine wpAnyH_ready (rs := [7]) (by kernel_rfl) (by simp) ?_
  refine (AllReadyH.cons (o := _) rfl ?d9u58k7 AllReadyH.nil)
  case d9u58k7 =>
  intro K hK
  go_simp
  (go_at_call 25; refine (HC2.out w1 hb1).mono ?_; rintro e w2 ⟨r2, v2, rfl, hrc, hb2⟩)
  go_wp2_with fail
  refine hK.out _ _ ?d9u58s7 (fun hNow => ?d9u58r7)
  case d9u58s7 => exact HSB.out w2 (hb1.trans (hb2.mono hb1.size))
  case d9u58r7 =>
  clear hK K hHeld
  have hHeld := hNow
  clear hNow
  (try simp only [Act.put, List.setIfInBounds_toArray, List.set_cons_zero, List.set_cons_succ, List.getElem_toArray, List.getElem_cons_succ, List.getElem_cons_zero])
  refine wpAnyH_take (i := 8) (oi := _) (v := ?d9u59v8) rfl (by kernel_rfl) (by kernel_rfl) (by kernel_rfl) (fun _ _ _ h => h) (Or.inl ⟨by rfl, ?d9u59y8⟩) hHeld ?d9u59r8
  case d9u59y8 => (intro w hSw; (try dsimp only at hSw); go_simp; (first | done | with_reducible rfl))
  case d9u59r8 =>
  (try simp only [Act.put, List.setIfInBounds_toArray, List.set_cons_zero, List.set_cons_succ, List.getElem_toArray, List.getElem_cons_succ, List.getElem_cons_zero])
  refine wpAnyH_take (i := 9) (oi := _) (v := ?d9u60v9) rfl (by kernel_rfl) (by kernel_rfl) (by kernel_rfl) (fun _ _ _ h => h) (Or.inl ⟨by rfl, ?d9u60y9⟩) hHeld ?d9u60r9
  case d9u60y9 => (intro w hSw; (try dsimp only at hSw); go_simp; (first | done | with_reducible rfl))
  case d9u60r9 =>
  (try simp only [Act.put, List.setIfInBounds_toArray, List.set_cons_zero, List.set_cons_succ, List.getElem_toArray, List.getElem_cons_succ, List.getElem_cons_zero])
  refine wpAnyH_done (by kernel_rfl) ?_ _
  have HB2 : Hid (Below w5.heap.size w5 w2) := hb1.trans (hb2.mono hb1.size)
  have HSD : Hid (Calls Try.prog 24 #[.pointer (some ⟨d, 0, none⟩), .pointer (some ⟨r, 0, none⟩)] w2 fun e w' => e = .returned (.bool true) ∧ Below w2.heap.size w2 w') := by
    have ht := HT.out.below HB2.out (Nat.le_refl _)
    exact same_any base d base r D v w2 ht.dk (by rw [ht.pe]; exact ht.rk)
  have HSC : Hid (∀ V, Below w2.heap.size w2 V → Calls Try.prog 24 #[.pointer (some ⟨cb, 0, none⟩), .pointer (some ⟨r2, 0, none⟩)] V fun e w' => e = .returned (.bool true) ∧ Below V.heap.size V w') := fun V hV => same_any w5.heap.size cb w1.heap.size r2 Dc v2 V ((hdc.below hb2 (Nat.le_refl _)).below hV (Nat.le_refl _)) (by rw [hqc]; exact hrc.below hV (Nat.le_refl _))
  have HTS : Hid (∀ V, Below w2.heap.size w2 V → TS base w5 V d r D v cb r2 Dc v2 (p.crash P)) := fun V hV => by
    have hd3 := (hdc.below hb2 (Nat.le_refl _)).below hV (Nat.le_refl _)
    have hr3 := hrc.below hV (Nat.le_refl _)
    have hz := hb1.size
    refine ⟨⟨hd3.lower HB5.out, hqc, hr3.lower (Nat.le_trans HB5.out hz), fun k hk h2 => ?_⟩, Turn.of_below (HB2.out.trans (hV.mono HB2.out.size)), fun k hk => .inr ?_⟩
    · have := hdc.lt k hk
      have := hrc.le k h2
      omega
    · rcases List.mem_append.1 hk with hk | hk
      · exact hdc.base_le k hk
      · exact Nat.le_trans hz (hrc.le k hk)
  clear hdc hqc hb1 hrc hb2
  go_wp2_with (first
    | (go_at_call 24; (with_reducible refine (HSC.out _ hb3).mono ?_); rintro e w4 ⟨rfl, hb4⟩)
    | (go_at_call 24; (with_reducible refine HSD.out.mono ?_); rintro e w3 ⟨rfl, hb3⟩))
  go_ret3
  exact HXF.out _ _ _ _ _ (HTS.out _ (hb3.trans (hb4.mono hb3.size)))

set_option maxRecDepth 100000 in
set_option maxHeartbeats 16000000 in
theorem step2_any (base d r : Nat) (D : Dsk) (v : Value) (p : PD) (o : O4) (w : World) (h : TD w base d r D v p) (hb : base ≤ w.heap.size) (ho : o.Ok w) (hk : o.kd = 2) :
    Calls Try.prog 18 #[.pointer (some ⟨d, 0, none⟩), .pointer (some ⟨r, 0, none⟩), .agg #[.int .i64 2, .string o.a, .string o.b, .string o.s, .int .i64 o.n, .slice o.pA o.pn o.pc]] w (SP base w d r D v p o) := by
  obtain ⟨X, hX⟩ : ∃ X : Ending → World → Prop, SP base w d r D v p o = X := ⟨_, rfl⟩
  have hal := (Below.refl w.heap.size w).alloc (Nat.le_refl _) (.cells #[.int .i64 2, .string o.a, .string o.b, .string o.s, .int .i64 o.n, .slice o.pA o.pn o.pc] 44)
  have hN0 := heap_alloc_new w (.cells #[.int .i64 2, .string o.a, .string o.b, .string o.s, .int .i64 o.n, .slice o.pA o.pn o.pc] 44)
  obtain ⟨w5, hw5⟩ : ∃ w5, w.alloc (.cells #[.int .i64 2, .string o.a, .string o.b, .string o.s, .int .i64 o.n, .slice o.pA o.pn o.pc] 44) = w5 := ⟨_, rfl⟩
  rw [hw5] at hal hN0
  have HX : Hid (∀ w' d' r' D' v', TS base w5 w' d r D v d' r' D' v' (opP p o) → (o.kd ≠ 9 → d' = d ∧ r' = r) → X (.returned (.tuple #[.pointer (some ⟨d', 0, none⟩), .pointer (some ⟨r', 0, none⟩), .bool true])) w') := fun w' d' r' D' v' h1 h2 => by rw [← hX]; exact ⟨d', r', D', v', rfl, (TS.of_below h hal).trans h1, h2⟩
  rw [hX]
  have HT := Lib.hid (h.below hal (Nat.le_refl _))
  have hol : w.heap.size < w5.heap.size := (Array.getElem?_eq_some_iff.1 hN0).1
  have HB5 : Hid (base ≤ w5.heap.size) := Nat.le_trans hb hal.size
  have HOUT : Hid (w.heap.size ∉ D.foot d) := fun h2 => by have := h.dk.lt _ h2; omega
  have HOUR : Hid (w.heap.size ∉ rfoot r v) := fun h2 => by have := h.rk.lt _ h2; omega
  have HHO := Lib.hid (ho.below hal)
  have HW5 := Lib.hid hw5
  obtain ⟨ob, hob⟩ : ∃ ob, w.heap.size = ob := ⟨_, rfl⟩
  rw [hob] at hN0 hol HOUT HOUR
  have HN := Lib.hid hN0
  have HOL := Lib.hid hol
  obtain ⟨b0, b1, b2, b3, b4, b5⟩ := six_cells hN0
  have hfd := HT.out.rk.free 0
  clear hX h hb ho hw5 hal hN0
  obtain ⟨kd, sa, sb, ss, sn, pA, pn, pc, P⟩ := o
  simp only at b0 b1 b2 b3 b4 b5 HX HN HHO HW5 ⊢
  have HSB : Hid (∀ V : World, V.heap[ob]? = some (.cells #[.int .i64 2, .string sa, .string sb, .string ss, .int .i64 sn, .slice pA pn pc] 44 (0, 0)) → (fun w' => w'.cell? ⟨ob, 1, none⟩ = some (.string sa)) V) := fun V hV => (six_cells hV).2.1
  have hsa : sa.size ≤ 1099511627776 := by have := HHO.out.a; simp only at this; omega
  have HC1 : Hid (∀ V g, Below w5.heap.size w5 V → V.heap[g]? = some (.cells #[.string sa] 9 (0, 0)) → w5.heap.size ≤ g → Calls Try.prog 14 #[.pointer (some ⟨d, 0, none⟩), .slice (some ⟨g, 0, none⟩) 1 1] V fun e w' => e = .returned (.int .i64 ((p.sync [sa]).1 : Int)) ∧ ∃ D', Then base d w5 w' D D' ∧ pd D' = (p.sync [sa]).2 ∧ w'.heap[ob]? = some (.cells #[.int .i64 2, .string sa, .string sb, .string ss, .int .i64 sn, .slice pA pn pc] 44 (0, 0)) ∧ ∀ k x, w5.heap.size ≤ k → V.heap[k]? = some x → w'.heap[k]? = some x) := fun V g hV hg hgl => by
    have h1 := sync_pd base d D (some ⟨g, 0, none⟩) 1 1 [sa] V (HT.out.dk.below hV (Nat.le_refl _)) (Nat.le_trans HB5.out hV.size) (by decide) (by decide) (by
      refine ⟨rfl, fun k hk => ?_⟩
      obtain rfl : k = 0 := by omega
      exact ⟨_, rfl, (Array.getElem?_eq_some_iff.1 hg).1, fun h2 => by have := HT.out.dk.lt g h2; omega, World.news_of_block hg 0 _ rfl, hsa⟩)
    rw [HT.out.pe] at h1
    exact h1.mono fun e w' ⟨D', he, ht, hq⟩ => ⟨he, D', (Then.of_below HT.out.dk hV).trans ht, hq, (((Then.of_below HT.out.dk hV).trans ht).block HOL.out HOUT.out).trans HN.out, fun k x hk hx => (ht.block (Array.getElem?_eq_some_iff.1 hx).1 (fun h2 => by have := HT.out.dk.lt k h2; omega)).trans hx⟩
  have HC2 : Hid (∀ V W1 D' g, Then base d w5 W1 D D' → pd D' = (p.sync [sa]).2 → Below W1.heap.size W1 V → V.heap[g]? = some (.cells #[.string sa] 9 (0, 0)) → w5.heap.size ≤ g → Calls Try.prog 42 #[.pointer (some ⟨r, 0, none⟩), .slice (some ⟨g, 0, none⟩) 1 1] V fun e w' => e = .returned (.int .i64 ((p.sync [sa]).1 : Int)) ∧ ∃ v', TS base w5 w' d r D v d r D' v' (p.sync [sa]).2 ∧ w'.heap[ob]? = some (.cells #[.int .i64 2, .string sa, .string sb, .string ss, .int .i64 sn, .slice pA pn pc] 44 (0, 0))) := fun V W1 D' g ht hq hV hg hgl =>
    (HT.out.second HB5.out ht hq hV fun hr hb2 => by
      have h1 := rsync_any base r v p (some ⟨g, 0, none⟩) 1 1 [sa] V hr HT.out.ok hb2 (by decide) (by
        refine ⟨rfl, fun k hk => ?_⟩
        obtain rfl : k = 0 := by omega
        exact ⟨_, rfl, (Array.getElem?_eq_some_iff.1 hg).1, fun h2 => by have := HT.out.rk.lt g h2; omega, World.news_of_block hg 0 _ rfl, hsa⟩)
      rw [syncR_some _ _ (by simp)] at h1
      exact h1).mono fun e w' ⟨he, v', ts⟩ => ⟨he, v', ts, (ts.tu.block ob HOL.out (fun hm => (List.mem_append.1 hm).elim HOUT.out HOUR.out)).trans HN.out⟩
  have HC2 := Lib.hid (fun V W1 D' g ht hq hV hg hgl => HC2.out V W1 D' g ht hq hV hg hgl)
  have HXF := Lib.hid (fun w' D' v' (h1 : TS base w5 w' d r D v d r D' v' (p.sync [sa]).2) => HX.out w' d r D' v' (by rw [show opP p ⟨kd, sa, sb, ss, sn, pA, pn, pc, P⟩ = (p.sync [sa]).2 from opP2 hk]; exact h1) (fun _ => ⟨rfl, rfl⟩))
  generalize p.sync [sa] = q at *
  obtain ⟨q1, q2⟩ := q
  simp only at HC1 HC2 HXF
  go_enter Try.func18, Try.ntmps18
  go_upto_region 1 with fail
  rw [HW5.out]
  go_upto_region 7 with fail
  refine wp_region_held_drew (S := fun w' => w'.cell? ⟨ob, 1, none⟩ = some (.string sa)) (by kernel_rfl) (HSB.out w5.drew HN.out) (fun hHeld => ?_)
  refine wpAnyH_take (i := 0) (oi := _) (v := ?d2u61v0) rfl (by kernel_rfl) (by kernel_rfl) (by kernel_rfl) (fun _ _ _ h => h) (Or.inl ⟨by rfl, ?d2u61y0⟩) hHeld ?d2u61r0
  case d2u61y0 => (intro w hSw; (try dsimp only at hSw); go_simp; (first | done | with_reducible rfl))
  case d2u61r0 =>
  (try simp only [Act.put, List.setIfInBounds_toArray, List.set_cons_zero, List.set_cons_succ, List.getElem_toArray, List.getElem_cons_succ, List.getElem_cons_zero])
  refine wpAnyH_take (i := 1) (oi := _) (v := ?d2u62v1) rfl (by kernel_rfl) (by kernel_rfl) (by kernel_rfl) (fun _ _ _ h => h) (Or.inl ⟨by rfl, ?d2u62y1⟩) hHeld ?d2u62r1
  case d2u62y1 => (intro w hSw; (try dsimp only at hSw); go_simp; (first | done | with_reducible rfl))
  case d2u62r1 =>
  (try simp only [Act.put, List.setIfInBounds_toArray, List.set_cons_zero, List.set_cons_succ, List.getElem_toArray, List.getElem_cons_succ, List.getElem_cons_zero])
  refine wpAnyH_take (i := 2) (oi := _) (v := ?d2u63v2) rfl (by kernel_rfl) (by kernel_rfl) (by kernel_rfl) (fun _ _ _ h => h) (Or.inl ⟨by rfl, ?d2u63y2⟩) hHeld ?d2u63r2
  case d2u63y2 => (intro w hSw; (try dsimp only at hSw); go_simp; (first | done | with_reducible rfl))
  case d2u63r2 =>
  (try simp only [Act.put, List.setIfInBounds_toArray, List.set_cons_zero, List.set_cons_succ, List.getElem_toArray, List.getElem_cons_succ, List.getElem_cons_zero])
  refine wpAnyH_take (i := 3) (oi := _) (v := ?d2u64v3) rfl (by kernel_rfl) (by kernel_rfl) (by kernel_rfl) (fun _ _ _ h => h) (Or.inl ⟨by rfl, ?d2u64y3⟩) hHeld ?d2u64r3
  case d2u64y3 => (intro w hSw; (try dsimp only at hSw); go_simp; (first | done | with_reducible rfl))
  case d2u64r3 =>
  (try simp only [Act.put, List.setIfInBounds_toArray, List.set_cons_zero, List.set_cons_succ, List.getElem_toArray, List.getElem_cons_succ, List.getElem_cons_zero])
  refine wpAnyH_take (i := 4) (oi := _) (v := ?d2u65v4) rfl (by kernel_rfl) (by kernel_rfl) (by kernel_rfl) (fun _ _ _ h => h) (Or.inl ⟨by rfl, ?d2u65y4⟩) hHeld ?d2u65r4
  case d2u65y4 => (intro w hSw; (try dsimp only at hSw); go_simp; (first | done | with_reducible rfl))
  case d2u65r4 =>
  (try simp only [Act.put, List.setIfInBounds_toArray, List.set_cons_zero, List.set_cons_succ, List.getElem_toArray, List.getElem_cons_succ, List.getElem_cons_zero])
  refine wpAnyH_take (i := 7) (oi := _) (v := ?d2u66v7) rfl (by kernel_rfl) (by kernel_rfl) (by kernel_rfl) (fun _ _ _ h => h) (Or.inl ⟨by rfl, ?d2u66y7⟩) hHeld ?d2u66r7
  case d2u66y7 => (intro w hSw; (try dsimp only at hSw); go_simp; (first | done | with_reducible rfl))
  case d2u66r7 =>
  (try simp only [Act.put, List.setIfInBounds_toArray, List.set_cons_zero, List.set_cons_succ, List.getElem_toArray, List.getElem_cons_succ, List.getElem_cons_zero])
  refine wpAnyH_take (i := 8) (oi := _) (v := ?d2u67v8) rfl (by kernel_rfl) (by kernel_rfl) (by kernel_rfl) (fun _ _ _ h => h) (Or.inl ⟨by rfl, ?d2u67y8⟩) hHeld ?d2u67r8
  case d2u67y8 => (intro w hSw; (try dsimp only at hSw); go_simp; (first | done | with_reducible rfl))
  case d2u67r8 =>
  (try simp only [Act.put, List.setIfInBounds_toArray, List.set_cons_zero, List.set_cons_succ, List.getElem_toArray, List.getElem_cons_succ, List.getElem_cons_zero])
  refine wpAnyH_take (i := 9) (oi := _) (v := ?d2u68v9) rfl (by kernel_rfl) (by kernel_rfl) (by kernel_rfl) (fun _ _ _ h => h) (Or.inl ⟨by rfl, ?d2u68y9⟩) hHeld ?d2u68r9
  case d2u68y9 => (intro w hSw; (try dsimp only at hSw); go_simp; (first | done | with_reducible rfl))
  case d2u68r9 =>
  (try simp only [Act.put, List.setIfInBounds_toArray, List.set_cons_zero, List.set_cons_succ, List.getElem_toArray, List.getElem_cons_succ, List.getElem_cons_zero])
  refine wpAnyH_ready (rs := [5, 10]) (by kernel_rfl) (by simp) ?_
  refine (AllReadyH.cons (o := _) rfl ?d2u69k5 (AllReadyH.cons (o := _) rfl ?d2u69k10 AllReadyH.nil))
  case d2u69k5 =>
    intro K hK
    go_simp
    go_wp2_with fail
    refine hK.out _ _ ?d2u69s5 (fun hNow => ?d2u69r5)
    case d2u69s5 => exact HSB.out (w5.drew.alloc (.cells #[.string sa] 9)) ((((((Below.refl w5.heap.size w5).drew).alloc (by exact Nat.le_refl _) _)).block ob HOL.out).trans HN.out)
    case d2u69r5 =>
    clear hK K hHeld
    have hHeld := hNow
    clear hNow
    (try simp only [Act.put, List.setIfInBounds_toArray, List.set_cons_zero, List.set_cons_succ, List.getElem_toArray, List.getElem_cons_succ, List.getElem_cons_zero])
    refine wpAnyH_ready (rs := [6, 10]) (by kernel_rfl) (by simp) ?_
    refine (AllReadyH.cons (o := _) rfl ?d2u70k6 (AllReadyH.cons (o := _) rfl ?d2u70k10 AllReadyH.nil))
    case d2u70k6 =>
      intro K hK
      go_simp
      (go_at_call 14; refine (HC1.out (w5.drew.alloc (.cells #[.string sa] 9)) w5.heap.size (((Below.refl w5.heap.size w5).drew).alloc (by exact Nat.le_refl _) _) (heap_alloc_new w5.drew _) (by simp)).mono ?_; rintro e w1 ⟨rfl, D1, ht1, hq1, hx1, hkp1⟩)
      go_wp2_with fail
      refine hK.out _ _ ?d2u70s6 (fun hNow => ?d2u70r6)
      case d2u70s6 => exact HSB.out w1 hx1
      case d2u70r6 =>
      clear hK K hHeld
      have hHeld := hNow
      clear hNow
      (try simp only [Act.put, List.setIfInBounds_toArray, List.set_cons_zero, List.set_cons_succ, List.getElem_toArray, List.getElem_cons_succ, List.getElem_cons_zero])
      refine wpAnyH_ready (rs := [10]) (by kernel_rfl) (by simp) ?_
      refine (AllReadyH.cons (o := _) rfl ?d2u71k10 AllReadyH.nil)
      case d2u71k10 =>
      intro K hK
      go_simp
      go_wp2_with fail
      refine hK.out _ _ ?d2u71s10 (fun hNow => ?d2u71r10)
      case d2u71s10 => exact HSB.out (w1.alloc (.cells #[.string sa] 9)) (((Below.refl w1.heap.size w1).alloc (Nat.le_refl _) _).block ob (by have := ht1.tu.size; have := HOL.out; omega) |>.trans hx1)
      case d2u71r10 =>
      clear hK K hHeld
      have hHeld := hNow
      clear hNow
      (try simp only [Act.put, List.setIfInBounds_toArray, List.set_cons_zero, List.set_cons_succ, List.getElem_toArray, List.getElem_cons_succ, List.getElem_cons_zero])
      refine wpAnyH_ready (rs := [11]) (by kernel_rfl) (by simp) ?_
      refine (AllReadyH.cons (o := _) rfl ?d2u72k11 AllReadyH.nil)
      case d2u72k11 =>
      intro K hK
      go_simp
      (go_at_call 42; refine (HC2.out (w1.alloc (.cells #[.string sa] 9)) w1 D1 w1.heap.size ht1 hq1 ((Below.refl w1.heap.size w1).alloc (Nat.le_refl _) _) (heap_alloc_new w1 _) (by first | (have := ht1.tu.size; omega) | simp)).mono ?_; rintro e w2 ⟨rfl, v2, ht2, hx2⟩)
      go_wp2_with fail
      refine hK.out _ _ ?d2u72s11 (fun hNow => ?d2u72r11)
      case d2u72s11 => exact HSB.out w2 hx2
      case d2u72r11 =>
      clear hK K hHeld
      have hHeld := hNow
      clear hNow
      (try simp only [Act.put, List.setIfInBounds_toArray, List.set_cons_zero, List.set_cons_succ, List.getElem_toArray, List.getElem_cons_succ, List.getElem_cons_zero])
      refine wpAnyH_take (i := 12) (oi := _) (v := ?d2u73v12) rfl (by kernel_rfl) (by kernel_rfl) (by kernel_rfl) (fun _ _ _ h => h) (Or.inl ⟨by rfl, ?d2u73y12⟩) hHeld ?d2u73r12
      case d2u73y12 => (intro w hSw; (try dsimp only at hSw); go_simp; (first | done | with_reducible rfl))
      case d2u73r12 =>
      (try simp only [Act.put, List.setIfInBounds_toArray, List.set_cons_zero, List.set_cons_succ, List.getElem_toArray, List.getElem_cons_succ, List.getElem_cons_zero])
      refine wpAnyH_take (i := 13) (oi := _) (v := ?d2u74v13) rfl (by kernel_rfl) (by kernel_rfl) (by kernel_rfl) (fun _ _ _ h => h) (Or.inl ⟨by rfl, ?d2u74y13⟩) hHeld ?d2u74r13
      case d2u74y13 => (intro w hSw; (try dsimp only at hSw); go_simp; (first | done | with_reducible rfl))
      case d2u74r13 =>
      (try simp only [Act.put, List.setIfInBounds_toArray, List.set_cons_zero, List.set_cons_succ, List.getElem_toArray, List.getElem_cons_succ, List.getElem_cons_zero])
      refine wpAnyH_take (i := 14) (oi := _) (v := ?d2u75v14) rfl (by kernel_rfl) (by kernel_rfl) (by kernel_rfl) (fun _ _ _ h => h) (Or.inl ⟨by rfl, ?d2u75y14⟩) hHeld ?d2u75r14
      case d2u75y14 => (intro w hSw; (try dsimp only at hSw); go_simp; (first | done | with_reducible rfl))
      case d2u75r14 =>
      (try simp only [Act.put, List.setIfInBounds_toArray, List.set_cons_zero, List.set_cons_succ, List.getElem_toArray, List.getElem_cons_succ, List.getElem_cons_zero])
      refine wpAnyH_take (i := 15) (oi := _) (v := ?d2u76v15) rfl (by kernel_rfl) (by kernel_rfl) (by kernel_rfl) (fun _ _ _ h => h) (Or.inl ⟨by rfl, ?d2u76y15⟩) hHeld ?d2u76r15
      case d2u76y15 => (intro w hSw; (try dsimp only at hSw); go_simp; (first | done | with_reducible rfl))
      case d2u76r15 =>
      (try simp only [Act.put, List.setIfInBounds_toArray, List.set_cons_zero, List.set_cons_succ, List.getElem_toArray, List.getElem_cons_succ, List.getElem_cons_zero])
      refine wpAnyH_done (by kernel_rfl) ?_ _
      go_wp2_with fail
      go_ret3
      exact HXF.out _ _ _ ht2
    case d2u70k10 =>
      intro K hK
      go_simp
      go_wp2_with fail
      refine hK.out _ _ ?d2u70s10 (fun hNow => ?d2u70r10)
      case d2u70s10 => exact HSB.out ((w5.drew.alloc (.cells #[.string sa] 9)).alloc (.cells #[.string sa] 9)) (((((((Below.refl w5.heap.size w5).drew).alloc (by exact Nat.le_refl _) _).alloc (by simp) _)).block ob HOL.out).trans HN.out)
      case d2u70r10 =>
      clear hK K hHeld
      have hHeld := hNow
      clear hNow
      (try simp only [Act.put, List.setIfInBounds_toArray, List.set_cons_zero, List.set_cons_succ, List.getElem_toArray, List.getElem_cons_succ, List.getElem_cons_zero])
      refine wpAnyH_ready (rs := [6]) (by kernel_rfl) (by simp) ?_
      refine (AllReadyH.cons (o := _) rfl ?d2u77k6 AllReadyH.nil)
      case d2u77k6 =>
      intro K hK
      go_simp
      (go_at_call 14; refine (HC1.out ((w5.drew.alloc (.cells #[.string sa] 9)).alloc (.cells #[.string sa] 9)) w5.heap.size ((((Below.refl w5.heap.size w5).drew).alloc (by exact Nat.le_refl _) _).alloc (by simp) _) ((Below.heap_alloc _ _ _ (by simp)).trans (heap_alloc_new w5.drew _)) (by simp)).mono ?_; rintro e w1 ⟨rfl, D1, ht1, hq1, hx1, hkp1⟩)
      go_wp2_with fail
      refine hK.out _ _ ?d2u77s6 (fun hNow => ?d2u77r6)
      case d2u77s6 => exact HSB.out w1 hx1
      case d2u77r6 =>
      clear hK K hHeld
      have hHeld := hNow
      clear hNow
      (try simp only [Act.put, List.setIfInBounds_toArray, List.set_cons_zero, List.set_cons_succ, List.getElem_toArray, List.getElem_cons_succ, List.getElem_cons_zero])
      refine wpAnyH_ready (rs := [11]) (by kernel_rfl) (by simp) ?_
      refine (AllReadyH.cons (o := _) rfl ?d2u78k11 AllReadyH.nil)
      case d2u78k11 =>
      intro K hK
      go_simp
      (go_at_call 42; refine (HC2.out w1 w1 D1 (w5.heap.size + 1) ht1 hq1 (Below.refl _ _) (hkp1 (w5.heap.size + 1) _ (by omega) (by have := heap_alloc_new (w5.drew.alloc (.cells #[.string sa] 9)) (.cells #[.string sa] 9); rwa [show (w5.drew.alloc (.cells #[.string sa] 9)).heap.size = w5.heap.size + 1 by simp] at this)) (by first | (have := ht1.tu.size; omega) | simp)).mono ?_; rintro e w2 ⟨rfl, v2, ht2, hx2⟩)
      go_wp2_with fail
      refine hK.out _ _ ?d2u78s11 (fun hNow => ?d2u78r11)
      case d2u78s11 => exact HSB.out w2 hx2
      case d2u78r11 =>
      clear hK K hHeld
      have hHeld := hNow
      clear hNow
      (try simp only [Act.put, List.setIfInBounds_toArray, List.set_cons_zero, List.set_cons_succ, List.getElem_toArray, List.getElem_cons_succ, List.getElem_cons_zero])
      refine wpAnyH_take (i := 12) (oi := _) (v := ?d2u79v12) rfl (by kernel_rfl) (by kernel_rfl) (by kernel_rfl) (fun _ _ _ h => h) (Or.inl ⟨by rfl, ?d2u79y12⟩) hHeld ?d2u79r12
      case d2u79y12 => (intro w hSw; (try dsimp only at hSw); go_simp; (first | done | with_reducible rfl))
      case d2u79r12 =>
      (try simp only [Act.put, List.setIfInBounds_toArray, List.set_cons_zero, List.set_cons_succ, List.getElem_toArray, List.getElem_cons_succ, List.getElem_cons_zero])
      refine wpAnyH_take (i := 13) (oi := _) (v := ?d2u80v13) rfl (by kernel_rfl) (by kernel_rfl) (by kernel_rfl) (fun _ _ _ h => h) (Or.inl ⟨by rfl, ?d2u80y13⟩) hHeld ?d2u80r13
      case d2u80y13 => (intro w hSw; (try dsimp only at hSw); go_simp; (first | done | with_reducible rfl))
      case d2u80r13 =>
      (try simp only [Act.put, List.setIfInBounds_toArray, List.set_cons_zero, List.set_cons_succ, List.getElem_toArray, List.getElem_cons_succ, List.getElem_cons_zero])
      refine wpAnyH_take (i := 14) (oi := _) (v := ?d2u81v14) rfl (by kernel_rfl) (by kernel_rfl) (by kernel_rfl) (fun _ _ _ h => h) (Or.inl ⟨by rfl, ?d2u81y14⟩) hHeld ?d2u81r14
      case d2u81y14 => (intro w hSw; (try dsimp only at hSw); go_simp; (first | done | with_reducible rfl))
      case d2u81r14 =>
      (try simp only [Act.put, List.setIfInBounds_toArray, List.set_cons_zero, List.set_cons_succ, List.getElem_toArray, List.getElem_cons_succ, List.getElem_cons_zero])
      refine wpAnyH_take (i := 15) (oi := _) (v := ?d2u82v15) rfl (by kernel_rfl) (by kernel_rfl) (by kernel_rfl) (fun _ _ _ h => h) (Or.inl ⟨by rfl, ?d2u82y15⟩) hHeld ?d2u82r15
      case d2u82y15 => (intro w hSw; (try dsimp only at hSw); go_simp; (first | done | with_reducible rfl))
      case d2u82r15 =>
      (try simp only [Act.put, List.setIfInBounds_toArray, List.set_cons_zero, List.set_cons_succ, List.getElem_toArray, List.getElem_cons_succ, List.getElem_cons_zero])
      refine wpAnyH_done (by kernel_rfl) ?_ _
      go_wp2_with fail
      go_ret3
      exact HXF.out _ _ _ ht2
  case d2u69k10 =>
    intro K hK
    go_simp
    go_wp2_with fail
    refine hK.out _ _ ?d2u69s10 (fun hNow => ?d2u69r10)
    case d2u69s10 => exact HSB.out (w5.drew.alloc (.cells #[.string sa] 9)) ((((((Below.refl w5.heap.size w5).drew).alloc (by exact Nat.le_refl _) _)).block ob HOL.out).trans HN.out)
    case d2u69r10 =>
    clear hK K hHeld
    have hHeld := hNow
    clear hNow
    (try simp only [Act.put, List.setIfInBounds_toArray, List.set_cons_zero, List.set_cons_succ, List.getElem_toArray, List.getElem_cons_succ, List.getElem_cons_zero])
    refine wpAnyH_ready (rs := [5]) (by kernel_rfl) (by simp) ?_
    refine (AllReadyH.cons (o := _) rfl ?d2u83k5 AllReadyH.nil)
    case d2u83k5 =>
    intro K hK
    go_simp
    go_wp2_with fail
    refine hK.out _ _ ?d2u83s5 (fun hNow => ?d2u83r5)
    case d2u83s5 => exact HSB.out ((w5.drew.alloc (.cells #[.string sa] 9)).alloc (.cells #[.string sa] 9)) (((((((Below.refl w5.heap.size w5).drew).alloc (by exact Nat.le_refl _) _).alloc (by simp) _)).block ob HOL.out).trans HN.out)
    case d2u83r5 =>
    clear hK K hHeld
    have hHeld := hNow
    clear hNow
    (try simp only [Act.put, List.setIfInBounds_toArray, List.set_cons_zero, List.set_cons_succ, List.getElem_toArray, List.getElem_cons_succ, List.getElem_cons_zero])
    refine wpAnyH_ready (rs := [6]) (by kernel_rfl) (by simp) ?_
    refine (AllReadyH.cons (o := _) rfl ?d2u84k6 AllReadyH.nil)
    case d2u84k6 =>
    intro K hK
    go_simp
    (go_at_call 14; refine (HC1.out ((w5.drew.alloc (.cells #[.string sa] 9)).alloc (.cells #[.string sa] 9)) (w5.heap.size + 1) ((((Below.refl w5.heap.size w5).drew).alloc (by exact Nat.le_refl _) _).alloc (by simp) _) (by have := heap_alloc_new (w5.drew.alloc (.cells #[.string sa] 9)) (.cells #[.string sa] 9); rwa [show (w5.drew.alloc (.cells #[.string sa] 9)).heap.size = w5.heap.size + 1 by simp] at this) (by simp)).mono ?_; rintro e w1 ⟨rfl, D1, ht1, hq1, hx1, hkp1⟩)
    go_wp2_with fail
    refine hK.out _ _ ?d2u84s6 (fun hNow => ?d2u84r6)
    case d2u84s6 => exact HSB.out w1 hx1
    case d2u84r6 =>
    clear hK K hHeld
    have hHeld := hNow
    clear hNow
    (try simp only [Act.put, List.setIfInBounds_toArray, List.set_cons_zero, List.set_cons_succ, List.getElem_toArray, List.getElem_cons_succ, List.getElem_cons_zero])
    refine wpAnyH_ready (rs := [11]) (by kernel_rfl) (by simp) ?_
    refine (AllReadyH.cons (o := _) rfl ?d2u85k11 AllReadyH.nil)
    case d2u85k11 =>
    intro K hK
    go_simp
    (go_at_call 42; refine (HC2.out w1 w1 D1 w5.heap.size ht1 hq1 (Below.refl _ _) (hkp1 w5.heap.size _ (by omega) ((Below.heap_alloc _ _ _ (by simp)).trans (heap_alloc_new w5.drew _))) (by first | (have := ht1.tu.size; omega) | simp)).mono ?_; rintro e w2 ⟨rfl, v2, ht2, hx2⟩)
    go_wp2_with fail
    refine hK.out _ _ ?d2u85s11 (fun hNow => ?d2u85r11)
    case d2u85s11 => exact HSB.out w2 hx2
    case d2u85r11 =>
    clear hK K hHeld
    have hHeld := hNow
    clear hNow
    (try simp only [Act.put, List.setIfInBounds_toArray, List.set_cons_zero, List.set_cons_succ, List.getElem_toArray, List.getElem_cons_succ, List.getElem_cons_zero])
    refine wpAnyH_take (i := 12) (oi := _) (v := ?d2u86v12) rfl (by kernel_rfl) (by kernel_rfl) (by kernel_rfl) (fun _ _ _ h => h) (Or.inl ⟨by rfl, ?d2u86y12⟩) hHeld ?d2u86r12
    case d2u86y12 => (intro w hSw; (try dsimp only at hSw); go_simp; (first | done | with_reducible rfl))
    case d2u86r12 =>
    (try simp only [Act.put, List.setIfInBounds_toArray, List.set_cons_zero, List.set_cons_succ, List.getElem_toArray, List.getElem_cons_succ, List.getElem_cons_zero])
    refine wpAnyH_take (i := 13) (oi := _) (v := ?d2u87v13) rfl (by kernel_rfl) (by kernel_rfl) (by kernel_rfl) (fun _ _ _ h => h) (Or.inl ⟨by rfl, ?d2u87y13⟩) hHeld ?d2u87r13
    case d2u87y13 => (intro w hSw; (try dsimp only at hSw); go_simp; (first | done | with_reducible rfl))
    case d2u87r13 =>
    (try simp only [Act.put, List.setIfInBounds_toArray, List.set_cons_zero, List.set_cons_succ, List.getElem_toArray, List.getElem_cons_succ, List.getElem_cons_zero])
    refine wpAnyH_take (i := 14) (oi := _) (v := ?d2u88v14) rfl (by kernel_rfl) (by kernel_rfl) (by kernel_rfl) (fun _ _ _ h => h) (Or.inl ⟨by rfl, ?d2u88y14⟩) hHeld ?d2u88r14
    case d2u88y14 => (intro w hSw; (try dsimp only at hSw); go_simp; (first | done | with_reducible rfl))
    case d2u88r14 =>
    (try simp only [Act.put, List.setIfInBounds_toArray, List.set_cons_zero, List.set_cons_succ, List.getElem_toArray, List.getElem_cons_succ, List.getElem_cons_zero])
    refine wpAnyH_take (i := 15) (oi := _) (v := ?d2u89v15) rfl (by kernel_rfl) (by kernel_rfl) (by kernel_rfl) (fun _ _ _ h => h) (Or.inl ⟨by rfl, ?d2u89y15⟩) hHeld ?d2u89r15
    case d2u89y15 => (intro w hSw; (try dsimp only at hSw); go_simp; (first | done | with_reducible rfl))
    case d2u89r15 =>
    (try simp only [Act.put, List.setIfInBounds_toArray, List.set_cons_zero, List.set_cons_succ, List.getElem_toArray, List.getElem_cons_succ, List.getElem_cons_zero])
    refine wpAnyH_done (by kernel_rfl) ?_ _
    go_wp2_with fail
    go_ret3
    exact HXF.out _ _ _ ht2
end Go.Proofs.Ytebkgcnldbkgeaa
