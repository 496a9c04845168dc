/-
  Law 4's step: Append.
-/
import Derived.Test.YtebkgcnldbkgeaaDpR
namespace Go.Proofs.Ytebkgcnldbkgeaa
open Go.RowKit Go.Lib Go.Sort Go.Maps
set_option linter.unusedVariables false
set_option linter.unusedSimpArgs false

theorem cut_cat (s : ByteArray) : (s.extract 0 (s.size / 2)).data.toList ++ (s.extract (s.size / 2) s.size).data.toList = s.data.toList := by
  rw [ByteArray.data_extract, ByteArray.data_extract, Array.toList_extract, Array.toList_extract]
  have hl : s.data.toList.length = s.size := str_len s
  simp only [List.extract_eq_take_drop, List.drop_zero, Nat.sub_zero]
  rw [List.take_of_length_le (l := List.drop (s.size / 2) s.data.toList) (by rw [List.length_drop, hl]; exact Nat.le_refl _)]
  exact List.take_append_drop _ _
set_option maxRecDepth 100000 in
set_option maxHeartbeats 16000000 in
theorem step0_any (base d r : Nat) (D : Dsk) (v : Value) (p : PD) (o : O4) (w : World) (h : TD w base d r D v p) (hb : base ≤ w.heap.size) (ho : o.Ok w) (hk : o.kd = 0) :
    Calls Try.prog 18 #[.pointer (some ⟨d, 0, none⟩), .pointer (some ⟨r, 0, none⟩), .agg #[.int .i64 0, .string o.a, .string o.b, .string o.s, .int .i64 o.n, .slice o.pA o.pn o.pc]] w (SP base w d r D v p o) := by
  obtain ⟨X, hX⟩ : ∃ X : Ending → World → Prop, SP base w d r D v p o = X := ⟨_, rfl⟩
  have hal := (Below.refl w.heap.size w).alloc (Nat.le_refl _) (.cells #[.int .i64 0, .string o.a, .string o.b, .string o.s, .int .i64 o.n, .slice o.pA o.pn o.pc] 44)
  have hN0 := heap_alloc_new w (.cells #[.int .i64 0, .string o.a, .string o.b, .string o.s, .int .i64 o.n, .slice o.pA o.pn o.pc] 44)
  obtain ⟨w5, hw5⟩ : ∃ w5, w.alloc (.cells #[.int .i64 0, .string o.a, .string o.b, .string o.s, .int .i64 o.n, .slice o.pA o.pn o.pc] 44) = w5 := ⟨_, rfl⟩
  rw [hw5] at hal hN0
  have HX : Hid (∀ w' d' r' D' v', TS base w5 w' d r D v d' r' D' v' (opP p o) → (o.kd ≠ 9 → d' = d ∧ r' = r) → X (.returned (.tuple #[.pointer (some ⟨d', 0, none⟩), .pointer (some ⟨r', 0, none⟩), .bool true])) w') := fun w' d' r' D' v' h1 h2 => by rw [← hX]; exact ⟨d', r', D', v', rfl, (TS.of_below h hal).trans h1, h2⟩
  rw [hX]
  have HT := Lib.hid (h.below hal (Nat.le_refl _))
  have hol : w.heap.size < w5.heap.size := (Array.getElem?_eq_some_iff.1 hN0).1
  have HB5 : Hid (base ≤ w5.heap.size) := Nat.le_trans hb hal.size
  have HOUT : Hid (w.heap.size ∉ D.foot d) := fun h2 => by have := h.dk.lt _ h2; omega
  have HOUR : Hid (w.heap.size ∉ rfoot r v) := fun h2 => by have := h.rk.lt _ h2; omega
  have HHO := Lib.hid (ho.below hal)
  have HW5 := Lib.hid hw5
  obtain ⟨ob, hob⟩ : ∃ ob, w.heap.size = ob := ⟨_, rfl⟩
  rw [hob] at hN0 hol HOUT HOUR
  have HN := Lib.hid hN0
  have HOL := Lib.hid hol
  obtain ⟨b0, b1, b2, b3, b4, b5⟩ := six_cells hN0
  have hfd := HT.out.rk.free 0
  clear hX h hb ho hw5 hal hN0
  obtain ⟨kd, sa, sb, ss, sn, pA, pn, pc, P⟩ := o
  simp only at b0 b1 b2 b3 b4 b5 HX HN HHO HW5 ⊢
  have HSB : Hid (∀ V : World, V.heap[ob]? = some (.cells #[.int .i64 0, .string sa, .string sb, .string ss, .int .i64 sn, .slice pA pn pc] 44 (0, 0)) → (fun w' => w'.cell? ⟨ob, 1, none⟩ = some (.string sa) ∧ w'.cell? ⟨ob, 3, none⟩ = some (.string ss)) V) := fun V hV => ⟨(six_cells hV).2.1, (six_cells hV).2.2.2.1⟩
  have hss : ss.size ≤ 1000 := HHO.out.s
  obtain ⟨s1, hs1⟩ : ∃ x, ss.extract 0 (ss.size / 2) = x := ⟨_, rfl⟩
  obtain ⟨s2, hs2⟩ : ∃ x, ss.extract (ss.size / 2) ss.size = x := ⟨_, rfl⟩
  have hz1 : s1.size ≤ 1000 := by rw [← hs1, ByteArray.size_extract]; omega
  have hz2 : s2.size ≤ 1000 := by rw [← hs2, ByteArray.size_extract]; omega
  have hcat : s1.data.toList ++ s2.data.toList = ss.data.toList := by rw [← hs1, ← hs2]; exact cut_cat ss
  obtain ⟨capA1, WA1, hcvA1⟩ := conv_any w5.drew s1 (by unfold maxLen; omega)
  obtain ⟨capA2, WA2, hcvA2⟩ := conv_any WA1 s2 (by unfold maxLen; omega)
  have hrA1 := hcvA1.run
  have hrA2 := hcvA2.run
  have hbA1 : Below w5.heap.size w5 WA1 := ((Below.refl w5.heap.size w5).drew).trans hcvA1.below
  have hbA2 : Below w5.heap.size w5 WA2 := hbA1.trans (hcvA2.below.mono hbA1.size)
  have hzA1 : WA1.heap.size = w5.heap.size + 1 := hcvA1.size
  have hzA2 := hcvA2.size
  have HSA1 : Hid ((fun w' => w'.cell? ⟨ob, 1, none⟩ = some (.string sa) ∧ w'.cell? ⟨ob, 3, none⟩ = some (.string ss)) WA1) := HSB.out WA1 ((hbA1.block ob HOL.out).trans HN.out)
  have HSA2 : Hid ((fun w' => w'.cell? ⟨ob, 1, none⟩ = some (.string sa) ∧ w'.cell? ⟨ob, 3, none⟩ = some (.string ss)) WA2) := HSB.out WA2 ((hbA2.block ob HOL.out).trans HN.out)
  have HSA4 : Hid ((fun w' => w'.cell? ⟨ob, 1, none⟩ = some (.string sa) ∧ w'.cell? ⟨ob, 3, none⟩ = some (.string ss)) (WA2.alloc (.cells #[.slice (some ⟨w5.drew.heap.size, 0, none⟩) s1.size capA1, .slice (some ⟨WA1.heap.size, 0, none⟩) s2.size capA2] 33))) := HSB.out _ (((hbA2.alloc hbA2.size _).block ob HOL.out).trans HN.out)
  have HCA : Hid (Calls Try.prog 26 #[.pointer (some ⟨d, 0, none⟩), .string sa, .slice (some ⟨WA2.heap.size, 0, none⟩) 2 2] (WA2.alloc (.cells #[.slice (some ⟨w5.drew.heap.size, 0, none⟩) s1.size capA1, .slice (some ⟨WA1.heap.size, 0, none⟩) s2.size capA2] 33)) fun e w' => e = .returned (.int .i64 ((p.append sa ss.data.toList).1 : Int)) ∧ ∃ D', Then base d w5 w' D D' ∧ pd D' = (p.append sa ss.data.toList).2 ∧ w'.heap[ob]? = some (.cells #[.int .i64 0, .string sa, .string sb, .string ss, .int .i64 sn, .slice pA pn pc] 44 (0, 0))) := by
    have h1 := HT.out.append2 HB5.out hbA2 sa s1 s2 (by have := HHO.out.a; simp only at this; omega) (w5.drew.heap.size) (WA1.heap.size) capA1 capA2 33 (by first | exact Nat.le_refl _ | omega | (show w5.heap.size ≤ w5.heap.size; omega)) (by first | exact Nat.le_refl _ | omega | (show w5.heap.size ≤ w5.heap.size; omega)) (by first | omega | (show w5.heap.size < _; omega)) (by first | omega | (show w5.heap.size < _; omega)) hcvA1.c1 hcvA1.c2 hcvA2.c1 hcvA2.c2
      (fun V hV => hcvA1.bs V (hV.trans (hcvA2.below.block _ (by show w5.heap.size < _; omega)))) (fun V hV => hcvA2.bs V hV)
    rw [hcat] at h1
    exact h1.mono fun e w' ⟨he, D', ht, hq⟩ => ⟨he, D', ht, hq, (ht.block HOL.out HOUT.out).trans HN.out⟩
  obtain ⟨capB1, WB1, hcvB1⟩ := conv_any w5.drew s2 (by unfold maxLen; omega)
  obtain ⟨capB2, WB2, hcvB2⟩ := conv_any WB1 s1 (by unfold maxLen; omega)
  have hrB1 := hcvB1.run
  have hrB2 := hcvB2.run
  have hbB1 : Below w5.heap.size w5 WB1 := ((Below.refl w5.heap.size w5).drew).trans hcvB1.below
  have hbB2 : Below w5.heap.size w5 WB2 := hbB1.trans (hcvB2.below.mono hbB1.size)
  have hzB1 : WB1.heap.size = w5.heap.size + 1 := hcvB1.size
  have hzB2 := hcvB2.size
  have HSB1 : Hid ((fun w' => w'.cell? ⟨ob, 1, none⟩ = some (.string sa) ∧ w'.cell? ⟨ob, 3, none⟩ = some (.string ss)) WB1) := HSB.out WB1 ((hbB1.block ob HOL.out).trans HN.out)
  have HSB2 : Hid ((fun w' => w'.cell? ⟨ob, 1, none⟩ = some (.string sa) ∧ w'.cell? ⟨ob, 3, none⟩ = some (.string ss)) WB2) := HSB.out WB2 ((hbB2.block ob HOL.out).trans HN.out)
  have HSB4 : Hid ((fun w' => w'.cell? ⟨ob, 1, none⟩ = some (.string sa) ∧ w'.cell? ⟨ob, 3, none⟩ = some (.string ss)) (WB2.alloc (.cells #[.slice (some ⟨WB1.heap.size, 0, none⟩) s1.size capB2, .slice (some ⟨w5.drew.heap.size, 0, none⟩) s2.size capB1] 33))) := HSB.out _ (((hbB2.alloc hbB2.size _).block ob HOL.out).trans HN.out)
  have HCB : Hid (Calls Try.prog 26 #[.pointer (some ⟨d, 0, none⟩), .string sa, .slice (some ⟨WB2.heap.size, 0, none⟩) 2 2] (WB2.alloc (.cells #[.slice (some ⟨WB1.heap.size, 0, none⟩) s1.size capB2, .slice (some ⟨w5.drew.heap.size, 0, none⟩) s2.size capB1] 33)) fun e w' => e = .returned (.int .i64 ((p.append sa ss.data.toList).1 : Int)) ∧ ∃ D', Then base d w5 w' D D' ∧ pd D' = (p.append sa ss.data.toList).2 ∧ w'.heap[ob]? = some (.cells #[.int .i64 0, .string sa, .string sb, .string ss, .int .i64 sn, .slice pA pn pc] 44 (0, 0))) := by
    have h1 := HT.out.append2 HB5.out hbB2 sa s1 s2 (by have := HHO.out.a; simp only at this; omega) (WB1.heap.size) (w5.drew.heap.size) capB2 capB1 33 (by first | exact Nat.le_refl _ | omega | (show w5.heap.size ≤ w5.heap.size; omega)) (by first | exact Nat.le_refl _ | omega | (show w5.heap.size ≤ w5.heap.size; omega)) (by first | omega | (show w5.heap.size < _; omega)) (by first | omega | (show w5.heap.size < _; omega)) hcvB2.c1 hcvB2.c2 hcvB1.c1 hcvB1.c2
      (fun V hV => hcvB2.bs V hV) (fun V hV => hcvB1.bs V (hV.trans (hcvB2.below.block _ (by show w5.heap.size < _; omega))))
    rw [hcat] at h1
    exact h1.mono fun e w' ⟨he, D', ht, hq⟩ => ⟨he, D', ht, hq, (ht.block HOL.out HOUT.out).trans HN.out⟩
  have HC2 : Hid (∀ V D', Then base d w5 V D D' → pd D' = (p.append sa ss.data.toList).2 → Calls Try.prog 41 #[.pointer (some ⟨r, 0, none⟩), .string sa, .string ss] V fun e w' => e = .returned (.int .i64 ((p.append sa ss.data.toList).1 : Int)) ∧ ∃ v', TS base w5 w' d r D v d r D' v' (p.append sa ss.data.toList).2 ∧ w'.heap[ob]? = some (.cells #[.int .i64 0, .string sa, .string sb, .string ss, .int .i64 sn, .slice pA pn pc] 44 (0, 0))) := fun V D' ht hq =>
    (HT.out.second HB5.out ht hq (Below.refl _ _) fun hr hb2 => rappend_any base r v p sa ss V hr HT.out.ok hb2 (by have := HHO.out.a; simp only at this; omega) (by omega)).mono fun e w' ⟨he, v', ts⟩ => ⟨he, v', ts, (ts.tu.block ob HOL.out (fun hm => (List.mem_append.1 hm).elim HOUT.out HOUR.out)).trans HN.out⟩
  have HXF := Lib.hid (fun w' D' v' (h1 : TS base w5 w' d r D v d r D' v' (p.append sa ss.data.toList).2) => HX.out w' d r D' v' (by rw [show opP p ⟨kd, sa, sb, ss, sn, pA, pn, pc, P⟩ = (p.append sa ss.data.toList).2 from opP01 (.inl hk)]; exact h1) (fun _ => ⟨rfl, rfl⟩))
  generalize p.append sa ss.data.toList = q at *
  obtain ⟨q1, q2⟩ := q
  simp only at HCA HCB HC2 HXF
  obtain ⟨kk, hkk⟩ : ∃ kk, ss.size / 2 = kk := ⟨_, rfl⟩
  rw [hkk] at hs1 hs2
  have hkl : kk ≤ ss.size := by omega
  have hkz : (kk : Int) ≤ (ss.size : Int) := by omega
  have etd : (ss.size : Int).tdiv 2 = (kk : Int) := by rw [← hkk]; rfl
  have ewd : IntKind.i64.wrap ((ss.size : Int).tdiv 2) = (kk : Int) := by rw [etd, IntKind.wrap_i64]; omega
  clear hcvA1 hcvA2 hcvB1 hcvB2 hbA1 hbA2 hbB1 hbB2 hzA1 hzA2 hzB1 hzB2 hcat hkk hz1 hz2
  go_enter Try.func18, Try.ntmps18
  go_upto_region 1 with fail
  rw [HW5.out]
  go_upto_region 5 with fail
  refine wp_region_held_drew (S := fun w' => w'.cell? ⟨ob, 1, none⟩ = some (.string sa) ∧ w'.cell? ⟨ob, 3, none⟩ = some (.string ss)) (by kernel_rfl) (HSB.out w5.drew HN.out) (fun hHeld => ?_)
  refine wpAnyH_take (i := 0) (oi := _) (v := ?d0u90v0) rfl (by kernel_rfl) (by kernel_rfl) (by kernel_rfl) (fun _ _ _ h => h) (Or.inl ⟨by rfl, ?d0u90y0⟩) hHeld ?d0u90r0
  case d0u90y0 => (intro w hSw; (try dsimp only at hSw); go_simp; (first | done | with_reducible rfl))
  case d0u90r0 =>
  (try simp only [Act.put, List.setIfInBounds_toArray, List.set_cons_zero, List.set_cons_succ, List.getElem_toArray, List.getElem_cons_succ, List.getElem_cons_zero])
  refine wpAnyH_take (i := 1) (oi := _) (v := ?d0u91v1) rfl (by kernel_rfl) (by kernel_rfl) (by kernel_rfl) (fun _ _ _ h => h) (Or.inl ⟨by rfl, ?d0u91y1⟩) hHeld ?d0u91r1
  case d0u91y1 => (intro w hSw; (try dsimp only at hSw); go_simp; (first | done | with_reducible rfl))
  case d0u91r1 =>
  (try simp only [Act.put, List.setIfInBounds_toArray, List.set_cons_zero, List.set_cons_succ, List.getElem_toArray, List.getElem_cons_succ, List.getElem_cons_zero])
  refine wpAnyH_take (i := 2) (oi := _) (v := ?d0u92v2) rfl (by kernel_rfl) (by kernel_rfl) (by kernel_rfl) (fun _ _ _ h => h) (Or.inl ⟨by rfl, ?d0u92y2⟩) hHeld ?d0u92r2
  case d0u92y2 => (intro w hSw; (try dsimp only at hSw); go_simp; (first | done | with_reducible rfl))
  case d0u92r2 =>
  (try simp only [Act.put, List.setIfInBounds_toArray, List.set_cons_zero, List.set_cons_succ, List.getElem_toArray, List.getElem_cons_succ, List.getElem_cons_zero])
  refine wpAnyH_take (i := 3) (oi := _) (v := ?d0u93v3) rfl (by kernel_rfl) (by kernel_rfl) (by kernel_rfl) (fun _ _ _ h => h) (Or.inl ⟨by rfl, ?d0u93y3⟩) hHeld ?d0u93r3
  case d0u93y3 => (intro w hSw; (try dsimp only at hSw); go_simp; (first | done | with_reducible rfl))
  case d0u93r3 =>
  (try simp only [Act.put, List.setIfInBounds_toArray, List.set_cons_zero, List.set_cons_succ, List.getElem_toArray, List.getElem_cons_succ, List.getElem_cons_zero])
  refine wpAnyH_take (i := 4) (oi := _) (v := ?d0u94v4) rfl (by kernel_rfl) (by kernel_rfl) (by kernel_rfl) (fun _ _ _ h => h) (Or.inl ⟨by rfl, ?d0u94y4⟩) hHeld ?d0u94r4
  case d0u94y4 => (intro w hSw; (try dsimp only at hSw); go_simp; (first | done | with_reducible rfl))
  case d0u94r4 =>
  (try simp only [Act.put, List.setIfInBounds_toArray, List.set_cons_zero, List.set_cons_succ, List.getElem_toArray, List.getElem_cons_succ, List.getElem_cons_zero])
  refine wpAnyH_take (i := 5) (oi := _) (v := ?d0u95v5) rfl (by kernel_rfl) (by kernel_rfl) (by kernel_rfl) (fun _ _ _ h => h) (Or.inl ⟨by rfl, ?d0u95y5⟩) hHeld ?d0u95r5
  case d0u95y5 => (intro w hSw; (try dsimp only at hSw); go_simp; (first | done | with_reducible rfl))
  case d0u95r5 =>
  (try simp only [Act.put, List.setIfInBounds_toArray, List.set_cons_zero, List.set_cons_succ, List.getElem_toArray, List.getElem_cons_succ, List.getElem_cons_zero])
  refine wpAnyH_take (i := 6) (oi := _) (v := ?d0u96v6) rfl (by kernel_rfl) (by kernel_rfl) (by kernel_rfl) (fun _ _ _ h => h) (Or.inl ⟨by rfl, ?d0u96y6⟩) hHeld ?d0u96r6
  case d0u96y6 => (intro w hSw; (try dsimp only at hSw); go_simp; (first | done | with_reducible rfl))
  case d0u96r6 =>
  (try simp only [Act.put, List.setIfInBounds_toArray, List.set_cons_zero, List.set_cons_succ, List.getElem_toArray, List.getElem_cons_succ, List.getElem_cons_zero])
  refine wpAnyH_take (i := 7) (oi := _) (v := ?d0u97v7) rfl (by kernel_rfl) (by kernel_rfl) (by kernel_rfl) (fun _ _ _ h => h) (Or.inl ⟨by rfl, ?d0u97y7⟩) hHeld ?d0u97r7
  case d0u97y7 => (intro w hSw; (try dsimp only at hSw); go_simp; (first | done | with_reducible rfl))
  case d0u97r7 =>
  (try simp only [Act.put, List.setIfInBounds_toArray, List.set_cons_zero, List.set_cons_succ, List.getElem_toArray, List.getElem_cons_succ, List.getElem_cons_zero])
  refine wpAnyH_take (i := 8) (oi := _) (v := ?d0u98v8) rfl (by kernel_rfl) (by kernel_rfl) (by kernel_rfl) (fun _ _ _ h => h) (Or.inl ⟨by rfl, ?d0u98y8⟩) hHeld ?d0u98r8
  case d0u98y8 => (intro w hSw; (try dsimp only at hSw); go_simp; (first | done | with_reducible rfl))
  case d0u98r8 =>
  (try simp only [Act.put, List.setIfInBounds_toArray, List.set_cons_zero, List.set_cons_succ, List.getElem_toArray, List.getElem_cons_succ, List.getElem_cons_zero])
  refine wpAnyH_take (i := 10) (oi := _) (v := ?d0u99v10) rfl (by kernel_rfl) (by kernel_rfl) (by kernel_rfl) (fun _ _ _ h => h) (Or.inl ⟨by rfl, ?d0u99y10⟩) hHeld ?d0u99r10
  case d0u99y10 => (intro w hSw; (try dsimp only at hSw); go_simp; (first | done | with_reducible rfl))
  case d0u99r10 =>
  (try simp only [Act.put, List.setIfInBounds_toArray, List.set_cons_zero, List.set_cons_succ, List.getElem_toArray, List.getElem_cons_succ, List.getElem_cons_zero])
  refine wpAnyH_take (i := 11) (oi := _) (v := ?d0u100v11) rfl (by kernel_rfl) (by kernel_rfl) (by kernel_rfl) (fun _ _ _ h => h) (Or.inl ⟨by rfl, ?d0u100y11⟩) hHeld ?d0u100r11
  case d0u100y11 => (intro w hSw; (try dsimp only at hSw); go_simp; (first | done | with_reducible rfl))
  case d0u100r11 =>
  (try simp only [Act.put, List.setIfInBounds_toArray, List.set_cons_zero, List.set_cons_succ, List.getElem_toArray, List.getElem_cons_succ, List.getElem_cons_zero])
  refine wpAnyH_take (i := 12) (oi := _) (v := ?d0u101v12) rfl (by kernel_rfl) (by kernel_rfl) (by kernel_rfl) (fun _ _ _ h => h) (Or.inl ⟨by rfl, ?d0u101y12⟩) hHeld ?d0u101r12
  case d0u101y12 => (intro w hSw; (try dsimp only at hSw); go_simp; (first | done | with_reducible rfl))
  case d0u101r12 =>
  (try simp only [Act.put, List.setIfInBounds_toArray, List.set_cons_zero, List.set_cons_succ, List.getElem_toArray, List.getElem_cons_succ, List.getElem_cons_zero])
  refine wpAnyH_take (i := 13) (oi := _) (v := ?d0u102v13) rfl (by kernel_rfl) (by kernel_rfl) (by kernel_rfl) (fun _ _ _ h => h) (Or.inl ⟨by rfl, ?d0u102y13⟩) hHeld ?d0u102r13
  case d0u102y13 => (intro w hSw; (try dsimp only at hSw); go_simp; (first | done | with_reducible rfl))
  case d0u102r13 =>
  (try simp only [Act.put, List.setIfInBounds_toArray, List.set_cons_zero, List.set_cons_succ, List.getElem_toArray, List.getElem_cons_succ, List.getElem_cons_zero])
  refine wpAnyH_take (i := 17) (oi := _) (v := ?d0u103v17) rfl (by kernel_rfl) (by kernel_rfl) (by kernel_rfl) (fun _ _ _ h => h) (Or.inl ⟨by rfl, ?d0u103y17⟩) hHeld ?d0u103r17
  case d0u103y17 => (intro w hSw; (try dsimp only at hSw); go_simp; (first | done | with_reducible rfl))
  case d0u103r17 =>
  (try simp only [Act.put, List.setIfInBounds_toArray, List.set_cons_zero, List.set_cons_succ, List.getElem_toArray, List.getElem_cons_succ, List.getElem_cons_zero])
  refine wpAnyH_take (i := 18) (oi := _) (v := ?d0u104v18) rfl (by kernel_rfl) (by kernel_rfl) (by kernel_rfl) (fun _ _ _ h => h) (Or.inl ⟨by rfl, ?d0u104y18⟩) hHeld ?d0u104r18
  case d0u104y18 => (intro w hSw; (try dsimp only at hSw); go_simp; (first | done | with_reducible rfl))
  case d0u104r18 =>
  (try simp only [Act.put, List.setIfInBounds_toArray, List.set_cons_zero, List.set_cons_succ, List.getElem_toArray, List.getElem_cons_succ, List.getElem_cons_zero])
  refine wpAnyH_take (i := 19) (oi := _) (v := ?d0u105v19) rfl (by kernel_rfl) (by kernel_rfl) (by kernel_rfl) (fun _ _ _ h => h) (Or.inl ⟨by rfl, ?d0u105y19⟩) hHeld ?d0u105r19
  case d0u105y19 => (intro w hSw; (try dsimp only at hSw); go_simp; (first | done | with_reducible rfl))
  case d0u105r19 =>
  (try simp only [Act.put, List.setIfInBounds_toArray, List.set_cons_zero, List.set_cons_succ, List.getElem_toArray, List.getElem_cons_succ, List.getElem_cons_zero])
  refine wpAnyH_take (i := 20) (oi := _) (v := ?d0u106v20) rfl (by kernel_rfl) (by kernel_rfl) (by kernel_rfl) (fun _ _ _ h => h) (Or.inl ⟨by rfl, ?d0u106y20⟩) hHeld ?d0u106r20
  case d0u106y20 => (intro w hSw; (try dsimp only at hSw); go_simp; (first | done | with_reducible rfl))
  case d0u106r20 =>
  (try simp only [Act.put, List.setIfInBounds_toArray, List.set_cons_zero, List.set_cons_succ, List.getElem_toArray, List.getElem_cons_succ, List.getElem_cons_zero])
  refine wpAnyH_take (i := 21) (oi := _) (v := ?d0u107v21) rfl (by kernel_rfl) (by kernel_rfl) (by kernel_rfl) (fun _ _ _ h => h) (Or.inl ⟨by rfl, ?d0u107y21⟩) hHeld ?d0u107r21
  case d0u107y21 => (intro w hSw; (try dsimp only at hSw); go_simp; (first | done | with_reducible rfl))
  case d0u107r21 =>
  (try simp only [Act.put, List.setIfInBounds_toArray, List.set_cons_zero, List.set_cons_succ, List.getElem_toArray, List.getElem_cons_succ, List.getElem_cons_zero])
  refine wpAnyH_ready (rs := [9, 14]) (by kernel_rfl) (by simp) ?_
  refine (AllReadyH.cons (o := _) rfl ?d0u108k9 (AllReadyH.cons (o := _) rfl ?d0u108k14 AllReadyH.nil))
  case d0u108k9 =>
    intro K hK
    go_simp
    go_wp2_with fail
    refine hK.out _ _ ?d0u108s9 (fun hNow => ?d0u108r9)
    case d0u108s9 => exact HSA1.out
    case d0u108r9 =>
    clear hK K hHeld
    have hHeld := hNow
    clear hNow
    (try simp only [Act.put, List.setIfInBounds_toArray, List.set_cons_zero, List.set_cons_succ, List.getElem_toArray, List.getElem_cons_succ, List.getElem_cons_zero])
    refine wpAnyH_ready (rs := [14]) (by kernel_rfl) (by simp) ?_
    refine (AllReadyH.cons (o := _) rfl ?d0u109k14 AllReadyH.nil)
    case d0u109k14 =>
    intro K hK
    go_simp
    go_wp2_with fail
    refine hK.out _ _ ?d0u109s14 (fun hNow => ?d0u109r14)
    case d0u109s14 => exact HSA2.out
    case d0u109r14 =>
    clear hK K hHeld
    have hHeld := hNow
    clear hNow
    (try simp only [Act.put, List.setIfInBounds_toArray, List.set_cons_zero, List.set_cons_succ, List.getElem_toArray, List.getElem_cons_succ, List.getElem_cons_zero])
    refine wpAnyH_ready (rs := [15]) (by kernel_rfl) (by simp) ?_
    refine (AllReadyH.cons (o := _) rfl ?d0u110k15 AllReadyH.nil)
    case d0u110k15 =>
    intro K hK
    go_simp
    go_wp2_with fail
    refine hK.out _ _ ?d0u110s15 (fun hNow => ?d0u110r15)
    case d0u110s15 => exact HSA4.out
    case d0u110r15 =>
    clear hK K hHeld
    have hHeld := hNow
    clear hNow
    (try simp only [Act.put, List.setIfInBounds_toArray, List.set_cons_zero, List.set_cons_succ, List.getElem_toArray, List.getElem_cons_succ, List.getElem_cons_zero])
    refine wpAnyH_ready (rs := [16]) (by kernel_rfl) (by simp) ?_
    refine (AllReadyH.cons (o := _) rfl ?d0u111k16 AllReadyH.nil)
    case d0u111k16 =>
    intro K hK
    go_simp
    (go_at_call 26; refine HCA.out.mono ?_; rintro e w1 ⟨rfl, D1, ht1, hq1, hx1⟩)
    go_wp2_with fail
    refine hK.out _ _ ?d0u111s16 (fun hNow => ?d0u111r16)
    case d0u111s16 => exact HSB.out w1 hx1
    case d0u111r16 =>
    clear hK K hHeld
    have hHeld := hNow
    clear hNow
    (try simp only [Act.put, List.setIfInBounds_toArray, List.set_cons_zero, List.set_cons_succ, List.getElem_toArray, List.getElem_cons_succ, List.getElem_cons_zero])
    refine wpAnyH_ready (rs := [22]) (by kernel_rfl) (by simp) ?_
    refine (AllReadyH.cons (o := _) rfl ?d0u112k22 AllReadyH.nil)
    case d0u112k22 =>
    intro K hK
    go_simp
    (go_at_call 41; refine (HC2.out w1 D1 ht1 hq1).mono ?_; rintro e w2 ⟨rfl, v2, ht2, hx2⟩)
    go_wp2_with fail
    refine hK.out _ _ ?d0u112s22 (fun hNow => ?d0u112r22)
    case d0u112s22 => exact HSB.out w2 hx2
    case d0u112r22 =>
    clear hK K hHeld
    have hHeld := hNow
    clear hNow
    (try simp only [Act.put, List.setIfInBounds_toArray, List.set_cons_zero, List.set_cons_succ, List.getElem_toArray, List.getElem_cons_succ, List.getElem_cons_zero])
    refine wpAnyH_take (i := 23) (oi := _) (v := ?d0u113v23) rfl (by kernel_rfl) (by kernel_rfl) (by kernel_rfl) (fun _ _ _ h => h) (Or.inl ⟨by rfl, ?d0u113y23⟩) hHeld ?d0u113r23
    case d0u113y23 => (intro w hSw; (try dsimp only at hSw); go_simp; (first | done | with_reducible rfl))
    case d0u113r23 =>
    (try simp only [Act.put, List.setIfInBounds_toArray, List.set_cons_zero, List.set_cons_succ, List.getElem_toArray, List.getElem_cons_succ, List.getElem_cons_zero])
    refine wpAnyH_take (i := 24) (oi := _) (v := ?d0u114v24) rfl (by kernel_rfl) (by kernel_rfl) (by kernel_rfl) (fun _ _ _ h => h) (Or.inl ⟨by rfl, ?d0u114y24⟩) hHeld ?d0u114r24
    case d0u114y24 => (intro w hSw; (try dsimp only at hSw); go_simp; (first | done | with_reducible rfl))
    case d0u114r24 =>
    (try simp only [Act.put, List.setIfInBounds_toArray, List.set_cons_zero, List.set_cons_succ, List.getElem_toArray, List.getElem_cons_succ, List.getElem_cons_zero])
    refine wpAnyH_take (i := 25) (oi := _) (v := ?d0u115v25) rfl (by kernel_rfl) (by kernel_rfl) (by kernel_rfl) (fun _ _ _ h => h) (Or.inl ⟨by rfl, ?d0u115y25⟩) hHeld ?d0u115r25
    case d0u115y25 => (intro w hSw; (try dsimp only at hSw); go_simp; (first | done | with_reducible rfl))
    case d0u115r25 =>
    (try simp only [Act.put, List.setIfInBounds_toArray, List.set_cons_zero, List.set_cons_succ, List.getElem_toArray, List.getElem_cons_succ, List.getElem_cons_zero])
    refine wpAnyH_take (i := 26) (oi := _) (v := ?d0u116v26) rfl (by kernel_rfl) (by kernel_rfl) (by kernel_rfl) (fun _ _ _ h => h) (Or.inl ⟨by rfl, ?d0u116y26⟩) hHeld ?d0u116r26
    case d0u116y26 => (intro w hSw; (try dsimp only at hSw); go_simp; (first | done | with_reducible rfl))
    case d0u116r26 =>
    (try simp only [Act.put, List.setIfInBounds_toArray, List.set_cons_zero, List.set_cons_succ, List.getElem_toArray, List.getElem_cons_succ, List.getElem_cons_zero])
    refine wpAnyH_done (by kernel_rfl) ?_ _
    go_wp2_with fail
    go_ret3
    exact HXF.out _ _ _ ht2
  case d0u108k14 =>
    intro K hK
    go_simp
    go_wp2_with fail
    refine hK.out _ _ ?d0u108s14 (fun hNow => ?d0u108r14)
    case d0u108s14 => exact HSB1.out
    case d0u108r14 =>
    clear hK K hHeld
    have hHeld := hNow
    clear hNow
    (try simp only [Act.put, List.setIfInBounds_toArray, List.set_cons_zero, List.set_cons_succ, List.getElem_toArray, List.getElem_cons_succ, List.getElem_cons_zero])
    refine wpAnyH_ready (rs := [9]) (by kernel_rfl) (by simp) ?_
    refine (AllReadyH.cons (o := _) rfl ?d0u117k9 AllReadyH.nil)
    case d0u117k9 =>
    intro K hK
    go_simp
    go_wp2_with fail
    refine hK.out _ _ ?d0u117s9 (fun hNow => ?d0u117r9)
    case d0u117s9 => exact HSB2.out
    case d0u117r9 =>
    clear hK K hHeld
    have hHeld := hNow
    clear hNow
    (try simp only [Act.put, List.setIfInBounds_toArray, List.set_cons_zero, List.set_cons_succ, List.getElem_toArray, List.getElem_cons_succ, List.getElem_cons_zero])
    refine wpAnyH_ready (rs := [15]) (by kernel_rfl) (by simp) ?_
    refine (AllReadyH.cons (o := _) rfl ?d0u118k15 AllReadyH.nil)
    case d0u118k15 =>
    intro K hK
    go_simp
    go_wp2_with fail
    refine hK.out _ _ ?d0u118s15 (fun hNow => ?d0u118r15)
    case d0u118s15 => exact HSB4.out
    case d0u118r15 =>
    clear hK K hHeld
    have hHeld := hNow
    clear hNow
    (try simp only [Act.put, List.setIfInBounds_toArray, List.set_cons_zero, List.set_cons_succ, List.getElem_toArray, List.getElem_cons_succ, List.getElem_cons_zero])
    refine wpAnyH_ready (rs := [16]) (by kernel_rfl) (by simp) ?_
    refine (AllReadyH.cons (o := _) rfl ?d0u119k16 AllReadyH.nil)
    case d0u119k16 =>
    intro K hK
    go_simp
    (go_at_call 26; refine HCB.out.mono ?_; rintro e w1 ⟨rfl, D1, ht1, hq1, hx1⟩)
    go_wp2_with fail
    refine hK.out _ _ ?d0u119s16 (fun hNow => ?d0u119r16)
    case d0u119s16 => exact HSB.out w1 hx1
    case d0u119r16 =>
    clear hK K hHeld
    have hHeld := hNow
    clear hNow
    (try simp only [Act.put, List.setIfInBounds_toArray, List.set_cons_zero, List.set_cons_succ, List.getElem_toArray, List.getElem_cons_succ, List.getElem_cons_zero])
    refine wpAnyH_ready (rs := [22]) (by kernel_rfl) (by simp) ?_
    refine (AllReadyH.cons (o := _) rfl ?d0u120k22 AllReadyH.nil)
    case d0u120k22 =>
    intro K hK
    go_simp
    (go_at_call 41; refine (HC2.out w1 D1 ht1 hq1).mono ?_; rintro e w2 ⟨rfl, v2, ht2, hx2⟩)
    go_wp2_with fail
    refine hK.out _ _ ?d0u120s22 (fun hNow => ?d0u120r22)
    case d0u120s22 => exact HSB.out w2 hx2
    case d0u120r22 =>
    clear hK K hHeld
    have hHeld := hNow
    clear hNow
    (try simp only [Act.put, List.setIfInBounds_toArray, List.set_cons_zero, List.set_cons_succ, List.getElem_toArray, List.getElem_cons_succ, List.getElem_cons_zero])
    refine wpAnyH_take (i := 23) (oi := _) (v := ?d0u121v23) rfl (by kernel_rfl) (by kernel_rfl) (by kernel_rfl) (fun _ _ _ h => h) (Or.inl ⟨by rfl, ?d0u121y23⟩) hHeld ?d0u121r23
    case d0u121y23 => (intro w hSw; (try dsimp only at hSw); go_simp; (first | done | with_reducible rfl))
    case d0u121r23 =>
    (try simp only [Act.put, List.setIfInBounds_toArray, List.set_cons_zero, List.set_cons_succ, List.getElem_toArray, List.getElem_cons_succ, List.getElem_cons_zero])
    refine wpAnyH_take (i := 24) (oi := _) (v := ?d0u122v24) rfl (by kernel_rfl) (by kernel_rfl) (by kernel_rfl) (fun _ _ _ h => h) (Or.inl ⟨by rfl, ?d0u122y24⟩) hHeld ?d0u122r24
    case d0u122y24 => (intro w hSw; (try dsimp only at hSw); go_simp; (first | done | with_reducible rfl))
    case d0u122r24 =>
    (try simp only [Act.put, List.setIfInBounds_toArray, List.set_cons_zero, List.set_cons_succ, List.getElem_toArray, List.getElem_cons_succ, List.getElem_cons_zero])
    refine wpAnyH_take (i := 25) (oi := _) (v := ?d0u123v25) rfl (by kernel_rfl) (by kernel_rfl) (by kernel_rfl) (fun _ _ _ h => h) (Or.inl ⟨by rfl, ?d0u123y25⟩) hHeld ?d0u123r25
    case d0u123y25 => (intro w hSw; (try dsimp only at hSw); go_simp; (first | done | with_reducible rfl))
    case d0u123r25 =>
    (try simp only [Act.put, List.setIfInBounds_toArray, List.set_cons_zero, List.set_cons_succ, List.getElem_toArray, List.getElem_cons_succ, List.getElem_cons_zero])
    refine wpAnyH_take (i := 26) (oi := _) (v := ?d0u124v26) rfl (by kernel_rfl) (by kernel_rfl) (by kernel_rfl) (fun _ _ _ h => h) (Or.inl ⟨by rfl, ?d0u124y26⟩) hHeld ?d0u124r26
    case d0u124y26 => (intro w hSw; (try dsimp only at hSw); go_simp; (first | done | with_reducible rfl))
    case d0u124r26 =>
    (try simp only [Act.put, List.setIfInBounds_toArray, List.set_cons_zero, List.set_cons_succ, List.getElem_toArray, List.getElem_cons_succ, List.getElem_cons_zero])
    refine wpAnyH_done (by kernel_rfl) ?_ _
    go_wp2_with fail
    go_ret3
    exact HXF.out _ _ _ ht2

set_option maxRecDepth 100000 in
set_option maxHeartbeats 16000000 in
theorem step1_any (base d r : Nat) (D : Dsk) (v : Value) (p : PD) (o : O4) (w : World) (h : TD w base d r D v p) (hb : base ≤ w.heap.size) (ho : o.Ok w) (hk : o.kd = 1) :
    Calls Try.prog 18 #[.pointer (some ⟨d, 0, none⟩), .pointer (some ⟨r, 0, none⟩), .agg #[.int .i64 1, .string o.a, .string o.b, .string o.s, .int .i64 o.n, .slice o.pA o.pn o.pc]] w (SP base w d r D v p o) := by
  obtain ⟨X, hX⟩ : ∃ X : Ending → World → Prop, SP base w d r D v p o = X := ⟨_, rfl⟩
  have hal := (Below.refl w.heap.size w).alloc (Nat.le_refl _) (.cells #[.int .i64 1, .string o.a, .string o.b, .string o.s, .int .i64 o.n, .slice o.pA o.pn o.pc] 44)
  have hN0 := heap_alloc_new w (.cells #[.int .i64 1, .string o.a, .string o.b, .string o.s, .int .i64 o.n, .slice o.pA o.pn o.pc] 44)
  obtain ⟨w5, hw5⟩ : ∃ w5, w.alloc (.cells #[.int .i64 1, .string o.a, .string o.b, .string o.s, .int .i64 o.n, .slice o.pA o.pn o.pc] 44) = w5 := ⟨_, rfl⟩
  rw [hw5] at hal hN0
  have HX : Hid (∀ w' d' r' D' v', TS base w5 w' d r D v d' r' D' v' (opP p o) → (o.kd ≠ 9 → d' = d ∧ r' = r) → X (.returned (.tuple #[.pointer (some ⟨d', 0, none⟩), .pointer (some ⟨r', 0, none⟩), .bool true])) w') := fun w' d' r' D' v' h1 h2 => by rw [← hX]; exact ⟨d', r', D', v', rfl, (TS.of_below h hal).trans h1, h2⟩
  rw [hX]
  have HT := Lib.hid (h.below hal (Nat.le_refl _))
  have hol : w.heap.size < w5.heap.size := (Array.getElem?_eq_some_iff.1 hN0).1
  have HB5 : Hid (base ≤ w5.heap.size) := Nat.le_trans hb hal.size
  have HOUT : Hid (w.heap.size ∉ D.foot d) := fun h2 => by have := h.dk.lt _ h2; omega
  have HOUR : Hid (w.heap.size ∉ rfoot r v) := fun h2 => by have := h.rk.lt _ h2; omega
  have HHO := Lib.hid (ho.below hal)
  have HW5 := Lib.hid hw5
  obtain ⟨ob, hob⟩ : ∃ ob, w.heap.size = ob := ⟨_, rfl⟩
  rw [hob] at hN0 hol HOUT HOUR
  have HN := Lib.hid hN0
  have HOL := Lib.hid hol
  obtain ⟨b0, b1, b2, b3, b4, b5⟩ := six_cells hN0
  have hfd := HT.out.rk.free 0
  clear hX h hb ho hw5 hal hN0
  obtain ⟨kd, sa, sb, ss, sn, pA, pn, pc, P⟩ := o
  simp only at b0 b1 b2 b3 b4 b5 HX HN HHO HW5 ⊢
  have HSB : Hid (∀ V : World, V.heap[ob]? = some (.cells #[.int .i64 1, .string sa, .string sb, .string ss, .int .i64 sn, .slice pA pn pc] 44 (0, 0)) → (fun w' => w'.cell? ⟨ob, 1, none⟩ = some (.string sa) ∧ w'.cell? ⟨ob, 3, none⟩ = some (.string ss)) V) := fun V hV => ⟨(six_cells hV).2.1, (six_cells hV).2.2.2.1⟩
  have hss : ss.size ≤ 1000 := HHO.out.s
  obtain ⟨s1, hs1⟩ : ∃ x, ss.extract 0 (ss.size / 2) = x := ⟨_, rfl⟩
  obtain ⟨s2, hs2⟩ : ∃ x, ss.extract (ss.size / 2) ss.size = x := ⟨_, rfl⟩
  have hz1 : s1.size ≤ 1000 := by rw [← hs1, ByteArray.size_extract]; omega
  have hz2 : s2.size ≤ 1000 := by rw [← hs2, ByteArray.size_extract]; omega
  have hcat : s1.data.toList ++ s2.data.toList = ss.data.toList := by rw [← hs1, ← hs2]; exact cut_cat ss
  obtain ⟨capA1, WA1, hcvA1⟩ := conv_any w5.drew s1 (by unfold maxLen; omega)
  obtain ⟨capA2, WA2, hcvA2⟩ := conv_any WA1 s2 (by unfold maxLen; omega)
  have hrA1 := hcvA1.run
  have hrA2 := hcvA2.run
  have hbA1 : Below w5.heap.size w5 WA1 := ((Below.refl w5.heap.size w5).drew).trans hcvA1.below
  have hbA2 : Below w5.heap.size w5 WA2 := hbA1.trans (hcvA2.below.mono hbA1.size)
  have hzA1 : WA1.heap.size = w5.heap.size + 1 := hcvA1.size
  have hzA2 := hcvA2.size
  have HSA1 : Hid ((fun w' => w'.cell? ⟨ob, 1, none⟩ = some (.string sa) ∧ w'.cell? ⟨ob, 3, none⟩ = some (.string ss)) WA1) := HSB.out WA1 ((hbA1.block ob HOL.out).trans HN.out)
  have HSA2 : Hid ((fun w' => w'.cell? ⟨ob, 1, none⟩ = some (.string sa) ∧ w'.cell? ⟨ob, 3, none⟩ = some (.string ss)) WA2) := HSB.out WA2 ((hbA2.block ob HOL.out).trans HN.out)
  have HSA4 : Hid ((fun w' => w'.cell? ⟨ob, 1, none⟩ = some (.string sa) ∧ w'.cell? ⟨ob, 3, none⟩ = some (.string ss)) (WA2.alloc (.cells #[.slice (some ⟨w5.drew.heap.size, 0, none⟩) s1.size capA1, .slice (some ⟨WA1.heap.size, 0, none⟩) s2.size capA2] 33))) := HSB.out _ (((hbA2.alloc hbA2.size _).block ob HOL.out).trans HN.out)
  have HCA : Hid (Calls Try.prog 26 #[.pointer (some ⟨d, 0, none⟩), .string sa, .slice (some ⟨WA2.heap.size, 0, none⟩) 2 2] (WA2.alloc (.cells #[.slice (some ⟨w5.drew.heap.size, 0, none⟩) s1.size capA1, .slice (some ⟨WA1.heap.size, 0, none⟩) s2.size capA2] 33)) fun e w' => e = .returned (.int .i64 ((p.append sa ss.data.toList).1 : Int)) ∧ ∃ D', Then base d w5 w' D D' ∧ pd D' = (p.append sa ss.data.toList).2 ∧ w'.heap[ob]? = some (.cells #[.int .i64 1, .string sa, .string sb, .string ss, .int .i64 sn, .slice pA pn pc] 44 (0, 0))) := by
    have h1 := HT.out.append2 HB5.out hbA2 sa s1 s2 (by have := HHO.out.a; simp only at this; omega) (w5.drew.heap.size) (WA1.heap.size) capA1 capA2 33 (by first | exact Nat.le_refl _ | omega | (show w5.heap.size ≤ w5.heap.size; omega)) (by first | exact Nat.le_refl _ | omega | (show w5.heap.size ≤ w5.heap.size; omega)) (by first | omega | (show w5.heap.size < _; omega)) (by first | omega | (show w5.heap.size < _; omega)) hcvA1.c1 hcvA1.c2 hcvA2.c1 hcvA2.c2
      (fun V hV => hcvA1.bs V (hV.trans (hcvA2.below.block _ (by show w5.heap.size < _; omega)))) (fun V hV => hcvA2.bs V hV)
    rw [hcat] at h1
    exact h1.mono fun e w' ⟨he, D', ht, hq⟩ => ⟨he, D', ht, hq, (ht.block HOL.out HOUT.out).trans HN.out⟩
  obtain ⟨capB1, WB1, hcvB1⟩ := conv_any w5.drew s2 (by unfold maxLen; omega)
  obtain ⟨capB2, WB2, hcvB2⟩ := conv_any WB1 s1 (by unfold maxLen; omega)
  have hrB1 := hcvB1.run
  have hrB2 := hcvB2.run
  have hbB1 : Below w5.heap.size w5 WB1 := ((Below.refl w5.heap.size w5).drew).trans hcvB1.below
  have hbB2 : Below w5.heap.size w5 WB2 := hbB1.trans (hcvB2.below.mono hbB1.size)
  have hzB1 : WB1.heap.size = w5.heap.size + 1 := hcvB1.size
  have hzB2 := hcvB2.size
  have HSB1 : Hid ((fun w' => w'.cell? ⟨ob, 1, none⟩ = some (.string sa) ∧ w'.cell? ⟨ob, 3, none⟩ = some (.string ss)) WB1) := HSB.out WB1 ((hbB1.block ob HOL.out).trans HN.out)
  have HSB2 : Hid ((fun w' => w'.cell? ⟨ob, 1, none⟩ = some (.string sa) ∧ w'.cell? ⟨ob, 3, none⟩ = some (.string ss)) WB2) := HSB.out WB2 ((hbB2.block ob HOL.out).trans HN.out)
  have HSB4 : Hid ((fun w' => w'.cell? ⟨ob, 1, none⟩ = some (.string sa) ∧ w'.cell? ⟨ob, 3, none⟩ = some (.string ss)) (WB2.alloc (.cells #[.slice (some ⟨WB1.heap.size, 0, none⟩) s1.size capB2, .slice (some ⟨w5.drew.heap.size, 0, none⟩) s2.size capB1] 33))) := HSB.out _ (((hbB2.alloc hbB2.size _).block ob HOL.out).trans HN.out)
  have HCB : Hid (Calls Try.prog 26 #[.pointer (some ⟨d, 0, none⟩), .string sa, .slice (some ⟨WB2.heap.size, 0, none⟩) 2 2] (WB2.alloc (.cells #[.slice (some ⟨WB1.heap.size, 0, none⟩) s1.size capB2, .slice (some ⟨w5.drew.heap.size, 0, none⟩) s2.size capB1] 33)) fun e w' => e = .returned (.int .i64 ((p.append sa ss.data.toList).1 : Int)) ∧ ∃ D', Then base d w5 w' D D' ∧ pd D' = (p.append sa ss.data.toList).2 ∧ w'.heap[ob]? = some (.cells #[.int .i64 1, .string sa, .string sb, .string ss, .int .i64 sn, .slice pA pn pc] 44 (0, 0))) := by
    have h1 := HT.out.append2 HB5.out hbB2 sa s1 s2 (by have := HHO.out.a; simp only at this; omega) (WB1.heap.size) (w5.drew.heap.size) capB2 capB1 33 (by first | exact Nat.le_refl _ | omega | (show w5.heap.size ≤ w5.heap.size; omega)) (by first | exact Nat.le_refl _ | omega | (show w5.heap.size ≤ w5.heap.size; omega)) (by first | omega | (show w5.heap.size < _; omega)) (by first | omega | (show w5.heap.size < _; omega)) hcvB2.c1 hcvB2.c2 hcvB1.c1 hcvB1.c2
      (fun V hV => hcvB2.bs V hV) (fun V hV => hcvB1.bs V (hV.trans (hcvB2.below.block _ (by show w5.heap.size < _; omega))))
    rw [hcat] at h1
    exact h1.mono fun e w' ⟨he, D', ht, hq⟩ => ⟨he, D', ht, hq, (ht.block HOL.out HOUT.out).trans HN.out⟩
  have HC2 : Hid (∀ V D', Then base d w5 V D D' → pd D' = (p.append sa ss.data.toList).2 → Calls Try.prog 41 #[.pointer (some ⟨r, 0, none⟩), .string sa, .string ss] V fun e w' => e = .returned (.int .i64 ((p.append sa ss.data.toList).1 : Int)) ∧ ∃ v', TS base w5 w' d r D v d r D' v' (p.append sa ss.data.toList).2 ∧ w'.heap[ob]? = some (.cells #[.int .i64 1, .string sa, .string sb, .string ss, .int .i64 sn, .slice pA pn pc] 44 (0, 0))) := fun V D' ht hq =>
    (HT.out.second HB5.out ht hq (Below.refl _ _) fun hr hb2 => rappend_any base r v p sa ss V hr HT.out.ok hb2 (by have := HHO.out.a; simp only at this; omega) (by omega)).mono fun e w' ⟨he, v', ts⟩ => ⟨he, v', ts, (ts.tu.block ob HOL.out (fun hm => (List.mem_append.1 hm).elim HOUT.out HOUR.out)).trans HN.out⟩
  have HXF := Lib.hid (fun w' D' v' (h1 : TS base w5 w' d r D v d r D' v' (p.append sa ss.data.toList).2) => HX.out w' d r D' v' (by rw [show opP p ⟨kd, sa, sb, ss, sn, pA, pn, pc, P⟩ = (p.append sa ss.data.toList).2 from opP01 (.inr hk)]; exact h1) (fun _ => ⟨rfl, rfl⟩))
  generalize p.append sa ss.data.toList = q at *
  obtain ⟨q1, q2⟩ := q
  simp only at HCA HCB HC2 HXF
  obtain ⟨kk, hkk⟩ : ∃ kk, ss.size / 2 = kk := ⟨_, rfl⟩
  rw [hkk] at hs1 hs2
  have hkl : kk ≤ ss.size := by omega
  have hkz : (kk : Int) ≤ (ss.size : Int) := by omega
  have etd : (ss.size : Int).tdiv 2 = (kk : Int) := by rw [← hkk]; rfl
  have ewd : IntKind.i64.wrap ((ss.size : Int).tdiv 2) = (kk : Int) := by rw [etd, IntKind.wrap_i64]; omega
  clear hcvA1 hcvA2 hcvB1 hcvB2 hbA1 hbA2 hbB1 hbB2 hzA1 hzA2 hzB1 hzB2 hcat hkk hz1 hz2
  go_enter Try.func18, Try.ntmps18
  go_upto_region 1 with fail
  rw [HW5.out]
  go_upto_region 5 with fail
  refine wp_region_held_drew (S := fun w' => w'.cell? ⟨ob, 1, none⟩ = some (.string sa) ∧ w'.cell? ⟨ob, 3, none⟩ = some (.string ss)) (by kernel_rfl) (HSB.out w5.drew HN.out) (fun hHeld => ?_)
  refine wpAnyH_take (i := 0) (oi := _) (v := ?d1u125v0) rfl (by kernel_rfl) (by kernel_rfl) (by kernel_rfl) (fun _ _ _ h => h) (Or.inl ⟨by rfl, ?d1u125y0⟩) hHeld ?d1u125r0
  case d1u125y0 => (intro w hSw; (try dsimp only at hSw); go_simp; (first | done | with_reducible rfl))
  case d1u125r0 =>
  (try simp only [Act.put, List.setIfInBounds_toArray, List.set_cons_zero, List.set_cons_succ, List.getElem_toArray, List.getElem_cons_succ, List.getElem_cons_zero])
  refine wpAnyH_take (i := 1) (oi := _) (v := ?d1u126v1) rfl (by kernel_rfl) (by kernel_rfl) (by kernel_rfl) (fun _ _ _ h => h) (Or.inl ⟨by rfl, ?d1u126y1⟩) hHeld ?d1u126r1
  case d1u126y1 => (intro w hSw; (try dsimp only at hSw); go_simp; (first | done | with_reducible rfl))
  case d1u126r1 =>
  (try simp only [Act.put, List.setIfInBounds_toArray, List.set_cons_zero, List.set_cons_succ, List.getElem_toArray, List.getElem_cons_succ, List.getElem_cons_zero])
  refine wpAnyH_take (i := 2) (oi := _) (v := ?d1u127v2) rfl (by kernel_rfl) (by kernel_rfl) (by kernel_rfl) (fun _ _ _ h => h) (Or.inl ⟨by rfl, ?d1u127y2⟩) hHeld ?d1u127r2
  case d1u127y2 => (intro w hSw; (try dsimp only at hSw); go_simp; (first | done | with_reducible rfl))
  case d1u127r2 =>
  (try simp only [Act.put, List.setIfInBounds_toArray, List.set_cons_zero, List.set_cons_succ, List.getElem_toArray, List.getElem_cons_succ, List.getElem_cons_zero])
  refine wpAnyH_take (i := 3) (oi := _) (v := ?d1u128v3) rfl (by kernel_rfl) (by kernel_rfl) (by kernel_rfl) (fun _ _ _ h => h) (Or.inl ⟨by rfl, ?d1u128y3⟩) hHeld ?d1u128r3
  case d1u128y3 => (intro w hSw; (try dsimp only at hSw); go_simp; (first | done | with_reducible rfl))
  case d1u128r3 =>
  (try simp only [Act.put, List.setIfInBounds_toArray, List.set_cons_zero, List.set_cons_succ, List.getElem_toArray, List.getElem_cons_succ, List.getElem_cons_zero])
  refine wpAnyH_take (i := 4) (oi := _) (v := ?d1u129v4) rfl (by kernel_rfl) (by kernel_rfl) (by kernel_rfl) (fun _ _ _ h => h) (Or.inl ⟨by rfl, ?d1u129y4⟩) hHeld ?d1u129r4
  case d1u129y4 => (intro w hSw; (try dsimp only at hSw); go_simp; (first | done | with_reducible rfl))
  case d1u129r4 =>
  (try simp only [Act.put, List.setIfInBounds_toArray, List.set_cons_zero, List.set_cons_succ, List.getElem_toArray, List.getElem_cons_succ, List.getElem_cons_zero])
  refine wpAnyH_take (i := 5) (oi := _) (v := ?d1u130v5) rfl (by kernel_rfl) (by kernel_rfl) (by kernel_rfl) (fun _ _ _ h => h) (Or.inl ⟨by rfl, ?d1u130y5⟩) hHeld ?d1u130r5
  case d1u130y5 => (intro w hSw; (try dsimp only at hSw); go_simp; (first | done | with_reducible rfl))
  case d1u130r5 =>
  (try simp only [Act.put, List.setIfInBounds_toArray, List.set_cons_zero, List.set_cons_succ, List.getElem_toArray, List.getElem_cons_succ, List.getElem_cons_zero])
  refine wpAnyH_take (i := 6) (oi := _) (v := ?d1u131v6) rfl (by kernel_rfl) (by kernel_rfl) (by kernel_rfl) (fun _ _ _ h => h) (Or.inl ⟨by rfl, ?d1u131y6⟩) hHeld ?d1u131r6
  case d1u131y6 => (intro w hSw; (try dsimp only at hSw); go_simp; (first | done | with_reducible rfl))
  case d1u131r6 =>
  (try simp only [Act.put, List.setIfInBounds_toArray, List.set_cons_zero, List.set_cons_succ, List.getElem_toArray, List.getElem_cons_succ, List.getElem_cons_zero])
  refine wpAnyH_take (i := 7) (oi := _) (v := ?d1u132v7) rfl (by kernel_rfl) (by kernel_rfl) (by kernel_rfl) (fun _ _ _ h => h) (Or.inl ⟨by rfl, ?d1u132y7⟩) hHeld ?d1u132r7
  case d1u132y7 => (intro w hSw; (try dsimp only at hSw); go_simp; (first | done | with_reducible rfl))
  case d1u132r7 =>
  (try simp only [Act.put, List.setIfInBounds_toArray, List.set_cons_zero, List.set_cons_succ, List.getElem_toArray, List.getElem_cons_succ, List.getElem_cons_zero])
  refine wpAnyH_take (i := 8) (oi := _) (v := ?d1u133v8) rfl (by kernel_rfl) (by kernel_rfl) (by kernel_rfl) (fun _ _ _ h => h) (Or.inl ⟨by rfl, ?d1u133y8⟩) hHeld ?d1u133r8
  case d1u133y8 => (intro w hSw; (try dsimp only at hSw); go_simp; (first | done | with_reducible rfl))
  case d1u133r8 =>
  (try simp only [Act.put, List.setIfInBounds_toArray, List.set_cons_zero, List.set_cons_succ, List.getElem_toArray, List.getElem_cons_succ, List.getElem_cons_zero])
  refine wpAnyH_take (i := 10) (oi := _) (v := ?d1u134v10) rfl (by kernel_rfl) (by kernel_rfl) (by kernel_rfl) (fun _ _ _ h => h) (Or.inl ⟨by rfl, ?d1u134y10⟩) hHeld ?d1u134r10
  case d1u134y10 => (intro w hSw; (try dsimp only at hSw); go_simp; (first | done | with_reducible rfl))
  case d1u134r10 =>
  (try simp only [Act.put, List.setIfInBounds_toArray, List.set_cons_zero, List.set_cons_succ, List.getElem_toArray, List.getElem_cons_succ, List.getElem_cons_zero])
  refine wpAnyH_take (i := 11) (oi := _) (v := ?d1u135v11) rfl (by kernel_rfl) (by kernel_rfl) (by kernel_rfl) (fun _ _ _ h => h) (Or.inl ⟨by rfl, ?d1u135y11⟩) hHeld ?d1u135r11
  case d1u135y11 => (intro w hSw; (try dsimp only at hSw); go_simp; (first | done | with_reducible rfl))
  case d1u135r11 =>
  (try simp only [Act.put, List.setIfInBounds_toArray, List.set_cons_zero, List.set_cons_succ, List.getElem_toArray, List.getElem_cons_succ, List.getElem_cons_zero])
  refine wpAnyH_take (i := 12) (oi := _) (v := ?d1u136v12) rfl (by kernel_rfl) (by kernel_rfl) (by kernel_rfl) (fun _ _ _ h => h) (Or.inl ⟨by rfl, ?d1u136y12⟩) hHeld ?d1u136r12
  case d1u136y12 => (intro w hSw; (try dsimp only at hSw); go_simp; (first | done | with_reducible rfl))
  case d1u136r12 =>
  (try simp only [Act.put, List.setIfInBounds_toArray, List.set_cons_zero, List.set_cons_succ, List.getElem_toArray, List.getElem_cons_succ, List.getElem_cons_zero])
  refine wpAnyH_take (i := 13) (oi := _) (v := ?d1u137v13) rfl (by kernel_rfl) (by kernel_rfl) (by kernel_rfl) (fun _ _ _ h => h) (Or.inl ⟨by rfl, ?d1u137y13⟩) hHeld ?d1u137r13
  case d1u137y13 => (intro w hSw; (try dsimp only at hSw); go_simp; (first | done | with_reducible rfl))
  case d1u137r13 =>
  (try simp only [Act.put, List.setIfInBounds_toArray, List.set_cons_zero, List.set_cons_succ, List.getElem_toArray, List.getElem_cons_succ, List.getElem_cons_zero])
  refine wpAnyH_take (i := 17) (oi := _) (v := ?d1u138v17) rfl (by kernel_rfl) (by kernel_rfl) (by kernel_rfl) (fun _ _ _ h => h) (Or.inl ⟨by rfl, ?d1u138y17⟩) hHeld ?d1u138r17
  case d1u138y17 => (intro w hSw; (try dsimp only at hSw); go_simp; (first | done | with_reducible rfl))
  case d1u138r17 =>
  (try simp only [Act.put, List.setIfInBounds_toArray, List.set_cons_zero, List.set_cons_succ, List.getElem_toArray, List.getElem_cons_succ, List.getElem_cons_zero])
  refine wpAnyH_take (i := 18) (oi := _) (v := ?d1u139v18) rfl (by kernel_rfl) (by kernel_rfl) (by kernel_rfl) (fun _ _ _ h => h) (Or.inl ⟨by rfl, ?d1u139y18⟩) hHeld ?d1u139r18
  case d1u139y18 => (intro w hSw; (try dsimp only at hSw); go_simp; (first | done | with_reducible rfl))
  case d1u139r18 =>
  (try simp only [Act.put, List.setIfInBounds_toArray, List.set_cons_zero, List.set_cons_succ, List.getElem_toArray, List.getElem_cons_succ, List.getElem_cons_zero])
  refine wpAnyH_take (i := 19) (oi := _) (v := ?d1u140v19) rfl (by kernel_rfl) (by kernel_rfl) (by kernel_rfl) (fun _ _ _ h => h) (Or.inl ⟨by rfl, ?d1u140y19⟩) hHeld ?d1u140r19
  case d1u140y19 => (intro w hSw; (try dsimp only at hSw); go_simp; (first | done | with_reducible rfl))
  case d1u140r19 =>
  (try simp only [Act.put, List.setIfInBounds_toArray, List.set_cons_zero, List.set_cons_succ, List.getElem_toArray, List.getElem_cons_succ, List.getElem_cons_zero])
  refine wpAnyH_take (i := 20) (oi := _) (v := ?d1u141v20) rfl (by kernel_rfl) (by kernel_rfl) (by kernel_rfl) (fun _ _ _ h => h) (Or.inl ⟨by rfl, ?d1u141y20⟩) hHeld ?d1u141r20
  case d1u141y20 => (intro w hSw; (try dsimp only at hSw); go_simp; (first | done | with_reducible rfl))
  case d1u141r20 =>
  (try simp only [Act.put, List.setIfInBounds_toArray, List.set_cons_zero, List.set_cons_succ, List.getElem_toArray, List.getElem_cons_succ, List.getElem_cons_zero])
  refine wpAnyH_take (i := 21) (oi := _) (v := ?d1u142v21) rfl (by kernel_rfl) (by kernel_rfl) (by kernel_rfl) (fun _ _ _ h => h) (Or.inl ⟨by rfl, ?d1u142y21⟩) hHeld ?d1u142r21
  case d1u142y21 => (intro w hSw; (try dsimp only at hSw); go_simp; (first | done | with_reducible rfl))
  case d1u142r21 =>
  (try simp only [Act.put, List.setIfInBounds_toArray, List.set_cons_zero, List.set_cons_succ, List.getElem_toArray, List.getElem_cons_succ, List.getElem_cons_zero])
  refine wpAnyH_ready (rs := [9, 14]) (by kernel_rfl) (by simp) ?_
  refine (AllReadyH.cons (o := _) rfl ?d1u143k9 (AllReadyH.cons (o := _) rfl ?d1u143k14 AllReadyH.nil))
  case d1u143k9 =>
    intro K hK
    go_simp
    go_wp2_with fail
    refine hK.out _ _ ?d1u143s9 (fun hNow => ?d1u143r9)
    case d1u143s9 => exact HSA1.out
    case d1u143r9 =>
    clear hK K hHeld
    have hHeld := hNow
    clear hNow
    (try simp only [Act.put, List.setIfInBounds_toArray, List.set_cons_zero, List.set_cons_succ, List.getElem_toArray, List.getElem_cons_succ, List.getElem_cons_zero])
    refine wpAnyH_ready (rs := [14]) (by kernel_rfl) (by simp) ?_
    refine (AllReadyH.cons (o := _) rfl ?d1u144k14 AllReadyH.nil)
    case d1u144k14 =>
    intro K hK
    go_simp
    go_wp2_with fail
    refine hK.out _ _ ?d1u144s14 (fun hNow => ?d1u144r14)
    case d1u144s14 => exact HSA2.out
    case d1u144r14 =>
    clear hK K hHeld
    have hHeld := hNow
    clear hNow
    (try simp only [Act.put, List.setIfInBounds_toArray, List.set_cons_zero, List.set_cons_succ, List.getElem_toArray, List.getElem_cons_succ, List.getElem_cons_zero])
    refine wpAnyH_ready (rs := [15]) (by kernel_rfl) (by simp) ?_
    refine (AllReadyH.cons (o := _) rfl ?d1u145k15 AllReadyH.nil)
    case d1u145k15 =>
    intro K hK
    go_simp
    go_wp2_with fail
    refine hK.out _ _ ?d1u145s15 (fun hNow => ?d1u145r15)
    case d1u145s15 => exact HSA4.out
    case d1u145r15 =>
    clear hK K hHeld
    have hHeld := hNow
    clear hNow
    (try simp only [Act.put, List.setIfInBounds_toArray, List.set_cons_zero, List.set_cons_succ, List.getElem_toArray, List.getElem_cons_succ, List.getElem_cons_zero])
    refine wpAnyH_ready (rs := [16]) (by kernel_rfl) (by simp) ?_
    refine (AllReadyH.cons (o := _) rfl ?d1u146k16 AllReadyH.nil)
    case d1u146k16 =>
    intro K hK
    go_simp
    (go_at_call 26; refine HCA.out.mono ?_; rintro e w1 ⟨rfl, D1, ht1, hq1, hx1⟩)
    go_wp2_with fail
    refine hK.out _ _ ?d1u146s16 (fun hNow => ?d1u146r16)
    case d1u146s16 => exact HSB.out w1 hx1
    case d1u146r16 =>
    clear hK K hHeld
    have hHeld := hNow
    clear hNow
    (try simp only [Act.put, List.setIfInBounds_toArray, List.set_cons_zero, List.set_cons_succ, List.getElem_toArray, List.getElem_cons_succ, List.getElem_cons_zero])
    refine wpAnyH_ready (rs := [22]) (by kernel_rfl) (by simp) ?_
    refine (AllReadyH.cons (o := _) rfl ?d1u147k22 AllReadyH.nil)
    case d1u147k22 =>
    intro K hK
    go_simp
    (go_at_call 41; refine (HC2.out w1 D1 ht1 hq1).mono ?_; rintro e w2 ⟨rfl, v2, ht2, hx2⟩)
    go_wp2_with fail
    refine hK.out _ _ ?d1u147s22 (fun hNow => ?d1u147r22)
    case d1u147s22 => exact HSB.out w2 hx2
    case d1u147r22 =>
    clear hK K hHeld
    have hHeld := hNow
    clear hNow
    (try simp only [Act.put, List.setIfInBounds_toArray, List.set_cons_zero, List.set_cons_succ, List.getElem_toArray, List.getElem_cons_succ, List.getElem_cons_zero])
    refine wpAnyH_take (i := 23) (oi := _) (v := ?d1u148v23) rfl (by kernel_rfl) (by kernel_rfl) (by kernel_rfl) (fun _ _ _ h => h) (Or.inl ⟨by rfl, ?d1u148y23⟩) hHeld ?d1u148r23
    case d1u148y23 => (intro w hSw; (try dsimp only at hSw); go_simp; (first | done | with_reducible rfl))
    case d1u148r23 =>
    (try simp only [Act.put, List.setIfInBounds_toArray, List.set_cons_zero, List.set_cons_succ, List.getElem_toArray, List.getElem_cons_succ, List.getElem_cons_zero])
    refine wpAnyH_take (i := 24) (oi := _) (v := ?d1u149v24) rfl (by kernel_rfl) (by kernel_rfl) (by kernel_rfl) (fun _ _ _ h => h) (Or.inl ⟨by rfl, ?d1u149y24⟩) hHeld ?d1u149r24
    case d1u149y24 => (intro w hSw; (try dsimp only at hSw); go_simp; (first | done | with_reducible rfl))
    case d1u149r24 =>
    (try simp only [Act.put, List.setIfInBounds_toArray, List.set_cons_zero, List.set_cons_succ, List.getElem_toArray, List.getElem_cons_succ, List.getElem_cons_zero])
    refine wpAnyH_take (i := 25) (oi := _) (v := ?d1u150v25) rfl (by kernel_rfl) (by kernel_rfl) (by kernel_rfl) (fun _ _ _ h => h) (Or.inl ⟨by rfl, ?d1u150y25⟩) hHeld ?d1u150r25
    case d1u150y25 => (intro w hSw; (try dsimp only at hSw); go_simp; (first | done | with_reducible rfl))
    case d1u150r25 =>
    (try simp only [Act.put, List.setIfInBounds_toArray, List.set_cons_zero, List.set_cons_succ, List.getElem_toArray, List.getElem_cons_succ, List.getElem_cons_zero])
    refine wpAnyH_take (i := 26) (oi := _) (v := ?d1u151v26) rfl (by kernel_rfl) (by kernel_rfl) (by kernel_rfl) (fun _ _ _ h => h) (Or.inl ⟨by rfl, ?d1u151y26⟩) hHeld ?d1u151r26
    case d1u151y26 => (intro w hSw; (try dsimp only at hSw); go_simp; (first | done | with_reducible rfl))
    case d1u151r26 =>
    (try simp only [Act.put, List.setIfInBounds_toArray, List.set_cons_zero, List.set_cons_succ, List.getElem_toArray, List.getElem_cons_succ, List.getElem_cons_zero])
    refine wpAnyH_done (by kernel_rfl) ?_ _
    go_wp2_with fail
    go_ret3
    exact HXF.out _ _ _ ht2
  case d1u143k14 =>
    intro K hK
    go_simp
    go_wp2_with fail
    refine hK.out _ _ ?d1u143s14 (fun hNow => ?d1u143r14)
    case d1u143s14 => exact HSB1.out
    case d1u143r14 =>
    clear hK K hHeld
    have hHeld := hNow
    clear hNow
    (try simp only [Act.put, List.setIfInBounds_toArray, List.set_cons_zero, List.set_cons_succ, List.getElem_toArray, List.getElem_cons_succ, List.getElem_cons_zero])
    refine wpAnyH_ready (rs := [9]) (by kernel_rfl) (by simp) ?_
    refine (AllReadyH.cons (o := _) rfl ?d1u152k9 AllReadyH.nil)
    case d1u152k9 =>
    intro K hK
    go_simp
    go_wp2_with fail
    refine hK.out _ _ ?d1u152s9 (fun hNow => ?d1u152r9)
    case d1u152s9 => exact HSB2.out
    case d1u152r9 =>
    clear hK K hHeld
    have hHeld := hNow
    clear hNow
    (try simp only [Act.put, List.setIfInBounds_toArray, List.set_cons_zero, List.set_cons_succ, List.getElem_toArray, List.getElem_cons_succ, List.getElem_cons_zero])
    refine wpAnyH_ready (rs := [15]) (by kernel_rfl) (by simp) ?_
    refine (AllReadyH.cons (o := _) rfl ?d1u153k15 AllReadyH.nil)
    case d1u153k15 =>
    intro K hK
    go_simp
    go_wp2_with fail
    refine hK.out _ _ ?d1u153s15 (fun hNow => ?d1u153r15)
    case d1u153s15 => exact HSB4.out
    case d1u153r15 =>
    clear hK K hHeld
    have hHeld := hNow
    clear hNow
    (try simp only [Act.put, List.setIfInBounds_toArray, List.set_cons_zero, List.set_cons_succ, List.getElem_toArray, List.getElem_cons_succ, List.getElem_cons_zero])
    refine wpAnyH_ready (rs := [16]) (by kernel_rfl) (by simp) ?_
    refine (AllReadyH.cons (o := _) rfl ?d1u154k16 AllReadyH.nil)
    case d1u154k16 =>
    intro K hK
    go_simp
    (go_at_call 26; refine HCB.out.mono ?_; rintro e w1 ⟨rfl, D1, ht1, hq1, hx1⟩)
    go_wp2_with fail
    refine hK.out _ _ ?d1u154s16 (fun hNow => ?d1u154r16)
    case d1u154s16 => exact HSB.out w1 hx1
    case d1u154r16 =>
    clear hK K hHeld
    have hHeld := hNow
    clear hNow
    (try simp only [Act.put, List.setIfInBounds_toArray, List.set_cons_zero, List.set_cons_succ, List.getElem_toArray, List.getElem_cons_succ, List.getElem_cons_zero])
    refine wpAnyH_ready (rs := [22]) (by kernel_rfl) (by simp) ?_
    refine (AllReadyH.cons (o := _) rfl ?d1u155k22 AllReadyH.nil)
    case d1u155k22 =>
    intro K hK
    go_simp
    (go_at_call 41; refine (HC2.out w1 D1 ht1 hq1).mono ?_; rintro e w2 ⟨rfl, v2, ht2, hx2⟩)
    go_wp2_with fail
    refine hK.out _ _ ?d1u155s22 (fun hNow => ?d1u155r22)
    case d1u155s22 => exact HSB.out w2 hx2
    case d1u155r22 =>
    clear hK K hHeld
    have hHeld := hNow
    clear hNow
    (try simp only [Act.put, List.setIfInBounds_toArray, List.set_cons_zero, List.set_cons_succ, List.getElem_toArray, List.getElem_cons_succ, List.getElem_cons_zero])
    refine wpAnyH_take (i := 23) (oi := _) (v := ?d1u156v23) rfl (by kernel_rfl) (by kernel_rfl) (by kernel_rfl) (fun _ _ _ h => h) (Or.inl ⟨by rfl, ?d1u156y23⟩) hHeld ?d1u156r23
    case d1u156y23 => (intro w hSw; (try dsimp only at hSw); go_simp; (first | done | with_reducible rfl))
    case d1u156r23 =>
    (try simp only [Act.put, List.setIfInBounds_toArray, List.set_cons_zero, List.set_cons_succ, List.getElem_toArray, List.getElem_cons_succ, List.getElem_cons_zero])
    refine wpAnyH_take (i := 24) (oi := _) (v := ?d1u157v24) rfl (by kernel_rfl) (by kernel_rfl) (by kernel_rfl) (fun _ _ _ h => h) (Or.inl ⟨by rfl, ?d1u157y24⟩) hHeld ?d1u157r24
    case d1u157y24 => (intro w hSw; (try dsimp only at hSw); go_simp; (first | done | with_reducible rfl))
    case d1u157r24 =>
    (try simp only [Act.put, List.setIfInBounds_toArray, List.set_cons_zero, List.set_cons_succ, List.getElem_toArray, List.getElem_cons_succ, List.getElem_cons_zero])
    refine wpAnyH_take (i := 25) (oi := _) (v := ?d1u158v25) rfl (by kernel_rfl) (by kernel_rfl) (by kernel_rfl) (fun _ _ _ h => h) (Or.inl ⟨by rfl, ?d1u158y25⟩) hHeld ?d1u158r25
    case d1u158y25 => (intro w hSw; (try dsimp only at hSw); go_simp; (first | done | with_reducible rfl))
    case d1u158r25 =>
    (try simp only [Act.put, List.setIfInBounds_toArray, List.set_cons_zero, List.set_cons_succ, List.getElem_toArray, List.getElem_cons_succ, List.getElem_cons_zero])
    refine wpAnyH_take (i := 26) (oi := _) (v := ?d1u159v26) rfl (by kernel_rfl) (by kernel_rfl) (by kernel_rfl) (fun _ _ _ h => h) (Or.inl ⟨by rfl, ?d1u159y26⟩) hHeld ?d1u159r26
    case d1u159y26 => (intro w hSw; (try dsimp only at hSw); go_simp; (first | done | with_reducible rfl))
    case d1u159r26 =>
    (try simp only [Act.put, List.setIfInBounds_toArray, List.set_cons_zero, List.set_cons_succ, List.getElem_toArray, List.getElem_cons_succ, List.getElem_cons_zero])
    refine wpAnyH_done (by kernel_rfl) ?_ _
    go_wp2_with fail
    go_ret3
    exact HXF.out _ _ _ ht2
end Go.Proofs.Ytebkgcnldbkgeaa
