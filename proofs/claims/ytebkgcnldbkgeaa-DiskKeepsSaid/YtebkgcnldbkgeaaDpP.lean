/-
  Calls of a disk and of the document's, one behind the other: law 4's step.
-/
import Derived.Test.YtebkgcnldbkgeaaDpO
namespace Go.Proofs.Ytebkgcnldbkgeaa
open Go.RowKit Go.Lib Go.Sort Go.Maps
set_option linter.unusedVariables false
set_option linter.unusedSimpArgs false

/-- a call as law 4 has it: its cells, and the numbers of its slice -/
structure O4 where
  kd : Int
  a : ByteArray
  b : ByteArray
  s : ByteArray
  n : Int
  pA : Option Addr
  pn : Nat
  pc : Nat
  P : List Int
instance : Inhabited O4 := ⟨⟨0, ⟨#[]⟩, ⟨#[]⟩, ⟨#[]⟩, 0, none, 0, 0, []⟩⟩
def O4.cells (o : O4) : List Value := [.int .i64 o.kd, .string o.a, .string o.b, .string o.s, .int .i64 o.n, .slice o.pA o.pn o.pc]
structure O4.Ok (o : O4) (w : World) : Prop where
  isd : Isd w w.heap.size o.pA o.pn o.P
  a : o.a.size ≤ 1000
  b : o.b.size ≤ 1000
  s : o.s.size ≤ 1000
  n1 : -9223372036854775808 ≤ o.n
  n2 : o.n ≤ 9223372036854775807
  pn : o.pn ≤ 1000
theorem Isd.wider {w : World} {B B' n : Nat} {A : Option Addr} {L : List Int} (h : Isd w B A n L) (hB : B ≤ B') : Isd w B' A n L :=
  ⟨h.len, fun k hk => by obtain ⟨p, e, h1, h2⟩ := h.row k hk; exact ⟨p, e, Nat.lt_of_lt_of_le h1 hB, h2⟩⟩
theorem O4.Ok.below {o : O4} {w w' : World} (h : o.Ok w) (hb : Below w.heap.size w w') : o.Ok w' := ⟨(h.isd.below hb).wider hb.size, h.a, h.b, h.s, h.n1, h.n2, h.pn⟩
/-- the data behind a call -/
def opP (p : PD) (o : O4) : PD :=
  if o.kd = 0 ∨ o.kd = 1 then (p.append o.a o.s.data.toList).2
  else if o.kd = 2 then (p.sync [o.a]).2
  else if o.kd = 3 then (p.syncA).2
  else if o.kd = 4 then (p.cut o.a o.n).2
  else if o.kd = 5 then (p.rename o.a o.b).2
  else if o.kd = 6 then (p.remove o.a).2
  else if o.kd = 7 then (if o.n < 0 ∨ 4194304 < o.n then p else { p with room := o.n })
  else if o.kd = 8 then p.fuse o.n
  else if o.kd = 9 then p.crash o.P
  else p
theorem opP01 {p : PD} {o : O4} (h : o.kd = 0 ∨ o.kd = 1) : opP p o = (p.append o.a o.s.data.toList).2 := by unfold opP; rw [if_pos h]
theorem opP2 {p : PD} {o : O4} (h : o.kd = 2) : opP p o = (p.sync [o.a]).2 := by unfold opP; rw [h]; rfl
theorem opP3 {p : PD} {o : O4} (h : o.kd = 3) : opP p o = (p.syncA).2 := by unfold opP; rw [h]; rfl
theorem opP4 {p : PD} {o : O4} (h : o.kd = 4) : opP p o = (p.cut o.a o.n).2 := by unfold opP; rw [h]; rfl
theorem opP5 {p : PD} {o : O4} (h : o.kd = 5) : opP p o = (p.rename o.a o.b).2 := by unfold opP; rw [h]; rfl
theorem opP6 {p : PD} {o : O4} (h : o.kd = 6) : opP p o = (p.remove o.a).2 := by unfold opP; rw [h]; rfl
theorem opP7 {p : PD} {o : O4} (h : o.kd = 7) : opP p o = (if o.n < 0 ∨ 4194304 < o.n then p else { p with room := o.n }) := by unfold opP; rw [h]; rfl
theorem opP8 {p : PD} {o : O4} (h : o.kd = 8) : opP p o = p.fuse o.n := by unfold opP; rw [h]; rfl
theorem opP9 {p : PD} {o : O4} (h : o.kd = 9) : opP p o = p.crash o.P := by unfold opP; rw [h]; rfl
theorem opPx {p : PD} {o : O4} (h : o.kd < 0 ∨ 9 < o.kd) : opP p o = p := by
  unfold opP
  rw [if_neg (by omega), if_neg (by omega), if_neg (by omega), if_neg (by omega), if_neg (by omega), if_neg (by omega), if_neg (by omega), if_neg (by omega), if_neg (by omega)]
/-- what step answers -/
def SP (base : Nat) (w : World) (d r : Nat) (D : Dsk) (v : Value) (p : PD) (o : O4) (e : Ending) (w' : World) : Prop :=
  ∃ d' r' D' v', e = .returned (.tuple #[.pointer (some ⟨d', 0, none⟩), .pointer (some ⟨r', 0, none⟩), .bool true]) ∧ TS base w w' d r D v d' r' D' v' (opP p o) ∧ (o.kd ≠ 9 → d' = d ∧ r' = r)
theorem six_cells {w : World} {g : Nat} {x0 x1 x2 x3 x4 x5 : Value} {T : TypeId} {z : Nat × Nat} (h : w.heap[g]? = some (.cells #[x0, x1, x2, x3, x4, x5] T z)) :
    w.cell? ⟨g, 0, none⟩ = some x0 ∧ w.cell? ⟨g, 1, none⟩ = some x1 ∧ w.cell? ⟨g, 2, none⟩ = some x2 ∧ w.cell? ⟨g, 3, none⟩ = some x3 ∧ w.cell? ⟨g, 4, none⟩ = some x4 ∧ w.cell? ⟨g, 5, none⟩ = some x5 :=
  ⟨cell_of_row _ _ 0 _ _ _ h, cell_of_row _ _ 1 _ _ _ h, cell_of_row _ _ 2 _ _ _ h, cell_of_row _ _ 3 _ _ _ h, cell_of_row _ _ 4 _ _ _ h, cell_of_row _ _ 5 _ _ _ h⟩
section
variable {w W W1 W2 : World} {base base' d r : Nat} {D D' : Dsk} {v v' : Value} {p p' : PD}
theorem TD.dk_rt (h : TD W base d r D v p) (hr : RT base r W W1 v v' p') : Dk W1 base d D := h.dk.keep fun k hk => hr.tu.block k (h.dk.lt k hk) (h.sep k hk)
/-- the document's call ahead of the program's -/
theorem TD.two' (h : TD W base d r D v p) (hr : RT base r W W1 v v' p') (ht : Then base d W1 W2 D D') (hp : pd D' = p') : TS base W W2 d r D v d r D' v' p' := by
  have hs1 : ∀ k ∈ D.foot d, k ∉ rfoot r v' := fun k hk h2 => (hr.foot k h2).elim (fun h3 => h.sep k hk h3) (fun h3 => by have := h.dk.lt k hk; omega)
  have hsz := hr.tu.size
  refine ⟨⟨ht.dk, hp, hr.rk.keep fun k hk => ht.block (hr.rk.lt k hk) fun h2 => hs1 k h2 hk, fun k hk h2 => ?_⟩, ?_, fun k hk => ?_⟩
  · rcases ht.ft k hk with h3 | h3
    · exact hs1 k h3 h2
    · have := hr.rk.lt k h2; omega
  · exact (hr.tu.mono fun k hk => List.mem_append.2 (.inr hk)).trans ht.tu fun k hk => .inl (List.mem_append.2 (.inl hk))
  · rcases List.mem_append.1 hk with hk | hk
    · exact (ht.ft k hk).imp (fun h2 => List.mem_append.2 (.inl h2)) (fun h2 => Nat.le_trans hsz h2)
    · exact (hr.foot k hk).imp (fun h2 => List.mem_append.2 (.inr h2)) id
theorem Dk.lower (h : Dk w base d D) (hb : base' ≤ base) : Dk w base' d D :=
  ⟨Nat.le_trans hb h.bd, h.blk, h.mp0, fun m hm => ⟨Nat.le_trans hb (h.mp1 m hm).1, (h.mp1 m hm).2⟩, fun f hf => ⟨Nat.le_trans hb (h.fl f hf).bf, (h.fl f hf).blk, row_baseF (h.fl f hf).row hb, (h.fl f hf).kept, (h.fl f hf).name⟩, h.nd, h.r1, h.r2, h.l1, h.l2, h.len, h.tot⟩
theorem Rk.lower (h : Rk w base r v p) (hb : base' ≤ base) : Rk w base' r v p := ⟨Nat.le_trans hb h.br, h.blk, row_baseF h.row hb⟩
end
set_option maxRecDepth 100000 in
set_option maxHeartbeats 16000000 in
theorem step3_any (base d r : Nat) (D : Dsk) (v : Value) (p : PD) (o : O4) (w : World) (h : TD w base d r D v p) (hb : base ≤ w.heap.size) (ho : o.Ok w) (hk : o.kd = 3) :
    Calls Try.prog 18 #[.pointer (some ⟨d, 0, none⟩), .pointer (some ⟨r, 0, none⟩), .agg #[.int .i64 3, .string o.a, .string o.b, .string o.s, .int .i64 o.n, .slice o.pA o.pn o.pc]] w (SP base w d r D v p o) := by
  obtain ⟨X, hX⟩ : ∃ X : Ending → World → Prop, SP base w d r D v p o = X := ⟨_, rfl⟩
  have hal := (Below.refl w.heap.size w).alloc (Nat.le_refl _) (.cells #[.int .i64 3, .string o.a, .string o.b, .string o.s, .int .i64 o.n, .slice o.pA o.pn o.pc] 44)
  have hN0 := heap_alloc_new w (.cells #[.int .i64 3, .string o.a, .string o.b, .string o.s, .int .i64 o.n, .slice o.pA o.pn o.pc] 44)
  obtain ⟨w5, hw5⟩ : ∃ w5, w.alloc (.cells #[.int .i64 3, .string o.a, .string o.b, .string o.s, .int .i64 o.n, .slice o.pA o.pn o.pc] 44) = w5 := ⟨_, rfl⟩
  rw [hw5] at hal hN0
  have HX : Hid (∀ w' d' r' D' v', TS base w5 w' d r D v d' r' D' v' (opP p o) → (o.kd ≠ 9 → d' = d ∧ r' = r) → X (.returned (.tuple #[.pointer (some ⟨d', 0, none⟩), .pointer (some ⟨r', 0, none⟩), .bool true])) w') := fun w' d' r' D' v' h1 h2 => by rw [← hX]; exact ⟨d', r', D', v', rfl, (TS.of_below h hal).trans h1, h2⟩
  rw [hX]
  have HT := Lib.hid (h.below hal (Nat.le_refl _))
  have hol : w.heap.size < w5.heap.size := (Array.getElem?_eq_some_iff.1 hN0).1
  have HB5 : Hid (base ≤ w5.heap.size) := Nat.le_trans hb hal.size
  have HOUT : Hid (w.heap.size ∉ D.foot d) := fun h2 => by have := h.dk.lt _ h2; omega
  have HOUR : Hid (w.heap.size ∉ rfoot r v) := fun h2 => by have := h.rk.lt _ h2; omega
  have HHO := Lib.hid (ho.below hal)
  have HW5 := Lib.hid hw5
  obtain ⟨ob, hob⟩ : ∃ ob, w.heap.size = ob := ⟨_, rfl⟩
  rw [hob] at hN0 hol HOUT HOUR
  have HN := Lib.hid hN0
  have HOL := Lib.hid hol
  obtain ⟨b0, b1, b2, b3, b4, b5⟩ := six_cells hN0
  have hfd := HT.out.rk.free 0
  clear hX h hb ho hw5 hal hN0
  obtain ⟨kd, sa, sb, ss, sn, pA, pn, pc, P⟩ := o
  simp only at b0 b1 b2 b3 b4 b5 HX HN HHO HW5 ⊢
  have HC1 : Hid (∀ V, Below w5.heap.size w5 V → Calls Try.prog 14 #[.pointer (some ⟨d, 0, none⟩), .slice none 0 0] V fun e w' => e = .returned (.int .i64 ((p.syncA).1 : Int)) ∧ ∃ D', Then base d w5 w' D D' ∧ pd D' = (p.syncA).2) := fun V hV => by
    have h1 := syncA_pd base d D none 0 V (HT.out.dk.below hV (Nat.le_refl _))
    rw [HT.out.pe] at h1
    exact h1.mono fun e w' ⟨D', he, ht, hq⟩ => ⟨he, D', (Then.of_below HT.out.dk hV).trans ht, hq⟩
  have HC2 : Hid (∀ V D', Then base d w5 V D D' → pd D' = (p.syncA).2 → Calls Try.prog 42 #[.pointer (some ⟨r, 0, none⟩), .slice none 0 0] V fun e w' => e = .returned (.int .i64 ((p.syncA).1 : Int)) ∧ ∃ v', TS base w5 w' d r D v d r D' v' (p.syncA).2) := fun V D' ht hq =>
    HT.out.second HB5.out ht hq (Below.refl _ _) fun hr hb2 => by
      have h1 := rsync_any base r v p none 0 0 [] V hr HT.out.ok hb2 (by decide) ⟨rfl, fun k hk => by omega⟩
      rw [syncR_nil] at h1
      exact h1
  have HXF := Lib.hid (fun w' D' v' (h1 : TS base w5 w' d r D v d r D' v' (p.syncA).2) => HX.out w' d r D' v' (by rw [show opP p ⟨kd, sa, sb, ss, sn, pA, pn, pc, P⟩ = (p.syncA).2 from opP3 hk]; exact h1) (fun _ => ⟨rfl, rfl⟩))
  generalize p.syncA = q at *
  obtain ⟨q1, q2⟩ := q
  simp only at HC1 HC2 HXF
  go_enter Try.func18, Try.ntmps18
  go_upto_region 1 with fail
  rw [HW5.out]
  go_wp2_with (first
    | (go_at_call 42; (with_reducible refine (HC2.out _ _ ht1 hq1).mono ?_); rintro e w2 ⟨rfl, v2, ht2⟩)
    | (go_at_call 14; (with_reducible refine (HC1.out _ (Below.refl _ _)).mono ?_); rintro e w1 ⟨rfl, D1, ht1, hq1⟩))
  go_ret3
  exact HXF.out _ _ _ ht2

set_option maxRecDepth 100000 in
set_option maxHeartbeats 16000000 in
theorem step7_any (base d r : Nat) (D : Dsk) (v : Value) (p : PD) (o : O4) (w : World) (h : TD w base d r D v p) (hb : base ≤ w.heap.size) (ho : o.Ok w) (hk : o.kd = 7) :
    Calls Try.prog 18 #[.pointer (some ⟨d, 0, none⟩), .pointer (some ⟨r, 0, none⟩), .agg #[.int .i64 7, .string o.a, .string o.b, .string o.s, .int .i64 o.n, .slice o.pA o.pn o.pc]] w (SP base w d r D v p o) := by
  obtain ⟨X, hX⟩ : ∃ X : Ending → World → Prop, SP base w d r D v p o = X := ⟨_, rfl⟩
  have hal := (Below.refl w.heap.size w).alloc (Nat.le_refl _) (.cells #[.int .i64 7, .string o.a, .string o.b, .string o.s, .int .i64 o.n, .slice o.pA o.pn o.pc] 44)
  have hN0 := heap_alloc_new w (.cells #[.int .i64 7, .string o.a, .string o.b, .string o.s, .int .i64 o.n, .slice o.pA o.pn o.pc] 44)
  obtain ⟨w5, hw5⟩ : ∃ w5, w.alloc (.cells #[.int .i64 7, .string o.a, .string o.b, .string o.s, .int .i64 o.n, .slice o.pA o.pn o.pc] 44) = w5 := ⟨_, rfl⟩
  rw [hw5] at hal hN0
  have HX : Hid (∀ w' d' r' D' v', TS base w5 w' d r D v d' r' D' v' (opP p o) → (o.kd ≠ 9 → d' = d ∧ r' = r) → X (.returned (.tuple #[.pointer (some ⟨d', 0, none⟩), .pointer (some ⟨r', 0, none⟩), .bool true])) w') := fun w' d' r' D' v' h1 h2 => by rw [← hX]; exact ⟨d', r', D', v', rfl, (TS.of_below h hal).trans h1, h2⟩
  rw [hX]
  have HT := Lib.hid (h.below hal (Nat.le_refl _))
  have hol : w.heap.size < w5.heap.size := (Array.getElem?_eq_some_iff.1 hN0).1
  have HB5 : Hid (base ≤ w5.heap.size) := Nat.le_trans hb hal.size
  have HOUT : Hid (w.heap.size ∉ D.foot d) := fun h2 => by have := h.dk.lt _ h2; omega
  have HOUR : Hid (w.heap.size ∉ rfoot r v) := fun h2 => by have := h.rk.lt _ h2; omega
  have HHO := Lib.hid (ho.below hal)
  have HW5 := Lib.hid hw5
  obtain ⟨ob, hob⟩ : ∃ ob, w.heap.size = ob := ⟨_, rfl⟩
  rw [hob] at hN0 hol HOUT HOUR
  have HN := Lib.hid hN0
  have HOL := Lib.hid hol
  obtain ⟨b0, b1, b2, b3, b4, b5⟩ := six_cells hN0
  have hfd := HT.out.rk.free 0
  clear hX h hb ho hw5 hal hN0
  obtain ⟨kd, sa, sb, ss, sn, pA, pn, pc, P⟩ := o
  simp only at b0 b1 b2 b3 b4 b5 HX HN HHO HW5 ⊢
  have HR : Hid (∀ V D1, Dk V base d D1 → Calls Try.prog 40 #[.pointer (some ⟨d, 0, none⟩), .int .i64 sn] V fun e w' => e = .returned (.int .i64 (if sn < 0 ∨ 4194304 < sn then 2 else 0)) ∧ Then base d V w' D1 (if sn < 0 ∨ 4194304 < sn then D1 else { D1 with room := sn })) := fun V D1 hD => (room_any base d D1 sn V hD).mono fun e w' ⟨he, hd, ht⟩ => ⟨he, hd, ht.mono (fun k hk => by rw [List.mem_singleton] at hk; subst hk; exact foot_d), fun k hk => .inl (by split at hk <;> exact hk)⟩
  have hop : opP p ⟨kd, sa, sb, ss, sn, pA, pn, pc, P⟩ = (if sn < 0 ∨ 4194304 < sn then p else { p with room := sn }) := opP7 hk
  by_cases h1 : sn < 0 ∨ 4194304 < sn
  · simp only [if_pos h1] at HR hop
    have HXF := Lib.hid (fun w' (h2 : Then base d w5 w' D D) => HX.out w' d r D v (by rw [hop]; exact HT.out.two h2 (RT.refl (HT.out.rk_then h2)) HT.out.pe) (fun _ => ⟨rfl, rfl⟩))
    have HRR := Lib.hid (HR.out w5 D HT.out.dk)
    rcases h1 with h1 | h1
    · have d1 : decide (sn < 0) = true := decide_eq_true h1
      clear h1 hop HR
      go_enter Try.func18, Try.ntmps18
      go_upto_region 1 with fail
      rw [HW5.out]
      go_wp2_with (go_at_call 40; (with_reducible refine HRR.out.mono ?_); rintro e w1 ⟨rfl, ht1⟩)
      go_ret3
      exact HXF.out _ ht1
    · have d1 : decide (sn < 0) = false := by rw [decide_eq_false_iff_not]; omega
      have d2 : decide (4194304 < sn) = true := decide_eq_true h1
      clear h1 hop HR
      go_enter Try.func18, Try.ntmps18
      go_upto_region 1 with fail
      rw [HW5.out]
      go_wp2_with (go_at_call 40; (with_reducible refine HRR.out.mono ?_); rintro e w1 ⟨rfl, ht1⟩)
      go_ret3
      exact HXF.out _ ht1
  · simp only [if_neg h1] at HR hop
    have d1 : decide (sn < 0) = false := by rw [decide_eq_false_iff_not]; omega
    have d2 : decide (4194304 < sn) = false := by rw [decide_eq_false_iff_not]; omega
    have hrk := HT.out.rk
    have c0 := hrk.c0
    have f0 := hrk.free 0
    have hb2 : (w5.setCell ⟨r, 0, none⟩ (.int .i64 sn)).heap[r]? = some (.cells #[.int .i64 sn, v, .int .i64 p.lf, .bool p.burnt] 78 (0, 0)) := by rw [heap_setCell_same w5 r 0 _ _ _ hrk.blk]; rfl
    have hrt : RT base r w5 (w5.setCell ⟨r, 0, none⟩ (.int .i64 sn)) v v { p with room := sn } := Rk.own hrk hb2 rfl rfl rfl rfl (by simp) (fun k hk hne => Below.heap_setCell _ _ _ k (fun e => hne e))
    obtain ⟨w6, hw6⟩ : ∃ w6, w5.setCell ⟨r, 0, none⟩ (.int .i64 sn) = w6 := ⟨_, rfl⟩
    rw [hw6] at hrt
    have HW6 := Lib.hid hw6
    have hdk6 : Dk w6 base d D := HT.out.dk_rt hrt
    have HN6 : Hid (w6.heap[ob]? = some (.cells #[.int .i64 7, .string sa, .string sb, .string ss, .int .i64 sn, .slice pA pn pc] 44 (0, 0))) := (hrt.keeps HOL.out HOUR.out).trans HN.out
    have HRR := Lib.hid (HR.out w6 D hdk6)
    have HXF := Lib.hid (fun w' D' (h2 : Then base d w6 w' D D') (h3 : pd D' = { p with room := sn }) => HX.out w' d r D' v (by rw [hop]; exact HT.out.two' hrt h2 h3) (fun _ => ⟨rfl, rfl⟩))
    have HPD : Hid (pd { D with room := sn } = { p with room := sn }) := by show _ = _; rw [← HT.out.pe]; rfl
    clear h1 hop HR hrk hb2 hw6 hrt hdk6
    go_enter Try.func18, Try.ntmps18
    go_upto_region 1 with fail
    rw [HW5.out]
    go_upto_region 21 with fail
    rw [HW6.out]
    clear b0 b1 b2 b3 b4 b5 c0 f0
    obtain ⟨b0, b1, b2, b3, b4, b5⟩ := six_cells HN6.out
    go_wp2_with (go_at_call 40; (with_reducible refine HRR.out.mono ?_); rintro e w1 ⟨rfl, ht1⟩)
    go_ret3
    exact HXF.out _ _ ht1 HPD.out

set_option maxRecDepth 100000 in
set_option maxHeartbeats 16000000 in
theorem step8_any (base d r : Nat) (D : Dsk) (v : Value) (p : PD) (o : O4) (w : World) (h : TD w base d r D v p) (hb : base ≤ w.heap.size) (ho : o.Ok w) (hk : o.kd = 8) :
    Calls Try.prog 18 #[.pointer (some ⟨d, 0, none⟩), .pointer (some ⟨r, 0, none⟩), .agg #[.int .i64 8, .string o.a, .string o.b, .string o.s, .int .i64 o.n, .slice o.pA o.pn o.pc]] w (SP base w d r D v p o) := by
  obtain ⟨X, hX⟩ : ∃ X : Ending → World → Prop, SP base w d r D v p o = X := ⟨_, rfl⟩
  have hal := (Below.refl w.heap.size w).alloc (Nat.le_refl _) (.cells #[.int .i64 8, .string o.a, .string o.b, .string o.s, .int .i64 o.n, .slice o.pA o.pn o.pc] 44)
  have hN0 := heap_alloc_new w (.cells #[.int .i64 8, .string o.a, .string o.b, .string o.s, .int .i64 o.n, .slice o.pA o.pn o.pc] 44)
  obtain ⟨w5, hw5⟩ : ∃ w5, w.alloc (.cells #[.int .i64 8, .string o.a, .string o.b, .string o.s, .int .i64 o.n, .slice o.pA o.pn o.pc] 44) = w5 := ⟨_, rfl⟩
  rw [hw5] at hal hN0
  have HX : Hid (∀ w' d' r' D' v', TS base w5 w' d r D v d' r' D' v' (opP p o) → (o.kd ≠ 9 → d' = d ∧ r' = r) → X (.returned (.tuple #[.pointer (some ⟨d', 0, none⟩), .pointer (some ⟨r', 0, none⟩), .bool true])) w') := fun w' d' r' D' v' h1 h2 => by rw [← hX]; exact ⟨d', r', D', v', rfl, (TS.of_below h hal).trans h1, h2⟩
  rw [hX]
  have HT := Lib.hid (h.below hal (Nat.le_refl _))
  have hol : w.heap.size < w5.heap.size := (Array.getElem?_eq_some_iff.1 hN0).1
  have HB5 : Hid (base ≤ w5.heap.size) := Nat.le_trans hb hal.size
  have HOUT : Hid (w.heap.size ∉ D.foot d) := fun h2 => by have := h.dk.lt _ h2; omega
  have HOUR : Hid (w.heap.size ∉ rfoot r v) := fun h2 => by have := h.rk.lt _ h2; omega
  have HHO := Lib.hid (ho.below hal)
  have HW5 := Lib.hid hw5
  obtain ⟨ob, hob⟩ : ∃ ob, w.heap.size = ob := ⟨_, rfl⟩
  rw [hob] at hN0 hol HOUT HOUR
  have HN := Lib.hid hN0
  have HOL := Lib.hid hol
  obtain ⟨b0, b1, b2, b3, b4, b5⟩ := six_cells hN0
  have hfd := HT.out.rk.free 0
  clear hX h hb ho hw5 hal hN0
  obtain ⟨kd, sa, sb, ss, sn, pA, pn, pc, P⟩ := o
  simp only at b0 b1 b2 b3 b4 b5 HX HN HHO HW5 ⊢
  have HC1 : Hid (Calls Try.prog 27 #[.pointer (some ⟨d, 0, none⟩), .int .i64 sn] w5 fun e w' => e = .returned (.tuple #[]) ∧ ∃ D', Then base d w5 w' D D' ∧ pd D' = p.fuse sn ∧ w'.heap[ob]? = some (.cells #[.int .i64 8, .string sa, .string sb, .string ss, .int .i64 sn, .slice pA pn pc] 44 (0, 0))) := by
    have h1 := fuse_pd base d D sn w5 HT.out.dk HHO.out.n2
    rw [HT.out.pe] at h1
    exact h1.mono fun e w' ⟨D', he, ht, hq⟩ => ⟨he, D', ht, hq, (ht.block HOL.out HOUT.out).trans HN.out⟩
  have HC2 : Hid (∀ V D', Then base d w5 V D D' → pd D' = p.fuse sn → Calls Try.prog 49 #[.pointer (some ⟨r, 0, none⟩), .int .i64 sn] V fun e w' => e = .returned (.tuple #[]) ∧ TS base w5 w' d r D v d r D' v (p.fuse sn)) := fun V D' ht hq =>
    (rfuse_any base r v p sn V (HT.out.rk_then ht)).mono fun e w' ⟨he, hr⟩ => ⟨he, HT.out.two ht hr hq⟩
  have HXF := Lib.hid (fun w' D' v' (h1 : TS base w5 w' d r D v d r D' v' (p.fuse sn)) => HX.out w' d r D' v' (by rw [show opP p ⟨kd, sa, sb, ss, sn, pA, pn, pc, P⟩ = p.fuse sn from opP8 hk]; exact h1) (fun _ => ⟨rfl, rfl⟩))
  generalize p.fuse sn = q at *
  go_enter Try.func18, Try.ntmps18
  go_upto_region 1 with fail
  rw [HW5.out]
  go_wp2_with (first
    | (go_at_call 49; (with_reducible refine (HC2.out _ _ ht1 hq1).mono ?_); rintro e w2 ⟨rfl, ht2⟩)
    | (go_at_call 27; (with_reducible refine HC1.out.mono ?_); rintro e w1 ⟨rfl, D1, ht1, hq1, hx1⟩; obtain ⟨e0, e1, e2, e3, e4, e5⟩ := six_cells hx1))
  go_ret3
  exact HXF.out _ _ _ ht2

set_option maxRecDepth 100000 in
set_option maxHeartbeats 16000000 in
theorem stepx_any (base d r : Nat) (D : Dsk) (v : Value) (p : PD) (o : O4) (w : World) (h : TD w base d r D v p) (hb : base ≤ w.heap.size) (ho : o.Ok w) (hk : o.kd < 0 ∨ 9 < o.kd) :
    Calls Try.prog 18 #[.pointer (some ⟨d, 0, none⟩), .pointer (some ⟨r, 0, none⟩), .agg #[.int .i64 o.kd, .string o.a, .string o.b, .string o.s, .int .i64 o.n, .slice o.pA o.pn o.pc]] w (SP base w d r D v p o) := by
  obtain ⟨X, hX⟩ : ∃ X : Ending → World → Prop, SP base w d r D v p o = X := ⟨_, rfl⟩
  have hal := (Below.refl w.heap.size w).alloc (Nat.le_refl _) (.cells #[.int .i64 o.kd, .string o.a, .string o.b, .string o.s, .int .i64 o.n, .slice o.pA o.pn o.pc] 44)
  have hN0 := heap_alloc_new w (.cells #[.int .i64 o.kd, .string o.a, .string o.b, .string o.s, .int .i64 o.n, .slice o.pA o.pn o.pc] 44)
  obtain ⟨w5, hw5⟩ : ∃ w5, w.alloc (.cells #[.int .i64 o.kd, .string o.a, .string o.b, .string o.s, .int .i64 o.n, .slice o.pA o.pn o.pc] 44) = w5 := ⟨_, rfl⟩
  rw [hw5] at hal hN0
  have HX : Hid (∀ w' d' r' D' v', TS base w5 w' d r D v d' r' D' v' (opP p o) → (o.kd ≠ 9 → d' = d ∧ r' = r) → X (.returned (.tuple #[.pointer (some ⟨d', 0, none⟩), .pointer (some ⟨r', 0, none⟩), .bool true])) w') := fun w' d' r' D' v' h1 h2 => by rw [← hX]; exact ⟨d', r', D', v', rfl, (TS.of_below h hal).trans h1, h2⟩
  rw [hX]
  have HT := Lib.hid (h.below hal (Nat.le_refl _))
  have hol : w.heap.size < w5.heap.size := (Array.getElem?_eq_some_iff.1 hN0).1
  have HB5 : Hid (base ≤ w5.heap.size) := Nat.le_trans hb hal.size
  have HOUT : Hid (w.heap.size ∉ D.foot d) := fun h2 => by have := h.dk.lt _ h2; omega
  have HOUR : Hid (w.heap.size ∉ rfoot r v) := fun h2 => by have := h.rk.lt _ h2; omega
  have HHO := Lib.hid (ho.below hal)
  have HW5 := Lib.hid hw5
  obtain ⟨ob, hob⟩ : ∃ ob, w.heap.size = ob := ⟨_, rfl⟩
  rw [hob] at hN0 hol HOUT HOUR
  have HN := Lib.hid hN0
  have HOL := Lib.hid hol
  obtain ⟨b0, b1, b2, b3, b4, b5⟩ := six_cells hN0
  have hfd := HT.out.rk.free 0
  clear hX h hb ho hw5 hal hN0
  obtain ⟨kd, sa, sb, ss, sn, pA, pn, pc, P⟩ := o
  simp only at b0 b1 b2 b3 b4 b5 HX HN HHO HW5 ⊢
  have HXF := Lib.hid (HX.out w5 d r D v (by rw [show opP p ⟨kd, sa, sb, ss, sn, pA, pn, pc, P⟩ = p from opPx hk]; exact TS.of_below HT.out (Below.refl _ _)) (fun _ => ⟨rfl, rfl⟩))
  simp only at hk
  have d0 : (kd == 0) = false := by rw [beq_eq_false_iff_ne]; omega
  have d1 : (kd == 1) = false := by rw [beq_eq_false_iff_ne]; omega
  have d2 : (kd == 2) = false := by rw [beq_eq_false_iff_ne]; omega
  have d3 : (kd == 3) = false := by rw [beq_eq_false_iff_ne]; omega
  have d4 : (kd == 4) = false := by rw [beq_eq_false_iff_ne]; omega
  have d5 : (kd == 5) = false := by rw [beq_eq_false_iff_ne]; omega
  have d6 : (kd == 6) = false := by rw [beq_eq_false_iff_ne]; omega
  have d7 : (kd == 7) = false := by rw [beq_eq_false_iff_ne]; omega
  have d8 : (kd == 8) = false := by rw [beq_eq_false_iff_ne]; omega
  have d9 : (kd == 9) = false := by rw [beq_eq_false_iff_ne]; omega
  clear hk
  go_enter Try.func18, Try.ntmps18
  go_upto_region 1 with fail
  rw [HW5.out]
  go_wp2_with fail
  go_ret3
  exact HXF.out
end Go.Proofs.Ytebkgcnldbkgeaa
