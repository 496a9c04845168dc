/-
  What rec.Next does.
  What rec.sameOwner does.
  What rec.follows does.
-/
import Derived.Test.YtkdpfajoeajenaaRecV
import Derived.Test.YtkdpfajoeajenaaRecPo
namespace Go.Proofs.Ytkdpfajoeajenaa
open Go.RowKit
set_option linter.unusedVariables false
set_option linter.unusedSimpArgs false

def nextI (b : Bat) : Int := if validE b = 0 then b.base + spanI b else 0
theorem span_bd (b : Bat) (h : b.L.length ≤ 64) : 0 ≤ spanI b ∧ spanI b ≤ 64 := by unfold spanI; split <;> omega
set_option maxRecDepth 100000 in
set_option maxHeartbeats 4000000 in
theorem next_any (b : Bat) (A : Option Addr) (c B : Nat) (w : World) (hL : Rcs w B A b.L.length b.L) (hB : B ≤ w.heap.size) (hl : b.L.length ≤ maxLen) :
    Calls Try.prog 15 #[.agg (b.cells A c)] w fun e w' => e = .returned (.int .i64 (nextI b)) ∧ Below w.heap.size w w' := by
  have HVA : Hid (∀ W, Below w.heap.size w W → Calls Try.prog 10 #[.agg (b.cells A c)] W fun e w' => e = .returned (.int .i64 (validE b)) ∧ Below W.heap.size W w') := fun W h => valid_any b A c B W (hL.below (h.mono hB)) (Nat.le_trans hB h.size) hl
  have HSP : Hid (∀ W, Calls Try.prog 43 #[.agg (b.cells A c)] W fun e w' => e = .returned (.int .i64 (spanI b)) ∧ Below W.heap.size W w') := fun W => span_any b A c W
  have HX : Hid (nextI b = if validE b = 0 then b.base + spanI b else 0) := rfl
  have HF : Hid (validE b = 0 → 0 ≤ b.base ∧ b.base ≤ 1099511627776 ∧ 0 ≤ spanI b ∧ spanI b ≤ 64) := fun h => by
    have hF := (fine_iff b).1 h
    exact ⟨hF.b1, hF.b2, span_bd b hF.len⟩
  generalize nextI b = N at *
  generalize validE b = V at *
  obtain ⟨base, pid, epoch, seq, kind, time, L⟩ := b
  unfold Bat.cells at *
  simp only at *
  generalize spanI _ = sp at *
  clear hL
  have hB0 := (Below.refl w.heap.size w).alloc (Nat.le_refl _) (.cells #[.int .i64 base, .int .i64 pid, .int .i64 epoch, .int .i64 seq, .int .i64 kind, .int .i64 time, .slice A L.length c] 24)
  have hk0 := heap_alloc_new w (.cells #[.int .i64 base, .int .i64 pid, .int .i64 epoch, .int .i64 seq, .int .i64 kind, .int .i64 time, .slice A L.length c] 24)
  have hzz : w.heap.size < (w.alloc (.cells #[.int .i64 base, .int .i64 pid, .int .i64 epoch, .int .i64 seq, .int .i64 kind, .int .i64 time, .slice A L.length c] 24)).heap.size := by simp
  obtain ⟨w1, hw1⟩ : ∃ w1, w.alloc (.cells #[.int .i64 base, .int .i64 pid, .int .i64 epoch, .int .i64 seq, .int .i64 kind, .int .i64 time, .slice A L.length c] 24) = w1 := ⟨_, rfl⟩
  rw [hw1] at hB0 hk0 hzz
  have HW1 := Lib.hid hw1
  have HB0 := Lib.hid hB0
  have HK0 := Lib.hid hk0
  clear hw1 hB0 hk0
  go_enter Try.func15, Try.ntmps15
  go_wp2_with fail
  rw [HW1.out]
  refine (HVA.out _ HB0.out).mono ?_
  rintro e w2 ⟨rfl, hb2⟩
  have hB2 := HB0.out.trans (hb2.mono HB0.out.size)
  have hkk := (hb2.block w.heap.size hzz).trans HK0.out
  have c0 : w2.cell? ⟨w.heap.size, 0, none⟩ = some (.int .i64 base) := cell_of_row _ _ 0 _ _ _ hkk
  have c1 : w2.cell? ⟨w.heap.size, 1, none⟩ = some (.int .i64 pid) := cell_of_row _ _ 1 _ _ _ hkk
  have c2 : w2.cell? ⟨w.heap.size, 2, none⟩ = some (.int .i64 epoch) := cell_of_row _ _ 2 _ _ _ hkk
  have c3 : w2.cell? ⟨w.heap.size, 3, none⟩ = some (.int .i64 seq) := cell_of_row _ _ 3 _ _ _ hkk
  have c4 : w2.cell? ⟨w.heap.size, 4, none⟩ = some (.int .i64 kind) := cell_of_row _ _ 4 _ _ _ hkk
  have c5 : w2.cell? ⟨w.heap.size, 5, none⟩ = some (.int .i64 time) := cell_of_row _ _ 5 _ _ _ hkk
  have c6 : w2.cell? ⟨w.heap.size, 6, none⟩ = some (.slice A L.length c) := cell_of_row _ _ 6 _ _ _ hkk
  rcases Bool.eq_false_or_eq_true (V != 0) with hv | hv
  · have hv' : V ≠ 0 := by simpa using hv
    have HN : Hid (N = 0) := by show _ = _; rw [HX.out, if_neg hv']
    clear hv' HX HF
    go_wp2_with fail
    go_ret
    exact ⟨by rw [HN.out]; rfl, hB2⟩
  · have hv' : V = 0 := by simpa using hv
    obtain ⟨q1, q2, q3, q4⟩ := HF.out hv'
    have HN : Hid (N = base + sp) := by show _ = _; rw [HX.out, if_pos hv']
    clear hv' HX HF
    have ew1 : IntKind.i64.wrap (base + sp) = base + sp := IntWalk.i64_in _ (by omega)
    have HSQ : Hid (∀ d os, Calls Try.prog 43 #[.agg #[.int .i64 base, .int .i64 pid, .int .i64 epoch, .int .i64 seq, .int .i64 kind, .int .i64 time, .slice A L.length c]] (Sort.grow (redrawn w2 d) os) fun e w'' => e = .returned (.int .i64 sp) ∧ ∃ p : Regrown, w'' = Sort.grow (redrawn w2 p.d) p.os) := fun d os => Calls.regrown_of (HSP.out _)
    have g0 := cell_regrown c0
    have g1 := cell_regrown c1
    have g2 := cell_regrown c2
    have g3 := cell_regrown c3
    have g4 := cell_regrown c4
    have g5 := cell_regrown c5
    have g6 := cell_regrown c6
    go_wp2_with fail
    refine wp_region_quiet_below (by kernel_rfl) (by kernel_rfl) ?_
    repeat (go_big_quiet_step (exact HSQ.out _ _))
    refine wpQuiet_nil ?_
    intro _ hw'
    obtain ⟨⟨dq, osq⟩, hw''⟩ := hw'
    subst hw''
    clear ew1
    go_wp2_with fail
    go_ret
    exact ⟨by rw [HN.out]; rfl, hB2.trans ((below_regrown w2 dq osq).mono hB2.size)⟩

end Go.Proofs.Ytkdpfajoeajenaa
namespace Go.Proofs.Ytkdpfajoeajenaa
open Go.RowKit
set_option linter.unusedVariables false
set_option linter.unusedSimpArgs false
set_option maxRecDepth 100000 in
set_option maxHeartbeats 4000000 in
theorem ownerB_any (o : Bool) (a b : Bat) (A1 A2 : Option Addr) (c1 c2 : Nat) (w : World) (ho : o = true ↔ a.kind = b.kind ∧ a.pid = b.pid ∧ a.epoch = b.epoch ∧ a.time = b.time) :
    Calls Try.prog 75 #[.agg (a.cells A1 c1), .agg (b.cells A2 c2)] w fun e w' => e = .returned (.bool o) ∧ Below w.heap.size w w' := by
  obtain ⟨b1, p1, e1, s1, k1, t1, L1⟩ := a
  obtain ⟨b2, p2, e2, s2, k2, t2, L2⟩ := b
  unfold Bat.cells
  simp only at *
  have HO := Lib.hid ho
  clear ho
  by_cases x4 : k1 = k2
  rotate_left
  · have y4 : (k1 == k2) = false := by rw [beq_eq_false_iff_ne]; exact x4
    have HR : Hid (o = false) := by
      show _ = _
      cases o with
      | false => rfl
      | true => have := HO.out.1 rfl; exact absurd this.1 x4
    clear x4
    clear HO
    go_enter Try.func75, Try.ntmps75
    go_wp2_with fail
    go_ret
    exact ⟨by rw [HR.out]; rfl, ((Below.refl _ _).alloc (Nat.le_refl _) _).alloc (by simp) _⟩
  have y4 : (k1 == k2) = true := by rw [beq_iff_eq]; exact x4
  by_cases x1 : p1 = p2
  rotate_left
  · have y1 : (p1 == p2) = false := by rw [beq_eq_false_iff_ne]; exact x1
    have HR : Hid (o = false) := by
      show _ = _
      cases o with
      | false => rfl
      | true => have := HO.out.1 rfl; exact absurd this.2.1 x1
    clear x4 x1
    clear HO
    go_enter Try.func75, Try.ntmps75
    go_wp2_with fail
    go_ret
    exact ⟨by rw [HR.out]; rfl, ((Below.refl _ _).alloc (Nat.le_refl _) _).alloc (by simp) _⟩
  have y1 : (p1 == p2) = true := by rw [beq_iff_eq]; exact x1
  by_cases x2 : e1 = e2
  rotate_left
  · have y2 : (e1 == e2) = false := by rw [beq_eq_false_iff_ne]; exact x2
    have HR : Hid (o = false) := by
      show _ = _
      cases o with
      | false => rfl
      | true => have := HO.out.1 rfl; exact absurd this.2.2.1 x2
    clear x4 x1 x2
    clear HO
    go_enter Try.func75, Try.ntmps75
    go_wp2_with fail
    go_ret
    exact ⟨by rw [HR.out]; rfl, ((Below.refl _ _).alloc (Nat.le_refl _) _).alloc (by simp) _⟩
  have y2 : (e1 == e2) = true := by rw [beq_iff_eq]; exact x2
  by_cases x5 : t1 = t2
  rotate_left
  · have y5 : (t1 == t2) = false := by rw [beq_eq_false_iff_ne]; exact x5
    have HR : Hid (o = false) := by
      show _ = _
      cases o with
      | false => rfl
      | true => have := HO.out.1 rfl; exact absurd this.2.2.2 x5
    clear x4 x1 x2 x5
    clear HO
    go_enter Try.func75, Try.ntmps75
    go_wp2_with fail
    go_ret
    exact ⟨by rw [HR.out]; rfl, ((Below.refl _ _).alloc (Nat.le_refl _) _).alloc (by simp) _⟩
  have y5 : (t1 == t2) = true := by rw [beq_iff_eq]; exact x5
  have HR : Hid (o = true) := by
    show _ = _
    exact HO.out.2 ⟨x4, x1, x2, x5⟩
  clear x4 x1 x2 x5
  clear HO
  go_enter Try.func75, Try.ntmps75
  go_wp2_with fail
  go_ret
  exact ⟨by rw [HR.out]; rfl, ((Below.refl _ _).alloc (Nat.le_refl _) _).alloc (by simp) _⟩

end Go.Proofs.Ytkdpfajoeajenaa
namespace Go.Proofs.Ytkdpfajoeajenaa
open Go.RowKit
set_option linter.unusedVariables false
set_option linter.unusedSimpArgs false

def ownP (a b : Bat) : Prop := a.kind = b.kind ∧ a.pid = b.pid ∧ a.epoch = b.epoch ∧ a.time = b.time
instance (a b : Bat) : Decidable (ownP a b) := by unfold ownP; infer_instance
/-- b stands to a as a part stands to the part ahead of it -/
def folB (a b : Bat) : Bool := !markB a && decide (ownP a b) && decide (b.base = nextI a) && (decide (a.pid = 0) || decide (b.seq = a.seq + (a.L.length : Int)))
set_option maxRecDepth 100000 in
set_option maxHeartbeats 8000000 in
theorem follows_any (a b : Bat) (A1 A2 : Option Addr) (c1 c2 B : Nat) (w : World) (hL : Rcs w B A1 a.L.length a.L) (hB : B ≤ w.heap.size) (hF : Fine a) :
    Calls Try.prog 42 #[.agg (a.cells A1 c1), .agg (b.cells A2 c2)] w fun e w' => e = .returned (.bool (folB a b)) ∧ Below w.heap.size w w' := by
  have HMK : Hid (∀ W, Calls Try.prog 28 #[.agg (a.cells A1 c1)] W fun e w' => e = .returned (.bool (markB a)) ∧ Below W.heap.size W w') := fun W => marker_any a A1 c1 W
  have HOW : Hid (∀ W, Calls Try.prog 75 #[.agg (a.cells A1 c1), .agg (b.cells A2 c2)] W fun e w' => e = .returned (.bool (decide (ownP a b))) ∧ Below W.heap.size W w') := fun W => ownerB_any _ a b A1 A2 c1 c2 W (by unfold ownP; exact decide_eq_true_iff)
  have HNX : Hid (∀ W, Below w.heap.size w W → Calls Try.prog 15 #[.agg (a.cells A1 c1)] W fun e w' => e = .returned (.int .i64 (nextI a)) ∧ Below W.heap.size W w') := fun W h => next_any a A1 c1 B W (hL.below (h.mono hB)) (Nat.le_trans hB h.size) (by have := hF.len; unfold maxLen; omega)
  have HFB : Hid (folB a b = (!markB a && decide (ownP a b) && decide (b.base = nextI a) && (decide (a.pid = 0) || decide (b.seq = a.seq + (a.L.length : Int))))) := rfl
  have hs1 := hF.s1
  have hs2 := hF.s2
  have hln := hF.len
  generalize folB a b = FO at *
  generalize markB a = MK at *
  generalize decide (ownP a b) = OW at *
  generalize nextI a = NX at *
  obtain ⟨b1, p1, e1, s1, k1, t1, L1⟩ := a
  obtain ⟨b2, p2, e2, s2, k2, t2, L2⟩ := b
  simp only [Bat.cells] at *
  have hB0 : Below w.heap.size w ((w.alloc (.cells #[.int .i64 b1, .int .i64 p1, .int .i64 e1, .int .i64 s1, .int .i64 k1, .int .i64 t1, .slice A1 L1.length c1] 24)).alloc (.cells #[.int .i64 b2, .int .i64 p2, .int .i64 e2, .int .i64 s2, .int .i64 k2, .int .i64 t2, .slice A2 L2.length c2] 24)) := ((Below.refl _ _).alloc (Nat.le_refl _) _).alloc (by simp) _
  have k1' : ((w.alloc (.cells #[.int .i64 b1, .int .i64 p1, .int .i64 e1, .int .i64 s1, .int .i64 k1, .int .i64 t1, .slice A1 L1.length c1] 24)).alloc (.cells #[.int .i64 b2, .int .i64 p2, .int .i64 e2, .int .i64 s2, .int .i64 k2, .int .i64 t2, .slice A2 L2.length c2] 24)).heap[w.heap.size]? = some (.cells #[.int .i64 b1, .int .i64 p1, .int .i64 e1, .int .i64 s1, .int .i64 k1, .int .i64 t1, .slice A1 L1.length c1] 24 (0, 0)) := by
    rw [← heap_alloc_new w (.cells #[.int .i64 b1, .int .i64 p1, .int .i64 e1, .int .i64 s1, .int .i64 k1, .int .i64 t1, .slice A1 L1.length c1] 24)]
    exact ((Below.refl (w.heap.size + 1) _).alloc (by simp) _).block w.heap.size (by omega)
  have k2' : ((w.alloc (.cells #[.int .i64 b1, .int .i64 p1, .int .i64 e1, .int .i64 s1, .int .i64 k1, .int .i64 t1, .slice A1 L1.length c1] 24)).alloc (.cells #[.int .i64 b2, .int .i64 p2, .int .i64 e2, .int .i64 s2, .int .i64 k2, .int .i64 t2, .slice A2 L2.length c2] 24)).heap[w.heap.size + 1]? = some (.cells #[.int .i64 b2, .int .i64 p2, .int .i64 e2, .int .i64 s2, .int .i64 k2, .int .i64 t2, .slice A2 L2.length c2] 24 (0, 0)) := by
    have h := heap_alloc_new (w.alloc (.cells #[.int .i64 b1, .int .i64 p1, .int .i64 e1, .int .i64 s1, .int .i64 k1, .int .i64 t1, .slice A1 L1.length c1] 24)) (.cells #[.int .i64 b2, .int .i64 p2, .int .i64 e2, .int .i64 s2, .int .i64 k2, .int .i64 t2, .slice A2 L2.length c2] 24)
    rw [show (w.alloc (.cells #[.int .i64 b1, .int .i64 p1, .int .i64 e1, .int .i64 s1, .int .i64 k1, .int .i64 t1, .slice A1 L1.length c1] 24)).heap.size = w.heap.size + 1 from by simp] at h
    exact h
  generalize hW0 : (w.alloc (.cells #[.int .i64 b1, .int .i64 p1, .int .i64 e1, .int .i64 s1, .int .i64 k1, .int .i64 t1, .slice A1 L1.length c1] 24)).alloc (.cells #[.int .i64 b2, .int .i64 p2, .int .i64 e2, .int .i64 s2, .int .i64 k2, .int .i64 t2, .slice A2 L2.length c2] 24) = W0 at *
  have y0 := cell_of_row _ _ 0 _ _ _ k1'
  have z0 := cell_of_row _ _ 0 _ _ _ k2'
  have gy0 := cell_regrown y0
  have gz0 := cell_regrown z0
  have y1 := cell_of_row _ _ 1 _ _ _ k1'
  have z1 := cell_of_row _ _ 1 _ _ _ k2'
  have gy1 := cell_regrown y1
  have gz1 := cell_regrown z1
  have y2 := cell_of_row _ _ 2 _ _ _ k1'
  have z2 := cell_of_row _ _ 2 _ _ _ k2'
  have gy2 := cell_regrown y2
  have gz2 := cell_regrown z2
  have y3 := cell_of_row _ _ 3 _ _ _ k1'
  have z3 := cell_of_row _ _ 3 _ _ _ k2'
  have gy3 := cell_regrown y3
  have gz3 := cell_regrown z3
  have y4 := cell_of_row _ _ 4 _ _ _ k1'
  have z4 := cell_of_row _ _ 4 _ _ _ k2'
  have gy4 := cell_regrown y4
  have gz4 := cell_regrown z4
  have y5 := cell_of_row _ _ 5 _ _ _ k1'
  have z5 := cell_of_row _ _ 5 _ _ _ k2'
  have gy5 := cell_regrown y5
  have gz5 := cell_regrown z5
  have y6 := cell_of_row _ _ 6 _ _ _ k1'
  have z6 := cell_of_row _ _ 6 _ _ _ k2'
  have gy6 := cell_regrown y6
  have gz6 := cell_regrown z6
  have HW0 := Lib.hid hW0
  have HB := Lib.hid hB0
  have HQ1 : Hid (∀ d os, Calls Try.prog 28 #[.agg #[.int .i64 b1, .int .i64 p1, .int .i64 e1, .int .i64 s1, .int .i64 k1, .int .i64 t1, .slice A1 L1.length c1]] (Sort.grow (redrawn W0 d) os) fun e w'' => e = .returned (.bool MK) ∧ ∃ p : Regrown, w'' = Sort.grow (redrawn W0 p.d) p.os) := fun d os => Calls.regrown_of (HMK.out _)
  have HQ2 : Hid (∀ d os, Calls Try.prog 75 #[.agg #[.int .i64 b1, .int .i64 p1, .int .i64 e1, .int .i64 s1, .int .i64 k1, .int .i64 t1, .slice A1 L1.length c1], .agg #[.int .i64 b2, .int .i64 p2, .int .i64 e2, .int .i64 s2, .int .i64 k2, .int .i64 t2, .slice A2 L2.length c2]] (Sort.grow (redrawn W0 d) os) fun e w'' => e = .returned (.bool OW) ∧ ∃ p : Regrown, w'' = Sort.grow (redrawn W0 p.d) p.os) := fun d os => Calls.regrown_of (HOW.out _)
  have HQ3 : Hid (∀ d os, Calls Try.prog 15 #[.agg #[.int .i64 b1, .int .i64 p1, .int .i64 e1, .int .i64 s1, .int .i64 k1, .int .i64 t1, .slice A1 L1.length c1]] (Sort.grow (redrawn W0 d) os) fun e w'' => e = .returned (.int .i64 NX) ∧ ∃ p : Regrown, w'' = Sort.grow (redrawn W0 p.d) p.os) := fun d os => Calls.regrown_of (HNX.out _ (hB0.trans ((below_regrown W0 d os).mono hB0.size)))
  clear hL hB0 k1' k2' hW0 hF HMK HOW HNX
  go_enter Try.func42, Try.ntmps42
  go_upto_region 1 with fail
  rw [HW0.out]
  cases MK with
  | true =>
    have HF : Hid (FO = false) := by show _ = _; rw [HFB.out]; rfl
    go_wp2_with fail
    refine wp_region_quiet_below (by kernel_rfl) (by kernel_rfl) ?_
    repeat (go_big_quiet_step (first | exact HQ1.out _ _ | exact HQ2.out _ _ | exact HQ3.out _ _))
    refine wpQuiet_nil ?_
    intro _ hw'
    obtain ⟨⟨dq, osq⟩, hw''⟩ := hw'
    subst hw''
    go_wp2_with fail
    go_ret
    exact ⟨by rw [HF.out]; rfl, HB.out.trans ((below_regrown W0 dq osq).mono HB.out.size)⟩
  | false =>
    cases OW with
    | false =>
      have HF : Hid (FO = false) := by show _ = _; rw [HFB.out]; rfl
      go_wp2_with fail
      refine wp_region_quiet_below (by kernel_rfl) (by kernel_rfl) ?_
      repeat (go_big_quiet_step (first | exact HQ1.out _ _ | exact HQ2.out _ _ | exact HQ3.out _ _))
      refine wpQuiet_nil ?_
      intro _ hw'
      obtain ⟨⟨dq, osq⟩, hw''⟩ := hw'
      subst hw''
      go_wp2_with fail
      go_ret
      exact ⟨by rw [HF.out]; rfl, HB.out.trans ((below_regrown W0 dq osq).mono HB.out.size)⟩
    | true =>
      by_cases hb : b2 = NX
      · have hb' : (b2 != NX) = false := by simp [hb]
        by_cases hp : p1 = 0
        · have hp' : (p1 == 0) = true := by simp [hp]
          have HF : Hid (FO = true) := by show _ = _; rw [HFB.out, decide_eq_true hb, decide_eq_true hp]; rfl
          clear hb hp
          go_wp2_with fail
          refine wp_region_quiet_below (by kernel_rfl) (by kernel_rfl) ?_
          repeat (go_big_quiet_step (first | exact HQ1.out _ _ | exact HQ2.out _ _ | exact HQ3.out _ _))
          refine wpQuiet_nil ?_
          intro _ hw'
          obtain ⟨⟨dq, osq⟩, hw''⟩ := hw'
          subst hw''
          go_wp2_with fail
          go_ret
          exact ⟨by rw [HF.out]; rfl, HB.out.trans ((below_regrown W0 dq osq).mono HB.out.size)⟩
        · have hp' : (p1 == 0) = false := by simp [hp]
          by_cases hs : s2 = s1 + (L1.length : Int)
          · have hs' : (s2 == s1 + (L1.length : Int)) = true := by simp [hs]
            have HF : Hid (FO = true) := by show _ = _; rw [HFB.out, decide_eq_true hb, decide_eq_true hs]; simp
            clear hb hp hs
            go_wp2_with fail
            refine wp_region_quiet_below (by kernel_rfl) (by kernel_rfl) ?_
            repeat (go_big_quiet_step (first | exact HQ1.out _ _ | exact HQ2.out _ _ | exact HQ3.out _ _))
            refine wpQuiet_nil ?_
            intro _ hw'
            obtain ⟨⟨dq, osq⟩, hw''⟩ := hw'
            subst hw''
            go_wp2_with fail
            go_ret
            exact ⟨by rw [HF.out]; rfl, HB.out.trans ((below_regrown W0 dq osq).mono HB.out.size)⟩
          · have hs' : (s2 == s1 + (L1.length : Int)) = false := by simp [hs]
            have HF : Hid (FO = false) := by show _ = _; rw [HFB.out, decide_eq_false hs, decide_eq_false hp]; simp
            clear hb hp hs
            go_wp2_with fail
            refine wp_region_quiet_below (by kernel_rfl) (by kernel_rfl) ?_
            repeat (go_big_quiet_step (first | exact HQ1.out _ _ | exact HQ2.out _ _ | exact HQ3.out _ _))
            refine wpQuiet_nil ?_
            intro _ hw'
            obtain ⟨⟨dq, osq⟩, hw''⟩ := hw'
            subst hw''
            go_wp2_with fail
            go_ret
            exact ⟨by rw [HF.out]; rfl, HB.out.trans ((below_regrown W0 dq osq).mono HB.out.size)⟩
      · have hb' : (b2 != NX) = true := by simp [hb]
        have HF : Hid (FO = false) := by show _ = _; rw [HFB.out, decide_eq_false hb]; simp
        clear hb
        go_wp2_with fail
        refine wp_region_quiet_below (by kernel_rfl) (by kernel_rfl) ?_
        repeat (go_big_quiet_step (first | exact HQ1.out _ _ | exact HQ2.out _ _ | exact HQ3.out _ _))
        refine wpQuiet_nil ?_
        intro _ hw'
        obtain ⟨⟨dq, osq⟩, hw''⟩ := hw'
        subst hw''
        go_wp2_with fail
        go_ret
        exact ⟨by rw [HF.out]; rfl, HB.out.trans ((below_regrown W0 dq osq).mono HB.out.size)⟩
end Go.Proofs.Ytkdpfajoeajenaa
