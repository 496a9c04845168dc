/-
  What rec.sameOwner, rec.Same and towpathref03.Same do.
-/
import Derived.Test.YtfiagnkdembkaaaRecQ
namespace Go.Proofs.Ytfiagnkdembkaaa
open Go.RowKit
set_option linter.unusedVariables false
set_option linter.unusedSimpArgs false

theorem bool_of (p : Prop) : ∃ o : Bool, o = true ↔ p := by
  by_cases h : p
  · exact ⟨true, fun _ => h, fun _ => rfl⟩
  · exact ⟨false, fun e => (by cases e), fun e => absurd e h⟩
set_option maxRecDepth 100000 in
set_option maxHeartbeats 4000000 in
theorem owner_any (o : Bool) (a b : Bat) (A1 A2 : Option Addr) (c1 c2 : Nat) (w : World) (ho : o = true ↔ a.kind = b.kind ∧ a.pid = b.pid ∧ a.epoch = b.epoch ∧ a.time = b.time) :
    Calls Try.prog 103 #[.agg (a.cells A1 c1), .agg (b.cells A2 c2)] w fun e w' => e = .returned (.bool o) ∧ Below w.heap.size w w' := by
  obtain ⟨b1, p1, e1, s1, k1, t1, L1⟩ := a
  obtain ⟨b2, p2, e2, s2, k2, t2, L2⟩ := b
  unfold Bat.cells
  simp only at *
  have HO := Lib.hid ho
  clear ho
  by_cases x4 : k1 = k2
  rotate_left
  · have y4 : (k1 == k2) = false := by rw [beq_eq_false_iff_ne]; exact x4
    have HR : Hid (o = false) := by
      show _ = _
      cases o with
      | false => rfl
      | true => have := HO.out.1 rfl; exact absurd this.1 x4
    clear x4
    clear HO
    go_enter Try.func103, Try.ntmps103
    go_wp2_with fail
    go_ret
    exact ⟨by rw [HR.out]; rfl, ((Below.refl _ _).alloc (Nat.le_refl _) _).alloc (by simp) _⟩
  have y4 : (k1 == k2) = true := by rw [beq_iff_eq]; exact x4
  by_cases x1 : p1 = p2
  rotate_left
  · have y1 : (p1 == p2) = false := by rw [beq_eq_false_iff_ne]; exact x1
    have HR : Hid (o = false) := by
      show _ = _
      cases o with
      | false => rfl
      | true => have := HO.out.1 rfl; exact absurd this.2.1 x1
    clear x4 x1
    clear HO
    go_enter Try.func103, Try.ntmps103
    go_wp2_with fail
    go_ret
    exact ⟨by rw [HR.out]; rfl, ((Below.refl _ _).alloc (Nat.le_refl _) _).alloc (by simp) _⟩
  have y1 : (p1 == p2) = true := by rw [beq_iff_eq]; exact x1
  by_cases x2 : e1 = e2
  rotate_left
  · have y2 : (e1 == e2) = false := by rw [beq_eq_false_iff_ne]; exact x2
    have HR : Hid (o = false) := by
      show _ = _
      cases o with
      | false => rfl
      | true => have := HO.out.1 rfl; exact absurd this.2.2.1 x2
    clear x4 x1 x2
    clear HO
    go_enter Try.func103, Try.ntmps103
    go_wp2_with fail
    go_ret
    exact ⟨by rw [HR.out]; rfl, ((Below.refl _ _).alloc (Nat.le_refl _) _).alloc (by simp) _⟩
  have y2 : (e1 == e2) = true := by rw [beq_iff_eq]; exact x2
  by_cases x5 : t1 = t2
  rotate_left
  · have y5 : (t1 == t2) = false := by rw [beq_eq_false_iff_ne]; exact x5
    have HR : Hid (o = false) := by
      show _ = _
      cases o with
      | false => rfl
      | true => have := HO.out.1 rfl; exact absurd this.2.2.2 x5
    clear x4 x1 x2 x5
    clear HO
    go_enter Try.func103, Try.ntmps103
    go_wp2_with fail
    go_ret
    exact ⟨by rw [HR.out]; rfl, ((Below.refl _ _).alloc (Nat.le_refl _) _).alloc (by simp) _⟩
  have y5 : (t1 == t2) = true := by rw [beq_iff_eq]; exact x5
  have HR : Hid (o = true) := by
    show _ = _
    exact HO.out.2 ⟨x4, x1, x2, x5⟩
  clear x4 x1 x2 x5
  clear HO
  go_enter Try.func103, Try.ntmps103
  go_wp2_with fail
  go_ret
  exact ⟨by rw [HR.out]; rfl, ((Below.refl _ _).alloc (Nat.le_refl _) _).alloc (by simp) _⟩

set_option maxRecDepth 100000 in
set_option maxHeartbeats 4000000 in
theorem same_any (sm : Bool) (a b : Bat) (A1 A2 : Option Addr) (c1 c2 B : Nat) (w : World) (h1 : Rcs w B A1 a.L.length a.L) (h2 : Rcs w B A2 b.L.length b.L) (hB : B ≤ w.heap.size) (hl1 : a.L.length ≤ maxLen) (hl2 : b.L.length ≤ maxLen) (hs : sm = true ↔ a = b) :
    Calls Try.prog 39 #[.agg (a.cells A1 c1), .agg (b.cells A2 c2)] w fun e w' => e = .returned (.bool sm) ∧ Below w.heap.size w w' := by
  obtain ⟨o, ho⟩ : ∃ o : Bool, o = true ↔ a.kind = b.kind ∧ a.pid = b.pid ∧ a.epoch = b.epoch ∧ a.time = b.time := bool_of _
  obtain ⟨u, hu⟩ : ∃ u : Bool, u = true ↔ a.L = b.L := bool_of _
  have HOW : Hid (∀ W, Calls Try.prog 103 #[.agg (a.cells A1 c1), .agg (b.cells A2 c2)] W fun e w' => e = .returned (.bool o) ∧ Below W.heap.size W w') := fun W => owner_any o a b A1 A2 c1 c2 W ho
  have HEQ : Hid (∀ W, Below w.heap.size w W → Calls Try.prog 104 #[.slice A1 a.L.length c1, .slice A2 b.L.length c2] W fun e w' => e = .returned (.bool u) ∧ ∃ q, w' = W.drewN q) := fun W h => equal_any u A1 A2 _ _ c1 c2 B a.L b.L W (h1.below (h.mono hB)) (h2.below (h.mono hB)) hl1 hl2 hu
  have HSM : Hid (sm = (o && (a.base == b.base) && (a.seq == b.seq) && u)) := by
    show _ = _
    rw [Bool.eq_iff_iff, hs]
    simp only [Bool.and_eq_true, ho, hu, beq_iff_eq]
    constructor
    · intro h; subst h; exact ⟨⟨⟨⟨rfl, rfl, rfl, rfl⟩, rfl⟩, rfl⟩, rfl⟩
    · rintro ⟨⟨⟨⟨q1, q2, q3, q4⟩, q5⟩, q6⟩, q7⟩
      obtain ⟨b1, p1, e1, s1, k1, t1, L1⟩ := a
      obtain ⟨b2, p2, e2, s2, k2, t2, L2⟩ := b
      simp only at q1 q2 q3 q4 q5 q6 q7
      rw [q1, q2, q3, q4, q5, q6, q7]
  clear ho hu hs h1 h2
  obtain ⟨b1, p1, e1, s1, k1, t1, L1⟩ := a
  obtain ⟨b2, p2, e2, s2, k2, t2, L2⟩ := b
  unfold Bat.cells at *
  simp only at *
  have hW := ((Below.refl w.heap.size w).alloc (Nat.le_refl _) (.cells #[.int .i64 b1, .int .i64 p1, .int .i64 e1, .int .i64 s1, .int .i64 k1, .int .i64 t1, .slice A1 L1.length c1] 49)).alloc (by simp) (.cells #[.int .i64 b2, .int .i64 p2, .int .i64 e2, .int .i64 s2, .int .i64 k2, .int .i64 t2, .slice A2 L2.length c2] 49)
  have b3 := heap_alloc_new w (.cells #[.int .i64 b1, .int .i64 p1, .int .i64 e1, .int .i64 s1, .int .i64 k1, .int .i64 t1, .slice A1 L1.length c1] 49)
  have b4 := (((Below.refl (w.alloc (.cells #[.int .i64 b1, .int .i64 p1, .int .i64 e1, .int .i64 s1, .int .i64 k1, .int .i64 t1, .slice A1 L1.length c1] 49)).heap.size _).alloc (Nat.le_refl _) (.cells #[.int .i64 b2, .int .i64 p2, .int .i64 e2, .int .i64 s2, .int .i64 k2, .int .i64 t2, .slice A2 L2.length c2] 49)).block w.heap.size (by simp)).trans b3
  have b5 := heap_alloc_new (w.alloc (.cells #[.int .i64 b1, .int .i64 p1, .int .i64 e1, .int .i64 s1, .int .i64 k1, .int .i64 t1, .slice A1 L1.length c1] 49)) (.cells #[.int .i64 b2, .int .i64 p2, .int .i64 e2, .int .i64 s2, .int .i64 k2, .int .i64 t2, .slice A2 L2.length c2] 49)
  rw [show (w.alloc (.cells #[.int .i64 b1, .int .i64 p1, .int .i64 e1, .int .i64 s1, .int .i64 k1, .int .i64 t1, .slice A1 L1.length c1] 49)).heap.size = w.heap.size + 1 from by simp] at b5
  generalize hW0 : (w.alloc (.cells #[.int .i64 b1, .int .i64 p1, .int .i64 e1, .int .i64 s1, .int .i64 k1, .int .i64 t1, .slice A1 L1.length c1] 49)).alloc (.cells #[.int .i64 b2, .int .i64 p2, .int .i64 e2, .int .i64 s2, .int .i64 k2, .int .i64 t2, .slice A2 L2.length c2] 49) = W0 at *
  have HW0 := Lib.hid hW0
  clear hW0 b3
  have m0 : W0.cell? ⟨w.heap.size, 0, none⟩ = some (.int .i64 b1) := cell_of_row _ _ 0 _ _ _ b4
  have d0 : W0.cell? ⟨w.heap.size + 1, 0, none⟩ = some (.int .i64 b2) := cell_of_row _ _ 0 _ _ _ b5
  have m1 : W0.cell? ⟨w.heap.size, 1, none⟩ = some (.int .i64 p1) := cell_of_row _ _ 1 _ _ _ b4
  have d1 : W0.cell? ⟨w.heap.size + 1, 1, none⟩ = some (.int .i64 p2) := cell_of_row _ _ 1 _ _ _ b5
  have m2 : W0.cell? ⟨w.heap.size, 2, none⟩ = some (.int .i64 e1) := cell_of_row _ _ 2 _ _ _ b4
  have d2 : W0.cell? ⟨w.heap.size + 1, 2, none⟩ = some (.int .i64 e2) := cell_of_row _ _ 2 _ _ _ b5
  have m3 : W0.cell? ⟨w.heap.size, 3, none⟩ = some (.int .i64 s1) := cell_of_row _ _ 3 _ _ _ b4
  have d3 : W0.cell? ⟨w.heap.size + 1, 3, none⟩ = some (.int .i64 s2) := cell_of_row _ _ 3 _ _ _ b5
  have m4 : W0.cell? ⟨w.heap.size, 4, none⟩ = some (.int .i64 k1) := cell_of_row _ _ 4 _ _ _ b4
  have d4 : W0.cell? ⟨w.heap.size + 1, 4, none⟩ = some (.int .i64 k2) := cell_of_row _ _ 4 _ _ _ b5
  have m5 : W0.cell? ⟨w.heap.size, 5, none⟩ = some (.int .i64 t1) := cell_of_row _ _ 5 _ _ _ b4
  have d5 : W0.cell? ⟨w.heap.size + 1, 5, none⟩ = some (.int .i64 t2) := cell_of_row _ _ 5 _ _ _ b5
  have m6 : W0.cell? ⟨w.heap.size, 6, none⟩ = some (.slice A1 L1.length c1) := cell_of_row _ _ 6 _ _ _ b4
  have d6 : W0.cell? ⟨w.heap.size + 1, 6, none⟩ = some (.slice A2 L2.length c2) := cell_of_row _ _ 6 _ _ _ b5
  have HB := Lib.hid hW
  have HB4 := Lib.hid b4
  have HB5 := Lib.hid b5
  have hz : w.heap.size + 1 < W0.heap.size := (Array.getElem?_eq_some_iff.1 b5).1
  clear hW b4 b5
  go_enter Try.func39, Try.ntmps39
  go_upto_region 1 with fail
  rw [HW0.out]
  go_wp2_with fail
  refine (HOW.out _).mono ?_
  rintro e w1 ⟨rfl, hb1⟩
  have hB1 := HB.out.trans (hb1.mono HB.out.size)
  have k4 := (hb1.block w.heap.size (by omega)).trans HB4.out
  have k5 := (hb1.block (w.heap.size + 1) hz).trans HB5.out
  clear m0 m1 m2 m3 m4 m5 m6 d0 d1 d2 d3 d4 d5 d6 hb1
  have m0 : w1.cell? ⟨w.heap.size, 0, none⟩ = some (.int .i64 b1) := cell_of_row _ _ 0 _ _ _ k4
  have d0 : w1.cell? ⟨w.heap.size + 1, 0, none⟩ = some (.int .i64 b2) := cell_of_row _ _ 0 _ _ _ k5
  have m1 : w1.cell? ⟨w.heap.size, 1, none⟩ = some (.int .i64 p1) := cell_of_row _ _ 1 _ _ _ k4
  have d1 : w1.cell? ⟨w.heap.size + 1, 1, none⟩ = some (.int .i64 p2) := cell_of_row _ _ 1 _ _ _ k5
  have m2 : w1.cell? ⟨w.heap.size, 2, none⟩ = some (.int .i64 e1) := cell_of_row _ _ 2 _ _ _ k4
  have d2 : w1.cell? ⟨w.heap.size + 1, 2, none⟩ = some (.int .i64 e2) := cell_of_row _ _ 2 _ _ _ k5
  have m3 : w1.cell? ⟨w.heap.size, 3, none⟩ = some (.int .i64 s1) := cell_of_row _ _ 3 _ _ _ k4
  have d3 : w1.cell? ⟨w.heap.size + 1, 3, none⟩ = some (.int .i64 s2) := cell_of_row _ _ 3 _ _ _ k5
  have m4 : w1.cell? ⟨w.heap.size, 4, none⟩ = some (.int .i64 k1) := cell_of_row _ _ 4 _ _ _ k4
  have d4 : w1.cell? ⟨w.heap.size + 1, 4, none⟩ = some (.int .i64 k2) := cell_of_row _ _ 4 _ _ _ k5
  have m5 : w1.cell? ⟨w.heap.size, 5, none⟩ = some (.int .i64 t1) := cell_of_row _ _ 5 _ _ _ k4
  have d5 : w1.cell? ⟨w.heap.size + 1, 5, none⟩ = some (.int .i64 t2) := cell_of_row _ _ 5 _ _ _ k5
  have m6 : w1.cell? ⟨w.heap.size, 6, none⟩ = some (.slice A1 L1.length c1) := cell_of_row _ _ 6 _ _ _ k4
  have d6 : w1.cell? ⟨w.heap.size + 1, 6, none⟩ = some (.slice A2 L2.length c2) := cell_of_row _ _ 6 _ _ _ k5
  clear k4 k5
  have HEQ1 := Lib.hid (HEQ.out w1 hB1)
  clear HEQ
  cases o with
  | false =>
    go_wp2_with fail
    go_ret
    exact ⟨by rw [HSM.out]; rfl, hB1⟩
  | true =>
    rcases Bool.eq_false_or_eq_true (b1 == b2) with y0 | y0
    · rcases Bool.eq_false_or_eq_true (s1 == s2) with y3 | y3
      · rw [y0, y3] at HSM
        go_wp2_with fail
        refine HEQ1.out.mono ?_
        rintro e w2 ⟨rfl, q, rfl⟩
        go_wp2_with fail
        go_ret
        exact ⟨by rw [HSM.out]; first | rfl | simp, below_draws hB1 q⟩
      · rw [y0, y3] at HSM
        go_wp2_with fail
        go_ret
        exact ⟨by rw [HSM.out]; rfl, hB1⟩
    · rw [y0] at HSM
      go_wp2_with fail
      go_ret
      exact ⟨by rw [HSM.out]; rfl, hB1⟩

set_option maxRecDepth 100000 in
set_option maxHeartbeats 8000000 in
theorem rsame_no (a b : Bat) (A1 A2 : Option Addr) (c1 c2 B : Nat) (w : World) (h1 : Rcs w B A1 a.L.length a.L) (h2 : Rcs w B A2 b.L.length b.L) (hB : B ≤ w.heap.size) (hl1 : a.L.length ≤ maxLen) (hl2 : b.L.length ≤ maxLen) (hs : a ≠ b) :
    Calls Try.prog 37 #[.agg (a.cells A1 c1), .agg (b.cells A2 c2)] w fun e w' => e = .returned (.bool false) ∧ Below w.heap.size w w' := by
  unfold maxLen at hl1 hl2
  obtain ⟨b1, p1, e1, s1, k1, t1, L1⟩ := a
  obtain ⟨b2, p2, e2, s2, k2, t2, L2⟩ := b
  unfold Bat.cells at *
  simp only at *
  have hW := ((Below.refl w.heap.size w).alloc (Nat.le_refl _) (.cells #[.int .i64 b1, .int .i64 p1, .int .i64 e1, .int .i64 s1, .int .i64 k1, .int .i64 t1, .slice A1 L1.length c1] 49)).alloc (by simp) (.cells #[.int .i64 b2, .int .i64 p2, .int .i64 e2, .int .i64 s2, .int .i64 k2, .int .i64 t2, .slice A2 L2.length c2] 49)
  have b3 := heap_alloc_new w (.cells #[.int .i64 b1, .int .i64 p1, .int .i64 e1, .int .i64 s1, .int .i64 k1, .int .i64 t1, .slice A1 L1.length c1] 49)
  have b4 := (((Below.refl (w.alloc (.cells #[.int .i64 b1, .int .i64 p1, .int .i64 e1, .int .i64 s1, .int .i64 k1, .int .i64 t1, .slice A1 L1.length c1] 49)).heap.size _).alloc (Nat.le_refl _) (.cells #[.int .i64 b2, .int .i64 p2, .int .i64 e2, .int .i64 s2, .int .i64 k2, .int .i64 t2, .slice A2 L2.length c2] 49)).block w.heap.size (by simp)).trans b3
  have b5 := heap_alloc_new (w.alloc (.cells #[.int .i64 b1, .int .i64 p1, .int .i64 e1, .int .i64 s1, .int .i64 k1, .int .i64 t1, .slice A1 L1.length c1] 49)) (.cells #[.int .i64 b2, .int .i64 p2, .int .i64 e2, .int .i64 s2, .int .i64 k2, .int .i64 t2, .slice A2 L2.length c2] 49)
  rw [show (w.alloc (.cells #[.int .i64 b1, .int .i64 p1, .int .i64 e1, .int .i64 s1, .int .i64 k1, .int .i64 t1, .slice A1 L1.length c1] 49)).heap.size = w.heap.size + 1 from by simp] at b5
  generalize hW0 : (w.alloc (.cells #[.int .i64 b1, .int .i64 p1, .int .i64 e1, .int .i64 s1, .int .i64 k1, .int .i64 t1, .slice A1 L1.length c1] 49)).alloc (.cells #[.int .i64 b2, .int .i64 p2, .int .i64 e2, .int .i64 s2, .int .i64 k2, .int .i64 t2, .slice A2 L2.length c2] 49) = W0 at *
  have HW0 := Lib.hid hW0
  clear hW0 b3
  have m0 : W0.cell? ⟨w.heap.size, 0, none⟩ = some (.int .i64 b1) := cell_of_row _ _ 0 _ _ _ b4
  have d0 : W0.cell? ⟨w.heap.size + 1, 0, none⟩ = some (.int .i64 b2) := cell_of_row _ _ 0 _ _ _ b5
  have m1 : W0.cell? ⟨w.heap.size, 1, none⟩ = some (.int .i64 p1) := cell_of_row _ _ 1 _ _ _ b4
  have d1 : W0.cell? ⟨w.heap.size + 1, 1, none⟩ = some (.int .i64 p2) := cell_of_row _ _ 1 _ _ _ b5
  have m2 : W0.cell? ⟨w.heap.size, 2, none⟩ = some (.int .i64 e1) := cell_of_row _ _ 2 _ _ _ b4
  have d2 : W0.cell? ⟨w.heap.size + 1, 2, none⟩ = some (.int .i64 e2) := cell_of_row _ _ 2 _ _ _ b5
  have m3 : W0.cell? ⟨w.heap.size, 3, none⟩ = some (.int .i64 s1) := cell_of_row _ _ 3 _ _ _ b4
  have d3 : W0.cell? ⟨w.heap.size + 1, 3, none⟩ = some (.int .i64 s2) := cell_of_row _ _ 3 _ _ _ b5
  have m4 : W0.cell? ⟨w.heap.size, 4, none⟩ = some (.int .i64 k1) := cell_of_row _ _ 4 _ _ _ b4
  have d4 : W0.cell? ⟨w.heap.size + 1, 4, none⟩ = some (.int .i64 k2) := cell_of_row _ _ 4 _ _ _ b5
  have m5 : W0.cell? ⟨w.heap.size, 5, none⟩ = some (.int .i64 t1) := cell_of_row _ _ 5 _ _ _ b4
  have d5 : W0.cell? ⟨w.heap.size + 1, 5, none⟩ = some (.int .i64 t2) := cell_of_row _ _ 5 _ _ _ b5
  have m6 : W0.cell? ⟨w.heap.size, 6, none⟩ = some (.slice A1 L1.length c1) := cell_of_row _ _ 6 _ _ _ b4
  have d6 : W0.cell? ⟨w.heap.size + 1, 6, none⟩ = some (.slice A2 L2.length c2) := cell_of_row _ _ 6 _ _ _ b5
  have H1 := Lib.hid (h1.below (hW.mono hB))
  have H2 := Lib.hid (h2.below (hW.mono hB))
  have HB := Lib.hid hW
  have HNEQ := Lib.hid hs
  clear h1 h2 hW b4 b5 hs
  by_cases hn : L1.length = L2.length
  · have enn : ((L1.length : Int) != (L2.length : Int)) = false := by rw [bne_eq_false_iff_eq]; omega
    have HN := Lib.hid hn
    clear hn
    go_enter Try.func37, Try.ntmps37
    go_upto_region 1 with fail
    rw [HW0.out]
    go_wp2_with fail
    go_loopw [16] (fun i wr => ∃ k : Nat, k ≤ L1.length ∧ i = .int .i64 k ∧ (∀ j, j < k → L1.getD j default = L2.getD j default) ∧ ∃ q, wr = W0.drewN q) (fun i _ => L1.length - (intOf i).toNat)
    case atStart => exact ⟨0, by omega, rfl, fun j hj => absurd hj (by omega), 0, rfl⟩
    case round =>
      obtain ⟨k, hk, rfl, hz, q, rfl⟩ := hrel
      have HZ := Lib.hid hz
      clear hz
      by_cases hlt : k < L1.length
      · have hlt2 : k < L2.length := by have := HN.out; omega
        obtain ⟨p, rfl, hp, r0, r1, r2, r3⟩ := H1.out.row hlt
        obtain ⟨p', rfl, hp', r0', r1', r2', r3'⟩ := H2.out.row hlt2
        have HNX : Hid (L1.getD k default = L2.getD k default → ∀ j, j < k + 1 → L1.getD j default = L2.getD j default) := fun h j hj => by
          rcases Nat.lt_or_ge j k with g | g
          · exact HZ.out j g
          · rw [show j = k from by omega]; exact h
        generalize L1.getD k default = r at *
        generalize L2.getD k default = r' at *
        by_cases hr : r = r'
        · subst hr
          obtain ⟨key, value, gone, rt⟩ := r
          simp only at r0 r1 r2 r3 r0' r1' r2' r3'
          go_wp2_with fail
          go_quiet (fail)
          go_wp2_with fail
          go_roundw
          case rel => exact ⟨k + 1, by omega, by go_num, HNX.out (by first | rfl | trivial), q + nq, by simp⟩
          case measure => simp [intOf]; omega
        · clear HNX
          obtain ⟨key, value, gone, rt⟩ := r
          obtain ⟨key', value', gone', rt'⟩ := r'
          simp only at r0 r1 r2 r3 r0' r1' r2' r3'
          by_cases x1 : key = key'
          · subst x1
            by_cases x2 : value = value'
            · subst x2
              by_cases x3 : gone = gone'
              · subst x3
                have x4 : (rt == rt') = false := by
                  rw [beq_eq_false_iff_ne]
                  intro h
                  exact hr (by rw [h])
                clear hr
                go_wp2_with fail
                go_quiet (fail)
                go_wp2_with fail
                go_ret
                exact ⟨rfl, below_draws (below_draws HB.out q) nq⟩
              · have x4 : (gone == gone') = false := by rw [beq_eq_false_iff_ne]; exact x3
                clear hr x3
                go_wp2_with fail
                go_quiet (fail)
                go_wp2_with fail
                go_ret
                exact ⟨rfl, below_draws (below_draws HB.out q) nq⟩
            · have x4 : (value.toList == value'.toList) = false := by
                rw [beq_eq_false_iff_ne]
                intro h
                exact x2 (by rw [ByteArray.toList_eq, ByteArray.toList_eq] at h; cases value; cases value'; simp only at h; congr 1; exact Array.ext' h)
              have x5 : (value == value') = false := by rw [beq_toListBytes]; exact x4
              clear hr x2
              go_wp2_with fail
              go_quiet (fail)
              go_wp2_with fail
              go_ret
              exact ⟨rfl, below_draws (below_draws HB.out q) nq⟩
          · have x4 : (key.toList == key'.toList) = false := by
              rw [beq_eq_false_iff_ne]
              intro h
              exact x1 (by rw [ByteArray.toList_eq, ByteArray.toList_eq] at h; cases key; cases key'; simp only at h; congr 1; exact Array.ext' h)
            have x5 : (key == key') = false := by rw [beq_toListBytes]; exact x4
            clear hr x1
            go_wp2_with fail
            go_quiet (fail)
            go_wp2_with fail
            go_ret
            exact ⟨rfl, below_draws (below_draws HB.out q) nq⟩
      · have hkl : k = L1.length := by omega
        have HLL : Hid (L1 = L2) := by
          refine List.ext_getElem HN.out fun i g1 g2 => ?_
          have := HZ.out i (by omega)
          rwa [List.getD_eq_getElem?_getD, List.getD_eq_getElem?_getD, List.getElem?_eq_getElem g1, List.getElem?_eq_getElem g2] at this
        have hge : decide ((k : Int) < (L1.length : Int)) = false := by rw [decide_eq_false_iff_not]; omega
        have hge1 : decide (k < L1.length) = false := by rw [decide_eq_false_iff_not]; omega
        clear hkl hlt hk
        by_cases x0 : b1 = b2
        rotate_left
        · have y0 : (b1 == b2) = false := by rw [beq_eq_false_iff_ne]; exact x0
          clear x0
          go_wp2_with fail
          go_ret
          exact ⟨rfl, below_draws HB.out q⟩
        have y0 : (b1 == b2) = true := by rw [beq_iff_eq]; exact x0
        by_cases x1 : p1 = p2
        rotate_left
        · have y1 : (p1 == p2) = false := by rw [beq_eq_false_iff_ne]; exact x1
          clear x0 x1
          go_wp2_with fail
          go_ret
          exact ⟨rfl, below_draws HB.out q⟩
        have y1 : (p1 == p2) = true := by rw [beq_iff_eq]; exact x1
        by_cases x2 : e1 = e2
        rotate_left
        · have y2 : (e1 == e2) = false := by rw [beq_eq_false_iff_ne]; exact x2
          clear x0 x1 x2
          go_wp2_with fail
          go_ret
          exact ⟨rfl, below_draws HB.out q⟩
        have y2 : (e1 == e2) = true := by rw [beq_iff_eq]; exact x2
        by_cases x3 : s1 = s2
        rotate_left
        · have y3 : (s1 == s2) = false := by rw [beq_eq_false_iff_ne]; exact x3
          clear x0 x1 x2 x3
          go_wp2_with fail
          go_ret
          exact ⟨rfl, below_draws HB.out q⟩
        have y3 : (s1 == s2) = true := by rw [beq_iff_eq]; exact x3
        by_cases x4 : k1 = k2
        rotate_left
        · have y4 : (k1 == k2) = false := by rw [beq_eq_false_iff_ne]; exact x4
          clear x0 x1 x2 x3 x4
          go_wp2_with fail
          go_ret
          exact ⟨rfl, below_draws HB.out q⟩
        have y4 : (k1 == k2) = true := by rw [beq_iff_eq]; exact x4
        by_cases x5 : t1 = t2
        rotate_left
        · have y5 : (t1 == t2) = false := by rw [beq_eq_false_iff_ne]; exact x5
          clear x0 x1 x2 x3 x4 x5
          go_wp2_with fail
          go_ret
          exact ⟨rfl, below_draws HB.out q⟩
        have y5 : (t1 == t2) = true := by rw [beq_iff_eq]; exact x5
        exact absurd (by rw [x0, x1, x2, x3, x4, x5, HLL.out]) HNEQ.out
  · have enn : ((L1.length : Int) != (L2.length : Int)) = true := by rw [bne_iff_ne]; omega
    clear hn
    go_enter Try.func37, Try.ntmps37
    go_upto_region 1 with fail
    rw [HW0.out]
    go_wp2_with fail
    go_ret
    exact ⟨rfl, HB.out⟩
end Go.Proofs.Ytfiagnkdembkaaa
