/-
  What rec.part does.
  What rec.Split does.
-/
import Derived.Test.YtkdpfajoeajenaaRecPo
import Derived.Test.YtkdpfajoeajenaaGd
import Derived.Lib.MinMax
namespace Go.Proofs.Ytkdpfajoeajenaa
open Go.RowKit
set_option linter.unusedVariables false
set_option linter.unusedSimpArgs false

set_option maxRecDepth 100000 in
set_option maxHeartbeats 4000000 in
theorem part_any (b : Bat) (A : Option Addr) (c B i j : Nat) (w : World) (hL : Rcs w B A b.L.length b.L) (hB : B ≤ w.heap.size) (hl : b.L.length ≤ 64) (hc : b.L.length ≤ c) (hcm : c ≤ maxLen) (hij : i ≤ j) (hj : j ≤ b.L.length) (hi : i < b.L.length) (h1 : 0 ≤ b.base) (h2 : b.base ≤ 1099511627776) (h3 : 0 ≤ b.seq) (h4 : b.seq ≤ 2147483647) :
    Calls Try.prog 30 #[.agg (b.cells A c), .int .i64 i, .int .i64 j] w fun e w' => ∃ A' c', e = .returned (.agg ((partB b i j).cells A' c')) ∧ w'.ownsRow w.heap.size 38 4 (.slice A' (j - i) c') (j - i) (rcells (partB b i j).L) ∧ (∀ p, A' = some p → w.heap.size ≤ p.block) ∧ Below w.heap.size w w' := by
  obtain ⟨p, hpA, _⟩ := hL.row hi
  subst hpA
  have hsub := hL.sub hij hj
  have hlen : ((b.L.take j).drop i).length = j - i := by rw [List.length_drop, List.length_take]; omega
  obtain ⟨base, pid, epoch, seq, kind, time, L⟩ := b
  simp only [Bat.cells, partB] at *
  rw [hlen]
  obtain ⟨W0, hW0⟩ : ∃ W0, (w.alloc (.cells #[.int .i64 base, .int .i64 pid, .int .i64 epoch, .int .i64 seq, .int .i64 kind, .int .i64 time, .slice (some p) L.length c] 24)).alloc (.cells #[.int .i64 0, .int .i64 0, .int .i64 0, .int .i64 0, .int .i64 0, .int .i64 0, .slice none 0 0] 24) = W0 := ⟨_, rfl⟩
  have hz0 : W0.heap.size = w.heap.size + 1 + 1 := by rw [← hW0]; simp
  have hB0 : Below w.heap.size w W0 := by rw [← hW0]; exact ((Below.refl _ _).alloc (Nat.le_refl _) _).alloc (by simp) _
  have k1 : W0.heap[w.heap.size]? = some (.cells #[.int .i64 base, .int .i64 pid, .int .i64 epoch, .int .i64 seq, .int .i64 kind, .int .i64 time, .slice (some p) L.length c] 24 (0, 0)) := by
    rw [← hW0, ← heap_alloc_new w (.cells #[.int .i64 base, .int .i64 pid, .int .i64 epoch, .int .i64 seq, .int .i64 kind, .int .i64 time, .slice (some p) L.length c] 24)]
    exact ((Below.refl (w.heap.size + 1) _).alloc (by simp) _).block w.heap.size (by omega)
  have k2 : W0.heap[w.heap.size + 1]? = some (.cells #[.int .i64 0, .int .i64 0, .int .i64 0, .int .i64 0, .int .i64 0, .int .i64 0, .slice none 0 0] 24 (0, 0)) := by
    have h := heap_alloc_new (w.alloc (.cells #[.int .i64 base, .int .i64 pid, .int .i64 epoch, .int .i64 seq, .int .i64 kind, .int .i64 time, .slice (some p) L.length c] 24)) (.cells #[.int .i64 0, .int .i64 0, .int .i64 0, .int .i64 0, .int .i64 0, .int .i64 0, .slice none 0 0] 24)
    rw [show (w.alloc (.cells #[.int .i64 base, .int .i64 pid, .int .i64 epoch, .int .i64 seq, .int .i64 kind, .int .i64 time, .slice (some p) L.length c] 24)).heap.size = w.heap.size + 1 from by simp] at h
    rw [← hW0]; exact h
  have c6 : W0.cell? ⟨w.heap.size, 6, none⟩ = some (.slice (some p) L.length c) := cell_of_row _ _ 6 _ _ _ k1
  have HB0 := Lib.hid hB0
  have K1 := Lib.hid k1
  have K2 := Lib.hid k2
  have HW0 := Lib.hid hW0
  have HC := Lib.hid (cloneR_any (some (p.add (i * 4))) (j - i) (c - i) B ((L.take j).drop i) W0 (hsub.below (hB0.mono hB)) (by omega) (by omega))
  generalize (L.take j).drop i = M at *
  obtain ⟨m, hm⟩ : ∃ m, j - i = m := ⟨_, rfl⟩
  rw [hm] at HC ⊢
  have hji : (j : Int) - (i : Int) = (m : Int) := by omega
  have hci : ¬ (c = i) := by omega
  have hi64 : i ≤ 64 := by omega
  have hjz : (j : Int) ≤ (c : Int) := by omega
  have hiz : (i : Int) ≤ (j : Int) := by omega
  unfold maxLen at hcm
  clear hL hB0 k1 k2 hW0 hsub hlen
  go_enter Try.func30, Try.ntmps30
  go_upto_region 1 with fail
  rw [HW0.out]
  go_wp2_with fail
  refine HC.out.mono ?_
  rintro e w2 ⟨v2, rfl, ho2, hb2⟩
  have q1 := (hb2.block w.heap.size (by omega)).trans K1.out
  have q2 := (hb2.block (w.heap.size + 1) (by omega)).trans K2.out
  have y0 : w2.cell? ⟨w.heap.size, 0, none⟩ = some (.int .i64 base) := cell_of_row _ _ 0 _ _ _ q1
  have f0 : w2.frozen? ⟨w.heap.size, 0, none⟩ = false := frozen_of_row _ _ 0 _ _ q1
  have d0 : w2.cell? ⟨w.heap.size + 1, 0, none⟩ = some (.int .i64 0) := cell_of_row _ _ 0 _ _ _ q2
  have g0 : w2.frozen? ⟨w.heap.size + 1, 0, none⟩ = false := frozen_of_row _ _ 0 _ _ q2
  have y1 : w2.cell? ⟨w.heap.size, 1, none⟩ = some (.int .i64 pid) := cell_of_row _ _ 1 _ _ _ q1
  have f1 : w2.frozen? ⟨w.heap.size, 1, none⟩ = false := frozen_of_row _ _ 1 _ _ q1
  have d1 : w2.cell? ⟨w.heap.size + 1, 1, none⟩ = some (.int .i64 0) := cell_of_row _ _ 1 _ _ _ q2
  have g1 : w2.frozen? ⟨w.heap.size + 1, 1, none⟩ = false := frozen_of_row _ _ 1 _ _ q2
  have y2 : w2.cell? ⟨w.heap.size, 2, none⟩ = some (.int .i64 epoch) := cell_of_row _ _ 2 _ _ _ q1
  have f2 : w2.frozen? ⟨w.heap.size, 2, none⟩ = false := frozen_of_row _ _ 2 _ _ q1
  have d2 : w2.cell? ⟨w.heap.size + 1, 2, none⟩ = some (.int .i64 0) := cell_of_row _ _ 2 _ _ _ q2
  have g2 : w2.frozen? ⟨w.heap.size + 1, 2, none⟩ = false := frozen_of_row _ _ 2 _ _ q2
  have y3 : w2.cell? ⟨w.heap.size, 3, none⟩ = some (.int .i64 seq) := cell_of_row _ _ 3 _ _ _ q1
  have f3 : w2.frozen? ⟨w.heap.size, 3, none⟩ = false := frozen_of_row _ _ 3 _ _ q1
  have d3 : w2.cell? ⟨w.heap.size + 1, 3, none⟩ = some (.int .i64 0) := cell_of_row _ _ 3 _ _ _ q2
  have g3 : w2.frozen? ⟨w.heap.size + 1, 3, none⟩ = false := frozen_of_row _ _ 3 _ _ q2
  have y4 : w2.cell? ⟨w.heap.size, 4, none⟩ = some (.int .i64 kind) := cell_of_row _ _ 4 _ _ _ q1
  have f4 : w2.frozen? ⟨w.heap.size, 4, none⟩ = false := frozen_of_row _ _ 4 _ _ q1
  have d4 : w2.cell? ⟨w.heap.size + 1, 4, none⟩ = some (.int .i64 0) := cell_of_row _ _ 4 _ _ _ q2
  have g4 : w2.frozen? ⟨w.heap.size + 1, 4, none⟩ = false := frozen_of_row _ _ 4 _ _ q2
  have y5 : w2.cell? ⟨w.heap.size, 5, none⟩ = some (.int .i64 time) := cell_of_row _ _ 5 _ _ _ q1
  have f5 : w2.frozen? ⟨w.heap.size, 5, none⟩ = false := frozen_of_row _ _ 5 _ _ q1
  have d5 : w2.cell? ⟨w.heap.size + 1, 5, none⟩ = some (.int .i64 0) := cell_of_row _ _ 5 _ _ _ q2
  have g5 : w2.frozen? ⟨w.heap.size + 1, 5, none⟩ = false := frozen_of_row _ _ 5 _ _ q2
  have y6 : w2.cell? ⟨w.heap.size, 6, none⟩ = some (.slice (some p) L.length c) := cell_of_row _ _ 6 _ _ _ q1
  have f6 : w2.frozen? ⟨w.heap.size, 6, none⟩ = false := frozen_of_row _ _ 6 _ _ q1
  have d6 : w2.cell? ⟨w.heap.size + 1, 6, none⟩ = some (.slice none 0 0) := cell_of_row _ _ 6 _ _ _ q2
  have g6 : w2.frozen? ⟨w.heap.size + 1, 6, none⟩ = false := frozen_of_row _ _ 6 _ _ q2
  obtain ⟨A2, c2, rfl, h21, h22⟩ := row_shape ho2
  have hlt := World.ownsRow.lt ho2
  have n1 : (Value.slice A2 m c2).ownBlock ≠ some w.heap.size := fun e => by have := (hlt _ e).1; omega
  have n2 : (Value.slice A2 m c2).ownBlock ≠ some (w.heap.size + 1) := fun e => by have := (hlt _ e).1; omega
  have HO := Lib.hid (row_base ho2 (base' := w.heap.size) (by omega))
  have HB2 := Lib.hid (HB0.out.trans (hb2.mono (by omega)))
  have HN1 := Lib.hid n1
  have HN2 := Lib.hid n2
  have HA2 : Hid (∀ p, A2 = some p → w.heap.size ≤ p.block) := fun p e => by have := (hlt p.block (by rw [e]; rfl)).1; omega
  clear q1 q2 n1 n2 ho2 hb2 hlt HC c6
  by_cases hp0 : pid = 0
  · subst hp0
    go_wp2_with fail
    refine bodyPost_ret (v := .agg #[.int .i64 (base + (i : Int)), .int .i64 0, .int .i64 epoch, .int .i64 seq, .int .i64 kind, .int .i64 time, .slice A2 m c2]) (by simp [results, Try.results30, go_sem, d0, d1, d2, d3, d4, d5, d6]) rfl ?_
    refine ⟨A2, c2, by rfl, ?_, HA2.out, ?_⟩
    · repeat refine row_set ?_ (by first | exact HN1.out | exact HN2.out)
      exact HO.out
    · repeat refine Below.setCell ?_ (by simp) _
      exact HB2.out
  · have hpz : (pid != 0) = true := by simpa using hp0
    go_wp2_with fail
    refine bodyPost_ret (v := .agg #[.int .i64 (base + (i : Int)), .int .i64 pid, .int .i64 epoch, .int .i64 (seq + (i : Int)), .int .i64 kind, .int .i64 time, .slice A2 m c2]) (by simp [results, Try.results30, go_sem, d0, d1, d2, d3, d4, d5, d6]) rfl ?_
    refine ⟨A2, c2, by first | rfl | simp [hp0], ?_, HA2.out, ?_⟩
    · repeat refine row_set ?_ (by first | exact HN1.out | exact HN2.out)
      exact HO.out
    · repeat refine Below.setCell ?_ (by simp) _
      exact HB2.out
end Go.Proofs.Ytkdpfajoeajenaa
namespace Go.Proofs.Ytkdpfajoeajenaa
open Go.RowKit Go.Lib
set_option linter.unusedVariables false
set_option linter.unusedSimpArgs false

/-- what Split answers -/
def SplitP (b : Bat) (n : Int) (w : World) (e : Ending) (w' : World) : Prop := ∃ v M, e = .returned v ∧ M.map BA.b = splitB b n ∧ Pt w w' v M (recsOf M)
theorem Pt.down {w w0 wr : World} {v : Value} {M : List BA} {F : Nat → List Rec} (h : Pt w0 wr v M F) (hb : Below w.heap.size w w0) : Pt w wr v M F :=
  ⟨row_base5 h.own hb.size, fun j hj => row_base5 (h.rows j hj) hb.size, h.len, h.ok, h.far, h.dist, hb.trans (h.bel.mono hb.size)⟩
theorem part_len (b : Bat) (i j : Nat) (h : j ≤ b.L.length) : (partB b i j).L.length = j - i := by
  show ((b.L.take j).drop i).length = _
  rw [List.length_drop, List.length_take, Nat.min_eq_left h]
theorem take_chunks (b : Bat) (m k : Nat) (h : k < cnt b m) : (chunks b m).take (k + 1) = (chunks b m).take k ++ [chunk b m k] := by
  rw [List.take_succ_eq_append_getElem (by rw [chunks_len]; exact h)]
  congr 2
  have := chunks_get b m k h
  rwa [List.getD_eq_getElem?_getD, List.getElem?_eq_getElem (by rw [chunks_len]; exact h)] at this
theorem mark_empty {b : Bat} (hF : Fine b) (hm : markB b = true) : b.L = [] := by
  have h1 := hF.form
  unfold formB at h1
  rw [hm] at h1
  simp only [if_true] at h1
  split at h1
  · cases h1
  · simp only [Bool.and_eq_true, beq_iff_eq] at h1
    exact List.length_eq_zero_iff.1 (by omega)
theorem Pt.one {w wr : World} {x : BA} (hb : Below w.heap.size w wr) (hx : wr.ownsRow w.heap.size 38 4 x.sl x.b.L.length (rcells x.b.L)) (hk : ∀ r ∈ x.b.L, i64_ r.time) (hf : ∀ p, x.A = some p → p.block < wr.heap.size) :
    Pt w (wr.alloc (.cells (x.b.cells x.A x.c) 24)) (.slice (some ⟨wr.heap.size, 0, none⟩) 1 1) [x] (recsOf [x]) := by
  have hj0 : ∀ j, j < [x].length → j = 0 := fun j hj => by simp at hj; exact hj
  refine ⟨?_, fun j hj => ?_, fun j hj => rfl, fun j hj => ?_, fun j hj p hp => ?_, fun i j hi hj hn => absurd ((hj0 i hi).trans (hj0 j hj).symm) hn, hb.alloc hb.size _⟩
  · have := World.ownsRow_lit (base := w.heap.size) (e := 24) (size := 7) wr (x.b.cells x.A x.c) 1 hb.size (by unfold maxLen; omega) rfl
    simpa [bcells, BA.cells] using this
  · rw [hj0 j hj]; exact hx.alloc _
  · rw [hj0 j hj]; exact hk
  · rw [hj0 j hj] at hp
    intro e
    have e' : wr.heap.size = p.block := Option.some.inj e
    have := hf p hp
    omega
set_option maxRecDepth 100000 in
set_option maxHeartbeats 4000000 in
theorem split_any (b : Bat) (A : Option Addr) (c : Nat) (n : Int) (w : World) (hL : Rcs w w.heap.size A b.L.length b.L) (hl : b.L.length ≤ 80) (hc : b.L.length ≤ c) (hcm : c ≤ maxLen) (hn : -9223372036854775808 ≤ n ∧ n ≤ 9223372036854775807) :
    Calls Try.prog 7 #[.agg (b.cells A c), .int .i64 n] w fun e w' => SplitP b n w e w' := by
  obtain ⟨j0, qj0, qy0, qy1, qy2⟩ := info_parts zero_batQ
  have HVA : Hid (∀ W, Below w.heap.size w W → Calls Try.prog 10 #[.agg (b.cells A c)] W fun e w' => e = .returned (.int .i64 (validE b)) ∧ Below W.heap.size W w') := fun W h => valid_any b A c w.heap.size W (hL.below h) h.size (by unfold maxLen; omega)
  have HMK : Hid (∀ W, Calls Try.prog 28 #[.agg (b.cells A c)] W fun e w' => e = .returned (.bool (markB b)) ∧ Below W.heap.size W w') := fun W => marker_any b A c W
  have HCP : Hid (∀ W, Below w.heap.size w W → Calls Try.prog 29 #[.agg (b.cells A c)] W fun e w' => ∃ A' c', e = .returned (.agg (b.cells A' c')) ∧ w'.ownsRow W.heap.size 38 4 (.slice A' b.L.length c') b.L.length (rcells b.L) ∧ (∀ p, A' = some p → W.heap.size ≤ p.block) ∧ Below W.heap.size W w') := fun W h => copy_any b A c w.heap.size W (hL.below h) h.size (by omega)
  have HSP : Hid (splitB b n = if validE b = 0 ∧ 1 ≤ n then (if markB b = true then [b] else chunks b n.toNat) else []) := rfl
  have HFI : Hid (validE b = 0 → Fine b) := fun h => (fine_iff b).1 h
  have HPT0 : Hid (Fine b → ∀ i j W, Below w.heap.size w W → i ≤ j → j ≤ b.L.length → i < b.L.length → Calls Try.prog 30 #[.agg (b.cells A c), .int .i64 (i : Int), .int .i64 (j : Int)] W fun e w' => ∃ A' c', e = .returned (.agg ((partB b i j).cells A' c')) ∧ w'.ownsRow W.heap.size 38 4 (.slice A' (j - i) c') (j - i) (rcells (partB b i j).L) ∧ (∀ p, A' = some p → W.heap.size ≤ p.block) ∧ Below W.heap.size W w') := fun hF i j W h h1 h2 h3 =>
    part_any b A c w.heap.size i j W (hL.below h) h.size hF.len hc hcm h1 h2 h3 hF.b1 hF.b2 hF.s1 hF.s2
  have HOK : Hid (∀ r ∈ b.L, i64_ r.time) := hL.ok
  have HMKE : Hid (∀ hF : Fine b, markB b = true → b.L = []) := fun hF => mark_empty hF
  have HCE : Hid (Fine b → markB b = false → 0 < b.L.length) := fun hF hm => (form_fine hF hm).2
  unfold SplitP
  obtain ⟨X, hX⟩ : ∃ X : Ending → World → Prop, (fun e w' => ∃ v M, e = .returned v ∧ M.map BA.b = splitB b n ∧ Pt w w' v M (recsOf M)) = X := ⟨_, rfl⟩
  have HX : Hid (∀ v M w', M.map BA.b = splitB b n → Pt w w' v M (recsOf M) → X (.returned v) w') := fun v M w' h1 h2 => by rw [← hX]; exact ⟨v, M, rfl, h1, h2⟩
  rw [hX]
  clear hX
  obtain ⟨bo, hbo⟩ : ∃ bo, b = bo := ⟨_, rfl⟩
  obtain ⟨W0, hW0⟩ : ∃ W0, w.alloc (.cells (b.cells A c) 24) = W0 := ⟨_, rfl⟩
  have hB0 : Below w.heap.size w W0 := by rw [← hW0]; exact (Below.refl _ _).alloc (Nat.le_refl _) _
  have hN0 : W0.heap[w.heap.size]? = some (.cells (b.cells A c) 24 (0, 0)) := by rw [← hW0]; exact heap_alloc_new w _
  have hz0 : W0.heap.size = w.heap.size + 1 := by rw [← hW0]; simp
  have HVN := HVA
  obtain ⟨bb, bp, be, bs, bk, bt, bL⟩ := b
  simp only [Bat.cells] at *
  have HB0 := Lib.hid hB0
  have HN0 := Lib.hid hN0
  have HZ0 := Lib.hid hz0
  have HW0 := Lib.hid hW0
  clear hW0 hB0 hN0 hz0 hbo HVN
  have x0 := cell_of_row _ _ 0 _ _ _ HN0.out
  have x1 := cell_of_row _ _ 1 _ _ _ HN0.out
  have x2 := cell_of_row _ _ 2 _ _ _ HN0.out
  have x3 := cell_of_row _ _ 3 _ _ _ HN0.out
  have x4 := cell_of_row _ _ 4 _ _ _ HN0.out
  have x5 := cell_of_row _ _ 5 _ _ _ HN0.out
  have x6 := cell_of_row _ _ 6 _ _ _ HN0.out
  go_enter Try.func7, Try.ntmps7
  go_upto_region 1 with fail
  rw [HW0.out]
  go_wp2_with fail
  refine (HVA.out _ HB0.out).mono ?_
  rintro e w1 ⟨rfl, hb1⟩
  have HB1 := Lib.hid hb1
  have hN1 := (hb1.block w.heap.size (by have := HZ0.out; omega)).trans HN0.out
  have HN1 := Lib.hid hN1
  have HBW1 := Lib.hid (HB0.out.trans (hb1.mono (by have := HZ0.out; omega)))
  clear hb1 x0 x1 x2 x3 x4 x5 x6 HVA
  obtain ⟨V, hV⟩ : ∃ V, validE ⟨bb, bp, be, bs, bk, bt, bL⟩ = V := ⟨_, rfl⟩
  rw [hV] at HSP HFI ⊢
  clear hV
  by_cases hv0 : V = 0
  rotate_left
  · have hvd : (V != 0) = true := by simpa using hv0
    have HE := Lib.hid (HX.out (.slice none 0 0) [] w1 (by rw [HSP.out, if_neg (fun h => hv0 h.1)]; rfl) (Pt.nil_at HBW1.out))
    clear hN1 HX
    go_wp2_with fail
    exact HE.out
  subst hv0
  by_cases hn1 : n < 1
  · have hnd : decide (n < 1) = true := decide_eq_true hn1
    have HE := Lib.hid (HX.out (.slice none 0 0) [] w1 (by rw [HSP.out, if_neg (fun h => by omega)]; rfl) (Pt.nil_at HBW1.out))
    clear hN1 HX
    go_wp2_with fail
    exact HE.out
  have hnd : decide (n < 1) = false := decide_eq_false hn1
  obtain ⟨m, rfl⟩ : ∃ m : Nat, n = (m : Int) := ⟨n.toNat, by omega⟩
  have hF := HFI.out rfl
  have HFF := Lib.hid hF
  rw [Int.toNat_natCast] at HSP
  have HSP2 := Lib.hid (HSP.out.trans (if_pos ⟨rfl, by omega⟩))
  have x0 := cell_of_row _ _ 0 _ _ _ hN1
  have x1 := cell_of_row _ _ 1 _ _ _ hN1
  have x2 := cell_of_row _ _ 2 _ _ _ hN1
  have x3 := cell_of_row _ _ 3 _ _ _ hN1
  have x4 := cell_of_row _ _ 4 _ _ _ hN1
  have x5 := cell_of_row _ _ 5 _ _ _ hN1
  have x6 := cell_of_row _ _ 6 _ _ _ hN1
  clear hN1 HSP HFI hF
  go_wp2_with fail
  refine (HMK.out _).mono ?_
  rintro e w2 ⟨rfl, hb2⟩
  have hz1 : w.heap.size < w1.heap.size := (Array.getElem?_eq_some_iff.1 HN1.out).1
  have HN2 := Lib.hid ((hb2.block w.heap.size hz1).trans HN1.out)
  have HBW2 := Lib.hid (HBW1.out.trans (hb2.mono HBW1.out.size))
  have HB2 := Lib.hid (HB1.out.trans (hb2.mono HB1.out.size))
  clear hb2 x0 x1 x2 x3 x4 x5 x6 HMK HB1 HN1 HBW1 hz1
  cases hmk : markB ⟨bb, bp, be, bs, bk, bt, bL⟩ with
  | true =>
    have x0 := cell_of_row _ _ 0 _ _ _ HN2.out
    have x1 := cell_of_row _ _ 1 _ _ _ HN2.out
    have x2 := cell_of_row _ _ 2 _ _ _ HN2.out
    have x3 := cell_of_row _ _ 3 _ _ _ HN2.out
    have x4 := cell_of_row _ _ 4 _ _ _ HN2.out
    have x5 := cell_of_row _ _ 5 _ _ _ HN2.out
    have x6 := cell_of_row _ _ 6 _ _ _ HN2.out
    rw [hmk] at HSP2
    go_wp2_with fail
    refine (HCP.out _ HBW2.out).mono ?_
    rintro e w3 ⟨A', c', rfl, ho3, hf3, hb3⟩
    have HE := Lib.hid (HX.out _ [⟨⟨bb, bp, be, bs, bk, bt, bL⟩, A', c'⟩] _ (by rw [HSP2.out]; rfl) (Pt.one (w := w) (wr := w3) (x := ⟨⟨bb, bp, be, bs, bk, bt, bL⟩, A', c'⟩) (HBW2.out.trans (hb3.mono HBW2.out.size)) (row_base5 ho3 HBW2.out.size) HOK.out (fun p hp => (World.ownsRow.lt ho3 p.block (by rw [show A' = some p from hp]; rfl)).2)))
    clear x0 x1 x2 x3 x4 x5 x6
    go_wp2_with fail
    exact HE.out
  | false =>
    rw [hmk] at HSP2
    have HLP := Lib.hid (HCE.out HFF.out hmk)
    have HSP3 : Hid (splitB ⟨bb, bp, be, bs, bk, bt, bL⟩ (m : Int) = chunks ⟨bb, bp, be, bs, bk, bt, bL⟩ m) := HSP2.out
    have hm1 : 1 ≤ m := by omega
    have HCI : Hid (∀ k, k < cnt ⟨bb, bp, be, bs, bk, bt, bL⟩ m ↔ k * m < bL.length) := fun k => cnt_iff _ m k hm1
    have HL64 : Hid (bL.length ≤ 64) := HFF.out.len
    clear HSP2 hmk
    go_wp2_with fail
    go_loopw [5, 6] (fun v iv wr => ∃ (k i : Nat) (M : List BA), iv = .int .i64 i ∧ Hid (i = k * m) ∧ i ≤ 9223372036854775807 ∧ k ≤ cnt ⟨bb, bp, be, bs, bk, bt, bL⟩ m ∧ M.length = k ∧ k ≤ 64 ∧ Hid (M.map BA.b = (chunks ⟨bb, bp, be, bs, bk, bt, bL⟩ m).take k) ∧ Hid (Pt W0 wr v M (recsOf M))) (fun _ iv _ => 64 - (RowKit.intOf iv).toNat)
    case atStart => exact ⟨0, 0, [], rfl, by show _ = _; simp, by omega, by omega, rfl, by omega, by show _ = _; simp, Pt.nil_at HB2.out⟩
    case round =>
      obtain ⟨k, i, M, rfl, HIK, hi63, hkc, hMk, hk64, HMM, HPT⟩ := hrel
      have HMK := Lib.hid hMk
      have hM64 : M.length ≤ 64 := by omega
      clear hMk
      have hN := (HPT.out.bel.block w.heap.size (by have := HZ0.out; omega)).trans HN0.out
      have x0 := cell_of_row _ _ 0 _ _ _ hN
      have x1 := cell_of_row _ _ 1 _ _ _ hN
      have x2 := cell_of_row _ _ 2 _ _ _ hN
      have x3 := cell_of_row _ _ 3 _ _ _ hN
      have x4 := cell_of_row _ _ 4 _ _ _ hN
      have x5 := cell_of_row _ _ 5 _ _ _ hN
      have x6 := cell_of_row _ _ 6 _ _ _ hN
      clear hN
      by_cases hlt : i < bL.length
      · have hkl : k < cnt ⟨bb, bp, be, bs, bk, bt, bL⟩ m := (HCI.out k).2 (by rw [← HIK.out]; exact hlt)
        have hd7 : decide ((i : Int) < (bL.length : Int)) = true := by rw [decide_eq_true_iff]; omega
        have hsb : i + m ≤ 9223372036854775807 := by
          have h1 := step_bound ⟨bb, bp, be, bs, bk, bt, bL⟩ m k HL64.out (by rw [← HIK.out]; exact hlt)
          rw [← HIK.out] at h1
          have := hn.2
          omega
        have hsz : (i : Int) + (m : Int) ≤ 9223372036854775807 := by omega
        have hz0 : (0 : Int) ≤ (i : Int) + (m : Int) := by omega
        have hJ : ∃ j : Nat, j = min (i + m) bL.length := ⟨_, rfl⟩
        obtain ⟨j, hj⟩ := hJ
        have hjz : min ((i : Int) + (m : Int)) (bL.length : Int) = (j : Int) := by omega
        have hil : i ≤ j := by omega
        have hjl : j ≤ bL.length := by omega
        have HCK : Hid (chunk ⟨bb, bp, be, bs, bk, bt, bL⟩ m k = partB ⟨bb, bp, be, bs, bk, bt, bL⟩ i j) := by show partB _ _ _ = _; rw [← HIK.out, hj]
        have HTK := Lib.hid (take_chunks ⟨bb, bp, be, bs, bk, bt, bL⟩ m k hkl)
        have HLZ : Hid ((partB ⟨bb, bp, be, bs, bk, bt, bL⟩ i j).L.length = j - i) := part_len _ i j hjl
        have HPA : Hid (Calls Try.prog 30 #[.agg #[.int .i64 bb, .int .i64 bp, .int .i64 be, .int .i64 bs, .int .i64 bk, .int .i64 bt, .slice A bL.length c], .int .i64 (i : Int), .int .i64 (j : Int)] wr fun e w' => ∃ A' c', e = .returned (.agg ((partB ⟨bb, bp, be, bs, bk, bt, bL⟩ i j).cells A' c')) ∧ w'.ownsRow wr.heap.size 38 4 (.slice A' (j - i) c') (j - i) (rcells (partB ⟨bb, bp, be, bs, bk, bt, bL⟩ i j).L) ∧ (∀ p, A' = some p → wr.heap.size ≤ p.block) ∧ Below wr.heap.size wr w') := HPT0.out HFF.out i j wr (HB0.out.trans (HPT.out.bel.mono (by have := HZ0.out; omega))) hil hjl hlt
        have HPO : Hid (∀ r ∈ (partB ⟨bb, bp, be, bs, bk, bt, bL⟩ i j).L, i64_ r.time) := fun r hr => HOK.out r (List.mem_of_mem_take (List.mem_of_mem_drop hr))
        generalize hPB : partB ⟨bb, bp, be, bs, bk, bt, bL⟩ i j = PB at *
        obtain ⟨pb, pp, pe, ps, pk, pt, pL⟩ := PB
        simp only [Bat.cells] at HPA HLZ HPO
        have hlz := HLZ.out
        rw [← hlz] at HPA
        have hlz64 : pL.length ≤ 64 := by have := HL64.out; omega
        have HIM : Hid (i + m = (k + 1) * m) := by show _ = _; rw [Nat.succ_mul, ← HIK.out]
        have HLO := Lib.hid HPT.out.low
        have hk1 : k + 1 ≤ 64 := by have h1 : k * 1 ≤ k * m := Nat.mul_le_mul_left k hm1; rw [← HIK.out] at h1; have := HL64.out; omega
        have hme : 64 - (i + m) < 64 - i := by have := HL64.out; omega
        clear hPB hj hlz hsb
        go_wp2_with (first
          | (go_at_call 30; (first | rw [hjz] | skip); (with_reducible refine HPA.out.mono ?_); rintro e w3 ⟨A', c', rfl, ho3, hf3, hb3⟩; have HP3 := Lib.hid (HPT.out.below hb3); have HO3 := Lib.hid ho3; have HF3 := Lib.hid hf3; have hown8 := HP3.out.own.alloc (.cells #[.int .i64 pb, .int .i64 pp, .int .i64 pe, .int .i64 ps, .int .i64 pk, .int .i64 pt, .slice A' pL.length c'] 24); have hz3 : W0.heap.size ≤ w3.heap.size := HP3.out.bel.size; have HZW := Lib.hid HPT.out.bel.size; clear ho3 hf3 hb3)
          | (at_builtin; go_loud (refine wpList_append_own_at _ rfl (.tmp 27) (.tmp 38) 26 rfl W0.heap.size 24 j0 _ 7 72 Try.underlying26 qj0 qy0 qy1 qy2 rfl (by decide) _ M.length (bcells M) rfl hown8 ⟨w3.heap.size, 0, none⟩ 1 1 [.int .i64 pb, .int .i64 pp, .int .i64 pe, .int .i64 ps, .int .i64 pk, .int .i64 pt, .slice A' pL.length c'] rfl rfl (new_cells5 w3 [.int .i64 pb, .int .i64 pp, .int .i64 pe, .int .i64 ps, .int .i64 pk, .int .i64 pt, .slice A' pL.length c'] _) ?g1 ?g2 ?g3 ?g4 ?_)))
        case g1 => first | exact ⟨rfl, rfl, rfl, rfl, rfl, rfl, rfl⟩ | (intro u hu; simp at hu; rcases hu with rfl | rfl | rfl | rfl | rfl | rfl | rfl <;> rfl)
        case g2 => unfold maxLen; omega
        case g3 => omega
        case g4 => first | omega | (simp; omega)
        intro va w7 hown7 hg7 _ hat7
        have hala := (Below.refl w3.heap.size w3).alloc (Nat.le_refl _) (.cells #[.int .i64 pb, .int .i64 pp, .int .i64 pe, .int .i64 ps, .int .i64 pk, .int .i64 pt, .slice A' pL.length c'] 24)
        have HPU := Lib.hid ((HP3.out.below hala).push (x := ⟨⟨pb, pp, pe, ps, pk, pt, pL⟩, A', c'⟩) (lo := wr.heap.size) (rowb5 (row_base5 HO3.out HZW.out) hala) HPO.out HF3.out HLO.out.1 HLO.out.2 hown7 hg7 (by simpa using hat7))
        clear hown7 hg7 hat7 hown8 hala x0 x1 x2 x3 x4 x5 x6
        go_wp2_with fail
        go_roundw
        case rel => exact ⟨k + 1, i + m, M ++ [⟨⟨pb, pp, pe, ps, pk, pt, pL⟩, A', c'⟩], by go_num, HIM, by omega, by omega, by simp [HMK.out], hk1, by show _ = _; rw [HTK.out, List.map_append, HMM.out, HCK.out]; rfl, HPU⟩
        case measure => simp [RowKit.intOf]; omega
      · have hd7 : decide ((i : Int) < (bL.length : Int)) = false := by rw [decide_eq_false_iff_not]; omega
        have hkl : ¬ k < cnt ⟨bb, bp, be, bs, bk, bt, bL⟩ m := fun h => by have := (HCI.out k).1 h; rw [← HIK.out] at this; exact hlt this
        have HE := Lib.hid (HX.out _ M _ (by rw [HSP3.out, HMM.out, List.take_of_length_le (by rw [chunks_len]; omega)]) (HPT.out.down HB0.out))
        go_wp2_with fail
        exact HE.out
end Go.Proofs.Ytkdpfajoeajenaa
