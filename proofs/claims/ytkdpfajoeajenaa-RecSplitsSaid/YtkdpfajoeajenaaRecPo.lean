/-
  What slices.Clone of records, rec.Copy and rec.part do.
-/
import Derived.Test.YtkdpfajoeajenaaRecK
import Derived.Lib.SliceRun
namespace Go.Proofs.Ytkdpfajoeajenaa
open Go.RowKit
set_option linter.unusedVariables false
set_option linter.unusedSimpArgs false

theorem row4_below {w w' : World} {base n : Nat} {e : TypeId} {v : Value} {xs : List Value} (h : w.ownsRow base e 4 v n xs) (hg : w.grownBy w' v.ownBlock) (hb : base ≤ w.heap.size) : Below base w w' :=
  (Below.refl _ _).grown hg hb (fun k hk => (World.ownsRow.lt h k hk).1)
theorem row_base {w : World} {base base' s n : Nat} {e : TypeId} {v : Value} {xs : List Value} (h : w.ownsRow base e s v n xs) (hb : base' ≤ base) : w.ownsRow base' e s v n xs := by
  refine ⟨h.1, ?_⟩
  rcases h.2 with h2 | ⟨g, cap, cur, hv, hg, hh, r⟩
  · exact .inl h2
  · exact .inr ⟨g, cap, cur, hv, by omega, hh, r⟩
theorem row_set {w : World} {base s n g i : Nat} {e : TypeId} {v u : Value} {xs : List Value} (h : w.ownsRow base e s v n xs) (hg : v.ownBlock ≠ some g) : (w.setCell ⟨g, i, none⟩ u).ownsRow base e s v n xs := by
  refine ⟨h.1, ?_⟩
  rcases h.2 with h2 | ⟨b, cap, cur, rfl, hb, hh, r⟩
  · exact .inl h2
  · exact .inr ⟨b, cap, cur, rfl, hb, (Below.heap_setCell w ⟨g, i, none⟩ u b (fun e => hg (by have h9 : b = g := e; rw [h9]; rfl))).trans hh, r⟩
theorem row_shape {w : World} {base s n : Nat} {e : TypeId} {v : Value} {xs : List Value} (h : w.ownsRow base e s v n xs) : ∃ A c, v = .slice A n c ∧ n ≤ c ∧ c ≤ maxLen := by
  rcases h.2 with ⟨rfl, hz⟩ | ⟨g, cap, cur, rfl, hb, hh, hn, hm, _⟩
  · exact ⟨none, 0, by rw [hz], by omega, by simp [maxLen]⟩
  · exact ⟨_, cap, rfl, hn, hm⟩
theorem Rcs.of_row {w : World} {base n : Nat} {A : Option Addr} {c : Nat} {L : List Rec} (h : w.ownsRow base 38 4 (.slice A n c) n (rcells L)) (hn : L.length = n) (hk : ∀ r ∈ L, i64_ r.time) : Rcs w w.heap.size A n L := by
  have h0 := h
  refine ⟨hn, ⟨fun j u hj => ?_⟩, hk⟩
  rcases h.2 with ⟨h1, hz⟩ | ⟨g, cap, cur, hv, hb, hh, hnc, hm, _⟩
  · subst hz
    have : L = [] := List.length_eq_zero_iff.1 hn
    subst this
    simp [rcells] at hj
  · injection hv with h1 h2 h3
    subst h1 h3
    exact ⟨_, rfl, (Array.getElem?_eq_some_iff.1 hh).1, h0.cells (g := g) rfl j u hj⟩
theorem rcells_take (L : List Rec) : ∀ k, k ≤ L.length → (rcells L).take (k * 4) = rcells (L.take k) := by
  intro k hk
  conv => lhs; rw [← List.take_append_drop k L, rcells_append]
  rw [List.take_append_of_le_length (by rw [rcells_length, List.length_take]; omega), List.take_of_length_le (by rw [rcells_length, List.length_take]; omega)]
theorem rcells_drop (L : List Rec) : ∀ k, k ≤ L.length → (rcells L).drop (k * 4) = rcells (L.drop k) := by
  intro k hk
  have e : rcells L = rcells (L.take k) ++ rcells (L.drop k) := by rw [← rcells_append, List.take_append_drop]
  rw [e, List.drop_append, List.drop_of_length_le (by rw [rcells_length, List.length_take]; omega), rcells_length, List.length_take, show k * 4 - min k L.length * 4 = 0 by omega]
  simp
/-- a piece of records -/
theorem Rcs.sub {w : World} {B n i j : Nat} {p : Addr} {L : List Rec} (h : Rcs w B (some p) n L) (hij : i ≤ j) (hj : j ≤ n) : Rcs w B (some (p.add (i * 4))) (j - i) ((L.take j).drop i) := by
  have hl := h.len
  refine ⟨by rw [List.length_drop, List.length_take]; omega, ⟨fun m u hm => ?_⟩, fun r hr => h.ok r (List.mem_of_mem_take (List.mem_of_mem_drop hr))⟩
  rw [← rcells_drop _ i (by rw [List.length_take]; omega), ← rcells_take L j (by omega), List.getElem?_drop, List.getElem?_take] at hm
  split at hm
  · obtain ⟨q, e, hb, hc⟩ := h.lies.get _ u hm
    injection e with e
    subst e
    exact ⟨_, rfl, by rw [add_block]; exact hb, by rw [add_twice]; exact hc⟩
  · cases hm

set_option maxRecDepth 100000 in
set_option maxHeartbeats 1000000 in
theorem cloneR_any (A : Option Addr) (n c B : Nat) (L : List Rec) (w : World) (h : Rcs w B A n L) (hn : n ≤ 1000000) (hB : B ≤ w.heap.size) :
    Calls Try.prog 64 #[.slice A n c] w fun e w' => ∃ v', e = .returned v' ∧ w'.ownsRow w.heap.size 38 4 v' n (rcells L) ∧ Below w.heap.size w w' := by
  obtain ⟨j0, qj0, qy0, qy1, qy2⟩ := info_parts zero_rec
  have hl := h.len
  cases A with
  | none =>
    have hl0 : L = [] := by
      cases L with
      | nil => rfl
      | cons x r => obtain ⟨p, hp, _⟩ := h.row (k := 0) (by rw [← hl]; simp); cases hp
    subst hl0
    simp only [List.length_nil] at hl
    subst hl
    clear h
    have hnil : ∀ W : World, (binOp .eql 22 (.slice none 0 c) (.slice none 0 0)).run Try.prog W = .ok (.bool true) W := fun W : World => Lib.run_eql_slice_nil (P := Try.prog) W 22 38 none 0 c 0 0 Try.underlying22
    go_enter Try.func64, Try.ntmps64
    go_wp2_with fail
    go_ret
    exact ⟨_, rfl, World.ownsRow_nil _ _ _ _, Below.refl _ _⟩
  | some p =>
    have HB := Lib.hid ((Below.refl w.heap.size w).alloc (Nat.le_refl _) (.cells #[] 38))
    have hcs : ∀ j u, (rcells L)[j]? = some u → (w.alloc (.cells #[] 38)).cell? (p.add j) = some u := fun j u hj => by
      obtain ⟨q, e, hb, hc⟩ := h.lies.get j u hj
      injection e with e
      subst e
      rw [World.cell?_alloc_lt _ _ _ (by rw [add_block]; omega)]
      exact hc
    have ho : (w.alloc (.cells #[] 38)).ownsRow w.heap.size 38 4 (.slice (some ⟨w.heap.size, 0, none⟩) 0 0) 0 [] :=
      ⟨rfl, .inr ⟨w.heap.size, 0, #[], rfl, Nat.le_refl _, heap_alloc_new w _, by simp, by unfold maxLen; omega, rfl, rfl⟩⟩
    have hrl := rcells_length L
    rw [hl] at hrl
    clear h
    have hnil : ∀ W : World, (binOp .eql 22 (.slice (some p) n c) (.slice none 0 0)).run Try.prog W = .ok (.bool false) W := fun W : World => Lib.run_eql_slice_nil (P := Try.prog) W 22 38 (some p) n c 0 0 Try.underlying22
    go_enter Try.func64, Try.ntmps64
    go_wp2_with (at_builtin; refine wpList_append_own_at _ rfl (.tmp 5) (.tmp 6) 22 rfl w.heap.size 38 j0 _ 4 48 Try.underlying22 qj0 qy0 qy1 qy2 rfl (by decide) _ 0 [] rfl ho p n c (rcells L) rfl hrl hcs (rcells_one L) (by unfold maxLen; omega) (by omega) (by simp) ?_)
    intro v2 w2 ho2 hg2 _ _
    have hb2 := HB.out.trans (row4_below ho hg2 (by simp))
    have R : w2.ownsRow w.heap.size 38 4 v2 n (rcells L) := by simpa using ho2
    clear ho2 hg2 ho hcs
    go_wp2_with fail
    go_ret
    exact ⟨_, rfl, R, hb2⟩

set_option maxRecDepth 100000 in
set_option maxHeartbeats 4000000 in
theorem copy_any (b : Bat) (A : Option Addr) (c B : Nat) (w : World) (hL : Rcs w B A b.L.length b.L) (hB : B ≤ w.heap.size) (hl : b.L.length ≤ 1000000) :
    Calls Try.prog 29 #[.agg (b.cells A c)] w fun e w' => ∃ A' c', e = .returned (.agg (b.cells A' c')) ∧ w'.ownsRow w.heap.size 38 4 (.slice A' b.L.length c') b.L.length (rcells b.L) ∧ (∀ p, A' = some p → w.heap.size ≤ p.block) ∧ Below w.heap.size w w' := by
  obtain ⟨base, pid, epoch, seq, kind, time, L⟩ := b
  simp only [Bat.cells] at *
  obtain ⟨W0, hW0⟩ : ∃ W0, (w.alloc (.cells #[.int .i64 base, .int .i64 pid, .int .i64 epoch, .int .i64 seq, .int .i64 kind, .int .i64 time, .slice A L.length c] 24)).alloc (.cells #[.int .i64 0, .int .i64 0, .int .i64 0, .int .i64 0, .int .i64 0, .int .i64 0, .slice none 0 0] 24) = W0 := ⟨_, rfl⟩
  have hz0 : W0.heap.size = w.heap.size + 1 + 1 := by rw [← hW0]; simp
  have hB0 : Below w.heap.size w W0 := by rw [← hW0]; exact ((Below.refl _ _).alloc (Nat.le_refl _) _).alloc (by simp) _
  have k1 : W0.heap[w.heap.size]? = some (.cells #[.int .i64 base, .int .i64 pid, .int .i64 epoch, .int .i64 seq, .int .i64 kind, .int .i64 time, .slice A L.length c] 24 (0, 0)) := by
    rw [← hW0, ← heap_alloc_new w (.cells #[.int .i64 base, .int .i64 pid, .int .i64 epoch, .int .i64 seq, .int .i64 kind, .int .i64 time, .slice A L.length c] 24)]
    exact ((Below.refl (w.heap.size + 1) _).alloc (by simp) _).block w.heap.size (by omega)
  have k2 : W0.heap[w.heap.size + 1]? = some (.cells #[.int .i64 0, .int .i64 0, .int .i64 0, .int .i64 0, .int .i64 0, .int .i64 0, .slice none 0 0] 24 (0, 0)) := by
    have h := heap_alloc_new (w.alloc (.cells #[.int .i64 base, .int .i64 pid, .int .i64 epoch, .int .i64 seq, .int .i64 kind, .int .i64 time, .slice A L.length c] 24)) (.cells #[.int .i64 0, .int .i64 0, .int .i64 0, .int .i64 0, .int .i64 0, .int .i64 0, .slice none 0 0] 24)
    rw [show (w.alloc (.cells #[.int .i64 base, .int .i64 pid, .int .i64 epoch, .int .i64 seq, .int .i64 kind, .int .i64 time, .slice A L.length c] 24)).heap.size = w.heap.size + 1 from by simp] at h
    rw [← hW0]; exact h
  have c6 : W0.cell? ⟨w.heap.size, 6, none⟩ = some (.slice A L.length c) := cell_of_row _ _ 6 _ _ _ k1
  have HB0 := Lib.hid hB0
  have K1 := Lib.hid k1
  have K2 := Lib.hid k2
  have HW0 := Lib.hid hW0
  have HC := Lib.hid (cloneR_any A L.length c B L W0 (hL.below (hB0.mono hB)) hl (by omega))
  clear hL hB0 k1 k2 hW0
  go_enter Try.func29, Try.ntmps29
  go_upto_region 1 with fail
  rw [HW0.out]
  go_wp2_with fail
  refine HC.out.mono ?_
  rintro e w2 ⟨v2, rfl, ho2, hb2⟩
  have q1 := (hb2.block w.heap.size (by omega)).trans K1.out
  have q2 := (hb2.block (w.heap.size + 1) (by omega)).trans K2.out
  have y0 : w2.cell? ⟨w.heap.size, 0, none⟩ = some (.int .i64 base) := cell_of_row _ _ 0 _ _ _ q1
  have f0 : w2.frozen? ⟨w.heap.size, 0, none⟩ = false := frozen_of_row _ _ 0 _ _ q1
  have d0 : w2.cell? ⟨w.heap.size + 1, 0, none⟩ = some (.int .i64 0) := cell_of_row _ _ 0 _ _ _ q2
  have g0 : w2.frozen? ⟨w.heap.size + 1, 0, none⟩ = false := frozen_of_row _ _ 0 _ _ q2
  have y1 : w2.cell? ⟨w.heap.size, 1, none⟩ = some (.int .i64 pid) := cell_of_row _ _ 1 _ _ _ q1
  have f1 : w2.frozen? ⟨w.heap.size, 1, none⟩ = false := frozen_of_row _ _ 1 _ _ q1
  have d1 : w2.cell? ⟨w.heap.size + 1, 1, none⟩ = some (.int .i64 0) := cell_of_row _ _ 1 _ _ _ q2
  have g1 : w2.frozen? ⟨w.heap.size + 1, 1, none⟩ = false := frozen_of_row _ _ 1 _ _ q2
  have y2 : w2.cell? ⟨w.heap.size, 2, none⟩ = some (.int .i64 epoch) := cell_of_row _ _ 2 _ _ _ q1
  have f2 : w2.frozen? ⟨w.heap.size, 2, none⟩ = false := frozen_of_row _ _ 2 _ _ q1
  have d2 : w2.cell? ⟨w.heap.size + 1, 2, none⟩ = some (.int .i64 0) := cell_of_row _ _ 2 _ _ _ q2
  have g2 : w2.frozen? ⟨w.heap.size + 1, 2, none⟩ = false := frozen_of_row _ _ 2 _ _ q2
  have y3 : w2.cell? ⟨w.heap.size, 3, none⟩ = some (.int .i64 seq) := cell_of_row _ _ 3 _ _ _ q1
  have f3 : w2.frozen? ⟨w.heap.size, 3, none⟩ = false := frozen_of_row _ _ 3 _ _ q1
  have d3 : w2.cell? ⟨w.heap.size + 1, 3, none⟩ = some (.int .i64 0) := cell_of_row _ _ 3 _ _ _ q2
  have g3 : w2.frozen? ⟨w.heap.size + 1, 3, none⟩ = false := frozen_of_row _ _ 3 _ _ q2
  have y4 : w2.cell? ⟨w.heap.size, 4, none⟩ = some (.int .i64 kind) := cell_of_row _ _ 4 _ _ _ q1
  have f4 : w2.frozen? ⟨w.heap.size, 4, none⟩ = false := frozen_of_row _ _ 4 _ _ q1
  have d4 : w2.cell? ⟨w.heap.size + 1, 4, none⟩ = some (.int .i64 0) := cell_of_row _ _ 4 _ _ _ q2
  have g4 : w2.frozen? ⟨w.heap.size + 1, 4, none⟩ = false := frozen_of_row _ _ 4 _ _ q2
  have y5 : w2.cell? ⟨w.heap.size, 5, none⟩ = some (.int .i64 time) := cell_of_row _ _ 5 _ _ _ q1
  have f5 : w2.frozen? ⟨w.heap.size, 5, none⟩ = false := frozen_of_row _ _ 5 _ _ q1
  have d5 : w2.cell? ⟨w.heap.size + 1, 5, none⟩ = some (.int .i64 0) := cell_of_row _ _ 5 _ _ _ q2
  have g5 : w2.frozen? ⟨w.heap.size + 1, 5, none⟩ = false := frozen_of_row _ _ 5 _ _ q2
  have y6 : w2.cell? ⟨w.heap.size, 6, none⟩ = some (.slice A L.length c) := cell_of_row _ _ 6 _ _ _ q1
  have f6 : w2.frozen? ⟨w.heap.size, 6, none⟩ = false := frozen_of_row _ _ 6 _ _ q1
  have d6 : w2.cell? ⟨w.heap.size + 1, 6, none⟩ = some (.slice none 0 0) := cell_of_row _ _ 6 _ _ _ q2
  have g6 : w2.frozen? ⟨w.heap.size + 1, 6, none⟩ = false := frozen_of_row _ _ 6 _ _ q2
  obtain ⟨A2, c2, rfl, h21, h22⟩ := row_shape ho2
  have hlt := World.ownsRow.lt ho2
  have n1 : (Value.slice A2 L.length c2).ownBlock ≠ some w.heap.size := fun e => by have := (hlt _ e).1; omega
  have n2 : (Value.slice A2 L.length c2).ownBlock ≠ some (w.heap.size + 1) := fun e => by have := (hlt _ e).1; omega
  have HO := Lib.hid (row_base ho2 (base' := w.heap.size) (by omega))
  have HB2 := Lib.hid (HB0.out.trans (hb2.mono (by omega)))
  have HN1 := Lib.hid n1
  have HN2 := Lib.hid n2
  have HA2 : Hid (∀ p, A2 = some p → w.heap.size ≤ p.block) := fun p e => by have := (hlt p.block (by rw [e]; rfl)).1; omega
  clear q1 q2 n1 n2 ho2 hb2 hlt HC c6
  go_wp2_with fail
  refine bodyPost_ret (v := .agg #[.int .i64 base, .int .i64 pid, .int .i64 epoch, .int .i64 seq, .int .i64 kind, .int .i64 time, .slice A2 L.length c2]) (by simp [results, Try.results29, go_sem, d0, d1, d2, d3, d4, d5, d6]) rfl ?_
  refine ⟨A2, c2, rfl, ?_, HA2.out, ?_⟩
  · repeat refine row_set ?_ (by first | exact HN1.out | exact HN2.out)
    exact HO.out
  · repeat refine Below.setCell ?_ (by simp) _
    exact HB2.out

/-- a batch's part -/
def partB (b : Bat) (i j : Nat) : Bat := ⟨b.base + (i : Int), b.pid, b.epoch, if b.pid = 0 then b.seq else b.seq + (i : Int), b.kind, b.time, (b.L.take j).drop i⟩
end Go.Proofs.Ytkdpfajoeajenaa
