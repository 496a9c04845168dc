/-
  What a split batch's parts are, also when their records have been written over.
-/
import Derived.Test.YtkdpfajoeajenaaSpD
namespace Go.Proofs.Ytkdpfajoeajenaa
open Go.RowKit
set_option linter.unusedVariables false
set_option linter.unusedSimpArgs false

theorem wrap_small (j : Nat) (h : j ≤ 1000) : wrap64 (j : Int) = (j : Int) := by unfold wrap64; omega
structure SplitD (b : Bat) (P : List Bat) : Prop where
  some : 0 < P.length
  most : P.length ≤ 64
  valid : ∀ k, k < P.length → validE (P.getD k zB) = 0
  next : ∀ k, k + 1 < P.length → ∀ R : List Rec, R.length = (P.getD k zB).L.length → (∀ r ∈ R, recE r = 0) → nextI { P.getD k zB with L := R } = (P.getD (k + 1) zB).base
  merge : mergeE P = 0 ∧ mergeB P = b
  flat : flatA P = flatC b
  base : ∀ k, k < P.length → 0 ≤ (P.getD k zB).base ∧ (P.getD k zB).base ≤ 2199023255552 ∧ (P.getD k zB).L.length ≤ 64
theorem split_none (b : Bat) (n : Int) (h : ¬ (validE b = 0 ∧ 1 ≤ n)) : splitB b n = [] := by unfold splitB; rw [if_neg h]
theorem split_data (b : Bat) (n : Int) (hv : validE b = 0) (hn : 1 ≤ n) : SplitD b (splitB b n) := by
  have hF := (fine_iff b).1 hv
  unfold splitB
  rw [if_pos ⟨hv, hn⟩]
  have bs : ∀ P : List Bat, (∀ k, k < P.length → validE (P.getD k zB) = 0) → ∀ k, k < P.length → 0 ≤ (P.getD k zB).base ∧ (P.getD k zB).base ≤ 2199023255552 ∧ (P.getD k zB).L.length ≤ 64 := fun P h k hk => by
    have hG := (fine_iff _).1 (h k hk)
    exact ⟨hG.b1, by have := hG.b2; omega, hG.len⟩
  by_cases hm : markB b = true
  · rw [if_pos hm]
    have hL := mark_empty hF hm
    have hV : ∀ k, k < [b].length → validE ([b].getD k zB) = 0 := fun k hk => by
      obtain rfl : k = 0 := by simpa using hk
      exact hv
    have hE : mergeE [b] = 0 := by
      unfold mergeE
      rw [if_neg (by simp), if_neg (by simp [badE, hv]), if_neg (by simp [chainB]), if_neg (by simp [catL, hL])]
    refine ⟨by simp, by simp, hV, fun k hk => absurd hk (by simp), ⟨hE, ?_⟩, ?_, bs _ hV⟩
    · unfold mergeB
      rw [if_pos hE]
      obtain ⟨base, pid, epoch, seq, kind, time, L⟩ := b
      simp only at hL
      subst hL
      rfl
    · unfold flatA; simp
  · rw [if_neg hm]
    have hm' : markB b = false := by simpa using hm
    obtain ⟨m, hmn⟩ : ∃ m, n.toNat = m := ⟨_, rfl⟩
    rw [hmn]
    have h1 : 1 ≤ m := by omega
    obtain ⟨f1, f2⟩ := form_fine hF hm'
    have hV : ∀ k, k < (chunks b m).length → validE ((chunks b m).getD k zB) = 0 := fun k hk => by
      rw [chunks_len] at hk
      rw [chunks_get _ _ _ hk]
      exact chunk_valid hF hm' h1 k ((cnt_iff b m k h1).1 hk)
    refine ⟨by rw [chunks_len]; exact (cnt_iff b m 0 h1).2 (by omega), ?_, hV, fun k hk R hR hr => ?_, chunks_merge hF hm' h1, chunks_flat_all hm' h1, bs _ hV⟩
    · rw [chunks_len]
      rcases Nat.lt_or_ge 64 (cnt b m) with h | h
      · have h2 := (cnt_iff b m 64 h1).1 h
        have := hF.len
        have : 64 * 1 ≤ 64 * m := Nat.mul_le_mul_left 64 h1
        omega
      · exact h
    · rw [chunks_len] at hk
      rw [chunks_get _ _ _ (by omega)] at hR ⊢
      rw [chunks_get _ _ _ hk]
      have hk2 := (cnt_iff b m (k + 1) h1).1 hk
      obtain ⟨n1, n2⟩ := chunk_next hF hm' h1 k hk2
      rw [n2] at hR
      have hs : (k + 1) * m = k * m + m := Nat.succ_mul k m
      have hval : validE { chunk b m k with L := R } = 0 := part_valid hF hm' (k * m) R (by omega) (by omega) hr
      have hmk : markB { chunk b m k with L := R } = false := hm'
      unfold nextI spanI
      rw [if_pos hval, hmk]
      show b.base + ((k * m : Nat) : Int) + ((R.length : Nat) : Int) = b.base + (((k + 1) * m : Nat) : Int)
      rw [hR, hs]
      omega
/-! ### the records written over -/
def spR : Rec := ⟨⟨#[115, 112, 111, 105, 108, 116]⟩, ⟨#[]⟩, false, 0⟩
def spF (M : List BA) (i r : Nat) (j : Nat) : List Rec := if j < i then List.replicate (recsOf M j).length spR else if j = i then List.replicate r spR ++ (recsOf M j).drop r else recsOf M j
theorem spF_zero (M : List BA) (j : Nat) : recsOf M j = spF M 0 0 j := by
  unfold spF
  rw [if_neg (by omega)]
  split <;> simp
theorem spF_at (M : List BA) (i : Nat) : spF M i 0 i = recsOf M i := by
  unfold spF
  rw [if_neg (by omega), if_pos rfl]; simp
theorem spF_past (M : List BA) (i : Nat) : spF M (i + 1) 0 i = List.replicate (recsOf M i).length spR := by
  unfold spF
  rw [if_pos (by omega)]
theorem spF_step (M : List BA) (i r : Nat) (hr : r < (recsOf M i).length) (j : Nat) : (if j = i then (spF M i r i).take r ++ spR :: (spF M i r i).drop (r + 1) else spF M i r j) = spF M i (r + 1) j := by
  by_cases e : j = i
  · subst e
    rw [if_pos rfl]
    unfold spF
    rw [if_neg (by omega), if_pos rfl, if_neg (by omega), if_pos rfl]
    have h1 : (List.replicate r spR).length = r := by simp
    rw [List.take_append_of_le_length (by omega), List.take_of_length_le (by omega), List.drop_append, h1, List.drop_of_length_le (by omega), List.nil_append, List.drop_drop, List.replicate_succ', List.append_assoc]
    rw [show r + (r + 1 - r) = r + 1 by omega]
    rfl
  · rw [if_neg e]
    unfold spF
    by_cases h : j < i
    · rw [if_pos h, if_pos h]
    · rw [if_neg h, if_neg e, if_neg h, if_neg e]
theorem spF_end (M : List BA) (i : Nat) (j : Nat) : spF M i (recsOf M i).length j = spF M (i + 1) 0 j := by
  unfold spF
  by_cases h : j < i
  · rw [if_pos h, if_pos (by omega)]
  · rw [if_neg h]
    by_cases e : j = i
    · subst e
      rw [if_pos rfl, if_pos (by omega), List.drop_length, List.append_nil]
    · rw [if_neg e, if_neg (by omega)]
      split <;> simp
/-- a batch's cells in a slice of batches -/
theorem lies_row {w : World} {B n : Nat} {A : Option Addr} {M : List BA} {k : Nat} (h : Lies w B A (bcells M)) (hl : M.length = n) (hk : k < n) : ∃ p, A = some p ∧ p.block < B ∧ w.cell? (p.add (k * 7)) = some (.int .i64 (M.getD k default).b.base) ∧
    w.cell? ⟨(p.add (k * 7)).block, (p.add (k * 7)).off + 1, none⟩ = some (.int .i64 (M.getD k default).b.pid) ∧
    w.cell? ⟨(p.add (k * 7)).block, (p.add (k * 7)).off + 2, none⟩ = some (.int .i64 (M.getD k default).b.epoch) ∧
    w.cell? ⟨(p.add (k * 7)).block, (p.add (k * 7)).off + 3, none⟩ = some (.int .i64 (M.getD k default).b.seq) ∧
    w.cell? ⟨(p.add (k * 7)).block, (p.add (k * 7)).off + 4, none⟩ = some (.int .i64 (M.getD k default).b.kind) ∧
    w.cell? ⟨(p.add (k * 7)).block, (p.add (k * 7)).off + 5, none⟩ = some (.int .i64 (M.getD k default).b.time) ∧
    w.cell? ⟨(p.add (k * 7)).block, (p.add (k * 7)).off + 6, none⟩ = some (.slice (M.getD k default).A (M.getD k default).b.L.length (M.getD k default).c) := by
  have g : ∀ j u, j < 7 → ((M.getD k default).cells)[j]? = some u → ∃ p, A = some p ∧ p.block < B ∧ w.cell? ((p.add (k * 7)).add j) = some u := by
    intro j u hj hu
    obtain ⟨p, e, hb, hc⟩ := h.get (k * 7 + j) u ((bcells_get M k j (by omega) hj).trans hu)
    exact ⟨p, e, hb, by rw [add_twice]; exact hc⟩
  obtain ⟨p, e, hb, c0⟩ := g 0 _ (by omega) rfl
  have g' : ∀ j u, 0 < j → j < 7 → ((M.getD k default).cells)[j]? = some u → w.cell? ⟨(p.add (k * 7)).block, (p.add (k * 7)).off + j, none⟩ = some u := fun j u h0 hj hu => by
    obtain ⟨q, e', _, c⟩ := g j u hj hu
    rw [e] at e'
    injection e' with e'
    subst e'
    rw [← add_pos' _ j h0]; exact c
  refine ⟨p, e, hb, ?_, g' 1 _ (by omega) (by omega) rfl, g' 2 _ (by omega) (by omega) rfl, g' 3 _ (by omega) (by omega) rfl, g' 4 _ (by omega) (by omega) rfl, g' 5 _ (by omega) (by omega) rfl, g' 6 _ (by omega) (by omega) rfl⟩
  rw [add_twice, Nat.add_zero] at c0; exact c0
theorem lies5 {w : World} {base n c : Nat} {A : Option Addr} {e : TypeId} {L : List AtC} (h : w.ownsRow base e 5 (.slice A n c) n (ccells L)) (hn : L.length = n) {k : Nat} (hk : k < n) : ∃ p, A = some p ∧ w.cell? (p.add (k * 5)) = some (.int .i64 (L.getD k default).off) ∧
    w.cell? ⟨(p.add (k * 5)).block, (p.add (k * 5)).off + 1, none⟩ = some (.string (L.getD k default).key) ∧
    w.cell? ⟨(p.add (k * 5)).block, (p.add (k * 5)).off + 2, none⟩ = some (.string (L.getD k default).value) ∧
    w.cell? ⟨(p.add (k * 5)).block, (p.add (k * 5)).off + 3, none⟩ = some (.bool (L.getD k default).gone) ∧
    w.cell? ⟨(p.add (k * 5)).block, (p.add (k * 5)).off + 4, none⟩ = some (.int .i64 (L.getD k default).time) := by
  rcases h.2 with ⟨_, hz⟩ | ⟨b, cap, cur, hv, hb, hh, hnc, hm, _⟩
  · omega
  · have h0 := h
    rw [hv] at h0
    injection hv with e1 _ _
    have g : ∀ j u, j < 5 → ((L.getD k default).cells)[j]? = some u → w.cell? (((⟨b, 0, none⟩ : Addr).add (k * 5)).add j) = some u := by
      intro j u hj hu
      have hc := h0.cells (g := b) rfl (k * 5 + j) u ((ccells_get L k j (by omega) hj).trans hu)
      rw [add_twice]; exact hc
    have c0 := g 0 _ (by omega) rfl
    rw [add_twice, Nat.add_zero] at c0
    have g' : ∀ j u, 0 < j → j < 5 → ((L.getD k default).cells)[j]? = some u → w.cell? ⟨((⟨b, 0, none⟩ : Addr).add (k * 5)).block, ((⟨b, 0, none⟩ : Addr).add (k * 5)).off + j, none⟩ = some u := fun j u h1 hj hu => by
      rw [← add_pos5 _ j h1]; exact g j u hj hu
    exact ⟨_, e1, c0, g' 1 _ (by omega) (by omega) rfl, g' 2 _ (by omega) (by omega) rfl, g' 3 _ (by omega) (by omega) rfl, g' 4 _ (by omega) (by omega) rfl⟩
theorem set4w_block {w : World} {b k j : Nat} {y0 y1 y2 y3 : Value} (h : j ≠ b) : (set4w w b k y0 y1 y2 y3).heap[j]? = w.heap[j]? := by
  unfold set4w
  rw [Below.heap_setCell _ _ _ j h, Below.heap_setCell _ _ _ j h, Below.heap_setCell _ _ _ j h, Below.heap_setCell _ _ _ j h]
/-- the cells of a record that is to be written over -/
theorem Pt.cells4 {w wr : World} {v : Value} {M : List BA} {F : Nat → List Rec} (h : Pt w wr v M F) {i r : Nat} (hi : i < M.length) (hr : r < (M.getD i default).b.L.length) : ∃ g, (M.getD i default).A = some ⟨g, 0, none⟩ ∧ g < wr.heap.size ∧
    ∀ j, j < 4 → (∃ u, wr.cell? ⟨g, r * 4 + j, none⟩ = some u) ∧ wr.frozen? ⟨g, r * 4 + j, none⟩ = false := by
  have h0 := h.rows i hi
  unfold BA.sl at h0
  rcases h0.2 with ⟨hv, hz⟩ | ⟨b, cap, cur, hv, hb, hh, hnc, hm, hs, _⟩
  · omega
  · injection hv with e1 _ _
    refine ⟨b, e1, (Array.getElem?_eq_some_iff.1 hh).1, fun j hj => ⟨?_, frozen_of_row _ _ _ _ _ hh⟩⟩
    have hlt : r * 4 + j < cur.size := by omega
    exact ⟨cur[r * 4 + j], (cell_of_row _ _ _ _ _ _ hh).trans (Array.getElem?_eq_some_iff.2 ⟨hlt, rfl⟩)⟩
theorem Pt.lies {w wr : World} {A : Option Addr} {n c : Nat} {M : List BA} {F : Nat → List Rec} (h : Pt w wr (.slice A n c) M F) : Lies wr wr.heap.size A (bcells M) := by
  have h0 := h.own
  rcases h.own.2 with ⟨hv, hz⟩ | ⟨b, cap, cur, hv, hb, hh, hnc, hm, _⟩
  · have : M = [] := List.length_eq_zero_iff.1 hz
    subst this
    exact Lies.empty
  · rw [hv] at h0
    injection hv with e1 _ _
    exact ⟨fun j u hj => ⟨_, e1, (Array.getElem?_eq_some_iff.1 hh).1, h0.cells (g := b) rfl j u hj⟩⟩
theorem merge_again {w w0 : World} {v : Value} {b : Bat} {M : List BA} (h : Pt w0 w v M (recsOf M)) (hd : SplitD b (M.map BA.b)) :
    ∃ A c, v = .slice A M.length c ∧ Calls Try.prog 12 #[.slice A M.length c] w fun e w' => ∃ A' c', e = .returned (.tuple #[.agg (b.cells A' c'), .int .i64 0]) ∧ Rcs w' w'.heap.size A' b.L.length b.L ∧ (∀ p, A' = some p → w.heap.size ≤ p.block) ∧ Below w.heap.size w w' := by
  have h80 : ∀ j, j < M.length → (M.getD j default).b.L.length ≤ 80 := fun j hj => by
    have h1 := (hd.base j (by rw [List.length_map]; exact hj)).2.2
    rw [bat_get] at h1
    omega
  obtain ⟨A, c, hv, h1, h2, h3⟩ := h.bas h80
  refine ⟨A, c, hv, ?_⟩
  have hl := hd.most
  rw [List.length_map] at hl
  have e := merge_fresh M A c w.heap.size M.length w h3 (Nat.le_refl _) (by omega) h1 h2
  unfold MergeF at e
  rw [hd.merge.1, hd.merge.2] at e
  exact e
end Go.Proofs.Ytkdpfajoeajenaa
