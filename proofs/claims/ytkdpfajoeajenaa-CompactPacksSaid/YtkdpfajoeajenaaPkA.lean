/-
  What records packed as batches come to, as data; the records of batches at their offsets.
-/
import Derived.Test.YtkdpfajoeajenaaCpI
import Derived.Test.YtkdpfajoeajenaaRecMl
namespace Go.Proofs.Ytkdpfajoeajenaa
open Go.RowKit
set_option linter.unusedVariables false
set_option linter.unusedSimpArgs false

def AtC.r (a : AtC) : Rec := ⟨a.key, a.value, a.gone, a.time⟩
def atOf (o : Int) (r : Rec) : AtC := ⟨o, r.key, r.value, r.gone, r.time⟩
theorem atOf_r (a : AtC) : atOf a.off a.r = a := rfl
def adjB (a b : AtC) : Bool := b.off == wrap64 (a.off + 1)
def runF (L : List AtC) : Nat → Nat → Nat
  | 0, n => n
  | f + 1, n => if n < L.length ∧ n < 64 ∧ adjB (L.getD (n - 1) default) (L.getD n default) = true then runF L f (n + 1) else n
def runN (L : List AtC) : Nat := runF L 64 1
theorem run_ge (L : List AtC) : ∀ f n, n ≤ runF L f n := by
  intro f
  induction f with
  | zero => intro n; exact Nat.le_refl _
  | succ f ih =>
    intro n
    unfold runF
    split
    · have := ih (n + 1); omega
    · exact Nat.le_refl _
theorem run_le (L : List AtC) : ∀ f n, n ≤ L.length → n ≤ 64 → runF L f n ≤ L.length ∧ runF L f n ≤ 64 := by
  intro f
  induction f with
  | zero => intro n h1 h2; exact ⟨h1, h2⟩
  | succ f ih =>
    intro n h1 h2
    unfold runF
    split
    · exact ih (n + 1) (by omega) (by omega)
    · exact ⟨h1, h2⟩
theorem run_adj (L : List AtC) : ∀ f n j, n ≤ j → j < runF L f n → adjB (L.getD (j - 1) default) (L.getD j default) = true := by
  intro f
  induction f with
  | zero => intro n j h1 h2; unfold runF at h2; omega
  | succ f ih =>
    intro n j h1 h2
    unfold runF at h2
    split at h2
    · rename_i hc
      rcases Nat.lt_or_ge n j with h | h
      · exact ih (n + 1) j h h2
      · obtain rfl : j = n := by omega
        exact hc.2.2
    · omega
theorem runN_pos (L : List AtC) : 1 ≤ runN L := run_ge L 64 1
theorem runN_le (L : List AtC) (h : 0 < L.length) : runN L ≤ L.length ∧ runN L ≤ 64 := run_le L 64 1 h (by omega)
/-- one step of the search for the end of a run -/
theorem run_step (L : List AtC) (n : Nat) (h : n ≤ 64) : runF L (65 - n) n = if n < L.length ∧ n < 64 ∧ adjB (L.getD (n - 1) default) (L.getD n default) = true then runF L (65 - (n + 1)) (n + 1) else n := by
  rw [show 65 - n = (65 - (n + 1)) + 1 by omega]; rfl
def batchOf (L : List AtC) : Bat := ⟨(L.getD 0 default).off, 0, 0, 0, 0, (L.getD 0 default).time, L.map AtC.r⟩
def packs : Nat → List AtC → List Bat
  | 0, _ => []
  | f + 1, L => if L.length = 0 then [] else batchOf (L.take (runN L)) :: packs f (L.drop (runN L))
theorem packs_nil (f : Nat) : packs f [] = [] := by cases f <;> rfl
theorem packs_cons (f : Nat) (L : List AtC) (h : 0 < L.length) (hf : L.length ≤ f) : ∃ f', f = f' + 1 ∧ packs f L = batchOf (L.take (runN L)) :: packs f' (L.drop (runN L)) ∧ (L.drop (runN L)).length ≤ f' := by
  obtain ⟨f', rfl⟩ : ∃ f', f = f' + 1 := ⟨f - 1, by omega⟩
  refine ⟨f', rfl, ?_, ?_⟩
  · show (if _ then _ else _) = _
    rw [if_neg (by omega)]
  · have := runN_pos L
    rw [List.length_drop]; omega
def packE (L : List AtC) : Int := if incB L = true then badE (packs L.length L) else 8
def packM (L : List AtC) : List Bat := if packE L = 0 then packs L.length L else []
/-- what Pack answers -/
def PackP (L : List AtC) (w : World) (e : Ending) (w' : World) : Prop := ∃ v M, e = .returned (.tuple #[v, .int .i64 (packE L)]) ∧ M.map BA.b = packM L ∧ Ml w w' v M
theorem bad_app (C : List Bat) (b : Bat) (D : List Bat) (hC : ∀ x ∈ C, validE x = 0) (hb : validE b ≠ 0) : badE (C ++ b :: D) = validE b := by
  induction C with
  | nil => show (if _ then _ else _) = _; rw [if_neg hb]
  | cons a C ih =>
    show (if _ then _ else _) = _
    rw [if_pos (hC a (by simp))]
    exact ih fun x hx => hC x (by simp [hx])
theorem bad_none (C : List Bat) (hC : ∀ x ∈ C, validE x = 0) : badE C = 0 := by
  induction C with
  | nil => rfl
  | cons a C ih =>
    show (if _ then _ else _) = _
    rw [if_pos (hC a (by simp))]
    exact ih fun x hx => hC x (by simp [hx])
theorem bad_all (C : List Bat) (h : badE C = 0) : ∀ x ∈ C, validE x = 0 := by
  induction C with
  | nil => intro x hx; cases hx
  | cons a C ih =>
    have h' : (if validE a = 0 then badE C else validE a) = 0 := h
    by_cases ha : validE a = 0
    · rw [if_pos ha] at h'
      intro x hx
      rcases List.mem_cons.1 hx with rfl | hx
      · exact ha
      · exact ih h' x hx
    · rw [if_neg ha] at h'; exact absurd h' ha

/-! ### the records of batches -/
def offsL (o : Int) : List Rec → List AtC
  | [] => []
  | r :: l => atOf o r :: offsL (o + 1) l
theorem offsL_step (o : Int) (L : List Rec) (k : Nat) (h : k < L.length) : offsL (o + (k : Int)) (L.drop k) = atOf (o + (k : Int)) (L.getD k default) :: offsL (o + ((k + 1 : Nat) : Int)) (L.drop (k + 1)) := by
  rw [List.drop_eq_getElem_cons h, List.getD_eq_getElem?_getD, List.getElem?_eq_getElem h]
  show atOf _ _ :: offsL _ _ = _
  rw [show o + (k : Int) + 1 = o + ((k + 1 : Nat) : Int) by omega]
  rfl
theorem offsL_len (o : Int) (L : List Rec) : (offsL o L).length = L.length := by
  induction L generalizing o with
  | nil => rfl
  | cons r l ih => show (offsL (o + 1) l).length + 1 = _; rw [ih]; rfl
def flatC (b : Bat) : List AtC := if markB b = true then [] else offsL b.base b.L
def flatA (l : List Bat) : List AtC := l.flatMap flatC
theorem flatA_take (l : List Bat) (k : Nat) (h : k < l.length) : flatA (l.take (k + 1)) = flatA (l.take k) ++ flatC (l.getD k zB) := by
  unfold flatA
  rw [List.take_succ_eq_append_getElem h, List.flatMap_append, List.getD_eq_getElem?_getD, List.getElem?_eq_getElem h]
  simp

/-! ### of packed records -/
theorem inc_adj : ∀ (L : List AtC) (k : Nat), incB L = true → k + 1 < L.length → (L.getD k default).off < (L.getD (k + 1) default).off := by
  intro L
  induction L with
  | nil => intro k _ h; simp at h
  | cons a L ih =>
    intro k hi hk
    cases L with
    | nil => simp at hk
    | cons b L =>
      have hi' : (decide (a.off < b.off) && incB (b :: L)) = true := hi
      rw [Bool.and_eq_true, decide_eq_true_iff] at hi'
      cases k with
      | zero => exact hi'.1
      | succ k => exact ih k hi'.2 (by simpa using hk)
theorem inc_drop : ∀ (L : List AtC) (k : Nat), incB L = true → incB (L.drop k) = true := by
  intro L
  induction L with
  | nil => intro k _; simp [incB]
  | cons a L ih =>
    intro k hi
    cases k with
    | zero => exact hi
    | succ k =>
      cases L with
      | nil => simp [incB]
      | cons b L =>
        have hi' : (decide (a.off < b.off) && incB (b :: L)) = true := hi
        rw [Bool.and_eq_true] at hi'
        exact ih k hi'.2
theorem getD_take (L : List AtC) (n k : Nat) (h : k < n) : (L.take n).getD k default = L.getD k default := by
  simp [List.getD_eq_getElem?_getD, List.getElem?_take, h]
theorem getD_drop (L : List AtC) (n k : Nat) : (L.drop n).getD k default = L.getD (n + k) default := by
  simp [List.getD_eq_getElem?_getD, List.getElem?_drop]
/-- the offsets of a run -/
theorem run_offs (L : List AtC) (ho : ∀ r ∈ L, r.ok) (hi : incB L = true) (hL : 0 < L.length) : ∀ j, j < runN L → (L.getD j default).off = (L.getD 0 default).off + (j : Int) := by
  intro j
  have hle := runN_le L hL
  have hok : ∀ k, k < L.length → (L.getD k default).ok := fun k hk => by
    rw [List.getD_eq_getElem?_getD, List.getElem?_eq_getElem hk]; exact ho _ (List.getElem_mem _)
  induction j with
  | zero => intro _; simp
  | succ j ih =>
    intro hj
    have h1 := ih (by omega)
    have h2 := run_adj L 64 1 (j + 1) (by omega) hj
    unfold adjB at h2
    rw [beq_iff_eq, Nat.add_sub_cancel] at h2
    have h3 := inc_adj L j hi (by omega)
    have h4 := hok j (by omega)
    have h5 := hok (j + 1) (by omega)
    unfold AtC.ok at h4 h5
    unfold wrap64 at h2
    omega
theorem offsL_run : ∀ (L : List AtC) (o : Int), (∀ j, j < L.length → (L.getD j default).off = o + (j : Int)) → offsL o (L.map AtC.r) = L := by
  intro L
  induction L with
  | nil => intro o _; rfl
  | cons a L ih =>
    intro o h
    show atOf o a.r :: offsL (o + 1) (L.map AtC.r) = a :: L
    have h0 := h 0 (by simp)
    have e : a.off = o := by simpa using h0
    rw [ih (o + 1) fun j hj => by have := h (j + 1) (by simp; omega); simp only [List.getD_cons_succ] at this; rw [this]; omega]
    subst e
    rfl
theorem flat_batchOf (L : List AtC) (ho : ∀ r ∈ L, r.ok) (hi : incB L = true) (hL : 0 < L.length) : flatC (batchOf (L.take (runN L))) = L.take (runN L) := by
  have hle := runN_le L hL
  have hp := runN_pos L
  have hk : markB (batchOf (L.take (runN L))) = false := rfl
  unfold flatC
  rw [hk]
  show offsL _ _ = _
  refine offsL_run _ _ fun j hj => ?_
  rw [List.length_take] at hj
  show ((L.take (runN L)).getD j default).off = ((L.take (runN L)).getD 0 default).off + _
  rw [getD_take _ _ _ (by omega), getD_take _ _ _ (by omega)]
  exact run_offs L ho hi hL j (by omega)
theorem flat_packs : ∀ (f : Nat) (L : List AtC), L.length ≤ f → (∀ r ∈ L, r.ok) → incB L = true → flatA (packs f L) = L := by
  intro f
  induction f with
  | zero => intro L h _ _; have : L = [] := List.length_eq_zero_iff.1 (by omega); subst this; rfl
  | succ f ih =>
    intro L h ho hi
    by_cases hL : L.length = 0
    · have : L = [] := List.length_eq_zero_iff.1 hL
      subst this; rfl
    · show flatA (if _ then _ else _) = _
      rw [if_neg hL]
      show flatC _ ++ flatA _ = _
      rw [flat_batchOf L ho hi (by omega), ih _ (by have := runN_pos L; rw [List.length_drop]; omega) (fun r hr => ho r (List.mem_of_mem_drop hr)) (inc_drop L _ hi), List.take_append_drop]
theorem map_r_len (L : List AtC) (n : Nat) (h : n ≤ L.length) : (batchOf (L.take n)).L.length = n := by
  show ((L.take n).map AtC.r).length = n
  rw [List.length_map, List.length_take]; omega
/-- no batch begins ahead of where the one ahead of it ends -/
theorem packs_rise : ∀ (f : Nat) (L : List AtC), L.length ≤ f → (∀ r ∈ L, r.ok) → incB L = true → ∀ k, k + 1 < (packs f L).length → ((packs f L).getD k zB).base + (((packs f L).getD k zB).L.length : Int) ≤ ((packs f L).getD (k + 1) zB).base := by
  intro f
  induction f with
  | zero => intro L _ _ _ k h; simp [packs] at h
  | succ f ih =>
    intro L h ho hi k hk
    by_cases hL : L.length = 0
    · have e : packs (f + 1) L = [] := by show (if _ then _ else _) = _; rw [if_pos hL]
      rw [e] at hk; simp at hk
    · have e : packs (f + 1) L = batchOf (L.take (runN L)) :: packs f (L.drop (runN L)) := by show (if _ then _ else _) = _; rw [if_neg hL]
      have hp := runN_pos L
      have hle := runN_le L (by omega)
      have hd : (L.drop (runN L)).length ≤ f := by rw [List.length_drop]; omega
      rw [e] at hk ⊢
      cases k with
      | succ k => exact ih _ hd (fun r hr => ho r (List.mem_of_mem_drop hr)) (inc_drop L _ hi) k (by simpa using hk)
      | zero =>
        have hdp : 0 < (L.drop (runN L)).length := by
          rcases Nat.eq_zero_or_pos (L.drop (runN L)).length with h0 | h0
          · rw [List.length_eq_zero_iff.1 h0, packs_nil] at hk; simp at hk
          · exact h0
        obtain ⟨f', rfl, e2, _⟩ := packs_cons f _ hdp hd
        rw [List.getD_cons_succ, List.getD_cons_zero, e2, List.getD_cons_zero, map_r_len _ _ hle.1]
        show ((L.take (runN L)).getD 0 default).off + _ ≤ (((L.drop (runN L)).take _).getD 0 default).off
        rw [getD_take _ _ _ (by omega), getD_take _ _ _ (by have := runN_pos (L.drop (runN L)); omega), getD_drop, Nat.add_zero]
        have h1 := run_offs L ho hi (by omega) (runN L - 1) (by omega)
        rw [List.length_drop] at hdp
        have h2 := inc_adj L (runN L - 1) hi (by omega)
        rw [show runN L - 1 + 1 = runN L by omega] at h2
        omega
theorem packs_len : ∀ (f : Nat) (L : List AtC), L.length ≤ f → (packs f L).length ≤ L.length := by
  intro f
  induction f with
  | zero => intro L h; simp [packs]
  | succ f ih =>
    intro L h
    by_cases hL : L.length = 0
    · have e : packs (f + 1) L = [] := by show (if _ then _ else _) = _; rw [if_pos hL]
      rw [e]; simp
    · have e : packs (f + 1) L = batchOf (L.take (runN L)) :: packs f (L.drop (runN L)) := by show (if _ then _ else _) = _; rw [if_neg hL]
      have hp := runN_pos L
      have := ih (L.drop (runN L)) (by rw [List.length_drop]; omega)
      rw [e, List.length_cons]
      rw [List.length_drop] at this
      have hle := runN_le L (by omega)
      omega
end Go.Proofs.Ytkdpfajoeajenaa
