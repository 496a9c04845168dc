/-
  A map keyed by int64 in memory, whose elements are any values: what it holds is a list of things, each with its key and its value, by rising keys.
-/
import Derived.Test.YtofakehnadpebaaChecked
import Derived.Maps.RangeWalk
import Derived.WalkKit
import Derived.Lib.Hide
namespace Go.Proofs.Ytofakehnadpebaa
open Go.RowKit Go.Maps
set_option linter.unusedVariables false
set_option linter.unusedSimpArgs false

/-- how an element reads: as itself -/
def heldE (v : Value) : Option (DataW Value × List MemPlace) := some (.held v, [])
theorem heldE_inv {v : Value} {y : DataW Value × List MemPlace} (h : heldE v = some y) : y = (.held v, []) := by unfold heldE at h; injection h with h; exact h.symm

section
variable {α : Type} (kf : α → Int) (vf : α → Value)
def mapD (L : List α) : DataW Value := .map (L.map fun r => (.int .i64 (kf r), .held (vf r)))
/-- the thing with a key -/
def getL (L : List α) (k : Int) : Option α := L.find? fun r => decide (kf r = k)
def insL (r : α) : List α → List α
  | [] => [r]
  | y :: l => if kf r < kf y then r :: y :: l else y :: insL r l
def delL (k : Int) (L : List α) : List α := L.filter fun r => !decide (kf r = k)
def putL (r : α) (L : List α) : List α := insL kf r (delL kf (kf r) L)
theorem same_int (a b : Int) : (Lit.int .i64 a).sameKey (.int .i64 b) = decide (a = b) := by simp [Lit.sameKey]
theorem insert_mapD (r : α) (L : List α) : DataW.insert (.int .i64 (kf r), .held (vf r)) (L.map fun r => (Lit.int .i64 (kf r), DataW.held (vf r))) = (insL kf r L).map fun r => (Lit.int .i64 (kf r), DataW.held (vf r)) := by
  induction L with
  | nil => rfl
  | cons y l ih =>
    simp only [List.map_cons, DataW.insert, insL]
    by_cases h : kf r < kf y
    · rw [if_pos h, if_pos (show (Lit.int .i64 (kf r)).before (.int .i64 (kf y)) = true by simp [Lit.before, h])]; rfl
    · rw [if_neg h, if_neg (show ¬ (Lit.int .i64 (kf r)).before (.int .i64 (kf y)) = true by simp [Lit.before, h]), ih]; rfl
theorem del_mapD (k : Int) (L : List α) : (mapD kf vf L).del (.int .i64 k) = mapD kf vf (delL kf k L) := by
  unfold mapD DataW.del delL
  simp only [List.filter_map]
  rw [show ((fun p : Lit × DataW Value => !p.1.sameKey (.int .i64 k)) ∘ fun r => (Lit.int .i64 (kf r), DataW.held (vf r))) = fun r => !decide (kf r = k) from by funext r; simp [Lit.sameKey]]
theorem put_mapD (r : α) (L : List α) : (mapD kf vf L).put (.int .i64 (kf r)) (.held (vf r)) = mapD kf vf (putL kf r L) := by
  have h := del_mapD kf vf (kf r) L
  unfold mapD DataW.del at h
  unfold mapD DataW.put putL
  simp only [DataW.map.injEq] at h ⊢
  rw [h, insert_mapD]
theorem atKey_mapD (k : Int) (L : List α) (z : DataW Value) : (mapD kf vf L).atKey (.int .i64 k) z = match getL kf L k with | some r => .held (vf r) | none => z := by
  unfold mapD DataW.atKey getL
  simp only [List.find?_map]
  rw [show ((fun p : Lit × DataW Value => p.1.sameKey (.int .i64 k)) ∘ fun r => (Lit.int .i64 (kf r), DataW.held (vf r))) = fun r => decide (kf r = k) from by funext r; simp [Lit.sameKey]]
  cases L.find? fun r => decide (kf r = k) <;> rfl
theorem has_mapD (k : Int) (L : List α) : has (mapD kf vf L) (.int .i64 k) = (getL kf L k).isSome := by
  cases h : getL kf L k with
  | none => exact has_false_of_atKey fun z => by rw [atKey_mapD, h]
  | some r => exact has_true_of_atKey (y := .held (vf r)) fun z => by rw [atKey_mapD, h]
theorem size_mapD (L : List α) : Maps.size (mapD kf vf L) = L.length := by simp [mapD, Maps.size]
theorem getL_key {L : List α} {k : Int} {r : α} (h : getL kf L k = some r) : kf r = k := by simpa using List.find?_some h
theorem getL_mem {L : List α} {k : Int} {r : α} (h : getL kf L k = some r) : r ∈ L := List.mem_of_find?_eq_some h
theorem getL_none {L : List α} {k : Int} (h : getL kf L k = none) : ∀ r ∈ L, kf r ≠ k := fun r hr => by simpa using List.find?_eq_none.1 h r hr
theorem delL_none {L : List α} {k : Int} (h : getL kf L k = none) : delL kf k L = L := List.filter_eq_self.2 fun r hr => by simpa using getL_none kf h r hr
theorem getL_ins (r : α) (L : List α) (k : Int) (h : ∀ x ∈ L, kf x ≠ kf r) : getL kf (insL kf r L) k = if kf r = k then some r else getL kf L k := by
  induction L with
  | nil => unfold insL getL; by_cases h1 : kf r = k <;> simp [h1]
  | cons y l ih =>
    have hy := h y (by simp)
    have ih := ih fun x hx => h x (by simp [hx])
    unfold insL
    by_cases h2 : kf r < kf y
    · rw [if_pos h2]; unfold getL; by_cases h1 : kf r = k <;> simp [List.find?_cons, h1]
    · rw [if_neg h2]
      unfold getL at ih ⊢
      rw [List.find?_cons, ih, List.find?_cons]
      by_cases h3 : kf y = k
      · have h4 : kf r ≠ k := by omega
        simp [h3, h4]
      · simp [h3]
theorem getL_del (k j : Int) (L : List α) : getL kf (delL kf j L) k = if j = k then none else getL kf L k := by
  unfold getL delL
  by_cases h : j = k
  · subst h; rw [if_pos rfl]; rw [List.find?_eq_none]; intro r hr; simpa using (List.mem_filter.1 hr).2
  · rw [if_neg h, find_filter_keep]
    intro p hp; simp only [decide_eq_true_eq] at hp; simp only [Bool.not_eq_true', decide_eq_false_iff_not]; omega
theorem getL_put (r : α) (L : List α) (k : Int) : getL kf (putL kf r L) k = if kf r = k then some r else getL kf L k := by
  unfold putL
  rw [getL_ins _ _ _ _ fun x hx => by simpa [delL] using (List.mem_filter.1 hx).2, getL_del]
  by_cases h : kf r = k
  · rw [if_pos h, if_pos h]
  · rw [if_neg h, if_neg h, if_neg h]
theorem insL_length (r : α) (L : List α) : (insL kf r L).length = L.length + 1 := by
  induction L with
  | nil => rfl
  | cons y l ih => unfold insL; split <;> simp [ih]
theorem insL_mem (r : α) (L : List α) (x : α) : x ∈ insL kf r L ↔ x = r ∨ x ∈ L := by
  induction L with
  | nil => simp [insL]
  | cons y l ih =>
    unfold insL
    split
    · simp
    · simp only [List.mem_cons, ih]; constructor
      · rintro (h | h | h) <;> simp [h]
      · rintro (h | h | h) <;> simp [h]
theorem putL_mem (r : α) (L : List α) (x : α) : x ∈ putL kf r L ↔ x = r ∨ (x ∈ L ∧ kf x ≠ kf r) := by
  unfold putL delL; rw [insL_mem]; simp
def Rise (L : List α) : Prop := L.Pairwise fun a b => kf a < kf b
theorem insL_rise (r : α) (L : List α) (h : Rise kf L) (hr : ∀ x ∈ L, kf x ≠ kf r) : Rise kf (insL kf r L) := by
  induction L with
  | nil => unfold insL Rise; simp
  | cons y l ih =>
    obtain ⟨h1, h2⟩ := List.pairwise_cons.1 h
    unfold insL
    split
    · rename_i hlt
      exact List.pairwise_cons.2 ⟨fun x hx => by
        rcases List.mem_cons.1 hx with rfl | hx
        · exact hlt
        · have := h1 x hx; omega, h⟩
    · rename_i hlt
      refine List.pairwise_cons.2 ⟨fun x hx => ?_, ih h2 fun x hx => hr x (by simp [hx])⟩
      rcases (insL_mem kf r l x).1 hx with rfl | hx
      · have := hr y (by simp); omega
      · exact h1 x hx
theorem putL_rise (r : α) (L : List α) (h : Rise kf L) : Rise kf (putL kf r L) :=
  insL_rise kf r _ (h.filter _) fun x hx => by simpa [delL] using (List.mem_filter.1 hx).2
theorem getL_of_mem {L : List α} (h : Rise kf L) {r : α} (hr : r ∈ L) : getL kf L (kf r) = some r := by
  induction L with
  | nil => simp at hr
  | cons y l ih =>
    obtain ⟨h1, h2⟩ := List.pairwise_cons.1 h
    unfold getL
    rcases List.mem_cons.1 hr with rfl | hr
    · simp
    · have := h1 r hr
      rw [List.find?_cons]
      rw [show decide (kf y = kf r) = false from by simp; omega]
      exact ih h2 hr
theorem putL_length (r : α) (L : List α) (h : Rise kf L) : (putL kf r L).length = L.length + if (getL kf L (kf r)).isSome then 0 else 1 := by
  unfold putL
  rw [insL_length]
  cases hg : getL kf L (kf r) with
  | none => rw [delL_none kf hg]; rfl
  | some x =>
    have hx := getL_mem kf hg
    have hk := getL_key kf hg
    have : (delL kf (kf r) L).length + 1 = L.length := by
      clear hg
      induction L with
      | nil => simp at hx
      | cons y l ih =>
        obtain ⟨h1, h2⟩ := List.pairwise_cons.1 h
        unfold delL
        rcases List.mem_cons.1 hx with rfl | hx
        · rw [List.filter_cons_of_neg (by simp [hk])]
          rw [List.filter_eq_self.2 fun z hz => by have := h1 z hz; simp; omega]
          rfl
        · have := h1 x hx
          rw [List.filter_cons_of_pos (by simp; omega)]
          have := ih h2 hx
          unfold delL at this
          simp only [List.length_cons]; omega
    simp only [Option.isSome_some, if_true]; omega

/-- block m of w is a map that holds the things of L -/
structure Mi (P : Program) (kt : TypeId) (w : World) (m : Nat) (L : List α) : Prop where
  own : ∃ n, n ≤ 4294967296 ∧ w.ownsMap P kt heldE m n (mapD kf vf L)
  rise : Rise kf L
variable {kf vf} {P : Program} {kt : TypeId} {w w' : World} {m : Nat} {L : List α}
theorem Mi.lt (h : Mi kf vf P kt w m L) : m < w.heap.size := let ⟨_, _, h1⟩ := h.own; h1.lt
theorem Mi.kept (h : Mi kf vf P kt w m L) (hb : w'.heap[m]? = w.heap[m]?) : Mi kf vf P kt w' m L := by
  obtain ⟨n, hn, es, clock, h1, r⟩ := h.own
  exact ⟨⟨n, hn, es, clock, hb.trans h1, r⟩, h.rise⟩
theorem Mi.made (w : World) : Mi kf vf P kt (w.alloc (.map #[] 0)) w.heap.size [] := ⟨⟨0, by omega, World.ownsMap_made w P kt heldE⟩, List.Pairwise.nil⟩
theorem Mi.look_ok {t e : TypeId} (h : Mi kf vf P kt w m L) (K : Keyed P kt) (ht : P.underlying t = some (.map kt e)) (hk : P.underlying kt = some (.int .i64)) {z : Value} (hz : (zeroValue e).run P w = .ok z w) (k : Int) (hw : (Lit.int .i64 k).wf = true) :
    (Instr.lookup t (.map (some m)) (.int .i64 k) true).run P w = .ok (.tuple #[match getL kf L k with | some r => vf r | none => z, .bool (getL kf L k).isSome]) w := by
  obtain ⟨n, _, h1⟩ := h.own
  obtain ⟨v, ps, hr, hv⟩ := h1.look_ok K ht hz (zd := .held z) (zp := []) rfl (keyOf_int_mk hk hw)
  have := heldE_inv hv
  rw [atKey_mapD] at this
  rw [hr, has_mapD]
  cases hg : getL kf L k with
  | none => rw [hg] at this; simp only [Prod.mk.injEq, DataW.held.injEq] at this; rw [← this.1]
  | some r => rw [hg] at this; simp only [Prod.mk.injEq, DataW.held.injEq] at this; rw [← this.1]
theorem Mi.len {t e : TypeId} (h : Mi kf vf P kt w m L) (ht : P.underlying t = some (.map kt e)) (ty : TypeId) : (Builtin.len_ #[t] ty #[.map (some m)]).run P w = .ok (.int .i64 L.length) w := by
  obtain ⟨n, _, h1⟩ := h.own
  rw [h1.len ht ty, size_mapD]
/-- a store: the map's block alone turns; how many entries there may be is bounded by the things -/
theorem Mi.store {t e : TypeId} (h : Mi kf vf P kt w m L) (K : Keyed P kt) (ht : P.underlying t = some (.map kt e)) (hk : P.underlying kt = some (.int .i64)) (hl : L.length < 4294967296) (r : α) (hw : (Lit.int .i64 (kf r)).wf = true) :
    ∃ w', (Instr.mapUpdate t (.map (some m)) (.int .i64 (kf r)) (vf r)).run P w = .ok () w' ∧ Mi kf vf P kt w' m (putL kf r L) ∧ w.mapTurned w' m := by
  obtain ⟨n, _, es, clock, hb, F, hs, hD⟩ := h.own
  have hsz : es.size ≤ L.length := by
    have h1 := congrArg Maps.size hD
    rw [size_mapD] at h1
    rw [h1]; simp [Maps.size, length_sorted]
  have h1 : w.ownsMap P kt heldE m L.length (mapD kf vf L) := ⟨es, clock, hb, F, hsz, hD⟩
  obtain ⟨w', hr, ho, ht'⟩ := h1.store K ht (by unfold maxLen; omega) (keyOf_int_mk hk hw) (val := vf r) (d := .held (vf r)) (ps := []) rfl
  rw [put_mapD] at ho
  exact ⟨w', hr, ⟨⟨_, by omega, ho⟩, putL_rise kf r L h.rise⟩, ht'⟩
end
end Go.Proofs.Ytofakehnadpebaa
