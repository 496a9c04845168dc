/-
  What a record does to the rows of a table; all but a table as it was.
-/
import Derived.Test.YtmlekkbjmfknfaaCpF
namespace Go.Proofs.Ytmlekkbjmfknfaa
open Go.RowKit Go.Lib
set_option linter.unusedVariables false
set_option linter.unusedSimpArgs false

def applyL (a : AtC) (L : List AtC) : List AtC := (L.filter fun x => lessB x.key a.key) ++ (if a.gone = true then [] else [a]) ++ (L.filter fun x => lessB a.key x.key)
theorem mem_apply {a x : AtC} {L : List AtC} : x ∈ applyL a L ↔ (x ∈ L ∧ x.key ≠ a.key) ∨ (x = a ∧ a.gone = false) := by
  unfold applyL
  simp only [List.mem_append, List.mem_filter]
  constructor
  · rintro ((⟨h, hl⟩ | h) | ⟨h, hl⟩)
    · exact .inl ⟨h, fun e => by rw [e, lessB_irr] at hl; cases hl⟩
    · cases hg : a.gone with
      | true => rw [hg, if_pos rfl] at h; cases h
      | false => rw [hg] at h; simp at h; exact .inr ⟨h, rfl⟩
    · exact .inl ⟨h, fun e => by rw [e, lessB_irr] at hl; cases hl⟩
  · rintro (⟨h, hne⟩ | ⟨rfl, hg⟩)
    · cases h1 : lessB x.key a.key with
      | true => exact .inl (.inl ⟨h, rfl⟩)
      | false =>
        cases h2 : lessB a.key x.key with
        | true => exact .inr ⟨h, rfl⟩
        | false => exact absurd (lessB_tri h1 h2) hne
    · exact .inl (.inr (by rw [hg]; simp))
theorem apply_srt {a : AtC} {L : List AtC} (h : Srt L) : Srt (applyL a L) := by
  unfold applyL Srt
  rw [List.pairwise_append, List.pairwise_append]
  refine ⟨⟨h.filter _, ?_, ?_⟩, h.filter _, ?_⟩
  · split
    · exact List.Pairwise.nil
    · simp
  · intro x hx y hy
    split at hy
    · cases hy
    · simp at hy; subst hy; exact (List.mem_filter.1 hx).2
  · intro x hx y hy
    have hy2 := (List.mem_filter.1 hy).2
    rcases List.mem_append.1 hx with hx | hx
    · exact lessB_trans (List.mem_filter.1 hx).2 hy2
    · split at hx
      · cases hx
      · simp at hx; subst hx; exact hy2
theorem apply_ok {a : AtC} {L : List AtC} (ha : a.ok) (h : ∀ r ∈ L, r.ok) : ∀ r ∈ applyL a L, r.ok := fun r hr => by
  rcases mem_apply.1 hr with ⟨h1, _⟩ | ⟨rfl, _⟩
  · exact h r h1
  · exact ha
theorem apply_len (a : AtC) (L : List AtC) : (applyL a L).length ≤ L.length + 1 := by
  unfold applyL
  have h3 : (L.filter fun x => lessB a.key x.key).length + (L.filter fun x => lessB x.key a.key).length ≤ L.length := by
    induction L with
    | nil => simp
    | cons y l ih =>
      simp only [List.filter_cons]
      cases h1 : lessB a.key y.key <;> cases h2 : lessB y.key a.key <;> simp only [Bool.false_eq_true, if_true, if_false, reduceIte, List.length_cons] <;> try omega
      have := lessB_trans h1 h2
      rw [lessB_irr] at this; cases this
  simp only [List.length_append]
  split <;> simp <;> omega
theorem getD_mem {L : List AtC} {x : AtC} (h : x ∈ L) : ∃ i, i < L.length ∧ x = L.getD i default := by
  obtain ⟨i, hi, rfl⟩ := List.mem_iff_getElem.1 h
  exact ⟨i, hi, by rw [List.getD_eq_getElem?_getD, List.getElem?_eq_getElem hi]; rfl⟩
section
variable {L : List AtC} {key : ByteArray} {r : Nat}
theorem pos_take (h : posOk L key r) : L.filter (fun x => lessB x.key key) = L.take r := by
  conv => lhs; rw [← List.take_append_drop r L]
  rw [List.filter_append, List.filter_eq_self.2, List.filter_eq_nil_iff.2, List.append_nil]
  · intro x hx
    obtain ⟨i, hi, rfl⟩ := getD_mem hx
    rw [List.length_drop] at hi
    have e : (L.drop r).getD i default = L.getD (r + i) default := by simp [List.getD_eq_getElem?_getD, List.getElem?_drop]
    rw [e, h.2.2 (r + i) (by omega) (by omega)]; simp
  · intro x hx
    obtain ⟨i, hi, rfl⟩ := getD_mem hx
    rw [List.length_take] at hi
    have e : (L.take r).getD i default = L.getD i default := by simp [List.getD_eq_getElem?_getD, List.getElem?_take, show i < r by omega]
    rw [e]; exact h.2.1 i (by omega)
theorem pos_gt (h : posOk L key r) (hs : Srt L) {t : Nat} (ht : r ≤ t) (htl : t < L.length) (hne : t = r → (L.getD r default).key ≠ key) : lessB key (L.getD t default).key = true := by
  have hr := h.2.2 r (Nat.le_refl _) (by omega)
  have key_r : (L.getD r default).key ≠ key → lessB key (L.getD r default).key = true := fun hq => by
    cases hc : lessB key (L.getD r default).key with
    | true => rfl
    | false => exact absurd (lessB_tri hr hc) hq
  rcases Nat.lt_or_ge r t with h1 | h1
  · by_cases e : (L.getD r default).key = key
    · rw [← e]; exact srt_get hs h1 htl
    · exact lessB_trans (key_r e) (srt_get hs h1 htl)
  · obtain rfl : t = r := by omega
    exact key_r (hne rfl)
theorem pos_rest (h : posOk L key r) (hs : Srt L) : L.filter (fun x => lessB key x.key) = L.drop (r + if thereB L key r = true then 1 else 0) := by
  obtain ⟨k, hk⟩ : ∃ k, k = r + if thereB L key r = true then 1 else 0 := ⟨_, rfl⟩
  rw [← hk]
  conv => lhs; rw [← List.take_append_drop k L]
  rw [List.filter_append, List.filter_eq_nil_iff.2, List.filter_eq_self.2, List.nil_append]
  · intro x hx
    obtain ⟨i, hi, rfl⟩ := getD_mem hx
    rw [List.length_drop] at hi
    have e : (L.drop k).getD i default = L.getD (k + i) default := by simp [List.getD_eq_getElem?_getD, List.getElem?_drop]
    rw [e]
    have hrk : r ≤ k := by rw [hk]; omega
    refine pos_gt h hs (by omega) (by omega) fun he => ?_
    intro e2
    have : thereB L key r = true := by unfold thereB; rw [e2]; simp; omega
    rw [this, if_pos rfl] at hk
    omega
  · intro x hx
    obtain ⟨i, hi, rfl⟩ := getD_mem hx
    rw [List.length_take] at hi
    have e : (L.take k).getD i default = L.getD i default := by simp [List.getD_eq_getElem?_getD, List.getElem?_take, show i < k by omega]
    rw [e]
    have e3 : lessB key (L.getD i default).key = false := by
      rcases Nat.lt_or_ge i r with h1 | h1
      · cases hc : lessB key (L.getD i default).key with
        | false => rfl
        | true => have := lessB_trans (h.2.1 i h1) hc; rw [lessB_irr] at this; cases this
      · cases ht : thereB L key r with
        | false => rw [ht] at hk; simp at hk; omega
        | true =>
          rw [ht, if_pos rfl] at hk
          obtain rfl : i = r := by omega
          unfold thereB at ht
          simp at ht
          rw [List.getD_eq_getElem?_getD, ht.2, lessB_irr]
    rw [e3]; simp
end
theorem apply_del {L : List AtC} {a : AtC} {r : Nat} (h : posOk L a.key r) (hs : Srt L) (hg : a.gone = true) (ht : thereB L a.key r = true) : applyL a L = L.take r ++ L.drop (r + 1) := by
  unfold applyL; rw [pos_take h, pos_rest h hs, ht, if_pos rfl, if_pos hg]; simp
theorem apply_none {L : List AtC} {a : AtC} {r : Nat} (h : posOk L a.key r) (hs : Srt L) (hg : a.gone = true) (ht : thereB L a.key r = false) : applyL a L = L := by
  unfold applyL; rw [pos_take h, pos_rest h hs, ht, if_pos hg]; simp
theorem apply_set {L : List AtC} {a : AtC} {r : Nat} (h : posOk L a.key r) (hs : Srt L) (hg : a.gone = false) (ht : thereB L a.key r = true) : applyL a L = L.take r ++ a :: L.drop (r + 1) := by
  unfold applyL; rw [pos_take h, pos_rest h hs, ht, if_pos rfl, hg]; simp
theorem apply_ins {L : List AtC} {a : AtC} {r : Nat} (h : posOk L a.key r) (hs : Srt L) (hg : a.gone = false) (ht : thereB L a.key r = false) : applyL a L = L.take r ++ a :: L.drop r := by
  unfold applyL; rw [pos_take h, pos_rest h hs, ht, hg]; simp
theorem there_lt {L : List AtC} {key : ByteArray} {r : Nat} (h : thereB L key r = true) : r < L.length := by unfold thereB at h; simp at h; exact h.1

/-- all blocks below base as they were, but for block g -/
structure Tw (base g : Nat) (w w' : World) : Prop where
  os : w'.os = w.os
  tape : w'.tape = w.tape
  output : w'.output = w.output
  size : w.heap.size ≤ w'.heap.size
  block : ∀ k, k < base → k ≠ g → w'.heap[k]? = w.heap[k]?
section
variable {base g B : Nat} {w w' w'' : World}
theorem Tw.refl (base g : Nat) (w : World) : Tw base g w w := ⟨rfl, rfl, rfl, Nat.le_refl _, fun _ _ _ => rfl⟩
theorem Tw.trans (h : Tw base g w w') (h' : Tw base g w' w'') : Tw base g w w'' :=
  ⟨h'.os.trans h.os, h'.tape.trans h.tape, h'.output.trans h.output, Nat.le_trans h.size h'.size, fun k hk hn => (h'.block k hk hn).trans (h.block k hk hn)⟩
theorem Tw.of_below (h : Below B w w') (hB : base ≤ B) : Tw base g w w' := ⟨h.os, h.tape, h.output, h.size, fun k hk _ => h.block k (by omega)⟩
theorem Tw.of_grown {row : Option Nat} (h : w.grownBy w' row) (hB : base ≤ w.heap.size) (hr : ∀ k, row = some k → base ≤ k ∨ k = g) : Tw base g w w' :=
  ⟨h.os, h.tape, h.output, h.size, fun k hk hn => h.block k (by omega) (fun e => by rcases hr k e.symm with h1 | h1 <;> omega)⟩
theorem Tw.set (w : World) (i : Nat) (u : Value) : Tw base g w (w.setCell ⟨g, i, none⟩ u) :=
  ⟨rfl, rfl, rfl, by simp, fun k _ hn => Below.heap_setCell w ⟨g, i, none⟩ u k hn⟩
theorem Tw.below (h : Tw base g w w') (hB : B ≤ base) (hg : B ≤ g) : Below B w w' := ⟨h.os, h.tape, h.output, h.size, fun k hk => h.block k (by omega) (by omega)⟩
end
theorem set2b {w : World} {g : Nat} {T : TypeId} {x0 x1 : Value} (y : Value) (h : w.heap[g]? = some (.cells #[x0, x1] T (0, 0))) : (w.setCell ⟨g, 1, none⟩ y).heap[g]? = some (.cells #[x0, y] T (0, 0)) := by rw [heap_setCell_same _ g 1 _ _ _ h]; rfl
theorem set2a {w : World} {g : Nat} {T : TypeId} {x0 x1 : Value} (y : Value) (h : w.heap[g]? = some (.cells #[x0, x1] T (0, 0))) : (w.setCell ⟨g, 0, none⟩ y).heap[g]? = some (.cells #[y, x1] T (0, 0)) := by rw [heap_setCell_same _ g 0 _ _ _ h]; rfl
theorem row_set5 {w : World} {base s n g i : Nat} {e : TypeId} {v u : Value} {xs : List Value} (h : w.ownsRow base e s v n xs) (hg : v.ownBlock ≠ some g) : (w.setCell ⟨g, i, none⟩ u).ownsRow base e s v n xs := by
  refine ⟨h.1, ?_⟩
  rcases h.2 with h2 | ⟨b, cap, cur, rfl, hb, hh, r⟩
  · exact .inl h2
  · exact .inr ⟨b, cap, cur, rfl, hb, (Below.heap_setCell w ⟨g, i, none⟩ u b (fun e => hg (by have h9 : b = g := e; rw [h9]; rfl))).trans hh, r⟩
theorem Tw.setb {base g : Nat} (w : World) (b i : Nat) (u : Value) (hb : base ≤ b) : Tw base g w (w.setCell ⟨b, i, none⟩ u) :=
  ⟨rfl, rfl, rfl, by simp, fun k hk _ => Below.heap_setCell w ⟨b, i, none⟩ u k (fun e => by have : k = b := e; omega)⟩
theorem set5l {α : Type} (P Q : List α) (x0 x1 x2 x3 x4 y0 y1 y2 y3 y4 : α) (k : Nat) (hk : P.length = k) :
    (((((P ++ x0 :: x1 :: x2 :: x3 :: x4 :: Q).set k y0).set (k + 1) y1).set (k + 2) y2).set (k + 3) y3).set (k + 4) y4 = P ++ y0 :: y1 :: y2 :: y3 :: y4 :: Q := by
  subst hk
  simp [List.set_append]
def set5w (w : World) (b k : Nat) (y0 y1 y2 y3 y4 : Value) : World := ((((w.setCell ⟨b, k, none⟩ y0).setCell ⟨b, k + 1, none⟩ y1).setCell ⟨b, k + 2, none⟩ y2).setCell ⟨b, k + 3, none⟩ y3).setCell ⟨b, k + 4, none⟩ y4
/-- a record of an owned slice is written anew -/
theorem row_put {w : World} {base b n cap r : Nat} {T : TypeId} {L : List AtC} (h : w.ownsRow base T 5 (.slice (some ⟨b, 0, none⟩) n cap) n (ccells L)) (hn : L.length = n) (hr : r < n) (a : AtC) :
    (set5w w b (r * 5) (.int .i64 a.off) (.string a.key) (.string a.value) (.bool a.gone) (.int .i64 a.time)).ownsRow base T 5 (.slice (some ⟨b, 0, none⟩) n cap) n (ccells (L.take r ++ a :: L.drop (r + 1))) := by
  have h5 := (((((h.stored (r * 5) (.int .i64 a.off)).1.stored (r * 5 + 1) (.string a.key)).1.stored (r * 5 + 2) (.string a.value)).1.stored (r * 5 + 3) (.bool a.gone)).1.stored (r * 5 + 4) (.int .i64 a.time)).1
  have e : ccells L = ccells (L.take r) ++ (L.getD r default).cells ++ ccells (L.drop (r + 1)) := by
    conv => lhs; rw [← List.take_append_drop r L, drop_eq L r (by omega), ccells_append]
    simp [ccells]
  have e2 : ccells (L.take r ++ a :: L.drop (r + 1)) = ccells (L.take r) ++ a.cells ++ ccells (L.drop (r + 1)) := by rw [ccells_append]; simp [ccells]
  have hl : (ccells (L.take r)).length = r * 5 := by rw [ccells_length, List.length_take, hn, Nat.min_eq_left (by omega)]
  rw [e] at h5
  simp only [AtC.cells, List.append_assoc, List.cons_append, List.nil_append] at h5
  rw [set5l _ _ _ _ _ _ _ _ _ _ _ _ _ hl] at h5
  rw [e2]
  simp only [AtC.cells, List.append_assoc, List.cons_append, List.nil_append]
  exact h5
theorem set5w_block {w : World} {b k j : Nat} {y0 y1 y2 y3 y4 : Value} (h : j ≠ b) : (set5w w b k y0 y1 y2 y3 y4).heap[j]? = w.heap[j]? := by
  unfold set5w
  rw [Below.heap_setCell _ _ _ j h, Below.heap_setCell _ _ _ j h, Below.heap_setCell _ _ _ j h, Below.heap_setCell _ _ _ j h, Below.heap_setCell _ _ _ j h]
theorem set5w_tw {w : World} {base g b k : Nat} {y0 y1 y2 y3 y4 : Value} (hb : base ≤ b) : Tw base g w (set5w w b k y0 y1 y2 y3 y4) :=
  ((((Tw.setb w b _ _ hb).trans (Tw.setb _ b _ _ hb)).trans (Tw.setb _ b _ _ hb)).trans (Tw.setb _ b _ _ hb)).trans (Tw.setb _ b _ _ hb)
end Go.Proofs.Ytmlekkbjmfknfaa
