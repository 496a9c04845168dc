/-
  Words for DedupOnce: the operations in memory, what stands at the loops' heads.
-/
import Derived.Test.YtofakehnadpebaaDdP
import Derived.Test.YtofakehnadpebaaIdxN
namespace Go.Proofs.Ytofakehnadpebaa
open Go.RowKit Go.Maps
set_option linter.unusedVariables false
set_option linter.unusedSimpArgs false

/-- an operation: its number, its batch, whether it is near, its time -/
structure Po where
  kd : Int
  x : TA
  near : Bool
  tm : Int
instance : Inhabited Po := ⟨⟨0, default, false, 0⟩⟩
/-- '.slice A n c' is a slice of operations -/
structure Ops (w : World) (B : Nat) (A : Option Addr) (n : Nat) (X : List Po) : Prop where
  len : X.length = n
  row : ∀ k, k < n → ∃ p, A = some p ∧ p.block < B ∧ (∀ j u, (opC (X.getD k default).kd (X.getD k default).x.b (X.getD k default).x.A (X.getD k default).x.c (X.getD k default).near (X.getD k default).tm)[j]? = some u → w.cell? ((p.add (k * 10)).add j) = some u)
  recs : ∀ k, k < n → Rcs w B (X.getD k default).x.A (X.getD k default).x.b.L.length (X.getD k default).x.b.L ∧ (X.getD k default).x.b.L.length ≤ (X.getD k default).x.c ∧ (X.getD k default).x.c ≤ maxLen
theorem Ops.below {w w' : World} {B n : Nat} {A : Option Addr} {X : List Po} (h : Ops w B A n X) (hb : Below B w w') : Ops w' B A n X :=
  ⟨h.len, fun k hk => by obtain ⟨p, e, hp, hc⟩ := h.row k hk; exact ⟨p, e, hp, fun j u hj => (hb.cell (p := (p.add (k * 10)).add j) (by rw [add_block, add_block]; exact hp)).trans (hc j u hj)⟩, fun k hk => ⟨(h.recs k hk).1.below hb, (h.recs k hk).2⟩⟩
theorem zero_bat : (Try.prog.info? 26).map (fun i => (i.zero, i.size, i.bytes)) = some (some (.agg #[.int .i64 0, .int .i64 0, .int .i64 0, .int .i64 0, .int .i64 0, .int .i64 0, .slice none 0 0]), 7, 72) := by kernel_rfl
theorem new_cells0 (w : World) (cs : List Value) (e : TypeId) : ∀ j u, cs[j]? = some u → (w.alloc (.cells cs.toArray e)).cell? ((⟨w.heap.size, 0, none⟩ : Addr).add j) = some u := fun j u hj => by
  obtain ⟨q, hq, _, hc⟩ := (Lies.of_new w cs.toArray e).get j u (by simpa using hj)
  injection hq with hq
  subst hq
  exact hc
theorem tmod_abs (o : Int) (n : Nat) (hn : 0 < n) : ∃ K : Nat, K < n ∧ (o.tmod n = K ∨ (o.tmod n = -(K : Int) ∧ 0 < K)) := by
  rcases Int.le_total 0 o with h | h
  · have e := Int.tmod_eq_emod_of_nonneg h (b := (n : Int))
    have h1 := Int.emod_nonneg o (b := (n : Int)) (by omega)
    have h2 := Int.emod_lt_of_pos o (b := (n : Int)) (by omega)
    exact ⟨(o.tmod n).toNat, by omega, .inl (by omega)⟩
  · have e : o.tmod n = -((-o).tmod n) := by rw [Int.neg_tmod]; omega
    have e2 := Int.tmod_eq_emod_of_nonneg (a := -o) (b := (n : Int)) (by omega)
    have h1 := Int.emod_nonneg (-o) (b := (n : Int)) (by omega)
    have h2 := Int.emod_lt_of_pos (-o) (b := (n : Int)) (by omega)
    refine ⟨((-o).tmod n).toNat, by omega, ?_⟩
    by_cases hz : (-o).tmod n = 0
    · exact .inl (by omega)
    · exact .inr ⟨by omega, by omega⟩
theorem blk_ad {W w3 : World} {o : Obj} (hb : Below (W.alloc o).drew.heap.size (W.alloc o).drew w3) : w3.heap[W.heap.size]? = some o := (hb.block W.heap.size (by simp)).trans (heap_alloc_new W o)
theorem cd {W : World} {p : Addr} {v : Value} (hx : W.cell? p = some v) : W.drew.cell? p = some v := hx
theorem ca {W : World} {o : Obj} {p : Addr} {v : Value} (h : p.block < W.heap.size) (hx : W.cell? p = some v) : (W.alloc o).cell? p = some v := (World.cell?_alloc_lt W o p h).trans hx
theorem cad {W : World} {o : Obj} {p : Addr} {v : Value} (h : p.block < W.heap.size) (hx : W.cell? p = some v) : (W.alloc o).drew.cell? p = some v := ca h hx
theorem cda {W : World} {o : Obj} {p : Addr} {v : Value} (h : p.block < W.heap.size) (hx : W.cell? p = some v) : (W.drew.alloc o).cell? p = some v := (World.cell?_alloc_lt W.drew o p h).trans hx
theorem set7_far {W : World} {b : Nat} {p : Addr} {v y0 y1 y2 y3 y4 y5 y6 : Value} (h : p.block ≠ b) (hx : W.cell? p = some v) : (((((((W.setCell ⟨b, 0, none⟩ y0).setCell ⟨b, 1, none⟩ y1).setCell ⟨b, 2, none⟩ y2).setCell ⟨b, 3, none⟩ y3).setCell ⟨b, 4, none⟩ y4).setCell ⟨b, 5, none⟩ y5).setCell ⟨b, 6, none⟩ y6).cell? p = some v := by
  have n : ¬ b = p.block := fun e => h e.symm
  simp only [World.cell?_setCell_far, ne_eq, n, not_false_eq_true]
  exact hx
theorem set7_same {w : World} {g : Nat} {T : TypeId} {x0 x1 x2 x3 x4 x5 x6 : Value} (y0 y1 y2 y3 y4 y5 y6 : Value) (h : w.heap[g]? = some (.cells #[x0, x1, x2, x3, x4, x5, x6] T (0, 0))) :
    (((((((w.setCell ⟨g, 0, none⟩ y0).setCell ⟨g, 1, none⟩ y1).setCell ⟨g, 2, none⟩ y2).setCell ⟨g, 3, none⟩ y3).setCell ⟨g, 4, none⟩ y4).setCell ⟨g, 5, none⟩ y5).setCell ⟨g, 6, none⟩ y6).heap[g]? = some (.cells #[y0, y1, y2, y3, y4, y5, y6] T (0, 0)) := by
  have h0 : (w.setCell ⟨g, 0, none⟩ y0).heap[g]? = some (.cells #[y0, x1, x2, x3, x4, x5, x6] T (0, 0)) := by rw [heap_setCell_same _ g 0 _ _ _ h]; rfl
  have h1 : ((w.setCell ⟨g, 0, none⟩ y0).setCell ⟨g, 1, none⟩ y1).heap[g]? = some (.cells #[y0, y1, x2, x3, x4, x5, x6] T (0, 0)) := by rw [heap_setCell_same _ g 1 _ _ _ h0]; rfl
  have h2 : (((w.setCell ⟨g, 0, none⟩ y0).setCell ⟨g, 1, none⟩ y1).setCell ⟨g, 2, none⟩ y2).heap[g]? = some (.cells #[y0, y1, y2, x3, x4, x5, x6] T (0, 0)) := by rw [heap_setCell_same _ g 2 _ _ _ h1]; rfl
  have h3 : ((((w.setCell ⟨g, 0, none⟩ y0).setCell ⟨g, 1, none⟩ y1).setCell ⟨g, 2, none⟩ y2).setCell ⟨g, 3, none⟩ y3).heap[g]? = some (.cells #[y0, y1, y2, y3, x4, x5, x6] T (0, 0)) := by rw [heap_setCell_same _ g 3 _ _ _ h2]; rfl
  have h4 : (((((w.setCell ⟨g, 0, none⟩ y0).setCell ⟨g, 1, none⟩ y1).setCell ⟨g, 2, none⟩ y2).setCell ⟨g, 3, none⟩ y3).setCell ⟨g, 4, none⟩ y4).heap[g]? = some (.cells #[y0, y1, y2, y3, y4, x5, x6] T (0, 0)) := by rw [heap_setCell_same _ g 4 _ _ _ h3]; rfl
  have h5 : ((((((w.setCell ⟨g, 0, none⟩ y0).setCell ⟨g, 1, none⟩ y1).setCell ⟨g, 2, none⟩ y2).setCell ⟨g, 3, none⟩ y3).setCell ⟨g, 4, none⟩ y4).setCell ⟨g, 5, none⟩ y5).heap[g]? = some (.cells #[y0, y1, y2, y3, y4, y5, x6] T (0, 0)) := by rw [heap_setCell_same _ g 5 _ _ _ h4]; rfl
  rw [heap_setCell_same _ g 6 _ _ _ h5]; rfl
theorem lo_ad {W : World} {o : Obj} {n : Nat} (h : (W.alloc o).drew.heap.size ≤ n) : W.heap.size < n := by simp at h; omega
/-- what stands at the head of the first loop -/
structure O1 (w W : World) (S g m j : Nat) (v : Value) (M : List TA) (L : List Rw) (next : Int) : Prop where
  tb : Tb W g m 4096 next L
  own : W.ownsRow S 26 7 v M.length (tcells M)
  below : Below w.heap.size w W
  inv : Inv L (M.map TA.b)
  good : Good (M.map TA.b)
  len : L.length ≤ j
  ml : M.length ≤ j
  nx : 0 ≤ next ∧ next ≤ 1099511627777
  lo : w.heap.size ≤ g ∧ w.heap.size ≤ m
  hi : g < S ∧ m < S ∧ S ≤ W.heap.size
  ls : ∀ x ∈ M, x.b.L.length ≤ 8
theorem want_bd (P : List Bat) (pid ep : Int) (h : ∀ a ∈ P, a.L.length ≤ 8) : 0 ≤ wantPE P pid ep ∧ wantPE P pid ep ≤ 8 * (P.length : Int) := by
  induction P with
  | nil => exact ⟨Int.le_refl _, Int.le_refl _⟩
  | cons a P ih =>
    have hi := ih fun x hx => h x (by simp [hx])
    have ha := h a (by simp)
    have e : wantPE (a :: P) pid ep = (if a.pid = pid ∧ a.epoch = ep then (a.L.length : Int) else 0) + wantPE P pid ep := by
      unfold wantPE
      by_cases h1 : a.pid = pid ∧ a.epoch = ep
      · rw [if_pos h1, List.filter_cons_of_pos (by simpa using h1)]; simp
      · rw [if_neg h1, List.filter_cons_of_neg (by simpa using h1)]; simp
    rw [e, List.length_cons]
    split <;> omega
theorem take_map (M : List TA) (k : Nat) (h : k < M.length) : (M.map TA.b).take (k + 1) = (M.map TA.b).take k ++ [(M.getD k default).b] := by
  rw [List.take_succ_eq_append_getElem (by simpa using h), List.getElem_map, List.getD_eq_getElem?_getD, List.getElem?_eq_getElem h]; rfl
theorem mem_take_map (M : List TA) (k i : Nat) (h : k < i) (hi : i ≤ M.length) : (M.getD k default).b ∈ (M.map TA.b).take i := by
  have hk : k < M.length := by omega
  rw [List.mem_take_iff_getElem]
  exact ⟨k, by simp; omega, by rw [List.getElem_map, List.getD_eq_getElem?_getD, List.getElem?_eq_getElem hk]; rfl⟩
theorem len_take (M : List TA) (k : Nat) (h : ∀ x ∈ M, x.b.L.length ≤ 8) : ∀ a ∈ (M.map TA.b).take k, a.L.length ≤ 8 := fun a ha => by
  obtain ⟨x, hx, rfl⟩ := List.mem_map.1 (List.mem_of_mem_take ha)
  exact h x hx
/-- the batch that is sent -/
def sentB (x : TA) (next : Int) : Bat := { small8 x.b true next with base := next }

end Go.Proofs.Ytofakehnadpebaa
