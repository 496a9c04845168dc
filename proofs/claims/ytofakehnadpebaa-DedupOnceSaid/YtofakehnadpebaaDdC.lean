/-
  What (*dedup.Table).Judge does.
-/
import Derived.Test.YtofakehnadpebaaDdB
import Derived.Handy
namespace Go.Proofs.Ytofakehnadpebaa
open Go.RowKit Go.Maps
set_option linter.unusedVariables false
set_option linter.unusedSimpArgs false

def jdgX (mk op there full : Bool) (pl re rs rc epoch seq n kind : Int) : Bool × Int × Int :=
  if epoch < re then (if mk then (true, -1, 0) else (false, 0, 20))
  else if mk = false ∧ epoch = re ∧ seq + n ≤ rs + rc then (true, pl, 0)
  else if op = true ∧ (re < epoch ∨ kind = 0) then (false, 0, 22)
  else if mk = false ∧ seq ≠ (if epoch = re then rs + rc else 0) then (false, 0, 21)
  else if there = false ∧ full = true then (false, 0, 5)
  else (false, 0, 0)
def jdgR (r : Rw) (there full : Bool) (b : Bat) : Bool × Int × Int := jdgX (markB b) (openR r) there full (placeR r b) r.epoch r.seq r.count b.epoch b.seq b.L.length b.kind
def jdg (most : Int) (L : List Rw) (b : Bat) : Bool × Int × Int :=
  if validE b = 0 then (if b.pid = 0 then (false, 0, 0) else jdgR (knownR L b.pid) (getL Rw.pid L b.pid).isSome (decide (most ≤ L.length)) b) else (false, 0, validE b)
def jdgV (x : Bool × Int × Int) : Value := .tuple #[.agg #[.bool x.1, .int .i64 x.2.1], .int .i64 x.2.2]

/-- the batch, the verdict in memory -/
structure Jp (w W : World) (p : Nat) (bc : Array Value) : Prop where
  y : W.heap[p]? = some (.cells bc 26 (0, 0))
  v : W.heap[p + 1]? = some (.cells #[.bool false, .int .i64 0] 48 (0, 0))
  below : Below p w W
theorem Jp.start (w : World) (bc : Array Value) : Jp w ((w.alloc (.cells bc 26)).alloc (.cells #[.bool false, .int .i64 0] 48)) w.heap.size bc := by
  have h := heap_alloc_new (w.alloc (.cells bc 26)) (.cells #[.bool false, .int .i64 0] 48)
  exact ⟨two_alloc _ _ _, by simpa only [World.size_alloc] using h, ((Below.refl _ _).alloc (Nat.le_refl _) _).alloc (by simp) _⟩
section
variable {w W W' : World} {p q : Nat} {bc rc : Array Value}
theorem Jp.lt (h : Jp w W p bc) : p + 1 < W.heap.size := (Array.getElem?_eq_some_iff.1 h.v).1
theorem Jp.next (h : Jp w W p bc) (hb : Below W.heap.size W W') : Jp w W' p bc :=
  have hl := h.lt
  ⟨(hb.block p (by omega)).trans h.y, (hb.block _ hl).trans h.v, h.below.trans (hb.mono (by omega))⟩
/-- .. and the row -/
structure Jr (w W : World) (p q : Nat) (bc rc : Array Value) : Prop where
  j : Jp w W p bc
  r : W.heap[q]? = some (.cells rc 52 (0, 0))
  lt : p + 1 < q
theorem Jr.start (h : Jp w W p bc) (rc : Array Value) : Jr w (W.alloc (.cells rc 52)) p W.heap.size bc rc :=
  ⟨h.next ((Below.refl _ _).alloc (Nat.le_refl _) _), heap_alloc_new _ _, h.lt⟩
theorem Jr.next (h : Jr w W p q bc rc) (hb : Below W.heap.size W W') : Jr w W' p q bc rc := ⟨h.j.next hb, (hb.block q (Array.getElem?_eq_some_iff.1 h.r).1).trans h.r, h.lt⟩
theorem Jp.two (h : Jp w W p bc) : (W.cell? ⟨p + 1, 0, none⟩ = some (.bool false) ∧ W.cell? ⟨p + 1, 1, none⟩ = some (.int .i64 0)) ∧ W.frozen? ⟨p + 1, 0, none⟩ = false ∧ W.frozen? ⟨p + 1, 1, none⟩ = false :=
  ⟨⟨cell_of_row W _ 0 _ _ _ h.v, cell_of_row W _ 1 _ _ _ h.v⟩, frozen_of_row W _ 0 _ _ h.v, frozen_of_row W _ 1 _ _ h.v⟩
end


set_option maxRecDepth 100000 in
set_option maxHeartbeats 8000000 in
theorem judge_no (b : Bat) (A : Option Addr) (c B g m : Nat) (most next : Int) (L : List Rw) (w : World) (hT : Tb w g m most next L) (hL : Rcs w B A b.L.length b.L) (hB : B ≤ w.heap.size) (hl : b.L.length ≤ maxLen) (hV : ¬ validE b = 0) : Calls Try.prog 20 #[.pointer (some ⟨g, 0, none⟩), .agg (b.cells A c)] w fun e w' => e = .returned (jdgV (jdg most L b)) ∧ Below w.heap.size w w' := by
  have HVA : Hid (∀ W, Below w.heap.size w W → Calls Try.prog 17 #[.agg (b.cells A c)] W fun e w' => e = .returned (.int .i64 (validE b)) ∧ Below W.heap.size W w') := fun W h => valid_any b A c B W (hL.below (h.mono hB)) (Nat.le_trans hB h.size) hl
  unfold jdg
  rw [if_neg hV]
  have hv1 : (validE b != 0) = true := by simp [hV]
  generalize validE b = V at *
  obtain ⟨base, pid, epoch, seq, kind, time, l⟩ := b
  clear hV hT hL
  unfold Bat.cells jdgV at *
  simp only at *
  go_enter Try.func20, Try.ntmps20
  go_wp2_with (first | (go_at_call 17; (with_reducible refine (HVA.out _ (Jp.start w _).below).mono ?_); rintro e w3 ⟨rfl, hb⟩; have J := (Jp.start w _).next hb; clear hb; obtain ⟨⟨y0, y1, y2, y3, y4, y5, y6⟩, _⟩ := seven J.y; obtain ⟨⟨v0, v1⟩, g0, g1⟩ := J.two; have hlt := J.lt))
  refine bodyPost_ret (v := .tuple #[.agg #[.bool false, .int .i64 0], .int .i64 V]) (by simp [results, Try.results20, go_sem, v0, v1]) rfl ⟨rfl, ?_⟩
  refine Below.setCell (Below.setCell ?_ (by simp) _) (by simp) _
  exact J.below
set_option maxRecDepth 100000 in
set_option maxHeartbeats 8000000 in
theorem judge_nobody (b : Bat) (A : Option Addr) (c B g m : Nat) (most next : Int) (L : List Rw) (w : World) (hT : Tb w g m most next L) (hL : Rcs w B A b.L.length b.L) (hB : B ≤ w.heap.size) (hl : b.L.length ≤ maxLen) (hV : validE b = 0) (hP : b.pid = 0) : Calls Try.prog 20 #[.pointer (some ⟨g, 0, none⟩), .agg (b.cells A c)] w fun e w' => e = .returned (jdgV (jdg most L b)) ∧ Below w.heap.size w w' := by
  have HVA : Hid (∀ W, Below w.heap.size w W → Calls Try.prog 17 #[.agg (b.cells A c)] W fun e w' => e = .returned (.int .i64 (validE b)) ∧ Below W.heap.size W w') := fun W h => valid_any b A c B W (hL.below (h.mono hB)) (Nat.le_trans hB h.size) hl
  unfold jdg
  rw [if_pos hV, if_pos hP]
  rw [hV] at HVA
  obtain ⟨base, pid, epoch, seq, kind, time, l⟩ := b
  simp only at hP
  subst hP
  clear hV hT hL
  unfold Bat.cells jdgV at *
  simp only at *
  go_enter Try.func20, Try.ntmps20
  go_wp2_with (first | (go_at_call 17; (with_reducible refine (HVA.out _ (Jp.start w _).below).mono ?_); rintro e w3 ⟨rfl, hb⟩; have J := (Jp.start w _).next hb; clear hb; obtain ⟨⟨y0, y1, y2, y3, y4, y5, y6⟩, _⟩ := seven J.y; obtain ⟨⟨v0, v1⟩, g0, g1⟩ := J.two; have hlt := J.lt))
  refine bodyPost_ret (v := .tuple #[.agg #[.bool false, .int .i64 0], .int .i64 0]) (by simp [results, Try.results20, go_sem, v0, v1]) rfl ⟨rfl, ?_⟩
  refine Below.setCell (Below.setCell ?_ (by simp) _) (by simp) _
  exact J.below
end Go.Proofs.Ytofakehnadpebaa
