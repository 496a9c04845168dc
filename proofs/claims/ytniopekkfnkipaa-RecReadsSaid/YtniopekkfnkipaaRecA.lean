/-
  Records and batches in memory; what rec.from0to, marker, Span, inLimits, inForm, validRecord and countable do.
-/
import Derived.Test.YtniopekkfnkipaaWireFlag
import Derived.Deep.DeepCutAuto
import Derived.Deep.RegionHeld3
namespace Go.Proofs.Ytniopekkfnkipaa
open Go.RowKit
set_option linter.unusedVariables false
set_option linter.unusedSimpArgs false

structure Rec where
  key : ByteArray
  value : ByteArray
  gone : Bool
  time : Int
instance : Inhabited Rec := ⟨⟨⟨#[]⟩, ⟨#[]⟩, false, 0⟩⟩
def Rec.cells (r : Rec) : List Value := [.string r.key, .string r.value, .bool r.gone, .int .i64 r.time]
def rcells (L : List Rec) : List Value := L.flatMap Rec.cells
structure Bat where
  base : Int
  pid : Int
  epoch : Int
  seq : Int
  kind : Int
  time : Int
  L : List Rec
def Bat.cells (b : Bat) (A : Option Addr) (c : Nat) : Array Value :=
  #[.int .i64 b.base, .int .i64 b.pid, .int .i64 b.epoch, .int .i64 b.seq, .int .i64 b.kind, .int .i64 b.time, .slice A b.L.length c]
def i64_ (n : Int) : Prop := -9223372036854775808 ≤ n ∧ n ≤ 9223372036854775807
/-- its numbers are int64's -/
structure Bat.ok (b : Bat) : Prop where
  base : i64_ b.base
  pid : i64_ b.pid
  epoch : i64_ b.epoch
  seq : i64_ b.seq
  kind : i64_ b.kind
  time : i64_ b.time

theorem add_pos' (p : Addr) (j : Nat) (h : 0 < j) : p.add j = ⟨p.block, p.off + j, none⟩ := by
  unfold Addr.add
  rw [if_neg (by omega)]
theorem rcells_length (L : List Rec) : (rcells L).length = L.length * 4 := by
  induction L with
  | nil => rfl
  | cons r L ih => simp only [rcells, List.flatMap_cons, List.length_append, List.length_cons] at *; rw [ih]; simp only [Rec.cells, List.length_cons, List.length_nil]; omega
theorem rcells_append (L M : List Rec) : rcells (L ++ M) = rcells L ++ rcells M := by simp [rcells]
theorem rcells_get (L : List Rec) : ∀ (k j : Nat), k < L.length → j < 4 → (rcells L)[k * 4 + j]? = ((L.getD k default).cells)[j]? := by
  induction L with
  | nil => intro k j h; exact absurd h (by simp)
  | cons r L ih =>
    intro k j h hj
    have e : rcells (r :: L) = r.cells ++ rcells L := by simp [rcells]
    have hl : r.cells.length = 4 := rfl
    rw [e]
    cases k with
    | zero => rw [List.getElem?_append_left (by omega)]; simp
    | succ k =>
      rw [List.getElem?_append_right (by omega), show (k + 1) * 4 + j - r.cells.length = k * 4 + j from by omega, ih k j (by simpa using h) hj]
      simp
theorem rcells_one (L : List Rec) : ∀ u ∈ rcells L, u.oneCell' = true := by
  intro u hu
  obtain ⟨r, _, hr⟩ := List.mem_flatMap.1 hu
  simp only [Rec.cells, List.mem_cons, List.not_mem_nil, or_false] at hr
  rcases hr with rfl | rfl | rfl | rfl <;> rfl

/-- '.slice A n c' is a slice of records -/
structure Rcs (w : World) (B : Nat) (A : Option Addr) (n : Nat) (L : List Rec) : Prop where
  len : L.length = n
  lies : Lies w B A (rcells L)
  ok : ∀ r ∈ L, i64_ r.time
section
variable {w w' : World} {B B' n : Nat} {A : Option Addr} {L : List Rec}
theorem Rcs.nil_ : Rcs w B A 0 [] := ⟨rfl, Lies.empty, fun r h => by cases h⟩
theorem Rcs.below (h : Rcs w B A n L) (hb : Below B w w') : Rcs w' B A n L := ⟨h.len, h.lies.keep fun _ hp => hb.cell hp, h.ok⟩
theorem Rcs.wider (h : Rcs w B A n L) (hB : B ≤ B') : Rcs w B' A n L := ⟨h.len, h.lies.wider hB, h.ok⟩
theorem Rcs.row {k : Nat} (h : Rcs w B A n L) (hk : k < n) : ∃ p, A = some p ∧ p.block < B ∧ w.cell? (p.add (k * 4)) = some (.string (L.getD k default).key) ∧
    w.cell? ⟨(p.add (k * 4)).block, (p.add (k * 4)).off + 1, none⟩ = some (.string (L.getD k default).value) ∧
    w.cell? ⟨(p.add (k * 4)).block, (p.add (k * 4)).off + 2, none⟩ = some (.bool (L.getD k default).gone) ∧
    w.cell? ⟨(p.add (k * 4)).block, (p.add (k * 4)).off + 3, none⟩ = some (.int .i64 (L.getD k default).time) := by
  have hl := h.len
  have g : ∀ j u, j < 4 → ((L.getD k default).cells)[j]? = some u → ∃ p, A = some p ∧ p.block < B ∧ w.cell? ((p.add (k * 4)).add j) = some u := by
    intro j u hj hu
    obtain ⟨p, e, hb, hc⟩ := h.lies.get (k * 4 + j) u ((rcells_get L k j (by omega) hj).trans hu)
    exact ⟨p, e, hb, by rw [add_twice]; exact hc⟩
  obtain ⟨p, e, hb, c0⟩ := g 0 _ (by omega) rfl
  obtain ⟨p1, e1, _, c1⟩ := g 1 _ (by omega) rfl
  obtain ⟨p2, e2, _, c2⟩ := g 2 _ (by omega) rfl
  obtain ⟨p3, e3, _, c3⟩ := g 3 _ (by omega) rfl
  rw [e] at e1 e2 e3
  injection e1 with e1; injection e2 with e2; injection e3 with e3
  subst e1 e2 e3
  refine ⟨p, e, hb, ?_, ?_, ?_, ?_⟩
  · rw [add_twice, Nat.add_zero] at c0; exact c0
  · rw [← add_pos' _ 1 (by omega)]; exact c1
  · rw [← add_pos' _ 2 (by omega)]; exact c2
  · rw [← add_pos' _ 3 (by omega)]; exact c3
theorem Rcs.time {k : Nat} (h : Rcs w B A n L) (hk : k < n) : i64_ (L.getD k default).time := by
  have hl := h.len
  rw [List.getD_eq_getElem?_getD, List.getElem?_eq_getElem (by omega)]
  exact h.ok _ (List.getElem_mem _)
end

def fz (m n : Int) : Bool := decide (0 ≤ n) && decide (n ≤ m)
theorem fz_iff (m n : Int) : fz m n = true ↔ 0 ≤ n ∧ n ≤ m := by simp [fz]
def markB (b : Bat) : Bool := (b.kind == 2) || (b.kind == 3)
def spanI (b : Bat) : Int := if markB b then 1 else (b.L.length : Int)
def limB (b : Bat) : Bool := fz 3 b.kind && fz 1099511627776 b.base && fz 1048576 b.pid && fz 32767 b.epoch && fz 2147483647 b.seq && fz 1099511627776 b.time
def formB (b : Bat) : Bool := if (b.pid == 0) && ((b.kind != 0) || (b.epoch != 0) || (b.seq != 0)) then false else if markB b then (b.seq == 0) && ((b.L.length : Int) == 0) else decide (0 < b.L.length)
def recE (r : Rec) : Int := if decide (1024 < r.key.size) || decide (1024 < r.value.size) then 7 else if (!fz 1099511627776 r.time) || (r.gone && decide (0 < r.value.size)) then 2 else 0
def countE (b : Bat) : Int := if decide (1099511627776 < b.base + (spanI b - 1)) || ((b.pid != 0) && decide (2147483647 < b.seq + (spanI b - 1))) then 24 else 0

set_option maxHeartbeats 400000 in
theorem from0_any (m n : Int) (w : World) : Calls Try.prog 61 #[.int .i64 m, .int .i64 n] w fun e w' => e = .returned (.bool (fz m n)) ∧ w = w' := by
  by_cases h0 : 0 ≤ n
  · have e0 : decide ((0 : Int) ≤ n) = true := by simpa using h0
    have E : Hid (fz m n = decide (n ≤ m)) := by show _ = _; simp [fz, h0]
    go_enter Try.func61, Try.ntmps61
    go_wp2
    all_goals (go_ret; exact ⟨by rw [E.out]; first | rfl | simp [*], rfl⟩)
  · have e0 : decide ((0 : Int) ≤ n) = false := by simpa using h0
    have E : Hid (fz m n = false) := by show _ = _; simp [fz, h0]
    go_enter Try.func61, Try.ntmps61
    go_wp2
    all_goals (go_ret; exact ⟨by rw [E.out]; rfl, rfl⟩)

set_option maxRecDepth 100000 in
set_option maxHeartbeats 1000000 in
theorem marker_any (b : Bat) (A : Option Addr) (c : Nat) (w : World) : Calls Try.prog 24 #[.agg (b.cells A c)] w fun e w' => e = .returned (.bool (markB b)) ∧ Below w.heap.size w w' := by
  obtain ⟨base, pid, epoch, seq, kind, time, L⟩ := b
  unfold Bat.cells markB
  simp only
  by_cases h2 : (kind == 2) = true
  · rw [h2]
    go_enter Try.func24, Try.ntmps24
    go_wp2
    go_ret
    exact ⟨rfl, (Below.refl _ _).alloc (Nat.le_refl _) _⟩
  · have h2' : (kind == 2) = false := by simpa using h2
    clear h2
    rw [h2']
    go_enter Try.func24, Try.ntmps24
    go_wp2
    go_ret
    exact ⟨rfl, (Below.refl _ _).alloc (Nat.le_refl _) _⟩

set_option maxRecDepth 100000 in
set_option maxHeartbeats 1000000 in
theorem span_any (b : Bat) (A : Option Addr) (c : Nat) (w : World) : Calls Try.prog 62 #[.agg (b.cells A c)] w fun e w' => e = .returned (.int .i64 (spanI b)) ∧ Below w.heap.size w w' := by
  have HM : Hid (∀ W, Calls Try.prog 24 #[.agg (b.cells A c)] W fun e w' => e = .returned (.bool (markB b)) ∧ Below W.heap.size W w') := fun W => marker_any b A c W
  unfold spanI
  obtain ⟨base, pid, epoch, seq, kind, time, L⟩ := b
  unfold Bat.cells at *
  simp only at *
  generalize markB _ = mb at *
  cases mb with
  | true =>
    go_enter Try.func62, Try.ntmps62
    go_wp2_with (go_at_call 24; refine (HM.out _).mono ?_; rintro e w1 ⟨rfl, hb⟩)
    go_ret
    exact ⟨rfl, ((Below.refl _ _).alloc (Nat.le_refl _) _).trans (hb.mono (by simp))⟩
  | false =>
    go_enter Try.func62, Try.ntmps62
    go_wp2_with (go_at_call 24; refine (HM.out _).mono ?_; rintro e w1 ⟨rfl, hb⟩; obtain ⟨hc, hf⟩ := bcell hb)
    go_ret
    exact ⟨rfl, ((Below.refl _ _).alloc (Nat.le_refl _) _).trans (hb.mono (by simp))⟩
end Go.Proofs.Ytniopekkfnkipaa
