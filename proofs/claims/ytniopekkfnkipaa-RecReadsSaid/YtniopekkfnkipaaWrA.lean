/-
  The document's Reader in memory; what a number's bytes are, asked from the front.
-/
import Derived.Test.YtniopekkfnkipaaWireDec
namespace Go.Proofs.Ytniopekkfnkipaa
open Go.RowKit
set_option linter.unusedVariables false
set_option linter.unusedSimpArgs false

/-- the document's reader of the bytes l, which stands at p and has met err, in block g -/
structure Rq (w : World) (g : Nat) (A : Option Addr) (c : Nat) (l : List UInt8) (p err : Nat) : Prop where
  blk : w.heap[g]? = some (.cells #[.slice A l.length c, .int .i64 (p : Int), .int .i64 (err : Int)] 52 (0, 0))
  cap : l.length ≤ c
  capm : c ≤ maxLen
  bs : Bs w g A l.length l
  pos : p ≤ l.length
  small : l.length ≤ 1099511627776
section
variable {w w' : World} {g c p err : Nat} {A : Option Addr} {l : List UInt8}
theorem Rq.lt (h : Rq w g A c l p err) : g < w.heap.size := (Array.getElem?_eq_some_iff.1 h.blk).1
theorem Rq.c0 (h : Rq w g A c l p err) : w.cell? ⟨g, 0, none⟩ = some (.slice A l.length c) := cell_of_row w g 0 _ _ _ h.blk
theorem Rq.c1 (h : Rq w g A c l p err) : w.cell? ⟨g, 1, none⟩ = some (.int .i64 (p : Int)) := cell_of_row w g 1 _ _ _ h.blk
theorem Rq.c2 (h : Rq w g A c l p err) : w.cell? ⟨g, 2, none⟩ = some (.int .i64 (err : Int)) := cell_of_row w g 2 _ _ _ h.blk
theorem Rq.free (h : Rq w g A c l p err) (i : Nat) : w.frozen? ⟨g, i, none⟩ = false := frozen_of_row w g i _ _ h.blk
theorem Rq.set1 (h : Rq w g A c l p err) (q : Nat) (hq : q ≤ l.length) : Rq (w.setCell ⟨g, 1, none⟩ (.int .i64 (q : Int))) g A c l q err :=
  ⟨by rw [heap_setCell_same w g 1 _ _ _ h.blk]; rfl, h.cap, h.capm, h.bs.keep fun x hx => World.cell?_setCell_other w _ _ _ (fun e => by rw [← e] at hx; exact absurd hx (by simp)), hq, h.small⟩
theorem Rq.set2 (h : Rq w g A c l p err) (q : Nat) : Rq (w.setCell ⟨g, 2, none⟩ (.int .i64 (q : Int))) g A c l p q :=
  ⟨by rw [heap_setCell_same w g 2 _ _ _ h.blk]; rfl, h.cap, h.capm, h.bs.keep fun x hx => World.cell?_setCell_other w _ _ _ (fun e => by rw [← e] at hx; exact absurd hx (by simp)), h.pos, h.small⟩
theorem Rq.below {B : Nat} (h : Rq w g A c l p err) (hb : Below B w w') (hB : g < B) : Rq w' g A c l p err :=
  ⟨(hb.block g hB).trans h.blk, h.cap, h.capm, h.bs.below (hb.mono (by omega)), h.pos, h.small⟩
theorem Rq.drewN (h : Rq w g A c l p err) (k : Nat) : Rq (w.drewN k) g A c l p err := h.below (below_draws (Below.refl w.heap.size w) k) h.lt
theorem Rq.drew (h : Rq w g A c l p err) : Rq w.drew g A c l p err := h.below ((Below.refl w.heap.size w).drew) h.lt
theorem Rq.alloc (h : Rq w g A c l p err) (o : Obj) : Rq (w.alloc o) g A c l p err := h.below ((Below.refl w.heap.size w).alloc (Nat.le_refl _) o) h.lt
end
def QPost (w : World) (g c : Nat) (A : Option Addr) (l : List UInt8) (p : Nat) (z : Value) (r : Dr) (e : Ending) (w' : World) : Prop :=
  match r with
  | .ok v q => e = .returned v ∧ Rq w' g A c l q 0 ∧ w.grownBy w' (some g)
  | .bad er => e = .returned z ∧ Rq w' g A c l p er ∧ w.grownBy w' (some g)

/-! ### a number, as the document asks for it -/
namespace Wn
/-- how many bytes ahead say that another one follows, of the first k -/
def lead : Nat → List UInt8 → Nat
  | 0, _ => 0
  | _ + 1, [] => 0
  | k + 1, b :: r => if b.toNat < 128 then 0 else lead k r + 1
/-- what the first n + 1 groups come to -/
def val : List UInt8 → Nat → Nat
  | [], _ => 0
  | b :: _, 0 => b.toNat % 128
  | b :: r, n + 1 => b.toNat % 128 + 128 * val r n
theorem lead_le : ∀ (k : Nat) (l : List UInt8), lead k l ≤ k ∧ lead k l ≤ l.length
  | 0, _ => ⟨Nat.le_refl _, Nat.zero_le _⟩
  | k + 1, [] => ⟨Nat.zero_le _, Nat.le_refl _⟩
  | k + 1, b :: r => by
    unfold lead
    have := lead_le k r
    split
    · exact ⟨Nat.zero_le _, Nat.zero_le _⟩
    · simp; omega
theorem lead_step (k : Nat) (l : List UInt8) (j : Nat) (hj : j < l.length) (hk : j < k) : lead (k - j) (l.drop j) = if (l.getD j 0).toNat < 128 then 0 else lead (k - (j + 1)) (l.drop (j + 1)) + 1 := by
  rw [List.drop_eq_getElem_cons hj, show k - j = (k - (j + 1)) + 1 by omega, List.getD_eq_getElem?_getD, List.getElem?_eq_getElem hj]
  rfl
theorem numF_lead : ∀ (k i : Nat) (l : List UInt8), numF k i l = if lead k l < l.length ∧ lead k l < k ∧ ¬ ((0 < i + lead k l ∧ (l.getD (lead k l) 0).toNat = 0) ∨ (i + lead k l = 9 ∧ 1 < (l.getD (lead k l) 0).toNat)) then some (val l (lead k l), lead k l + 1) else none
  | 0, i, l => by
    rw [if_neg (by rintro ⟨_, h, _⟩; omega)]; rfl
  | k + 1, i, [] => by
    rw [if_neg (by rintro ⟨h, _, _⟩; simp at h)]; rfl
  | k + 1, i, b :: r => by
    have hb := b.toNat_lt
    unfold numF lead
    by_cases h1 : b.toNat < 128
    · rw [if_pos h1, if_pos h1]
      by_cases h2 : (0 < i ∧ b.toNat = 0) ∨ (i = 9 ∧ 1 < b.toNat)
      · rw [if_pos h2, if_neg (by rintro ⟨_, _, h⟩; exact h (by simpa using h2))]
      · rw [if_neg h2, if_pos ⟨by simp, by omega, by simpa using h2⟩]
        show some (b.toNat, 1) = some (b.toNat % 128, 0 + 1)
        rw [Nat.mod_eq_of_lt h1]
    · rw [if_neg h1, if_neg h1, numF_lead k (i + 1) r]
      have e : (b :: r).getD (lead k r + 1) 0 = r.getD (lead k r) 0 := by simp
      rw [e, show i + (lead k r + 1) = i + 1 + lead k r by omega]
      by_cases h2 : lead k r < r.length ∧ lead k r < k ∧ ¬ ((0 < i + 1 + lead k r ∧ (r.getD (lead k r) 0).toNat = 0) ∨ (i + 1 + lead k r = 9 ∧ 1 < (r.getD (lead k r) 0).toNat))
      · rw [if_pos h2, if_pos ⟨by simp; omega, by omega, h2.2.2⟩]
        show some (b.toNat - 128 + 128 * val r (lead k r), lead k r + 1 + 1) = some (b.toNat % 128 + 128 * val r (lead k r), lead k r + 1 + 1)
        rw [show b.toNat - 128 = b.toNat % 128 by omega]
      · rw [if_neg h2, if_neg (by rintro ⟨a1, a2, a3⟩; exact h2 ⟨by simpa using a1, by omega, a3⟩)]; rfl
theorem num_lead (l : List UInt8) : num l = if lead 10 l < l.length ∧ lead 10 l < 10 ∧ ¬ ((0 < lead 10 l ∧ (l.getD (lead 10 l) 0).toNat = 0) ∨ (lead 10 l = 9 ∧ 1 < (l.getD (lead 10 l) 0).toNat)) then some (val l (lead 10 l), lead 10 l + 1) else none := by
  have := numF_lead 10 0 l
  simp only [Nat.zero_add] at this
  exact this
/-- the groups from j on, of n + 1 -/
def valD (l : List UInt8) (n j : Nat) : Nat := if j = n + 1 then 0 else val (l.drop j) (n - j)
theorem valD_step (l : List UInt8) (n j : Nat) (hn : n < l.length) (hj : j ≤ n) : valD l n j = (l.getD j 0).toNat % 128 + 128 * valD l n (j + 1) := by
  unfold valD
  rw [if_neg (by omega), List.drop_eq_getElem_cons (show j < l.length by omega), List.getD_eq_getElem?_getD, List.getElem?_eq_getElem (show j < l.length by omega)]
  rcases Nat.lt_or_ge j n with h | h
  · rw [if_neg (by omega), show n - j = (n - (j + 1)) + 1 by omega]; rfl
  · rw [if_pos (by omega), show n - j = 0 by omega]; rfl
theorem valD_le (l : List UInt8) (n j : Nat) (hn : n < l.length) : ∀ d, j + d ≤ n + 1 → valD l n (j + d) ≤ valD l n j
  | 0, _ => Nat.le_refl _
  | d + 1, h => by
    have h1 := valD_le l n j hn d (by omega)
    have h2 := valD_step l n (j + d) hn (by omega)
    rw [← Nat.add_assoc]
    omega
end Wn
end Go.Proofs.Ytniopekkfnkipaa
