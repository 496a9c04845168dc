/-
  wire.Reader in memory; what position.left, cut and octet do.
-/
import Derived.Test.YtniopekkfnkipaaProg
import Derived.Test.YtniopekkfnkipaaWords
import Derived.WalkKit
import Derived.WalkSpells
import Derived.WalkLawsBesides
import Derived.Deep.QuietTactic
import Derived.BigQuiet
namespace Go.Proofs.Ytniopekkfnkipaa
open Go.RowKit
set_option linter.unusedVariables false
set_option linter.unusedSimpArgs false

/-- a reader of the bytes l, which stands at p and has met err, in block g -/
structure Rd (w : World) (g : Nat) (A : Option Addr) (c : Nat) (l : List UInt8) (p err : Nat) : Prop where
  blk : w.heap[g]? = some (.cells #[.slice A l.length c, .int .i64 (p : Int), .int .i64 (err : Int)] 68 (0, 0))
  cap : l.length ≤ c
  capm : c ≤ maxLen
  bs : Bs w g A l.length l
  pos : p ≤ l.length
  small : l.length ≤ 1099511627776
section
variable {w w' : World} {g c p err : Nat} {A : Option Addr} {l : List UInt8}
theorem Rd.lt (h : Rd w g A c l p err) : g < w.heap.size := (Array.getElem?_eq_some_iff.1 h.blk).1
theorem Rd.c0 (h : Rd w g A c l p err) : w.cell? ⟨g, 0, none⟩ = some (.slice A l.length c) := cell_of_row w g 0 _ _ _ h.blk
theorem Rd.c1 (h : Rd w g A c l p err) : w.cell? ⟨g, 1, none⟩ = some (.int .i64 (p : Int)) := cell_of_row w g 1 _ _ _ h.blk
theorem Rd.c2 (h : Rd w g A c l p err) : w.cell? ⟨g, 2, none⟩ = some (.int .i64 (err : Int)) := cell_of_row w g 2 _ _ _ h.blk
theorem Rd.free (h : Rd w g A c l p err) (i : Nat) : w.frozen? ⟨g, i, none⟩ = false := frozen_of_row w g i _ _ h.blk
theorem Rd.set1 (h : Rd w g A c l p err) (q : Nat) (hq : q ≤ l.length) : Rd (w.setCell ⟨g, 1, none⟩ (.int .i64 (q : Int))) g A c l q err :=
  ⟨by rw [heap_setCell_same w g 1 _ _ _ h.blk]; rfl, h.cap, h.capm, h.bs.keep fun x hx => World.cell?_setCell_other w _ _ _ (fun e => by rw [← e] at hx; exact absurd hx (by simp)), hq, h.small⟩
theorem Rd.set2 (h : Rd w g A c l p err) (q : Nat) : Rd (w.setCell ⟨g, 2, none⟩ (.int .i64 (q : Int))) g A c l p q :=
  ⟨by rw [heap_setCell_same w g 2 _ _ _ h.blk]; rfl, h.cap, h.capm, h.bs.keep fun x hx => World.cell?_setCell_other w _ _ _ (fun e => by rw [← e] at hx; exact absurd hx (by simp)), h.pos, h.small⟩
theorem Rd.below {B : Nat} (h : Rd w g A c l p err) (hb : Below B w w') (hB : g < B) : Rd w' g A c l p err :=
  ⟨(hb.block g hB).trans h.blk, h.cap, h.capm, h.bs.below (hb.mono (by omega)), h.pos, h.small⟩
theorem Rd.drewN (h : Rd w g A c l p err) (k : Nat) : Rd (w.drewN k) g A c l p err := h.below (below_draws (Below.refl w.heap.size w) k) h.lt
theorem Rd.drew (h : Rd w g A c l p err) : Rd w.drew g A c l p err := h.below ((Below.refl w.heap.size w).drew) h.lt
theorem Rd.alloc (h : Rd w g A c l p err) (o : Obj) : Rd (w.alloc o) g A c l p err := h.below ((Below.refl w.heap.size w).alloc (Nat.le_refl _) o) h.lt
theorem grown_trans {a b d : World} {row : Option Nat} (h : a.grownBy b row) (k : b.grownBy d row) : a.grownBy d row :=
  ⟨k.os.trans h.os, k.tape.trans h.tape, k.output.trans h.output, Nat.le_trans h.size k.size, fun i hi hne => (k.block i (Nat.lt_of_lt_of_le hi h.size) hne).trans (h.block i hi hne)⟩
theorem grown_of_below {a b : World} (h : Below a.heap.size a b) (row : Option Nat) : a.grownBy b row := ⟨h.os, h.tape, h.output, h.size, fun i hi _ => h.block i hi⟩
theorem grown_set (a : World) (g i : Nat) (u : Value) : a.grownBy (a.setCell ⟨g, i, none⟩ u) (some g) :=
  ⟨rfl, rfl, rfl, by simp [World.setCell], fun k _ hk => Below.heap_setCell a _ u k (fun e => hk (by rw [e]))⟩
theorem grown_draws (a : World) (k : Nat) (row : Option Nat) : a.grownBy (a.drewN k) row := grown_of_below (below_draws (Below.refl _ _) k) row
/-- below a block that is not written all is as it was -/
theorem below_of_grown {a b : World} {B : Nat} (h : a.grownBy b (some g)) (hB : B ≤ g) (hs : B ≤ a.heap.size) : Below B a b :=
  ⟨h.os, h.tape, h.output, h.size, fun k hk => h.block k (by omega) (fun e => by injection e with e; omega)⟩
end

set_option maxHeartbeats 400000 in
theorem left_any (g c p err : Nat) (A : Option Addr) (l : List UInt8) (w : World) (h : Rd w g A c l p err) :
    Calls Try.prog 39 #[.pointer (some ⟨g, 0, none⟩)] w fun e w' => e = .returned (.int .i64 ((l.length - p : Nat) : Int)) ∧ ∃ k, w' = w.drewN k := by
  have c0 := h.c0
  have c1 := h.c1
  have hp := h.pos
  have hs := h.small
  generalize l.length = n at *
  have ew : IntKind.i64.wrap ((n : Int) - (p : Int)) = (n : Int) - (p : Int) := by rw [IntKind.wrap_i64]; omega
  go_enter Try.func39, Try.ntmps39
  go_wp2
  go_quiet (fail)
  go_wp2
  go_ret
  exact ⟨ret_num (by omega), nq, rfl⟩

set_option maxHeartbeats 1000000 in
theorem cut_any (g c p err m : Nat) (A : Option Addr) (l : List UInt8) (w : World) (h : Rd w g A c l p err) (hm : p + m ≤ l.length) :
    Calls Try.prog 69 #[.pointer (some ⟨g, 0, none⟩), .int .i64 (m : Int)] w fun e w' => ∃ A' c', e = .returned (.slice A' m c') ∧ m ≤ c' ∧ c' ≤ maxLen ∧ Bs w' g A' m ((l.drop p).take m) ∧ Rd w' g A c l (p + m) err ∧ w.grownBy w' (some g) := by
  have c0 := h.c0
  have c1 := h.c1
  have hf1 := h.free 1
  have hp := h.pos
  have hs := h.small
  have hcap := h.cap
  have hcm := h.capm
  unfold maxLen at hcm
  have HR : Hid (∀ k, Rd ((w.drewN k).setCell ⟨g, 1, none⟩ (.int .i64 ((p + m : Nat) : Int))) g A c l (p + m) err) := fun k => (h.drewN k).set1 (p + m) hm
  have HG : Hid (∀ k, w.grownBy ((w.drewN k).setCell ⟨g, 1, none⟩ (.int .i64 ((p + m : Nat) : Int))) (some g)) := fun k => grown_trans (grown_draws w k _) (grown_set _ _ _ _)
  have hbs := (h.bs.drop p c h.cap).take m (by omega)
  have HB : Hid (∀ k, Bs ((w.drewN k).setCell ⟨g, 1, none⟩ (.int .i64 ((p + m : Nat) : Int))) g (if c = p then A else A.map (·.add p)) m ((l.drop p).take m)) := fun k => (hbs.drewN k).setCell (p := ⟨g, 1, none⟩) (Nat.le_refl _) _
  clear h hbs
  generalize hn : l.length = n at *
  have HN := Lib.hid hn
  clear hn
  have ew : IntKind.i64.wrap ((p : Int) + (m : Int)) = (p : Int) + (m : Int) := by rw [IntKind.wrap_i64]; omega
  have e1 : ((p : Int) + (m : Int)).toNat = p + m := by omega
  have e2 : (0 : Int) ≤ (p : Int) + (m : Int) := by omega
  have e3 : (p : Int) ≤ (p : Int) + (m : Int) := by omega
  have e4 : (p : Int) + (m : Int) ≤ (c : Int) := by omega
  have e5 : p + m ≤ c := by omega
  have e6 : p ≤ c := by omega
  have e7 : p + m - p = m := by omega
  have e8 : ((p + m : Nat) : Int) = (p : Int) + (m : Int) := by omega
  by_cases hcp : c = p
  · have HB2 : Hid (∀ k, Bs ((w.drewN k).setCell ⟨g, 1, none⟩ (.int .i64 ((p + m : Nat) : Int))) g A m ((l.drop p).take m)) := fun k => by have := HB.out k; rw [if_pos hcp] at this; exact this
    have hm0 : m = 0 := by omega
    subst hcp
    subst hm0
    rw [e8] at HR HG HB2
    clear HB
    go_enter Try.func69, Try.ntmps69
    go_wp2
    go_quiet (fail)
    go_wp2
    go_ret
    exact ⟨A, 0, by simp, by omega, by simp [maxLen], by simpa using HB2.out nq, by simpa using HR.out nq, by simpa using HG.out nq⟩
  · have HB2 : Hid (∀ k, Bs ((w.drewN k).setCell ⟨g, 1, none⟩ (.int .i64 ((p + m : Nat) : Int))) g (A.map (·.add p)) m ((l.drop p).take m)) := fun k => by have := HB.out k; rw [if_neg hcp] at this; exact this
    rw [e8] at HR HG HB2
    clear HB e8
    go_enter Try.func69, Try.ntmps69
    go_wp2
    go_quiet (fail)
    go_wp2
    go_ret
    exact ⟨_, _, rfl, by omega, by unfold maxLen; omega, HB2.out nq, HR.out nq, HG.out nq⟩
end Go.Proofs.Ytniopekkfnkipaa
