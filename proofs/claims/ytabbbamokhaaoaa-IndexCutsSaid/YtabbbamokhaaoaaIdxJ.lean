/-
  An index behind a cut, and the notes behind it: as data, and in memory.
-/
import Derived.Test.YtabbbamokhaaoaaIdxI
namespace Go.Proofs.Ytabbbamokhaaoaa
open Go.RowKit
set_option linter.unusedVariables false
set_option linter.unusedSimpArgs false

structure Cutd (gp : Int) (S : List Int) (k : Nat) (cut : Int) (y : Idx) (j : Nat) : Prop where
  gp : y.gap = gp
  srt : Srt y
  pos : 0 < y.L.length
  len : y.L.length ≤ k + j
  nxt : ∀ m : Nat, j ≤ m → cut ≤ 3 * (m : Int) → y.off < 3 * (m : Int) ∧ y.pl < plc S m
  each : ∀ a, a < y.L.length → 0 ≤ (y.L.getD a default).pl ∧ (y.L.getD a default).pl ≤ 4194304
theorem Cutd.start {gp cut : Int} {S : List Int} {k r : Nat} {x : Idx} (h : Laid gp S [] k x) (hk : k ≤ 80) (hl : x.L.length ≤ k) (hU : Upto (below_ cut) x.L r) (h0 : 0 < r) : Cutd gp S k cut (x.cutAt r) 0 := by
  have hr := hU.le
  have hlt : (x.L.take r).length = r := by rw [List.length_take]; omega
  refine ⟨h.gp, h.srt.cut hr, by show 0 < (x.L.take r).length; omega, by show (x.L.take r).length ≤ _; omega, fun m _ hm => ?_, fun a ha => ?_⟩
  · obtain ⟨i, hi, e⟩ := h.each (r - 1) (by omega)
    have hy := (below_t _ _).1 (hU.yes (r - 1) (by omega))
    show (if r = 0 then -1 else (x.L.getD (r - 1) default).off) < _ ∧ (if r = 0 then -1 else (x.L.getD (r - 1) default).pl) < _
    rw [if_neg (by omega), if_neg (by omega), e]
    rw [e] at hy
    simp only at hy ⊢
    have h1 := plc_mono S (show i + 1 ≤ m by omega)
    have h2 := plc_step S i
    omega
  · have ha' : a < r := by have : a < (x.L.take r).length := ha; omega
    show 0 ≤ ((x.L.take r).getD a default).pl ∧ ((x.L.take r).getD a default).pl ≤ _
    rw [getD_take _ _ _ ha']
    obtain ⟨i, hi, e⟩ := h.each a (by omega)
    rw [e]
    have := plc_le S i
    simp only
    omega
theorem Cutd.skip {gp cut : Int} {S : List Int} {k j : Nat} {y : Idx} (h : Cutd gp S k cut y j) : Cutd gp S k cut y (j + 1) :=
  ⟨h.gp, h.srt, h.pos, by have := h.len; omega, fun m hm hc => h.nxt m (by omega) hc, h.each⟩
theorem Cutd.note {gp cut t : Int} {S : List Int} {k j : Nat} {y : Idx} (h : Cutd gp S k cut y j) (hj : j < 80) (hc : cut ≤ 3 * (j : Int)) : Cutd gp S k cut (y.note (3 * (j : Int)) (plc S j) t) (j + 1) := by
  have hn := h.nxt j (Nat.le_refl _) hc
  have hp := plc_le S j
  refine ⟨h.gp, h.srt.note _ _ hn.1, ?_, ?_, fun m hm _ => ?_, ?_⟩
  · unfold Idx.note
    split
    · simp
    · exact h.pos
  · have := h.len
    unfold Idx.note
    split
    · simp; omega
    · show y.L.length ≤ _; omega
  · show 3 * (j : Int) < _ ∧ plc S j < _
    have h1 := plc_mono S hm
    have h2 := plc_step S j
    omega
  · unfold Idx.note
    split
    · intro a ha
      simp only [List.length_append, List.length_cons, List.length_nil] at ha
      simp only [getD_snoc]
      by_cases e : a < y.L.length
      · rw [if_pos e]; exact h.each a e
      · rw [if_neg e, if_pos (show a = y.L.length by omega)]
        simp only
        omega
    · exact h.each
/-- what Find tells behind a note -/
theorem note_find {y : Idx} {o p t : Int} {r : Nat} (hs : Srt (y.note o p t)) (hp : 0 < y.L.length) (hg : 1 ≤ y.gap) (hU : Upto (atMost o) (y.note o p t).L r) :
    0 < r ∧ ((y.note o p t).L.getD (r - 1) default).off ≤ o ∧ p - ((y.note o p t).L.getD (r - 1) default).pl < y.gap ∧ r ≤ (y.note o p t).L.length := by
  have hr := hU.le
  have hl : 0 < (y.note o p t).L.length := by
    unfold Idx.note
    split
    · simp
    · exact hp
  have hall : r = (y.note o p t).L.length := by
    rcases Nat.lt_or_ge r (y.note o p t).L.length with g | g
    · have h1 := (atMost_f _ _).1 (hU.no r (Nat.le_refl _) g)
      have h2 := (hs.top r g).1
      have h3 : (y.note o p t).off = o := rfl
      omega
    · omega
  refine ⟨by omega, (atMost_t _ _).1 (hU.yes (r - 1) (by omega)), ?_, hr⟩
  rw [hall]
  unfold Idx.note
  split
  · simp only [List.length_append, List.length_cons, List.length_nil, getD_snoc]
    rw [if_neg (by omega), if_pos (by omega)]
    simp only
    omega
  · rename_i hne
    have : ¬ (y.gap ≤ p - (y.L.getD (y.L.length - 1) default).pl) := fun h0 => hne (.inr h0)
    show p - (y.L.getD (y.L.length - 1) default).pl < y.gap
    omega

theorem But.weak {g : Nat} {k : Option Nat} {w w' : World} (h : But g none w w') : But g k w w' := ⟨h.os, h.tape, h.output, h.size, fun i h1 h2 _ => h.block i h1 h2 (by simp)⟩
structure Hc (w wr : World) (v : Value) (y : Idx) (va : Value) (k : Nat) (bl : List Ent) : Prop where
  ix : Ix wr w.heap.size w.heap.size v y
  own : wr.ownsRow w.heap.size 38 3 va k (ecells bl)
  ne : va.ownBlock ≠ some w.heap.size
  apart : va.ownBlock = none ∨ va.ownBlock ≠ v.ownBlock
  below : Below w.heap.size w wr
section
variable {w wr w' : World} {v v' va : Value} {y y' : Idx} {k : Nat} {bl : List Ent}
theorem Hc.below_ (h : Hc w wr v y va k bl) (hb : Below wr.heap.size wr w') : Hc w w' v y va k bl :=
  ⟨h.ix.below hb (Nat.le_refl _), row_below h.own hb (Nat.le_refl _), h.ne, h.apart, h.below.trans (hb.mono h.below.size)⟩
theorem Hc.but (h : Hc w wr v y va k bl) (hx : Ix w' w.heap.size w.heap.size v' y') (hb : But w.heap.size v.ownBlock wr w') (hn : Newer wr v.ownBlock v'.ownBlock) : Hc w w' v' y' va k bl := by
  refine ⟨hx, hb.row h.own h.ne h.apart, h.ne, ?_, h.below.trans (hb.below (Nat.le_refl _) (fun j hj => (World.ownsRow.lt h.ix.own j hj).1) h.below.size)⟩
  rcases hn with e | ⟨j, e, hj⟩
  · rw [e]; exact h.apart
  · cases hv : va.ownBlock with
    | none => exact .inl rfl
    | some a => right; rw [e]; intro e2; injection e2 with e2; have := (World.ownsRow.lt h.own a hv).2; omega
end
set_option maxRecDepth 100000 in
theorem neEnt (o1 p1 b1 o2 p2 b2 : Int) (w : World) : (binOp .neq 28 (.agg #[.int .i64 o1, .int .i64 p1, .int .i64 b1]) (.agg #[.int .i64 o2, .int .i64 p2, .int .i64 b2])).run Try.prog w = .ok (.bool (!(o1 == o2 && p1 == p2 && b1 == b2))) w := by
  have u3 := Try.underlying3
  have u2 := Try.underlying2
  have a3 := Try.isAgg3
  have z3 := Try.sizeOf3
  have a2 := Try.isAgg2
  have z2 := Try.sizeOf2
  have hS : Try.prog.underlying 28 = some (.struct (Try.prog.fieldsOf 28)) := by kernel_rfl
  have hp : Try.prog.stoodInHeld 28 = false := by kernel_rfl
  rw [run_neq_struct, show (10000 : Nat) = 9999 + 1 from rfl, run_equalIn_agg w 9999 28 _ _ hS hp]
  simp only [Program.fieldsOf, Try.underlying28]
  go_simp
  by_cases h1 : o1 = o2 <;> by_cases h2 : p1 = p2 <;> by_cases h3 : b1 = b2 <;> simp [h1, h2, h3]
theorem neEnt_self (o p b : Int) (w : World) : (binOp .neq 28 (.agg #[.int .i64 o, .int .i64 p, .int .i64 b]) (.agg #[.int .i64 o, .int .i64 p, .int .i64 b])).run Try.prog w = .ok (.bool false) w := by
  rw [neEnt]; simp
end Go.Proofs.Ytabbbamokhaaoaa
