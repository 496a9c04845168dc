/-
  rec's decoder in memory; what must, upTo and record do where all can be read.
-/
import Derived.Test.YtniopekkfnkipaaRecF
import Derived.Test.YtniopekkfnkipaaRecTw
namespace Go.Proofs.Ytniopekkfnkipaa
open Go.RowKit
set_option linter.unusedVariables false
set_option linter.unusedSimpArgs false

/-- a decoder in block d that has met nothing wrong, its reader in block g at p -/
structure Dc (w : World) (d g : Nat) (A : Option Addr) (c : Nat) (l : List UInt8) (p : Nat) : Prop where
  blk : w.heap[d]? = some (.cells #[.pointer (some ⟨g, 0, none⟩), .bool false] 47 (0, 0))
  rd : Rd w g A c l p 0
  lt : g < d
section
variable {w w' : World} {d g c p q : Nat} {A : Option Addr} {l : List UInt8}
theorem Dc.dlt (h : Dc w d g A c l p) : d < w.heap.size := (Array.getElem?_eq_some_iff.1 h.blk).1
theorem Dc.c0 (h : Dc w d g A c l p) : w.cell? ⟨d, 0, none⟩ = some (.pointer (some ⟨g, 0, none⟩)) := cell_of_row w d 0 _ _ _ h.blk
theorem Dc.c1 (h : Dc w d g A c l p) : w.cell? ⟨d, 1, none⟩ = some (.bool false) := cell_of_row w d 1 _ _ _ h.blk
theorem Dc.free (h : Dc w d g A c l p) (i : Nat) : w.frozen? ⟨d, i, none⟩ = false := frozen_of_row w d i _ _ h.blk
theorem Dc.below {B : Nat} (h : Dc w d g A c l p) (hb : Below B w w') (hB : d < B) : Dc w' d g A c l p := ⟨(hb.block d hB).trans h.blk, h.rd.below hb (by have := h.lt; omega), h.lt⟩
theorem Dc.read (h : Dc w d g A c l p) (hr : Rd w' g A c l q 0) (hg : w.grownBy w' (some g)) : Dc w' d g A c l q :=
  ⟨(hg.block d h.dlt (fun e => by injection e with e; have := h.lt; omega)).trans h.blk, hr, h.lt⟩
theorem Dc.alloc (h : Dc w d g A c l p) (o : Obj) : Dc (w.alloc o) d g A c l p := h.below ((Below.refl w.heap.size w).alloc (Nat.le_refl _) o) h.dlt
theorem Dc.drewN (h : Dc w d g A c l p) (k : Nat) : Dc (w.drewN k) d g A c l p := h.below (below_draws (Below.refl w.heap.size w) k) h.dlt
theorem Dc.drew (h : Dc w d g A c l p) : Dc w.drew d g A c l p := h.below ((Below.refl w.heap.size w).drew) h.dlt
theorem Dc.set (h : Dc w d g A c l p) {b : Nat} (hb : d < b) (i : Nat) (u : Value) : Dc (w.setCell ⟨b, i, none⟩ u) d g A c l p := by
  have k := grown_set w b i u
  refine ⟨(k.block d h.dlt (fun e => by injection e with e; omega)).trans h.blk, ?_, h.lt⟩
  have hl := h.lt
  have hr := h.rd
  have hk : ∀ x : Addr, x.block < b → (w.setCell ⟨b, i, none⟩ u).cell? x = w.cell? x := fun x hx => World.cell?_setCell_other w _ _ _ (fun e => by rw [← e] at hx; exact absurd hx (by simp))
  exact ⟨(k.block g hr.lt (fun e => by injection e with e; omega)).trans hr.blk, hr.cap, hr.capm, hr.bs.keep fun x hx => hk x (by omega), hr.pos, hr.small⟩
theorem Dc.good (h : Dc w d g A c l p) : Dc (w.setCell ⟨d, 1, none⟩ (.bool false)) d g A c l p := by
  refine ⟨by rw [heap_setCell_same w d 1 _ _ _ h.blk]; rfl, ?_, h.lt⟩
  have hl := h.lt
  have hr := h.rd
  have k := grown_set w d 1 (.bool false)
  have hk : ∀ x : Addr, x.block < d → (w.setCell ⟨d, 1, none⟩ (.bool false)).cell? x = w.cell? x := fun x hx => World.cell?_setCell_other w _ _ _ (fun e => by rw [← e] at hx; exact absurd hx (by simp))
  exact ⟨(k.block g hr.lt (fun e => by injection e with e; omega)).trans hr.blk, hr.cap, hr.capm, hr.bs.keep fun x hx => hk x (by omega), hr.pos, hr.small⟩
end

set_option maxHeartbeats 1000000 in
theorem must_ok (d g c p : Nat) (A : Option Addr) (l : List UInt8) (w : World) (h : Dc w d g A c l p) :
    Calls Try.prog 34 #[.pointer (some ⟨d, 0, none⟩), .bool true] w fun e w' => e = .returned (.tuple #[]) ∧ Dc w' d g A c l p ∧ Two g d w w' := by
  have c1 := h.c1
  have f1 := h.free 1
  have HD := Lib.hid h.good
  clear h
  go_enter Try.func34, Try.ntmps34
  go_wp2
  go_end0
  exact ⟨rfl, HD.out, Two.set _ _ _⟩

set_option maxHeartbeats 1000000 in
theorem upTo_ok (d g c p q n most : Nat) (A : Option Addr) (l : List UInt8) (w : World) (h : Dc w d g A c l p) (hr : dUint l p = .ok (.int .u64 (n : Int)) q) (hn : n ≤ most) (hm : most < 9223372036854775808) :
    Calls Try.prog 36 #[.pointer (some ⟨d, 0, none⟩), .int .i64 (most : Int)] w fun e w' => e = .returned (.int .i64 (n : Int)) ∧ Dc w' d g A c l q ∧ Two g d w w' := by
  have c0 := h.c0
  have HU := Lib.hid (rUint_any g c p A l w h.rd)
  rw [hr] at HU
  have HD := Lib.hid h
  clear h hr
  have hd : decide ((most : Int) < (n : Int)) = false := by rw [decide_eq_false_iff_not]; omega
  go_enter Try.func36, Try.ntmps36
  go_wp2_with fail
  refine HU.out.mono ?_
  rintro e w1 ⟨rfl, hr1, hg1⟩
  have hD1 := HD.out.read hr1 hg1
  clear hr1 HU
  have HD1 := Lib.hid hD1
  clear hD1
  go_wp2_with fail
  go_ret
  exact ⟨rfl, HD1.out, Two.of_grown hg1⟩
end Go.Proofs.Ytniopekkfnkipaa
