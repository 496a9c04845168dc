/-
  What a decoder of wire comes to, and what the reader's calls make of it.
-/
import Derived.Test.YtniopekkfnkipaaWireUns
namespace Go.Proofs.Ytniopekkfnkipaa
open Go.RowKit
set_option linter.unusedVariables false
set_option linter.unusedSimpArgs false

/-- what a decoder comes to: a value and where it ends, or an error -/
inductive Dr where
  | ok (v : Value) (q : Nat)
  | bad (er : Nat)
def DPost (w : World) (g c err : Nat) (A : Option Addr) (l : List UInt8) (r : Dr) (e : Ending) (w' : World) : Prop :=
  match r with
  | .ok v q => e = .returned (.tuple #[v, .int .i64 0]) ∧ Rd w' g A c l q err ∧ w.grownBy w' (some g)
  | .bad er => ∃ y q, e = .returned (.tuple #[y, .int .i64 (er : Int)]) ∧ 0 < er ∧ Rd w' g A c l q err ∧ w.grownBy w' (some g)
def RPost (w : World) (g c : Nat) (A : Option Addr) (l : List UInt8) (p : Nat) (z : Value) (r : Dr) (e : Ending) (w' : World) : Prop :=
  match r with
  | .ok v q => e = .returned v ∧ Rd w' g A c l q 0 ∧ w.grownBy w' (some g)
  | .bad er => e = .returned z ∧ Rd w' g A c l p er ∧ w.grownBy w' (some g)
def dUint (l : List UInt8) (p : Nat) : Dr := match Wn.num (l.drop p) with
  | some x => .ok (.int .u64 (x.1 : Int)) (p + x.2)
  | none => .bad 6
theorem uns_d (g c p err : Nat) (A : Option Addr) (l : List UInt8) (w : World) (h : Rd w g A c l p err) :
    Calls Try.prog 72 #[.pointer (some ⟨g, 0, none⟩)] w (DPost w g c err A l (dUint l p)) := by
  refine (unsigned_any g c p err A l w h).mono ?_
  intro e w1 hp
  unfold dUint
  revert hp
  cases Wn.num (l.drop p) with
  | some x => exact id
  | none =>
    rintro ⟨y, q, rfl, hr, hg⟩
    exact ⟨_, q, rfl, by omega, hr, hg⟩

section
variable {w w' : World} {g c p q err er : Nat} {A : Option Addr} {l : List UInt8}
theorem two_blk (w : World) (a : Obj) (cs : Array Value) (ty : TypeId) : ((w.alloc a).alloc (.cells cs ty)).heap[w.heap.size + 1]? = some (.cells cs ty (0, 0)) := by
  have e : w.heap.size + 1 = (w.alloc a).heap.size := by simp
  rw [e]
  exact Array.getElem?_push_size
theorem Rd.back (h : Rd w g A c l q err) (hp : p ≤ l.length) (er : Nat) : Rd (((w.setCell ⟨g, 0, none⟩ (.slice A l.length c)).setCell ⟨g, 1, none⟩ (.int .i64 (p : Int))).setCell ⟨g, 2, none⟩ (.int .i64 (er : Int))) g A c l p er := by
  have h0 : Rd (w.setCell ⟨g, 0, none⟩ (.slice A l.length c)) g A c l q err :=
    ⟨by rw [heap_setCell_same w g 0 _ _ _ h.blk]; rfl, h.cap, h.capm, h.bs.keep fun x hx => World.cell?_setCell_other w _ _ _ (fun e => by rw [← e] at hx; exact absurd hx (by simp)), h.pos, h.small⟩
  exact (h0.set1 p hp).set2 er
theorem grown_back (a : World) (u0 u1 u2 : Value) : a.grownBy (((a.setCell ⟨g, 0, none⟩ u0).setCell ⟨g, 1, none⟩ u1).setCell ⟨g, 2, none⟩ u2) (some g) :=
  grown_trans (grown_trans (grown_set _ _ _ _) (grown_set _ _ _ _)) (grown_set _ _ _ _)
theorem grown_two (w : World) (a b : Obj) (row : Option Nat) : w.grownBy ((w.alloc a).alloc b) row :=
  grown_of_below (((Below.refl _ _).alloc (Nat.le_refl _) a).alloc (by simp) b) row
end

set_option maxHeartbeats 400000 in
theorem uintC_any (bx g c p err : Nat) (A : Option Addr) (l : List UInt8) (w : World) (h : Rd w g A c l p err) (hbx : w.cell? ⟨bx, 0, none⟩ = some (.pointer (some ⟨g, 0, none⟩))) :
    Calls Try.prog 71 #[.pointer (some ⟨bx, 0, none⟩)] w (DPost w g c err A l (dUint l p)) := by
  have HU := Lib.hid (uns_d g c p err A l w h)
  generalize dUint l p = r at *
  go_enter Try.func71, Try.ntmps71
  go_wp2_with fail
  refine HU.out.mono ?_
  intro e w1 hp
  cases r with
  | ok x q =>
    obtain ⟨rfl, hr, hg⟩ := hp
    have HR := Lib.hid hr
    clear hr
    go_wp2_with fail
    go_ret2
    exact ⟨rfl, HR.out, hg⟩
  | bad er =>
    obtain ⟨y, q, rfl, her, hr, hg⟩ := hp
    have HR := Lib.hid hr
    clear hr
    go_wp2_with fail
    go_ret2
    exact ⟨y, q, rfl, her, HR.out, hg⟩

set_option maxRecDepth 100000 in
set_option maxHeartbeats 1000000 in
theorem rUint_any (g c p : Nat) (A : Option Addr) (l : List UInt8) (w : World) (h : Rd w g A c l p 0) :
    Calls Try.prog 59 #[.pointer (some ⟨g, 0, none⟩)] w (RPost w g c A l p (.int .u64 0) (dUint l p)) := by
  have c2 := h.c2
  have c0 := h.c0
  have c1 := h.c1
  have hlt := h.lt
  have HRD := Lib.hid h
  have HD : Hid (∀ W bx, Rd W g A c l p 0 → W.cell? ⟨bx, 0, none⟩ = some (.pointer (some ⟨g, 0, none⟩)) → Calls Try.prog 71 #[.pointer (some ⟨bx, 0, none⟩)] W (DPost W g c 0 A l (dUint l p))) := fun W bx h hb => uintC_any bx g c p 0 A l W h hb
  clear h
  generalize dUint l p = r at *
  go_enter Try.func59, Try.ntmps59
  go_wp2_with (first | (go_at_call 71; refine (HD.out _ _ (HRD.out.alloc _ |>.alloc _) (by simp; done)).mono ?_) | go_in)
  intro e w1 hp
  cases r with
  | ok x q =>
    obtain ⟨rfl, hr, hg⟩ := hp
    have HR := Lib.hid hr
    have HG := Lib.hid hg
    clear hr hg
    go_wp2_with fail
    go_ret
    exact ⟨rfl, HR.out, grown_trans (grown_two _ _ _ _) HG.out⟩
  | bad er =>
    obtain ⟨y, q, rfl, her, hr, hg⟩ := hp
    have hb : w1.heap[w.heap.size + 1]? = _ := (hg.block (w.heap.size + 1) (by simp) (by intro e; injection e with e; omega)).trans (two_blk _ _ _ _)
    have s0 : w1.cell? ⟨w.heap.size + 1, 0, none⟩ = some (.slice A l.length c) := cell_of_row w1 _ 0 _ _ _ hb
    have s1 : w1.cell? ⟨w.heap.size + 1, 1, none⟩ = some (.int .i64 (p : Int)) := cell_of_row w1 _ 1 _ _ _ hb
    have hne : ((er : Int) != 0) = true := by rw [bne_iff_ne]; omega
    have f0 := hr.free 0
    have f1 := hr.free 1
    have f2 := hr.free 2
    have d0 := hr.c0
    have d1 := hr.c1
    have d2 := hr.c2
    have HR := Lib.hid (hr.back HRD.out.pos er)
    have HG := Lib.hid hg
    clear hr hg hb HD HRD c0 c1 c2
    go_wp2_with fail
    go_ret
    exact ⟨rfl, HR.out, grown_trans (grown_trans (grown_two _ _ _ _) HG.out) (grown_back _ _ _ _)⟩
end Go.Proofs.Ytniopekkfnkipaa
