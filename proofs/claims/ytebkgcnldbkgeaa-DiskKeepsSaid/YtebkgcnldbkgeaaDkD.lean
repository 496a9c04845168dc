/-
  How many bytes all files have; how many more there may be; a file's bytes.
-/
import Derived.Test.YtebkgcnldbkgeaaDkC
import Derived.Test.YtebkgcnldbkgeaaCloneB
namespace Go.Proofs.Ytebkgcnldbkgeaa
open Go.RowKit Go.Lib Go.Sort Go.Maps
set_option linter.unusedVariables false
set_option linter.unusedSimpArgs false

def leftSum (left : Lit → Bool) (H : List Hd) : Nat := (H.map fun h => if left (.string h.key) = true then h.b.length else 0).sum
theorem leftSum_none {left : Lit → Bool} {H : List Hd} (h : ∀ kl, left kl = false) : leftSum left H = 0 := by
  induction H with
  | nil => rfl
  | cons y l ih =>
    unfold leftSum at *
    simp only [List.map_cons, List.sum_cons, h] at *
    rw [ih]
    simp
theorem leftSum_all {left : Lit → Bool} {H : List Hd} (h : ∀ x ∈ H, left (.string x.key) = true) : leftSum left H = usedH H := by
  induction H with
  | nil => rfl
  | cons y l ih =>
    have := ih fun x hx => h x (by simp [hx])
    unfold leftSum usedH at *
    simp only [List.map_cons, List.sum_cons, h y (by simp), if_true]
    rw [this]
theorem leftSum_same {left left' : Lit → Bool} {H : List Hd} (h : ∀ x ∈ H, left (.string x.key) = left' (.string x.key)) : leftSum left H = leftSum left' H := by
  unfold leftSum
  congr 1
  exact List.map_congr_left fun x hx => by rw [h x hx]
theorem leftSum_step {left : Lit → Bool} {H : List Hd} (hR : RiseT Hd.key H) {x : Hd} (hx : x ∈ H) (hl : left (.string x.key) = true) : leftSum left H = x.b.length + leftSum (fun z => left z && !z.sameKey (.string x.key)) H := by
  induction H with
  | nil => cases hx
  | cons y l ih =>
    obtain ⟨h1, h2⟩ := List.pairwise_cons.1 hR
    have e : ∀ (f : Lit → Bool), leftSum f (y :: l) = (if f (.string y.key) = true then y.b.length else 0) + leftSum f l := fun f => by unfold leftSum; simp
    rw [e, e]
    rcases List.mem_cons.1 hx with rfl | hx
    · have hs : (left (.string x.key) && !(Lit.string x.key).sameKey (.string x.key)) = false := by rw [same_str]; simp
      rw [if_pos hl, hs, leftSum_same (left' := fun z => left z && !z.sameKey (.string x.key)) fun z hz => by
        rw [same_str, decide_eq_false (fun e2 => ltT_ne (h1 z hz) e2.symm)]
        simp]
      simp
    · have hs : (left (.string y.key) && !(Lit.string y.key).sameKey (.string x.key)) = left (.string y.key) := by
        rw [same_str, decide_eq_false (ltT_ne (h1 x hx))]
        simp
      rw [hs, ih h2 hx]
      omega
theorem below_of_grownD {w w' w'' : World} {r : Nat} (h : Below w.heap.size w w') (k : w'.grownBy w'' (some r)) (hr : w.heap.size ≤ r) : Below w.heap.size w w'' :=
  ⟨k.os.trans h.os, k.tape.trans h.tape, k.output.trans h.output, Nat.le_trans h.size k.size, fun i hi => (k.block i (Nat.lt_of_lt_of_le hi h.size) (fun e => by injection e with e; omega)).trans (h.block i hi)⟩
set_option maxRecDepth 100000 in
set_option maxHeartbeats 4000000 in
theorem used_any (base d : Nat) (D : Dsk) (w : World) (h : Dk w base d D) :
    Calls Try.prog 20 #[.pointer (some ⟨d, 0, none⟩)] w fun e w' => e = .returned (.int .i64 (usedH D.H : Int)) ∧ Below w.heap.size w w' := by
  have c0 := h.c0
  have HFL : Hid (∀ W, Below w.heap.size w W → ∀ x ∈ D.H, ∃ A c, W.cell? ⟨x.fb, 0, none⟩ = some (.slice A x.b.length c)) := fun W hW x hx => by
    have hf := (h.below hW (Nat.le_refl _)).fl x hx
    obtain ⟨A, c, hv, _, _⟩ := slice_of_row hf.row
    exact ⟨A, c, by rw [← hv]; exact cell_of_row W _ 0 _ _ _ hf.blk⟩
  have h0 := h.mp0
  have h1 := h.mp1
  have ht := h.tot
  clear h
  obtain ⟨mp, room, st, lf, H⟩ := D
  simp only at *
  cases mp with
  | none =>
    obtain rfl : H = [] := h0 rfl
    clear h0 h1 HFL
    have hrn := run_range_nilMap (P := Try.prog) w 55 9 60 Try.underlying55
    have hnx : ∀ ty, (Instr.next (.pointer (some ⟨w.heap.size, 0, none⟩)) false ty).run Try.prog (w.alloc (.mapIter none 0 #[] 0)) = .ok (.tuple #[.bool false]) (w.alloc (.mapIter none 0 #[] 0)) := fun ty => run_next_nilMap w ty 0 0 #[]
    go_enter Try.func20, Try.ntmps20
    go_wp2_with fail
    go_loopw [3] (fun s wr => s = .int .i64 0 ∧ wr = w.alloc (.mapIter none 0 #[] 0)) (fun _ _ => 0)
    case atStart => exact ⟨rfl, rfl⟩
    case round =>
      obtain ⟨rfl, rfl⟩ := hrel
      go_wp2_with fail
      go_ret
      exact ⟨rfl, (Below.refl _ _).alloc (Nat.le_refl _) _⟩
  | some m =>
    obtain ⟨_, hM⟩ := h1 m rfl
    obtain ⟨n, hn, hown⟩ := hM.own
    have HR := Lib.hid hM.rise
    have hml := hM.lt
    clear h0 h1 hM
    go_enter Try.func20, Try.ntmps20
    go_wp2_with (first
      | (at_range; refine wpList_range_own _ rfl _ 55 rfl 9 60 keyed9 Try.underlying55 _ m n _ rfl hown ?_; intro w0 hrg0 hg0 hs0)
      | go_in)
    go_frame
    clear hown
    go_loopw [3] (fun s wr => ∃ (sv : Nat) (left : Lit → Bool) (cnt : Nat), s = .int .i64 (sv : Int) ∧ Hid (sv + leftSum left H = usedH H) ∧ Hid (wr.ranges Try.prog 9 heldT m w.heap.size n (mapT Hd.key Hd.ptr H) left cnt) ∧ Hid (Below w.heap.size w wr)) (fun _ wr => wr.rangeLeft m w.heap.size)
    case atStart =>
      refine ⟨0, _, _, rfl, ?_, hrg0, ⟨hg0.os, hg0.tape, hg0.output, hg0.size, fun i hi => hg0.block i hi (by simp)⟩⟩
      show _ = _
      rw [leftSum_all fun x hx => ?_]
      · omega
      · rw [has_mapT, getT_of_mem Hd.key HR.out hx]
        rfl
    case round =>
      obtain ⟨sv, left, cnt, rfl, HS, HG, HB⟩ := hrel
      go_wp2_with (first
        | (at_next; refine wpList_next_Mt _ rfl _ rfl 9 keyed9 Try.underlying9 m w.heap.size n H left cnt rfl HG.out ?_ ?_)
        | go_in)
      · intro hl0
        have HE : Hid (sv = usedH H) := by have := HS.out; rw [leftSum_none hl0] at this; exact this
        go_wp2_with fail
        go_ret
        exact ⟨by rw [HE.out]; rfl, HB.out⟩
      · intro x w1 cnt1 hx _ hlx hrg1 hlt hg1 hs1 hen
        have HST := Lib.hid (leftSum_step HR.out hx hlx)
        have HB1 := Lib.hid (below_of_grownD HB.out hg1 (Nat.le_refl _))
        obtain ⟨Ax, cx, hcx⟩ := HFL.out w1 HB1.out x hx
        have HG1 := Lib.hid hrg1
        have HLT := Lib.hid hlt
        have HGE := Lib.hid (HG.out.left_eq)
        have hsv : sv + x.b.length ≤ 4194304 := by have := HS.out; have := HST.out; omega
        clear hrg1 hlt hg1 hx hlx
        unfold Hd.ptr at hen
        have HS2 : Hid (sv + x.b.length + leftSum (fun z => left z && !z.sameKey (.string x.key)) H = usedH H) := by
          have h1 := HS.out
          have h2 := HST.out
          show _ = _
          omega
        clear HST
        generalize hxl : x.b.length = xl at *
        clear hxl
        go_wp2_with (first | go_in)
        go_roundw
        case rel => exact ⟨sv + xl, _, cnt1, by go_num, HS2, HG1, HB1⟩
        case measure => rw [HG1.out.left_eq, HGE.out]; exact HLT.out
end Go.Proofs.Ytebkgcnldbkgeaa
