/-
  What the reader's Ints and Texts do.
-/
import Derived.Test.YtgbdgpacnpeahaaWrL
namespace Go.Proofs.Ytgbdgpacnpeahaa
open Go.RowKit Go.Lib Go.Sort
set_option linter.unusedVariables false
set_option linter.unusedSimpArgs false

set_option maxRecDepth 100000 in
set_option maxHeartbeats 4000000 in
theorem cInts_any (bx by_ g c p err : Nat) (A : Option Addr) (l : List UInt8) (count : Int) (hm1 : -9223372036854775808 ≤ count) (hm2 : count ≤ 9223372036854775807) (w : World) (h : Rd w g A c l p err) (hbx : w.cell? ⟨bx, 0, none⟩ = some (.pointer (some ⟨g, 0, none⟩))) (hby_ : w.cell? ⟨by_, 0, none⟩ = some (.int .i64 count)) :
    Calls Try.prog 129 #[.pointer (some ⟨bx, 0, none⟩), .pointer (some ⟨by_, 0, none⟩)] w (DLp 2 encI w g c err A l (dList (fun q => iR l q 0) (uR l p 0).1 (uR l p 0).2.1 (mE l p 0 count))) := by
  have HU := Lib.hid (listI_d bx g c p err A l count w.drew h.drew hbx (fun e => by have q := h.c0; rw [← e, hbx] at q; cases q) hm1 hm2)
  have HGD := Lib.hid (grown_of_below ((Below.refl w.heap.size w).drew) (some g))
  generalize dList (fun q => iR l q 0) (uR l p 0).1 (uR l p 0).2.1 (mE l p 0 count) = r at *
  clear h
  cases r with
  | ok x q =>
    go_enter Try.func129, Try.ntmps129
    go_wp2_with fail
    go_region_with ((go_at_call 130; refine HU.out.mono ?_; rintro e w1 ⟨v, rfl, ho, hr, hg⟩; have HO : Hid (w1.ownsRow w.heap.size 2 1 v x.length (x.map encI)) := ho; have HR := Lib.hid hr; have HG := Lib.hid hg; clear ho hr hg))
    all_goals
      go_wp2_with fail
      go_ret2
      exact ⟨_, rfl, HO.out, HR.out, grown_trans HGD.out HG.out⟩
  | bad er =>
    go_enter Try.func129, Try.ntmps129
    go_wp2_with fail
    go_region_with ((go_at_call 130; refine HU.out.mono ?_; rintro e w1 ⟨y, q, rfl, her, hr, hg⟩; have HR := Lib.hid hr; have HG := Lib.hid hg; clear hr hg))
    all_goals
      go_wp2_with fail
      go_ret2
      exact ⟨_, _, rfl, her, HR.out, grown_trans HGD.out HG.out⟩

set_option maxRecDepth 100000 in
set_option maxHeartbeats 4000000 in
theorem rInts_any (g c p : Nat) (A : Option Addr) (l : List UInt8) (count : Int) (hm1 : -9223372036854775808 ≤ count) (hm2 : count ≤ 9223372036854775807) (w : World) (h : Rd w g A c l p 0) :
    Calls Try.prog 54 #[.pointer (some ⟨g, 0, none⟩), .int .i64 count] w (RLp 2 encI w g c A l p (dList (fun q => iR l q 0) (uR l p 0).1 (uR l p 0).2.1 (mE l p 0 count))) := by
  have c2 := h.c2
  have c0 := h.c0
  have c1 := h.c1
  have hlt := h.lt
  have HRD := Lib.hid h
  have HD : Hid (∀ W bx by_, Rd W g A c l p 0 → W.cell? ⟨bx, 0, none⟩ = some (.pointer (some ⟨g, 0, none⟩)) → W.cell? ⟨by_, 0, none⟩ = some (.int .i64 count) → Calls Try.prog 129 #[.pointer (some ⟨bx, 0, none⟩), .pointer (some ⟨by_, 0, none⟩)] W (DLp 2 encI W g c 0 A l (dList (fun q => iR l q 0) (uR l p 0).1 (uR l p 0).2.1 (mE l p 0 count)))) := fun W bx by_ h hbx hby_ => cInts_any bx by_ g c p 0 A l count hm1 hm2 W h hbx hby_
  clear h
  generalize dList (fun q => iR l q 0) (uR l p 0).1 (uR l p 0).2.1 (mE l p 0 count) = r at *
  go_enter Try.func54, Try.ntmps54
  go_wp2_with (first | (go_at_call 129; refine (HD.out _ _ _ (HRD.out.alloc _ |>.alloc _ |>.alloc _) (box_a _ _ _ _ _) (box_b _ _ _ _ _)).mono ?_) | go_in)
  intro e w1 hp
  cases r with
  | ok x q =>
    obtain ⟨v, rfl, ho, hr, hg⟩ := hp
    have HO : Hid (w1.ownsRow w.heap.size 2 1 v x.length (x.map encI)) := row_lower ho (by simp; omega)
    have HR := Lib.hid hr
    have HG := Lib.hid hg
    clear ho hr hg
    go_wp2_with fail
    go_ret
    exact ⟨v, rfl, HO.out, HR.out, grown_trans (grown_three _ _ _ _ _) HG.out⟩
  | bad er =>
    obtain ⟨y, q, rfl, her, hr, hg⟩ := hp
    have hb : w1.heap[w.heap.size + 2]? = _ := (hg.block (w.heap.size + 2) (by simp) (by intro e; injection e with e; omega)).trans (three_blk _ _ _ _ _)
    have s0 : w1.cell? ⟨w.heap.size + 2, 0, none⟩ = some (.slice A l.length c) := cell_of_row w1 _ 0 _ _ _ hb
    have s1 : w1.cell? ⟨w.heap.size + 2, 1, none⟩ = some (.int .i64 (p : Int)) := cell_of_row w1 _ 1 _ _ _ hb
    have hne : ((er : Int) != 0) = true := by rw [bne_iff_ne]; omega
    have f0 := hr.free 0
    have f1 := hr.free 1
    have f2 := hr.free 2
    have d0 := hr.c0
    have d1 := hr.c1
    have d2 := hr.c2
    have HR := Lib.hid (hr.back HRD.out.pos er)
    have HG := Lib.hid hg
    clear hr hg hb HD HRD c0 c1 c2
    go_wp2_with fail
    go_ret
    exact ⟨rfl, HR.out, grown_trans (grown_trans (grown_three _ _ _ _ _) HG.out) (grown_back _ _ _ _)⟩
end Go.Proofs.Ytgbdgpacnpeahaa
