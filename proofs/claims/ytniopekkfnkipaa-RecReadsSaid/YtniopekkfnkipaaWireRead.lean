/-
  What the reader's calls do.
-/
import Derived.Test.YtniopekkfnkipaaWireDec
import Derived.Deep.RegionWith
-- SOFT
namespace Go.Proofs.Ytniopekkfnkipaa
open Go.RowKit
set_option linter.unusedVariables false
set_option linter.unusedSimpArgs false

set_option maxHeartbeats 400000 in
theorem cInt_any (bx g c p err : Nat) (A : Option Addr) (l : List UInt8) (w : World) (h : Rd w g A c l p err) (hbx : w.cell? ⟨bx, 0, none⟩ = some (.pointer (some ⟨g, 0, none⟩))) :
    Calls Try.prog 78 #[.pointer (some ⟨bx, 0, none⟩)] w (DPost w g c err A l (dInt l p)) := by
  have HU := Lib.hid (signed_d g c p err A l w h)
  generalize dInt l p = r at *
  go_enter Try.func78, Try.ntmps78
  go_wp2_with fail
  refine HU.out.mono ?_
  intro e w1 hp
  cases r with
  | ok x q =>
    obtain ⟨rfl, hr, hg⟩ := hp
    have HR := Lib.hid hr
    clear hr
    go_wp2_with fail
    go_ret2
    exact ⟨rfl, HR.out, hg⟩
  | bad er =>
    obtain ⟨y, q, rfl, her, hr, hg⟩ := hp
    have HR := Lib.hid hr
    clear hr
    go_wp2_with fail
    go_ret2
    exact ⟨y, q, rfl, her, HR.out, hg⟩

set_option maxHeartbeats 400000 in
theorem cFlag_any (bx g c p err : Nat) (A : Option Addr) (l : List UInt8) (w : World) (h : Rd w g A c l p err) (hbx : w.cell? ⟨bx, 0, none⟩ = some (.pointer (some ⟨g, 0, none⟩))) :
    Calls Try.prog 81 #[.pointer (some ⟨bx, 0, none⟩)] w (DPost w g c err A l (dFlag l p)) := by
  have HU := Lib.hid (flag_d g c p err A l w h)
  generalize dFlag l p = r at *
  go_enter Try.func81, Try.ntmps81
  go_wp2_with fail
  refine HU.out.mono ?_
  intro e w1 hp
  cases r with
  | ok x q =>
    obtain ⟨rfl, hr, hg⟩ := hp
    have HR := Lib.hid hr
    clear hr
    go_wp2_with fail
    go_ret2
    exact ⟨rfl, HR.out, hg⟩
  | bad er =>
    obtain ⟨y, q, rfl, her, hr, hg⟩ := hp
    have HR := Lib.hid hr
    clear hr
    go_wp2_with fail
    go_ret2
    exact ⟨y, q, rfl, her, HR.out, hg⟩

set_option maxHeartbeats 400000 in
theorem cByte_any (bx g c p err : Nat) (A : Option Addr) (l : List UInt8) (w : World) (h : Rd w g A c l p err) (hbx : w.cell? ⟨bx, 0, none⟩ = some (.pointer (some ⟨g, 0, none⟩))) :
    Calls Try.prog 57 #[.pointer (some ⟨bx, 0, none⟩)] w (DPost w g c err A l (dByte l p)) := by
  have HU := Lib.hid (octet_d g c p err A l w h)
  generalize dByte l p = r at *
  go_enter Try.func57, Try.ntmps57
  go_wp2_with fail
  refine HU.out.mono ?_
  intro e w1 hp
  cases r with
  | ok x q =>
    obtain ⟨rfl, hr, hg⟩ := hp
    have HR := Lib.hid hr
    clear hr
    go_wp2_with fail
    go_ret2
    exact ⟨rfl, HR.out, hg⟩
  | bad er =>
    obtain ⟨y, q, rfl, her, hr, hg⟩ := hp
    have HR := Lib.hid hr
    clear hr
    go_wp2_with fail
    go_ret2
    exact ⟨y, q, rfl, her, HR.out, hg⟩

set_option maxRecDepth 100000 in
set_option maxHeartbeats 1000000 in
theorem rInt_any (g c p : Nat) (A : Option Addr) (l : List UInt8) (w : World) (h : Rd w g A c l p 0) :
    Calls Try.prog 73 #[.pointer (some ⟨g, 0, none⟩)] w (RPost w g c A l p (.int .i64 0) (dInt l p)) := by
  have c2 := h.c2
  have c0 := h.c0
  have c1 := h.c1
  have hlt := h.lt
  have HRD := Lib.hid h
  have HD : Hid (∀ W bx, Rd W g A c l p 0 → W.cell? ⟨bx, 0, none⟩ = some (.pointer (some ⟨g, 0, none⟩)) → Calls Try.prog 78 #[.pointer (some ⟨bx, 0, none⟩)] W (DPost W g c 0 A l (dInt l p))) := fun W bx h hb => cInt_any bx g c p 0 A l W h hb
  clear h
  generalize dInt l p = r at *
  go_enter Try.func73, Try.ntmps73
  go_wp2_with (first | (go_at_call 78; refine (HD.out _ _ (HRD.out.alloc _ |>.alloc _) (by simp; done)).mono ?_) | go_in)
  intro e w1 hp
  cases r with
  | ok x q =>
    obtain ⟨rfl, hr, hg⟩ := hp
    have HR := Lib.hid hr
    have HG := Lib.hid hg
    clear hr hg
    go_wp2_with fail
    go_ret
    exact ⟨rfl, HR.out, grown_trans (grown_two _ _ _ _) HG.out⟩
  | bad er =>
    obtain ⟨y, q, rfl, her, hr, hg⟩ := hp
    have hb : w1.heap[w.heap.size + 1]? = _ := (hg.block (w.heap.size + 1) (by simp) (by intro e; injection e with e; omega)).trans (two_blk _ _ _ _)
    have s0 : w1.cell? ⟨w.heap.size + 1, 0, none⟩ = some (.slice A l.length c) := cell_of_row w1 _ 0 _ _ _ hb
    have s1 : w1.cell? ⟨w.heap.size + 1, 1, none⟩ = some (.int .i64 (p : Int)) := cell_of_row w1 _ 1 _ _ _ hb
    have hne : ((er : Int) != 0) = true := by rw [bne_iff_ne]; omega
    have f0 := hr.free 0
    have f1 := hr.free 1
    have f2 := hr.free 2
    have d0 := hr.c0
    have d1 := hr.c1
    have d2 := hr.c2
    have HR := Lib.hid (hr.back HRD.out.pos er)
    have HG := Lib.hid hg
    clear hr hg hb HD HRD c0 c1 c2
    go_wp2_with fail
    go_ret
    exact ⟨rfl, HR.out, grown_trans (grown_trans (grown_two _ _ _ _) HG.out) (grown_back _ _ _ _)⟩

set_option maxRecDepth 100000 in
set_option maxHeartbeats 1000000 in
theorem rFlag_any (g c p : Nat) (A : Option Addr) (l : List UInt8) (w : World) (h : Rd w g A c l p 0) :
    Calls Try.prog 74 #[.pointer (some ⟨g, 0, none⟩)] w (RPost w g c A l p (.bool false) (dFlag l p)) := by
  have c2 := h.c2
  have c0 := h.c0
  have c1 := h.c1
  have hlt := h.lt
  have HRD := Lib.hid h
  have HD : Hid (∀ W bx, Rd W g A c l p 0 → W.cell? ⟨bx, 0, none⟩ = some (.pointer (some ⟨g, 0, none⟩)) → Calls Try.prog 81 #[.pointer (some ⟨bx, 0, none⟩)] W (DPost W g c 0 A l (dFlag l p))) := fun W bx h hb => cFlag_any bx g c p 0 A l W h hb
  clear h
  generalize dFlag l p = r at *
  go_enter Try.func74, Try.ntmps74
  go_wp2_with (first | (go_at_call 81; refine (HD.out _ _ (HRD.out.alloc _ |>.alloc _) (by simp; done)).mono ?_) | go_in)
  intro e w1 hp
  cases r with
  | ok x q =>
    obtain ⟨rfl, hr, hg⟩ := hp
    have HR := Lib.hid hr
    have HG := Lib.hid hg
    clear hr hg
    go_wp2_with fail
    go_ret
    exact ⟨rfl, HR.out, grown_trans (grown_two _ _ _ _) HG.out⟩
  | bad er =>
    obtain ⟨y, q, rfl, her, hr, hg⟩ := hp
    have hb : w1.heap[w.heap.size + 1]? = _ := (hg.block (w.heap.size + 1) (by simp) (by intro e; injection e with e; omega)).trans (two_blk _ _ _ _)
    have s0 : w1.cell? ⟨w.heap.size + 1, 0, none⟩ = some (.slice A l.length c) := cell_of_row w1 _ 0 _ _ _ hb
    have s1 : w1.cell? ⟨w.heap.size + 1, 1, none⟩ = some (.int .i64 (p : Int)) := cell_of_row w1 _ 1 _ _ _ hb
    have hne : ((er : Int) != 0) = true := by rw [bne_iff_ne]; omega
    have f0 := hr.free 0
    have f1 := hr.free 1
    have f2 := hr.free 2
    have d0 := hr.c0
    have d1 := hr.c1
    have d2 := hr.c2
    have HR := Lib.hid (hr.back HRD.out.pos er)
    have HG := Lib.hid hg
    clear hr hg hb HD HRD c0 c1 c2
    go_wp2_with fail
    go_ret
    exact ⟨rfl, HR.out, grown_trans (grown_trans (grown_two _ _ _ _) HG.out) (grown_back _ _ _ _)⟩

set_option maxRecDepth 100000 in
set_option maxHeartbeats 1000000 in
theorem rByte_any (g c p : Nat) (A : Option Addr) (l : List UInt8) (w : World) (h : Rd w g A c l p 0) :
    Calls Try.prog 35 #[.pointer (some ⟨g, 0, none⟩)] w (RPost w g c A l p (.int .i64 0) (dByte l p)) := by
  have c2 := h.c2
  have c0 := h.c0
  have c1 := h.c1
  have hlt := h.lt
  have HRD := Lib.hid h
  have HD : Hid (∀ W bx, Rd W g A c l p 0 → W.cell? ⟨bx, 0, none⟩ = some (.pointer (some ⟨g, 0, none⟩)) → Calls Try.prog 57 #[.pointer (some ⟨bx, 0, none⟩)] W (DPost W g c 0 A l (dByte l p))) := fun W bx h hb => cByte_any bx g c p 0 A l W h hb
  clear h
  generalize dByte l p = r at *
  go_enter Try.func35, Try.ntmps35
  go_wp2_with (first | (go_at_call 57; refine (HD.out _ _ (HRD.out.alloc _ |>.alloc _) (by simp; done)).mono ?_) | go_in)
  intro e w1 hp
  cases r with
  | ok x q =>
    obtain ⟨rfl, hr, hg⟩ := hp
    have HR := Lib.hid hr
    have HG := Lib.hid hg
    clear hr hg
    go_wp2_with fail
    go_ret
    exact ⟨rfl, HR.out, grown_trans (grown_two _ _ _ _) HG.out⟩
  | bad er =>
    obtain ⟨y, q, rfl, her, hr, hg⟩ := hp
    have hb : w1.heap[w.heap.size + 1]? = _ := (hg.block (w.heap.size + 1) (by simp) (by intro e; injection e with e; omega)).trans (two_blk _ _ _ _)
    have s0 : w1.cell? ⟨w.heap.size + 1, 0, none⟩ = some (.slice A l.length c) := cell_of_row w1 _ 0 _ _ _ hb
    have s1 : w1.cell? ⟨w.heap.size + 1, 1, none⟩ = some (.int .i64 (p : Int)) := cell_of_row w1 _ 1 _ _ _ hb
    have hne : ((er : Int) != 0) = true := by rw [bne_iff_ne]; omega
    have f0 := hr.free 0
    have f1 := hr.free 1
    have f2 := hr.free 2
    have d0 := hr.c0
    have d1 := hr.c1
    have d2 := hr.c2
    have HR := Lib.hid (hr.back HRD.out.pos er)
    have HG := Lib.hid hg
    clear hr hg hb HD HRD c0 c1 c2
    go_wp2_with fail
    go_ret
    exact ⟨rfl, HR.out, grown_trans (grown_trans (grown_two _ _ _ _) HG.out) (grown_back _ _ _ _)⟩

theorem three_blk (w : World) (a b : Obj) (cs : Array Value) (ty : TypeId) : (((w.alloc a).alloc b).alloc (.cells cs ty)).heap[w.heap.size + 2]? = some (.cells cs ty (0, 0)) := by
  have e : w.heap.size + 2 = ((w.alloc a).alloc b).heap.size := by simp
  rw [e]
  exact Array.getElem?_push_size
theorem box_new (w : World) (u : Value) (t : TypeId) : (w.alloc (.cells #[u] t)).cell? ⟨w.heap.size, 0, none⟩ = some u :=
  cell_of_row _ _ 0 #[u] t (0, 0) Array.getElem?_push_size
theorem box_a (w : World) (u : Value) (t : TypeId) (b d : Obj) : (((w.alloc (.cells #[u] t)).alloc b).alloc d).cell? ⟨w.heap.size, 0, none⟩ = some u := by
  rw [World.cell?_alloc_lt _ _ _ (by simp; omega), World.cell?_alloc_lt _ _ _ (by simp)]
  exact box_new w u t
theorem box_b (w : World) (u : Value) (t : TypeId) (a d : Obj) : (((w.alloc a).alloc (.cells #[u] t)).alloc d).cell? ⟨w.heap.size + 1, 0, none⟩ = some u := by
  have e : w.heap.size + 1 = (w.alloc a).heap.size := by simp
  rw [World.cell?_alloc_lt _ _ _ (by simp), e]
  exact box_new _ u t
theorem grown_three (w : World) (a b d : Obj) (row : Option Nat) : w.grownBy (((w.alloc a).alloc b).alloc d) row :=
  grown_of_below ((((Below.refl _ _).alloc (Nat.le_refl _) a).alloc (by simp) b).alloc (by simp; omega) d) row

set_option maxHeartbeats 1000000 in
theorem cText_any (bx by_ g c p err : Nat) (A : Option Addr) (l : List UInt8) (most : Int) (w : World) (h : Rd w g A c l p err) (hbx : w.cell? ⟨bx, 0, none⟩ = some (.pointer (some ⟨g, 0, none⟩))) (hby : w.cell? ⟨by_, 0, none⟩ = some (.int .i64 most)) (hm1 : -9223372036854775808 ≤ most) (hm2 : most ≤ 9223372036854775807) :
    Calls Try.prog 84 #[.pointer (some ⟨bx, 0, none⟩), .pointer (some ⟨by_, 0, none⟩)] w (DPost w g c err A l (dText l p most)) := by
  have HU := Lib.hid (text_d g c p err A l most w.drew h.drew hm1 hm2)
  have HGD := Lib.hid (grown_of_below ((Below.refl w.heap.size w).drew) (some g))
  generalize dText l p most = r at *
  clear h
  cases r with
  | ok x q =>
    go_enter Try.func84, Try.ntmps84
    go_wp2_with fail
    go_region_with ((go_at_call 85; refine HU.out.mono ?_; rintro e w1 ⟨rfl, hr, hg⟩; have HR := Lib.hid hr; have HG := Lib.hid hg; clear hr hg))
    all_goals
      go_wp2_with fail
      go_ret2
      exact ⟨rfl, HR.out, grown_trans HGD.out HG.out⟩
  | bad er =>
    go_enter Try.func84, Try.ntmps84
    go_wp2_with fail
    go_region_with ((go_at_call 85; refine HU.out.mono ?_; rintro e w1 ⟨y, q, rfl, her, hr, hg⟩; have HR := Lib.hid hr; have HG := Lib.hid hg; clear hr hg))
    all_goals
      go_wp2_with fail
      go_ret2
      exact ⟨_, _, rfl, her, HR.out, grown_trans HGD.out HG.out⟩

set_option maxRecDepth 100000 in
set_option maxHeartbeats 1000000 in
theorem rText_any (g c p : Nat) (A : Option Addr) (l : List UInt8) (most : Int) (w : World) (h : Rd w g A c l p 0) (hm1 : -9223372036854775808 ≤ most) (hm2 : most ≤ 9223372036854775807) :
    Calls Try.prog 75 #[.pointer (some ⟨g, 0, none⟩), .int .i64 most] w (RPost w g c A l p (.string ⟨#[]⟩) (dText l p most)) := by
  have c2 := h.c2
  have c0 := h.c0
  have c1 := h.c1
  have hlt := h.lt
  have HRD := Lib.hid h
  have HD : Hid (∀ W bx by_, Rd W g A c l p 0 → W.cell? ⟨bx, 0, none⟩ = some (.pointer (some ⟨g, 0, none⟩)) → W.cell? ⟨by_, 0, none⟩ = some (.int .i64 most) → Calls Try.prog 84 #[.pointer (some ⟨bx, 0, none⟩), .pointer (some ⟨by_, 0, none⟩)] W (DPost W g c 0 A l (dText l p most))) := fun W bx by_ h hb hy => cText_any bx by_ g c p 0 A l most W h hb hy hm1 hm2
  clear h
  generalize dText l p most = r at *
  go_enter Try.func75, Try.ntmps75
  go_wp2_with (first | (go_at_call 84; refine (HD.out _ _ _ (HRD.out.alloc _ |>.alloc _ |>.alloc _) (box_a _ _ _ _ _) (box_b _ _ _ _ _)).mono ?_) | go_in)
  intro e w1 hp
  cases r with
  | ok x q =>
    obtain ⟨rfl, hr, hg⟩ := hp
    have HR := Lib.hid hr
    have HG := Lib.hid hg
    clear hr hg
    go_wp2_with fail
    go_ret
    exact ⟨rfl, HR.out, grown_trans (grown_three _ _ _ _ _) HG.out⟩
  | bad er =>
    obtain ⟨y, q, rfl, her, hr, hg⟩ := hp
    have hb : w1.heap[w.heap.size + 2]? = _ := (hg.block (w.heap.size + 2) (by simp) (by intro e; injection e with e; omega)).trans (three_blk _ _ _ _ _)
    have s0 : w1.cell? ⟨w.heap.size + 2, 0, none⟩ = some (.slice A l.length c) := cell_of_row w1 _ 0 _ _ _ hb
    have s1 : w1.cell? ⟨w.heap.size + 2, 1, none⟩ = some (.int .i64 (p : Int)) := cell_of_row w1 _ 1 _ _ _ hb
    have hne : ((er : Int) != 0) = true := by rw [bne_iff_ne]; omega
    have f0 := hr.free 0
    have f1 := hr.free 1
    have f2 := hr.free 2
    have d0 := hr.c0
    have d1 := hr.c1
    have d2 := hr.c2
    have HR := Lib.hid (hr.back HRD.out.pos er)
    have HG := Lib.hid hg
    clear hr hg hb HD HRD c0 c1 c2
    go_wp2_with fail
    go_ret
    exact ⟨rfl, HR.out, grown_trans (grown_trans (grown_three _ _ _ _ _) HG.out) (grown_back _ _ _ _)⟩

end Go.Proofs.Ytniopekkfnkipaa
