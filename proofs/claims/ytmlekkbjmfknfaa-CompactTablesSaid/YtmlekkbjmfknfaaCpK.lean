/-
  What a table's New, Len, Next and Get do; chapter 9's records.
-/
import Derived.Test.YtmlekkbjmfknfaaCpJ
namespace Go.Proofs.Ytmlekkbjmfknfaa
open Go.RowKit Go.Lib Go.Sort
set_option linter.unusedVariables false
set_option linter.unusedSimpArgs false

set_option maxRecDepth 100000 in
set_option maxHeartbeats 2000000 in
theorem cnew_any (w : World) : Calls Try.prog 8 #[] w fun e w' => e = .returned (.pointer (some ⟨w.heap.size, 0, none⟩)) ∧ w' = w.alloc (.cells #[.int .i64 0, .slice none 0 0] 70) := by
  go_enter Try.func8, Try.ntmps8
  go_wp2
  go_ret
  exact ⟨rfl, rfl⟩
theorem Tbl.made (w : World) (base : Nat) : Tbl (w.alloc (.cells #[.int .i64 0, .slice none 0 0] 70)) base w.heap.size 0 (.slice none 0 0) [] :=
  ⟨heap_alloc_new w _, World.ownsRow_nil _ _ _ _, by simp [Value.ownBlock], List.Pairwise.nil, fun r h => by cases h⟩
/-- an empty table's rows lie nowhere -/
theorem Tbl.rebase {w : World} {base g : Nat} {next : Int} (h : Tbl w base g next (.slice none 0 0) []) (base' : Nat) : Tbl w base' g next (.slice none 0 0) [] :=
  ⟨h.box, World.ownsRow_nil _ _ _ _, h.far, h.srt, h.ok⟩
set_option maxRecDepth 100000 in
set_option maxHeartbeats 2000000 in
theorem next9_any (base g : Nat) (next : Int) (v : Value) (L : List AtC) (w : World) (hT : Tbl w base g next v L) : Calls Try.prog 39 #[.pointer (some ⟨g, 0, none⟩)] w fun e w' => e = .returned (.int .i64 next) ∧ w' = w := by
  have c0 := hT.c0
  clear hT
  go_enter Try.func39, Try.ntmps39
  go_wp2
  go_ret
  exact ⟨rfl, rfl⟩
set_option maxRecDepth 100000 in
set_option maxHeartbeats 2000000 in
theorem len9_any (base g : Nat) (next : Int) (v : Value) (L : List AtC) (w : World) (hT : Tbl w base g next v L) : Calls Try.prog 38 #[.pointer (some ⟨g, 0, none⟩)] w fun e w' => e = .returned (.int .i64 (L.length : Int)) ∧ w' = w := by
  have c1 := hT.c1
  obtain ⟨A, c, rfl, _⟩ := hT.acs
  clear hT
  go_enter Try.func38, Try.ntmps38
  go_wp2
  go_ret
  exact ⟨rfl, rfl⟩
def zAt : AtC := ⟨0, ⟨#[]⟩, ⟨#[]⟩, false, 0⟩
def getR (L : List AtC) (key : ByteArray) (r : Nat) : AtC := if thereB L key r = true then L.getD r default else zAt
set_option maxRecDepth 100000 in
set_option maxHeartbeats 2000000 in
theorem get9_any (base g : Nat) (next : Int) (v : Value) (L : List AtC) (key : ByteArray) (w : World) (hT : Tbl w base g next v L) (hm : L.length ≤ 1000000) :
    Calls Try.prog 49 #[.pointer (some ⟨g, 0, none⟩), .string key] w fun e w' => ∃ r, posOk L key r ∧ e = .returned (.tuple #[.agg (getR L key r).cells.toArray, .bool (thereB L key r)]) ∧ Below w.heap.size w w' := by
  obtain ⟨W0, hW0⟩ : ∃ W0, w.alloc (.cells #[.int .i64 0, .string ⟨#[]⟩, .string ⟨#[]⟩, .bool false, .int .i64 0] 81) = W0 := ⟨_, rfl⟩
  have hB0 : Below w.heap.size w W0 := by rw [← hW0]; exact (Below.refl _ _).alloc (Nat.le_refl _) _
  have hN0 : W0.heap[w.heap.size]? = some (.cells #[.int .i64 0, .string ⟨#[]⟩, .string ⟨#[]⟩, .bool false, .int .i64 0] 81 (0, 0)) := by rw [← hW0]; exact heap_alloc_new w _
  have hT0 := hT.below hB0
  have HF := Lib.hid (find_any base g key next v L W0 hT0 hm)
  have HT0 := Lib.hid hT0
  have HN0 := Lib.hid hN0
  have HB0 := Lib.hid hB0
  have hz0 : w.heap.size < W0.heap.size := (Array.getElem?_eq_some_iff.1 hN0).1
  have HW0 := Lib.hid hW0
  clear hT hT0 hB0 hW0 hN0
  go_enter Try.func49, Try.ntmps49
  go_upto_region 1 with fail
  rw [HW0.out]
  go_upto_region 4 with (go_at_call 81; (with_reducible refine HF.out.mono ?_); rintro e w1 ⟨r, rfl, hp, hb1⟩)
  have HP := Lib.hid hp
  have HT1 := Lib.hid (HT0.out.below hb1)
  have hN1 := (hb1.block w.heap.size hz0).trans HN0.out
  have HB1 := Lib.hid (HB0.out.trans (hb1.mono HB0.out.size))
  have HRES : Hid (∀ r, posOk L key r → True) := fun _ _ => trivial
  have m0 := cell_of_row _ _ 0 _ _ _ hN1
  have m1 := cell_of_row _ _ 1 _ _ _ hN1
  have m2 := cell_of_row _ _ 2 _ _ _ hN1
  have m3 := cell_of_row _ _ 3 _ _ _ hN1
  have m4 := cell_of_row _ _ 4 _ _ _ hN1
  have f0 := frozen_of_row _ w.heap.size 0 _ _ hN1
  have f1 := frozen_of_row _ w.heap.size 1 _ _ hN1
  have f2 := frozen_of_row _ w.heap.size 2 _ _ hN1
  have f3 := frozen_of_row _ w.heap.size 3 _ _ hN1
  have f4 := frozen_of_row _ w.heap.size 4 _ _ hN1
  clear hp hb1 HF HT0 HN0 HB0 HW0 hN1
  obtain ⟨th, hth⟩ : ∃ th, thereB L key r = th := ⟨_, rfl⟩
  have HTH := Lib.hid hth
  have hgr : getR L key r = if th = true then L.getD r default else zAt := by unfold getR; rw [hth]
  rw [hth]
  clear hth
  cases th with
  | false =>
    rw [if_neg (by simp)] at hgr
    have HGR := Lib.hid hgr
    clear hgr
    go_wp2_with fail
    refine bodyPost_ret (v := .tuple #[.agg #[.int .i64 0, .string ⟨#[]⟩, .string ⟨#[]⟩, .bool false, .int .i64 0], .bool false]) (by simp [results, Try.results49, go_sem, m0, m1, m2, m3, m4]) rfl ⟨r, HP.out, by rw [HGR.out, HTH.out]; rfl, ?_⟩
    repeat refine Below.setCell ?_ (by simp) _
    exact HB1.out
  | true =>
    rw [if_pos rfl] at hgr
    have HGR := Lib.hid hgr
    have hrl := there_lt HTH.out
    obtain ⟨A, c, rfl, hc, hcm, hA⟩ := HT1.out.acs
    obtain ⟨p, rfl, hpb, r0, r1, r2, r3, r4⟩ := hA.row hrl
    have c1 := HT1.out.c1
    have hrz : (r : Int) < (L.length : Int) := by omega
    clear hgr hA
    generalize L.getD r default = re at *
    obtain ⟨off, k, value, gone, time⟩ := re
    simp only at *
    go_wp2_with fail
    refine bodyPost_ret (v := .tuple #[.agg #[.int .i64 off, .string k, .string value, .bool gone, .int .i64 time], .bool true]) (by simp [results, Try.results49, go_sem, m0, m1, m2, m3, m4]) rfl ⟨r, HP.out, by rw [HGR.out, HTH.out]; rfl, ?_⟩
    repeat refine Below.setCell ?_ (by simp) _
    exact HB1.out

def exL : List AtC := [⟨0, ⟨#[97]⟩, ⟨#[49]⟩, false, 0⟩, ⟨1, ⟨#[98]⟩, ⟨#[50]⟩, false, 0⟩, ⟨2, ⟨#[97]⟩, ⟨#[]⟩, true, 5⟩, ⟨3, ⟨#[98]⟩, ⟨#[51]⟩, false, 0⟩]
theorem ex_clean9 : cleanR 9 exL = [⟨3, ⟨#[98]⟩, ⟨#[51]⟩, false, 0⟩] := by rfl
theorem ex_clean5 : cleanR 5 exL = [⟨2, ⟨#[97]⟩, ⟨#[]⟩, true, 5⟩, ⟨3, ⟨#[98]⟩, ⟨#[51]⟩, false, 0⟩] := by rfl
theorem ex_ok : okM 0 exL = true := by rfl
theorem ex_fit : ∀ r ∈ exL, r.ok := by
  intro r hr
  simp only [exL, List.mem_cons, List.not_mem_nil, or_false] at hr
  rcases hr with rfl | rfl | rfl | rfl <;> (unfold AtC.ok; simp [ByteArray.size])
theorem ex_app : appAll exL [] = [⟨3, ⟨#[98]⟩, ⟨#[51]⟩, false, 0⟩] := by
  simp [appAll, exL, applyL, lessB, ByteArray.toList_eq, Op.bytesLess]
set_option maxRecDepth 100000 in
set_option maxHeartbeats 2000000 in
theorem example_any (w : World) : Calls Try.prog 54 #[] w fun e w' => e = .returned (.slice (some ⟨w.heap.size, 0, none⟩) 4 4) ∧ Acs w' (w.heap.size + 1) (some ⟨w.heap.size, 0, none⟩) 4 exL ∧ Below w.heap.size w w' ∧ w'.heap.size = w.heap.size + 1 := by
  have hal : Below w.heap.size w (w.alloc (.cells (ccells exL).toArray 81)) := (Below.refl _ _).alloc (Nat.le_refl _) _
  have hli : Acs (w.alloc (.cells (ccells exL).toArray 81)) (w.heap.size + 1) (some ⟨w.heap.size, 0, none⟩) 4 exL := ⟨rfl, by have := Lies.of_new w (ccells exL).toArray 81; simpa using this, ex_fit⟩
  have HAL := Lib.hid hal
  have HLI := Lib.hid hli
  clear hal hli
  go_enter Try.func54, Try.ntmps54
  go_wp2
  go_ret
  exact ⟨rfl, HLI.out, HAL.out, by simp⟩
end Go.Proofs.Ytmlekkbjmfknfaa
