/-
  What slices.Clone, NewReader, Err, End, At and Left do.
-/
import Derived.Test.YtniopekkfnkipaaWireRead
import Derived.Test.YtniopekkfnkipaaBytesA
import Derived.Lib.SliceRun
-- SOFT
namespace Go.Proofs.Ytniopekkfnkipaa
open Go.RowKit
set_option linter.unusedVariables false
set_option linter.unusedSimpArgs false

set_option maxRecDepth 100000 in
set_option maxHeartbeats 1000000 in
theorem cloneB_any (A : Option Addr) (n c B : Nat) (l : List UInt8) (w : World) (h : Bs w B A n l) (hn : n ≤ 1099511627776) (hB : B ≤ w.heap.size) :
    Calls Try.prog 33 #[.slice A n c] w fun e w' => ∃ v', e = .returned v' ∧ Own w' w.heap.size v' l ∧ Below w.heap.size w w' := by
  obtain ⟨i0, hi0, hz0, hz1, hz2⟩ := info_parts byte_info
  have hl := h.len
  cases A with
  | none =>
    have hl0 : l = [] := by
      cases l with
      | nil => rfl
      | cons x r => obtain ⟨p, hp, _⟩ := h.at_ (k := 0) (by rw [← hl]; simp); cases hp
    subst hl0
    clear h
    have hnil : ∀ W : World, (binOp .eql 25 (.slice none n c) (.slice none 0 0)).run Try.prog W = .ok (.bool true) W := fun W : World => Lib.run_eql_slice_nil (P := Try.prog) W 25 5 none n c 0 0 Try.underlying25
    go_enter Try.func33, Try.ntmps33
    go_wp2_with fail
    go_ret
    exact ⟨_, rfl, Own.nil_ _ _, Below.refl _ _⟩
  | some p =>
    have hb1 : Bs (w.alloc (.cells #[] 5)) w.heap.size (some p) n l := (h.wider hB).alloc (Nat.le_refl _) _
    have HB := Lib.hid ((Below.refl w.heap.size w).alloc (Nat.le_refl _) (.cells #[] 5))
    have ho : Own (w.alloc (.cells #[] 5)) w.heap.size (.slice (some ⟨w.heap.size, 0, none⟩) 0 0) [] := by
      refine ⟨rfl, .inr ⟨w.heap.size, 0, #[], rfl, Nat.le_refl _, heap_alloc_new w _, by simp, by unfold maxLen; omega, rfl, rfl⟩⟩
    clear h
    have hnil : ∀ W : World, (binOp .eql 25 (.slice (some p) n c) (.slice none 0 0)).run Try.prog W = .ok (.bool false) W := fun W : World => Lib.run_eql_slice_nil (P := Try.prog) W 25 5 (some p) n c 0 0 Try.underlying25
    go_enter Try.func33, Try.ntmps33
    go_wp2_with (at_builtin; refine wpList_append_src _ rfl (.tmp 5) (.tmp 6) 25 rfl w.heap.size 5 i0 _ 1 Try.underlying25 hi0 hz0 hz1 hz2 rfl _ 0 [] rfl ho w.heap.size (some p) n c (bvs l) rfl (by rw [bvs_length]; exact hl) hb1.lies (bvs_one l) (by unfold maxLen; omega) (by omega) (by simp) ?_)
    intro v2 w2 ho2 hg2 _
    have hb2 := HB.out.trans (grown_below ho hg2 (by simp))
    have R : Own w2 w.heap.size v2 l := by
      unfold Own
      rw [hl]
      simpa using ho2
    clear ho2 hg2 ho
    go_wp2_with fail
    go_ret
    exact ⟨_, rfl, R, hb2⟩

set_option maxHeartbeats 1000000 in
theorem newReader_any (A : Option Addr) (n c B : Nat) (l : List UInt8) (w : World) (h : Bs w B A n l) (hn : n ≤ 1099511627776) (hB : B ≤ w.heap.size) :
    Calls Try.prog 17 #[.slice A n c] w fun e w' => ∃ g A' c', e = .returned (.pointer (some ⟨g, 0, none⟩)) ∧ w.heap.size ≤ g ∧ Rd w' g A' c' l 0 0 ∧ Below w.heap.size w w' := by
  obtain rfl : l.length = n := h.len
  have HC := Lib.hid (cloneB_any A l.length c B l w h hn hB)
  clear h
  go_enter Try.func17, Try.ntmps17
  go_wp2_with fail
  refine HC.out.mono ?_
  rintro e w1 ⟨v1, rfl, ho1, hb1⟩
  clear HC
  obtain ⟨A1, c1, rfl, hc1, hm1, hbs1, _, _⟩ := ho1.form
  have hz := hb1.size
  go_wp2_with fail
  go_ret
  refine ⟨w1.heap.size, A1, c1, rfl, hz, ⟨heap_alloc_new w1 _, hc1, hm1, hbs1.alloc (Nat.le_refl _) _, by omega, by omega⟩, hb1.alloc hz _⟩

set_option maxHeartbeats 400000 in
theorem err_any (g c p err : Nat) (A : Option Addr) (l : List UInt8) (w : World) (h : Rd w g A c l p err) :
    Calls Try.prog 38 #[.pointer (some ⟨g, 0, none⟩)] w fun e w' => e = .returned (.int .i64 (err : Int)) ∧ w' = w := by
  have c2 := h.c2
  clear h
  go_enter Try.func38, Try.ntmps38
  go_wp2_with fail
  go_ret
  exact ⟨rfl, rfl⟩
set_option maxHeartbeats 1000000 in
/-- nothing is left, and no error -/
theorem end_ok (g c : Nat) (A : Option Addr) (l : List UInt8) (w : World) (h : Rd w g A c l l.length 0) :
    Calls Try.prog 19 #[.pointer (some ⟨g, 0, none⟩)] w fun e w' => e = .returned (.int .i64 0) ∧ ∃ k, w' = w.drewN k := by
  have HL := Lib.hid (left_any g c l.length 0 A l w h)
  rw [Nat.sub_self] at HL
  have c2 := h.c2
  clear h
  go_enter Try.func19, Try.ntmps19
  go_wp2_with (first | (go_at_call 39; refine HL.out.mono ?_; rintro e w1 ⟨rfl, k, rfl⟩) | go_in)
  go_ret
  exact ⟨rfl, _, rfl⟩
end Go.Proofs.Ytniopekkfnkipaa
