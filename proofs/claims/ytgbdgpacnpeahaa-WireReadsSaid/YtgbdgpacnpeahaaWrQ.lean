/-
  What R.Same and R.SameInts do, of two lists of the same things.
-/
import Derived.Test.YtgbdgpacnpeahaaWrP
namespace Go.Proofs.Ytgbdgpacnpeahaa
open Go.RowKit Go.Lib Go.Sort
set_option linter.unusedVariables false
set_option linter.unusedSimpArgs false

theorem lies_getS {w : World} {B : Nat} {A : Option Addr} {L : List (List UInt8)} (h : Lies w B A (L.map encS)) {k : Nat} (hk : k < L.length) : ∃ p, A = some p ∧ w.cell? (p.add k) = some (.string ⟨(L.getD k []).toArray⟩) := by
  obtain ⟨p, e, _, hc⟩ := h.get k (encS (L.getD k [])) (by rw [List.getElem?_map, List.getD_eq_getElem?_getD, List.getElem?_eq_getElem hk]; rfl)
  exact ⟨p, e, hc⟩
theorem lies_getI {w : World} {B : Nat} {A : Option Addr} {L : List Int} (h : Lies w B A (L.map encI)) {k : Nat} (hk : k < L.length) : ∃ p, A = some p ∧ w.cell? (p.add k) = some (.int .i64 (L.getD k 0)) := by
  obtain ⟨p, e, _, hc⟩ := h.get k (encI (L.getD k 0)) (by rw [List.getElem?_map, List.getD_eq_getElem?_getD, List.getElem?_eq_getElem hk]; rfl)
  exact ⟨p, e, hc⟩
set_option maxRecDepth 100000 in
set_option maxHeartbeats 2000000 in
theorem sameS_any (A A' : Option Addr) (c c' B : Nat) (L : List (List UInt8)) (w : World) (h : Lies w B A (L.map encS)) (h' : Lies w B A' (L.map encS)) (hl : L.length ≤ 1099511627776) :
    Calls Try.prog 51 #[.slice A L.length c, .slice A' L.length c'] w fun e w' => e = .returned (.bool true) ∧ Below w.heap.size w w' := by
  have HL := Lib.hid h
  have HL' := Lib.hid h'
  obtain ⟨n, hn⟩ : ∃ n, L.length = n := ⟨_, rfl⟩
  have HN := Lib.hid hn
  rw [hn] at hl ⊢
  clear h h' hn
  go_enter Try.func51, Try.ntmps51
  go_wp2_with fail
  go_loopw [13] (fun i wr => ∃ k : Nat, k ≤ n ∧ i = .int .i64 k ∧ Hid (Below w.heap.size w wr) ∧ Hid (∀ a : Addr, wr.cell? a = w.cell? a)) (fun i _ => n - (RowKit.intOf i).toNat)
  case atStart => exact ⟨0, by omega, rfl, Below.refl _ _, fun _ => rfl⟩
  case round =>
    obtain ⟨k, hk, rfl, HB, HC⟩ := hrel
    by_cases hlt : k < n
    · obtain ⟨p, rfl, r0⟩ := lies_getS HL.out (show k < L.length by rw [HN.out]; exact hlt)
      obtain ⟨p', rfl, s0⟩ := lies_getS HL'.out (show k < L.length by rw [HN.out]; exact hlt)
      rw [← HC.out] at r0 s0
      generalize (⟨(L.getD k []).toArray⟩ : ByteArray) = sk at *
      have hkz : (k : Int) < (n : Int) := by omega
      go_wp2_with fail
      go_quiet (fail)
      have HB2 := Lib.hid (below_draws HB.out nq)
      have HC2 : Hid (∀ a : Addr, (wr.drewN nq).cell? a = w.cell? a) := fun a => HC.out a
      clear r0 s0
      go_wp2_with fail
      go_roundw
      case rel => exact ⟨k + 1, by omega, by go_num, HB2, HC2⟩
      case measure => simp [RowKit.intOf]; omega
    · have d8 : decide ((k : Int) < (n : Int)) = false := by rw [decide_eq_false_iff_not]; omega
      go_wp2_with fail
      go_ret
      exact ⟨rfl, HB.out⟩
set_option maxRecDepth 100000 in
set_option maxHeartbeats 2000000 in
theorem sameI_any (A A' : Option Addr) (c c' B : Nat) (L : List Int) (w : World) (h : Lies w B A (L.map encI)) (h' : Lies w B A' (L.map encI)) (hl : L.length ≤ 1099511627776) :
    Calls Try.prog 53 #[.slice A L.length c, .slice A' L.length c'] w fun e w' => e = .returned (.bool true) ∧ Below w.heap.size w w' := by
  have HL := Lib.hid h
  have HL' := Lib.hid h'
  obtain ⟨n, hn⟩ : ∃ n, L.length = n := ⟨_, rfl⟩
  have HN := Lib.hid hn
  rw [hn] at hl ⊢
  clear h h' hn
  go_enter Try.func53, Try.ntmps53
  go_wp2_with fail
  go_loopw [13] (fun i wr => ∃ k : Nat, k ≤ n ∧ i = .int .i64 k ∧ Hid (Below w.heap.size w wr) ∧ Hid (∀ a : Addr, wr.cell? a = w.cell? a)) (fun i _ => n - (RowKit.intOf i).toNat)
  case atStart => exact ⟨0, by omega, rfl, Below.refl _ _, fun _ => rfl⟩
  case round =>
    obtain ⟨k, hk, rfl, HB, HC⟩ := hrel
    by_cases hlt : k < n
    · obtain ⟨p, rfl, r0⟩ := lies_getI HL.out (show k < L.length by rw [HN.out]; exact hlt)
      obtain ⟨p', rfl, s0⟩ := lies_getI HL'.out (show k < L.length by rw [HN.out]; exact hlt)
      rw [← HC.out] at r0 s0
      generalize L.getD k 0 = sk at *
      have hkz : (k : Int) < (n : Int) := by omega
      go_wp2_with fail
      go_quiet (fail)
      have HB2 := Lib.hid (below_draws HB.out nq)
      have HC2 : Hid (∀ a : Addr, (wr.drewN nq).cell? a = w.cell? a) := fun a => HC.out a
      clear r0 s0
      go_wp2_with fail
      go_roundw
      case rel => exact ⟨k + 1, by omega, by go_num, HB2, HC2⟩
      case measure => simp [RowKit.intOf]; omega
    · have d8 : decide ((k : Int) < (n : Int)) = false := by rw [decide_eq_false_iff_not]; omega
      go_wp2_with fail
      go_ret
      exact ⟨rfl, HB.out⟩
end Go.Proofs.Ytgbdgpacnpeahaa
