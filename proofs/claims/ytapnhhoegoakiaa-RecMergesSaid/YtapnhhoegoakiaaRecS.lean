/-
  What towpathref03.Same does.
-/
import Derived.Test.YtapnhhoegoakiaaRecDd
import Derived.Laws.StructEq
namespace Go.Proofs.Ytapnhhoegoakiaa
open Go.RowKit
set_option linter.unusedVariables false
set_option linter.unusedSimpArgs false

set_option maxRecDepth 100000 in
set_option maxHeartbeats 4000000 in
theorem rsame_yes (b : Bat) (A1 A2 : Option Addr) (c1 c2 B : Nat) (w : World) (h1 : Rcs w B A1 b.L.length b.L) (h2 : Rcs w B A2 b.L.length b.L) (hB : B ≤ w.heap.size) (hl : b.L.length ≤ maxLen) :
    Calls Try.prog 12 #[.agg (b.cells A1 c1), .agg (b.cells A2 c2)] w fun e w' => e = .returned (.bool true) ∧ Below w.heap.size w w' := by
  unfold maxLen at hl
  obtain ⟨base, pid, epoch, seq, kind, time, L⟩ := b
  unfold Bat.cells at *
  simp only at *
  have hW := ((Below.refl w.heap.size w).alloc (Nat.le_refl _) (.cells #[.int .i64 base, .int .i64 pid, .int .i64 epoch, .int .i64 seq, .int .i64 kind, .int .i64 time, .slice A1 L.length c1] 26)).alloc (by simp) (.cells #[.int .i64 base, .int .i64 pid, .int .i64 epoch, .int .i64 seq, .int .i64 kind, .int .i64 time, .slice A2 L.length c2] 26)
  have b2 := heap_alloc_new w (.cells #[.int .i64 base, .int .i64 pid, .int .i64 epoch, .int .i64 seq, .int .i64 kind, .int .i64 time, .slice A1 L.length c1] 26)
  have b2' := (((Below.refl (w.alloc (.cells #[.int .i64 base, .int .i64 pid, .int .i64 epoch, .int .i64 seq, .int .i64 kind, .int .i64 time, .slice A1 L.length c1] 26)).heap.size _).alloc (Nat.le_refl _) (.cells #[.int .i64 base, .int .i64 pid, .int .i64 epoch, .int .i64 seq, .int .i64 kind, .int .i64 time, .slice A2 L.length c2] 26)).block w.heap.size (by simp)).trans b2
  have b3 := heap_alloc_new (w.alloc (.cells #[.int .i64 base, .int .i64 pid, .int .i64 epoch, .int .i64 seq, .int .i64 kind, .int .i64 time, .slice A1 L.length c1] 26)) (.cells #[.int .i64 base, .int .i64 pid, .int .i64 epoch, .int .i64 seq, .int .i64 kind, .int .i64 time, .slice A2 L.length c2] 26)
  rw [show (w.alloc (.cells #[.int .i64 base, .int .i64 pid, .int .i64 epoch, .int .i64 seq, .int .i64 kind, .int .i64 time, .slice A1 L.length c1] 26)).heap.size = w.heap.size + 1 from by simp] at b3
  generalize hW0 : (w.alloc (.cells #[.int .i64 base, .int .i64 pid, .int .i64 epoch, .int .i64 seq, .int .i64 kind, .int .i64 time, .slice A1 L.length c1] 26)).alloc (.cells #[.int .i64 base, .int .i64 pid, .int .i64 epoch, .int .i64 seq, .int .i64 kind, .int .i64 time, .slice A2 L.length c2] 26) = W0 at *
  have HW0 := Lib.hid hW0
  clear hW0 b2
  have m0 : W0.cell? ⟨w.heap.size, 0, none⟩ = some (.int .i64 base) := cell_of_row _ _ 0 _ _ _ b2'
  have d0 : W0.cell? ⟨w.heap.size + 1, 0, none⟩ = some (.int .i64 base) := cell_of_row _ _ 0 _ _ _ b3
  have m1 : W0.cell? ⟨w.heap.size, 1, none⟩ = some (.int .i64 pid) := cell_of_row _ _ 1 _ _ _ b2'
  have d1 : W0.cell? ⟨w.heap.size + 1, 1, none⟩ = some (.int .i64 pid) := cell_of_row _ _ 1 _ _ _ b3
  have m2 : W0.cell? ⟨w.heap.size, 2, none⟩ = some (.int .i64 epoch) := cell_of_row _ _ 2 _ _ _ b2'
  have d2 : W0.cell? ⟨w.heap.size + 1, 2, none⟩ = some (.int .i64 epoch) := cell_of_row _ _ 2 _ _ _ b3
  have m3 : W0.cell? ⟨w.heap.size, 3, none⟩ = some (.int .i64 seq) := cell_of_row _ _ 3 _ _ _ b2'
  have d3 : W0.cell? ⟨w.heap.size + 1, 3, none⟩ = some (.int .i64 seq) := cell_of_row _ _ 3 _ _ _ b3
  have m4 : W0.cell? ⟨w.heap.size, 4, none⟩ = some (.int .i64 kind) := cell_of_row _ _ 4 _ _ _ b2'
  have d4 : W0.cell? ⟨w.heap.size + 1, 4, none⟩ = some (.int .i64 kind) := cell_of_row _ _ 4 _ _ _ b3
  have m5 : W0.cell? ⟨w.heap.size, 5, none⟩ = some (.int .i64 time) := cell_of_row _ _ 5 _ _ _ b2'
  have d5 : W0.cell? ⟨w.heap.size + 1, 5, none⟩ = some (.int .i64 time) := cell_of_row _ _ 5 _ _ _ b3
  have m6 : W0.cell? ⟨w.heap.size, 6, none⟩ = some (.slice A1 L.length c1) := cell_of_row _ _ 6 _ _ _ b2'
  have d6 : W0.cell? ⟨w.heap.size + 1, 6, none⟩ = some (.slice A2 L.length c2) := cell_of_row _ _ 6 _ _ _ b3
  have H1 := Lib.hid (h1.below (hW.mono hB))
  have H2 := Lib.hid (h2.below (hW.mono hB))
  have HB := Lib.hid hW
  clear h1 h2 hW b2' b3
  have enn : ((L.length : Int) != (L.length : Int)) = false := by simp
  go_enter Try.func12, Try.ntmps12
  go_upto_region 1 with fail
  rw [HW0.out]
  go_wp2_with fail
  go_loopw [16] (fun i wr => ∃ k : Nat, k ≤ L.length ∧ i = .int .i64 k ∧ ∃ q, wr = W0.drewN q) (fun i _ => L.length - (intOf i).toNat)
  case atStart => exact ⟨0, by omega, rfl, 0, rfl⟩
  case round =>
    obtain ⟨k, hk, rfl, q, rfl⟩ := hrel
    by_cases hlt : k < L.length
    · obtain ⟨p, rfl, hp, r0, r1, r2, r3⟩ := H1.out.row hlt
      obtain ⟨p', rfl, hp', r0', r1', r2', r3'⟩ := H2.out.row hlt
      generalize L.getD k default = r at *
      obtain ⟨key, value, gone, rt⟩ := r
      simp only at r0 r1 r2 r3 r0' r1' r2' r3'
      go_wp2_with fail
      go_quiet (fail)
      go_wp2_with fail
      go_roundw
      case rel => exact ⟨k + 1, by omega, by go_num, q + nq, by simp⟩
      case measure => simp [intOf]; omega
    · obtain rfl : k = L.length := by omega
      go_wp2_with fail
      go_ret
      exact ⟨rfl, below_draws HB.out q⟩

/-- chapter 3's first example -/
def ex3 : Bat := ⟨5, 0, 0, 0, 0, 9, [⟨⟨#[97, 98]⟩, ⟨#[120]⟩, false, 9⟩, ⟨⟨#[97, 99]⟩, ⟨#[]⟩, true, 8⟩]⟩
set_option maxRecDepth 100000 in
set_option maxHeartbeats 1000000 in
theorem first_any (w : World) : Calls Try.prog 36 #[] w fun e w' => ∃ A, e = .returned (.agg (ex3.cells A 2)) ∧ Rcs w' w'.heap.size A 2 ex3.L ∧ Below w.heap.size w w' := by
  go_enter Try.func36, Try.ntmps36
  go_wp2_with fail
  refine bodyPost_ret (v := .agg #[.int .i64 5, .int .i64 0, .int .i64 0, .int .i64 0, .int .i64 0, .int .i64 9, .slice (some ⟨w.heap.size + 1, 0, none⟩) 2 2]) (by simp [results, Try.results36, go_sem, World.cell?_alloc_some]) rfl ?_
  refine ⟨some ⟨w.heap.size + 1, 0, none⟩, rfl, ⟨rfl, ?_, ?_⟩, ((Below.refl _ _).alloc (Nat.le_refl _) _).alloc (by simp) _⟩
  · have h := Lies.of_new (w.alloc (.cells #[.int .i64 5, .int .i64 0, .int .i64 0, .int .i64 0, .int .i64 0, .int .i64 9, .slice (some ⟨w.heap.size + 1, 0, none⟩) 2 2] 26)) #[.string ⟨#[97, 98]⟩, .string ⟨#[120]⟩, .bool false, .int .i64 9, .string ⟨#[97, 99]⟩, .string ⟨#[]⟩, .bool true, .int .i64 8] 46
    rw [show (w.alloc (.cells #[.int .i64 5, .int .i64 0, .int .i64 0, .int .i64 0, .int .i64 0, .int .i64 9, .slice (some ⟨w.heap.size + 1, 0, none⟩) 2 2] 26)).heap.size = w.heap.size + 1 from by simp] at h
    exact h.wider (by simp)
  · intro r hr
    simp only [ex3, List.mem_cons, List.not_mem_nil, or_false] at hr
    rcases hr with rfl | rfl <;> (unfold i64_; simp only; omega)
def markOf (pid epoch : Int) (commit : Bool) (time : Int) : Bat := ⟨0, pid, epoch, 0, if commit then 2 else 3, time, []⟩
set_option maxRecDepth 100000 in
set_option maxHeartbeats 1000000 in
theorem mark_any (pid epoch time : Int) (commit : Bool) (w : World) : Calls Try.prog 37 #[.int .i64 pid, .int .i64 epoch, .bool commit, .int .i64 time] w fun e w' => e = .returned (.agg ((markOf pid epoch commit time).cells none 0)) ∧ Below w.heap.size w w' := by
  unfold markOf Bat.cells
  simp only
  cases commit with
  | true =>
    go_enter Try.func37, Try.ntmps37
    go_wp2_with fail
    refine bodyPost_ret (v := .agg #[.int .i64 0, .int .i64 pid, .int .i64 epoch, .int .i64 0, .int .i64 2, .int .i64 time, .slice none 0 0]) (by simp [results, Try.results37, go_sem]) rfl ?_
    exact ⟨rfl, ((Below.refl _ _).alloc (Nat.le_refl _) _).alloc (by simp) _⟩
  | false =>
    go_enter Try.func37, Try.ntmps37
    go_wp2_with fail
    refine bodyPost_ret (v := .agg #[.int .i64 0, .int .i64 pid, .int .i64 epoch, .int .i64 0, .int .i64 3, .int .i64 time, .slice none 0 0]) (by simp [results, Try.results37, go_sem]) rfl ?_
    exact ⟨rfl, ((Below.refl _ _).alloc (Nat.le_refl _) _).alloc (by simp) _⟩

def exb : List UInt8 := [1, 0, 5, 0, 9, 2, 0, 0, 0, 2, 97, 98, 1, 120, 1, 1, 1, 1, 99]
theorem ex3_fine : Fine ex3 := (fine_iff ex3).1 (by decide +kernel)
theorem ex3_enc : encB ex3 = exb := by decide +kernel
theorem exm_fine : Fine (markOf 3 2 true 7) := (fine_iff _).1 (by decide +kernel)
theorem exm_enc : encB (markOf 3 2 true 7) = [1, 2, 0, 3, 2, 7] := by decide +kernel
theorem ex3_at : BatAt exb ex3 := by
  refine ⟨ex3_fine, 5, ⟨3, 4, 4, 4, rfl, rfl, rfl, rfl, fun _ => ⟨rfl, rfl, rfl⟩, fun h => absurd rfl h, rfl⟩, fun h => absurd h (by decide +kernel), fun _ => ⟨fun k => if k = 0 then 6 else if k = 1 then 14 else 19, rfl, rfl, fun k hk => ?_⟩⟩
  have hk2 : k < 2 := hk
  rcases Nat.lt_or_ge k 1 with g | g
  · obtain rfl : k = 0 := by omega
    exact ⟨7, 8, 9, 12, 0, rfl, rfl, rfl, rfl, rfl, fun h => absurd h (by decide), fun _ => rfl⟩
  · obtain rfl : k = 1 := by omega
    exact ⟨15, 16, 17, 19, -1, rfl, rfl, rfl, rfl, rfl, fun _ => ⟨rfl, rfl⟩, fun h => absurd h (by decide)⟩
end Go.Proofs.Ytapnhhoegoakiaa
