/-
  What towpathref03.Same does.
-/
import Derived.Test.YtniopekkfnkipaaRecDz
import Derived.Test.YtniopekkfnkipaaRecSy
import Derived.Laws.StructEq
namespace Go.Proofs.Ytniopekkfnkipaa
open Go.RowKit
set_option linter.unusedVariables false
set_option linter.unusedSimpArgs false

/-- chapter 3's first example -/
def ex3 : Bat := ⟨5, 0, 0, 0, 0, 9, [⟨⟨#[97, 98]⟩, ⟨#[120]⟩, false, 9⟩, ⟨⟨#[97, 99]⟩, ⟨#[]⟩, true, 8⟩]⟩
set_option maxRecDepth 100000 in
set_option maxHeartbeats 1000000 in
theorem first_any (w : World) : Calls Try.prog 29 #[] w fun e w' => ∃ A, e = .returned (.agg (ex3.cells A 2)) ∧ Rcs w' w'.heap.size A 2 ex3.L ∧ Below w.heap.size w w' := by
  go_enter Try.func29, Try.ntmps29
  go_wp2_with fail
  refine bodyPost_ret (v := .agg #[.int .i64 5, .int .i64 0, .int .i64 0, .int .i64 0, .int .i64 0, .int .i64 9, .slice (some ⟨w.heap.size + 1, 0, none⟩) 2 2]) (by simp [results, Try.results29, go_sem, World.cell?_alloc_some]) rfl ?_
  refine ⟨some ⟨w.heap.size + 1, 0, none⟩, rfl, ⟨rfl, ?_, ?_⟩, ((Below.refl _ _).alloc (Nat.le_refl _) _).alloc (by simp) _⟩
  · have h := Lies.of_new (w.alloc (.cells #[.int .i64 5, .int .i64 0, .int .i64 0, .int .i64 0, .int .i64 0, .int .i64 9, .slice (some ⟨w.heap.size + 1, 0, none⟩) 2 2] 24)) #[.string ⟨#[97, 98]⟩, .string ⟨#[120]⟩, .bool false, .int .i64 9, .string ⟨#[97, 99]⟩, .string ⟨#[]⟩, .bool true, .int .i64 8] 40
    rw [show (w.alloc (.cells #[.int .i64 5, .int .i64 0, .int .i64 0, .int .i64 0, .int .i64 0, .int .i64 9, .slice (some ⟨w.heap.size + 1, 0, none⟩) 2 2] 24)).heap.size = w.heap.size + 1 from by simp] at h
    exact h.wider (by simp)
  · intro r hr
    simp only [ex3, List.mem_cons, List.not_mem_nil, or_false] at hr
    rcases hr with rfl | rfl <;> (unfold i64_; simp only; omega)
def markOf (pid epoch : Int) (commit : Bool) (time : Int) : Bat := ⟨0, pid, epoch, 0, if commit then 2 else 3, time, []⟩
set_option maxRecDepth 100000 in
set_option maxHeartbeats 1000000 in
theorem mark_any (pid epoch time : Int) (commit : Bool) (w : World) : Calls Try.prog 30 #[.int .i64 pid, .int .i64 epoch, .bool commit, .int .i64 time] w fun e w' => e = .returned (.agg ((markOf pid epoch commit time).cells none 0)) ∧ Below w.heap.size w w' := by
  unfold markOf Bat.cells
  simp only
  cases commit with
  | true =>
    go_enter Try.func30, Try.ntmps30
    go_wp2_with fail
    refine bodyPost_ret (v := .agg #[.int .i64 0, .int .i64 pid, .int .i64 epoch, .int .i64 0, .int .i64 2, .int .i64 time, .slice none 0 0]) (by simp [results, Try.results30, go_sem]) rfl ?_
    exact ⟨rfl, ((Below.refl _ _).alloc (Nat.le_refl _) _).alloc (by simp) _⟩
  | false =>
    go_enter Try.func30, Try.ntmps30
    go_wp2_with fail
    refine bodyPost_ret (v := .agg #[.int .i64 0, .int .i64 pid, .int .i64 epoch, .int .i64 0, .int .i64 3, .int .i64 time, .slice none 0 0]) (by simp [results, Try.results30, go_sem]) rfl ?_
    exact ⟨rfl, ((Below.refl _ _).alloc (Nat.le_refl _) _).alloc (by simp) _⟩

def exb : List UInt8 := [1, 0, 5, 0, 9, 2, 0, 0, 0, 2, 97, 98, 1, 120, 1, 1, 1, 1, 99]
theorem ex3_fine : Fine ex3 := (fine_iff ex3).1 (by decide +kernel)
theorem ex3_enc : encB ex3 = exb := by decide +kernel
theorem exm_fine : Fine (markOf 3 2 true 7) := (fine_iff _).1 (by decide +kernel)
theorem exm_enc : encB (markOf 3 2 true 7) = [1, 2, 0, 3, 2, 7] := by decide +kernel
theorem ex3_at : BatAt exb ex3 := by
  refine ⟨ex3_fine, 5, ⟨3, 4, 4, 4, rfl, rfl, rfl, rfl, fun _ => ⟨rfl, rfl, rfl⟩, fun h => absurd rfl h, rfl⟩, fun h => absurd h (by decide +kernel), fun _ => ⟨fun k => if k = 0 then 6 else if k = 1 then 14 else 19, rfl, rfl, fun k hk => ?_⟩⟩
  have hk2 : k < 2 := hk
  rcases Nat.lt_or_ge k 1 with g | g
  · obtain rfl : k = 0 := by omega
    exact ⟨7, 8, 9, 12, 0, rfl, rfl, rfl, rfl, rfl, fun h => absurd h (by decide), fun _ => rfl⟩
  · obtain rfl : k = 1 := by omega
    exact ⟨15, 16, 17, 19, -1, rfl, rfl, rfl, rfl, rfl, fun _ => ⟨rfl, rfl⟩, fun h => absurd h (by decide)⟩
end Go.Proofs.Ytniopekkfnkipaa
