/-
  What rec.sameOwner does.
-/
import Derived.Test.YtapnhhoegoakiaaRecNx
namespace Go.Proofs.Ytapnhhoegoakiaa
open Go.RowKit
set_option linter.unusedVariables false
set_option linter.unusedSimpArgs false
set_option maxRecDepth 100000 in
set_option maxHeartbeats 4000000 in
theorem ownerB_any (o : Bool) (a b : Bat) (A1 A2 : Option Addr) (c1 c2 : Nat) (w : World) (ho : o = true ↔ a.kind = b.kind ∧ a.pid = b.pid ∧ a.epoch = b.epoch ∧ a.time = b.time) :
    Calls Try.prog 53 #[.agg (a.cells A1 c1), .agg (b.cells A2 c2)] w fun e w' => e = .returned (.bool o) ∧ Below w.heap.size w w' := by
  obtain ⟨b1, p1, e1, s1, k1, t1, L1⟩ := a
  obtain ⟨b2, p2, e2, s2, k2, t2, L2⟩ := b
  unfold Bat.cells
  simp only at *
  have HO := Lib.hid ho
  clear ho
  by_cases x4 : k1 = k2
  rotate_left
  · have y4 : (k1 == k2) = false := by rw [beq_eq_false_iff_ne]; exact x4
    have HR : Hid (o = false) := by
      show _ = _
      cases o with
      | false => rfl
      | true => have := HO.out.1 rfl; exact absurd this.1 x4
    clear x4
    clear HO
    go_enter Try.func53, Try.ntmps53
    go_wp2_with fail
    go_ret
    exact ⟨by rw [HR.out]; rfl, ((Below.refl _ _).alloc (Nat.le_refl _) _).alloc (by simp) _⟩
  have y4 : (k1 == k2) = true := by rw [beq_iff_eq]; exact x4
  by_cases x1 : p1 = p2
  rotate_left
  · have y1 : (p1 == p2) = false := by rw [beq_eq_false_iff_ne]; exact x1
    have HR : Hid (o = false) := by
      show _ = _
      cases o with
      | false => rfl
      | true => have := HO.out.1 rfl; exact absurd this.2.1 x1
    clear x4 x1
    clear HO
    go_enter Try.func53, Try.ntmps53
    go_wp2_with fail
    go_ret
    exact ⟨by rw [HR.out]; rfl, ((Below.refl _ _).alloc (Nat.le_refl _) _).alloc (by simp) _⟩
  have y1 : (p1 == p2) = true := by rw [beq_iff_eq]; exact x1
  by_cases x2 : e1 = e2
  rotate_left
  · have y2 : (e1 == e2) = false := by rw [beq_eq_false_iff_ne]; exact x2
    have HR : Hid (o = false) := by
      show _ = _
      cases o with
      | false => rfl
      | true => have := HO.out.1 rfl; exact absurd this.2.2.1 x2
    clear x4 x1 x2
    clear HO
    go_enter Try.func53, Try.ntmps53
    go_wp2_with fail
    go_ret
    exact ⟨by rw [HR.out]; rfl, ((Below.refl _ _).alloc (Nat.le_refl _) _).alloc (by simp) _⟩
  have y2 : (e1 == e2) = true := by rw [beq_iff_eq]; exact x2
  by_cases x5 : t1 = t2
  rotate_left
  · have y5 : (t1 == t2) = false := by rw [beq_eq_false_iff_ne]; exact x5
    have HR : Hid (o = false) := by
      show _ = _
      cases o with
      | false => rfl
      | true => have := HO.out.1 rfl; exact absurd this.2.2.2 x5
    clear x4 x1 x2 x5
    clear HO
    go_enter Try.func53, Try.ntmps53
    go_wp2_with fail
    go_ret
    exact ⟨by rw [HR.out]; rfl, ((Below.refl _ _).alloc (Nat.le_refl _) _).alloc (by simp) _⟩
  have y5 : (t1 == t2) = true := by rw [beq_iff_eq]; exact x5
  have HR : Hid (o = true) := by
    show _ = _
    exact HO.out.2 ⟨x4, x1, x2, x5⟩
  clear x4 x1 x2 x5
  clear HO
  go_enter Try.func53, Try.ntmps53
  go_wp2_with fail
  go_ret
  exact ⟨by rw [HR.out]; rfl, ((Below.refl _ _).alloc (Nat.le_refl _) _).alloc (by simp) _⟩

end Go.Proofs.Ytapnhhoegoakiaa
