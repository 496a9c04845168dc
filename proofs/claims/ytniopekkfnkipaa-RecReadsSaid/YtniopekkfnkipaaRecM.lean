/-
  What rec.common does.
-/
import Derived.Test.YtniopekkfnkipaaRecN
namespace Go.Proofs.Ytniopekkfnkipaa
open Go.RowKit
set_option linter.unusedVariables false
set_option linter.unusedSimpArgs false

/-- how many bytes two texts have in common at their beginning -/
def comm : List UInt8 → List UInt8 → Nat
  | x :: xs, y :: ys => if x = y then comm xs ys + 1 else 0
  | _, _ => 0
theorem comm_at : ∀ (a b : List UInt8) (k : Nat), k ≤ a.length → k ≤ b.length → (∀ j, j < k → a.getD j 0 = b.getD j 0) → (k = a.length ∨ k = b.length ∨ a.getD k 0 ≠ b.getD k 0) → comm a b = k := by
  intro a
  induction a with
  | nil => intro b k h1 _ _ _; have : k = 0 := by simpa using h1
           subst this; cases b <;> rfl
  | cons x xs ih =>
    intro b k h1 h2 h3 h4
    cases b with
    | nil => have : k = 0 := by simpa using h2
             subst this; rfl
    | cons y ys =>
      cases k with
      | zero =>
        have : x ≠ y := by
          rcases h4 with h | h | h
          · simp at h
          · simp at h
          · simpa using h
        simp [comm, this]
      | succ k =>
        have e0 := h3 0 (by omega)
        simp at e0
        have := ih ys k (by simpa using h1) (by simpa using h2) (fun j hj => by have := h3 (j + 1) (by omega); simpa using this) (by
          rcases h4 with h | h | h
          · left; simpa using h
          · right; left; simpa using h
          · right; right; simpa using h)
        simp [comm, e0, this]
theorem comm_le (a b : List UInt8) : comm a b ≤ a.length ∧ comm a b ≤ b.length := by
  induction a generalizing b with
  | nil => cases b <;> simp [comm]
  | cons x xs ih =>
    cases b with
    | nil => simp [comm]
    | cons y ys =>
      unfold comm
      split
      · have := ih ys; simp; omega
      · simp
theorem getD_byte (s : ByteArray) (k : Nat) (h : k < s.size) : s[k] = s.data.toList.getD k 0 := by
  rw [List.getD_eq_getElem?_getD, List.getElem?_eq_getElem (by simpa using h)]
  rfl

set_option maxRecDepth 100000 in
set_option maxHeartbeats 2000000 in
theorem common_any (a b : ByteArray) (w : World) (ha : a.size ≤ 1099511627776) (hb : b.size ≤ 1099511627776) :
    Calls Try.prog 51 #[.string a, .string b] w fun e w' => e = .returned (.int .i64 (comm a.data.toList b.data.toList : Nat)) ∧ ∃ q, w' = w.drewN q := by
  have HC := Lib.hid (comm_at a.data.toList b.data.toList)
  have HLa : Hid (a.data.toList.length = a.size) := by show _ = _; simp
  have HLb : Hid (b.data.toList.length = b.size) := by show _ = _; simp
  generalize comm a.data.toList b.data.toList = cm at *
  go_enter Try.func51, Try.ntmps51
  go_wp2_with fail
  go_loopw [5] (fun i wr => ∃ k : Nat, k ≤ a.size ∧ k ≤ b.size ∧ i = .int .i64 k ∧ (∀ j, j < k → a.data.toList.getD j 0 = b.data.toList.getD j 0) ∧ ∃ q, wr = w.drewN q) (fun i _ => a.size - (intOf i).toNat)
  case atStart => exact ⟨0, by omega, by omega, rfl, fun j hj => absurd hj (by omega), 0, rfl⟩
  case round =>
    obtain ⟨k, hka, hkb, rfl, heq, q, rfl⟩ := hrel
    have HEQ := Lib.hid heq
    clear heq
    by_cases h1 : k < a.size
    · have e1 : decide ((k : Int) < (a.size : Int)) = true := by simp; omega
      by_cases h2 : k < b.size
      · have e2 : decide ((k : Int) < (b.size : Int)) = true := by simp; omega
        have HGA := Lib.hid (getD_byte a k h1)
        have HGB := Lib.hid (getD_byte b k h2)
        rcases Bool.eq_false_or_eq_true ((a[k].toNat : Int) == (b[k].toNat : Int)) with hx | hx
        · go_wp2_with fail
          go_quiet (fail)
          go_wp2_with fail
          have hab : a[k] = b[k] := by
            have : (a[k].toNat : Int) = (b[k].toNat : Int) := by simpa using hx
            exact UInt8.toNat_inj.1 (by omega)
          go_roundw
          case rel => exact ⟨k + 1, by omega, by omega, by go_num, fun j hj => by
            rcases Nat.lt_or_ge j k with g | g
            · exact HEQ.out j g
            · rw [show j = k from by omega, ← HGA.out, ← HGB.out]; exact hab, q + nq, by simp⟩
          case measure => simp [intOf]; omega
        · have hab : a[k] ≠ b[k] := by
            intro h
            rw [h] at hx
            simp at hx
          have E : Hid (cm = k) := HC.out k (by rw [HLa.out]; exact hka) (by rw [HLb.out]; exact hkb) HEQ.out (.inr (.inr (by rw [← HGA.out, ← HGB.out]; exact hab)))
          clear hab
          go_wp2_with fail
          go_quiet (fail)
          go_wp2_with fail
          go_ret
          exact ⟨by rw [E.out]; rfl, q + nq, by simp⟩
      · have e2 : decide ((k : Int) < (b.size : Int)) = false := by simp; omega
        have E : Hid (cm = k) := HC.out k (by rw [HLa.out]; exact hka) (by rw [HLb.out]; exact hkb) HEQ.out (.inr (.inl (by rw [HLb.out]; omega)))
        go_wp2_with fail
        go_quiet (fail)
        go_wp2_with fail
        go_ret
        exact ⟨by rw [E.out]; rfl, q + nq, by simp⟩
    · have e1 : decide ((k : Int) < (a.size : Int)) = false := by simp; omega
      have E : Hid (cm = k) := HC.out k (by rw [HLa.out]; exact hka) (by rw [HLb.out]; exact hkb) HEQ.out (.inl (by rw [HLa.out]; omega))
      go_wp2_with fail
      go_quiet (fail)
      go_wp2_with fail
      go_ret
      exact ⟨by rw [E.out]; rfl, q + nq, by simp⟩

theorem Rs.pair {w : World} {g : Nat} {A1 A2 : Option Addr} {n1 n2 c1 c2 : Nat} {l1 l2 : List UInt8} (h0 : w.cell? ⟨g, 0, none⟩ = some (.slice A1 n1 c1)) (h1 : w.cell? ⟨g, 1, none⟩ = some (.slice A2 n2 c2)) (b1 : Bs w w.heap.size A1 n1 l1) (b2 : Bs w w.heap.size A2 n2 l2)
    (k1 : n1 ≤ c1) (m1 : c1 ≤ maxLen) (k2 : n2 ≤ c2) (m2 : c2 ≤ maxLen) : Rs w w.heap.size (some ⟨g, 0, none⟩) 2 [l1, l2] := by
  have hl1 := b1.len
  have hl2 := b2.len
  subst hl1 hl2
  refine ⟨rfl, fun k hk => ?_⟩
  rcases Nat.lt_or_ge k 1 with g1 | g1
  · obtain rfl : k = 0 := by omega
    exact ⟨_, A1, c1, rfl, World.block_lt_of_cell? w _ h0, by simpa [Addr.add] using h0, by simpa using k1, m1, by simpa using b1⟩
  · obtain rfl : k = 1 := by omega
    exact ⟨_, A2, c2, rfl, World.block_lt_of_cell? w _ h0, by simpa [Addr.add] using h1, by simpa using k2, m2, by simpa using b2⟩
theorem join2 {w : World} {g c : Nat} {A1 A2 : Option Addr} {n1 n2 c1 c2 : Nat} {l1 l2 : List UInt8} (h0 : w.cell? ⟨g, 0, none⟩ = some (.slice A1 n1 c1)) (h1 : w.cell? ⟨g, 1, none⟩ = some (.slice A2 n2 c2)) (b1 : Bs w w.heap.size A1 n1 l1) (b2 : Bs w w.heap.size A2 n2 l2)
    (k1 : n1 ≤ c1) (m1 : c1 ≤ maxLen) (k2 : n2 ≤ c2) (m2 : c2 ≤ maxLen) (s1 : l1.length ≤ 549755813888) (s2 : l2.length ≤ 549755813888) :
    Calls Try.prog 28 #[.slice (some ⟨g, 0, none⟩) 2 c] w fun e w' => ∃ v, e = .returned v ∧ Own w' w.heap.size v (l1 ++ l2) ∧ Below w.heap.size w w' := by
  have := join_any (some ⟨g, 0, none⟩) 2 c [l1, l2] w.heap.size w (Rs.pair h0 h1 b1 b2 k1 m1 k2 m2) (Nat.le_refl _) (by unfold maxLen; omega) (by simp [tot]; omega)
  simpa using this
theorem join4 {w : World} {g c : Nat} {A1 A2 A3 A4 : Option Addr} {n1 n2 n3 n4 c1 c2 c3 c4 : Nat} {l1 l2 l3 l4 : List UInt8} (h0 : w.cell? ⟨g, 0, none⟩ = some (.slice A1 n1 c1)) (h1 : w.cell? ⟨g, 1, none⟩ = some (.slice A2 n2 c2)) (h2 : w.cell? ⟨g, 2, none⟩ = some (.slice A3 n3 c3)) (h3 : w.cell? ⟨g, 3, none⟩ = some (.slice A4 n4 c4))
    (b1 : Bs w w.heap.size A1 n1 l1) (b2 : Bs w w.heap.size A2 n2 l2) (b3 : Bs w w.heap.size A3 n3 l3) (b4 : Bs w w.heap.size A4 n4 l4)
    (k1 : n1 ≤ c1) (m1 : c1 ≤ maxLen) (k2 : n2 ≤ c2) (m2 : c2 ≤ maxLen) (k3 : n3 ≤ c3) (m3 : c3 ≤ maxLen) (k4 : n4 ≤ c4) (m4 : c4 ≤ maxLen) (s1 : l1.length ≤ 1000000) (s2 : l2.length ≤ 1000000) (s3 : l3.length ≤ 1000000) (s4 : l4.length ≤ 1000000) :
    Calls Try.prog 28 #[.slice (some ⟨g, 0, none⟩) 4 c] w fun e w' => ∃ v, e = .returned v ∧ Own w' w.heap.size v (l1 ++ l2 ++ l3 ++ l4) ∧ Below w.heap.size w w' := by
  have hl1 := b1.len
  have hl2 := b2.len
  have hl3 := b3.len
  have hl4 := b4.len
  subst hl1 hl2 hl3 hl4
  have hR : Rs w w.heap.size (some ⟨g, 0, none⟩) 4 [l1, l2, l3, l4] := by
    refine ⟨rfl, fun k hk => ?_⟩
    have hb := World.block_lt_of_cell? w _ h0
    rcases Nat.lt_or_ge k 1 with g1 | g1
    · obtain rfl : k = 0 := by omega
      exact ⟨_, A1, c1, rfl, hb, by simpa [Addr.add] using h0, by simpa using k1, m1, by simpa using b1⟩
    · rcases Nat.lt_or_ge k 2 with g2 | g2
      · obtain rfl : k = 1 := by omega
        exact ⟨_, A2, c2, rfl, hb, by simpa [Addr.add] using h1, by simpa using k2, m2, by simpa using b2⟩
      · rcases Nat.lt_or_ge k 3 with g3 | g3
        · obtain rfl : k = 2 := by omega
          exact ⟨_, A3, c3, rfl, hb, by simpa [Addr.add] using h2, by simpa using k3, m3, by simpa using b3⟩
        · obtain rfl : k = 3 := by omega
          exact ⟨_, A4, c4, rfl, hb, by simpa [Addr.add] using h3, by simpa using k4, m4, by simpa using b4⟩
  have := join_any (some ⟨g, 0, none⟩) 4 c [l1, l2, l3, l4] w.heap.size w hR (Nat.le_refl _) (by unfold maxLen; omega) (by simp [tot]; omega)
  simpa using this
end Go.Proofs.Ytniopekkfnkipaa
