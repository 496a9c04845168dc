/-
  What a reader's lists, runs of bytes and numbers between bounds come to, as data.
-/
import Derived.Test.YtniopekkfnkipaaWrA
-- SOFT
namespace Go.Proofs.Ytniopekkfnkipaa
open Go.RowKit
set_option linter.unusedVariables false
set_option linter.unusedSimpArgs false

def dWithin (l : List UInt8) (p : Nat) (lo hi : Int) : Dr := match Wn.num (l.drop p) with
  | some x => if Wn.zag x.1 < lo ∨ hi < Wn.zag x.1 then .bad 8 else .ok (.int .i64 (Wn.zag x.1)) (p + x.2)
  | none => .bad 6
/-- what a decoder of a list comes to -/
inductive Dl (α : Type) where
  | ok (v : List α) (q : Nat)
  | bad (er : Nat)
def dRun (l : List UInt8) (p : Nat) (n : Int) : Dl UInt8 := if n < 0 then .bad 2 else if ((l.length - p : Nat) : Int) < n then .bad 6 else .ok ((l.drop p).take n.toNat) (p + n.toNat)
def manyI (l : List UInt8) : Nat → Nat → Dl Int
  | 0, p => .ok [] p
  | n + 1, p => match Wn.num (l.drop p) with
    | none => .bad 6
    | some x => match manyI l n (p + x.2) with
      | .ok L q => .ok (Wn.zag x.1 :: L) q
      | .bad e => .bad e
def textOf : Value → ByteArray
  | .string s => s
  | _ => ⟨#[]⟩
def manyT (l : List UInt8) (most : Int) : Nat → Nat → Dl ByteArray
  | 0, p => .ok [] p
  | n + 1, p => match dText l p most with
    | .bad e => .bad e
    | .ok v p' => match manyT l most n p' with
      | .ok L q => .ok (textOf v :: L) q
      | .bad e => .bad e
def dInts (l : List UInt8) (p : Nat) (count : Int) : Dl Int := match Wn.num (l.drop p) with
  | none => .bad 6
  | some x => if count.toNat < x.1 then .bad 7 else manyI l x.1 (p + x.2)
def dTexts (l : List UInt8) (p : Nat) (count most : Int) : Dl ByteArray := match Wn.num (l.drop p) with
  | none => .bad 6
  | some x => if count.toNat < x.1 then .bad 7 else manyT l most x.1 (p + x.2)
theorem dText_ok {l : List UInt8} {p : Nat} {most : Int} {v : Value} {q : Nat} (hp : p ≤ l.length) (h : dText l p most = .ok v q) : (∃ s, v = .string s) ∧ p < q ∧ q ≤ l.length := by
  unfold dText at h
  cases hn : Wn.num (l.drop p) with
  | none => rw [hn] at h; cases h
  | some x =>
    rw [hn] at h
    have hle := Wn.num_le hn
    rw [List.length_drop] at hle
    simp only at h
    split at h
    · cases h
    · split at h
      · cases h
      · injection h with h1 h2
        exact ⟨⟨_, h1.symm⟩, by omega, by omega⟩
theorem dText_bad {l : List UInt8} {p : Nat} {most : Int} {e : Nat} (h : dText l p most = .bad e) : 0 < e := by
  unfold dText at h
  cases hn : Wn.num (l.drop p) with
  | none => rw [hn] at h; injection h with h; omega
  | some x =>
    rw [hn] at h
    simp only at h
    split at h
    · injection h with h; omega
    · split at h
      · injection h with h; omega
      · cases h
theorem dText_lt {l : List UInt8} {p : Nat} {most : Int} {s : ByteArray} {q : Nat} (h : dText l p most = .ok (.string s) q) : s.size ≤ l.length := by
  unfold dText at h
  cases hn : Wn.num (l.drop p) with
  | none => rw [hn] at h; cases h
  | some x =>
    rw [hn] at h
    simp only at h
    split at h
    · cases h
    · split at h
      · cases h
      · injection h with h1 h2
        injection h1 with h1
        subst h1
        show ((l.drop (p + x.2)).take x.1).length ≤ _
        simp; omega
theorem manyI_ok {l : List UInt8} : ∀ (n p : Nat) (L : List Int) (q : Nat), p ≤ l.length → manyI l n p = .ok L q → L.length = n ∧ p + n ≤ q ∧ q ≤ l.length
  | 0, p, L, q, hp, h => by unfold manyI at h; injection h with h1 h2; subst h1 h2; exact ⟨rfl, Nat.le_refl _, hp⟩
  | n + 1, p, L, q, hp, h => by
    unfold manyI at h
    cases hn : Wn.num (l.drop p) with
    | none => rw [hn] at h; cases h
    | some x =>
      rw [hn] at h
      have hle := Wn.num_le hn
      rw [List.length_drop] at hle
      simp only at h
      cases hm : manyI l n (p + x.2) with
      | bad e => rw [hm] at h; cases h
      | ok L' q' =>
        rw [hm] at h
        injection h with h1 h2
        subst h1 h2
        have := manyI_ok n (p + x.2) L' q' (by omega) hm
        exact ⟨by simp [this.1], by omega, this.2.2⟩
theorem manyT_ok {l : List UInt8} {most : Int} : ∀ (n p : Nat) (L : List ByteArray) (q : Nat), p ≤ l.length → manyT l most n p = .ok L q → L.length = n ∧ p + n ≤ q ∧ q ≤ l.length
  | 0, p, L, q, hp, h => by unfold manyT at h; injection h with h1 h2; subst h1 h2; exact ⟨rfl, Nat.le_refl _, hp⟩
  | n + 1, p, L, q, hp, h => by
    unfold manyT at h
    cases hn : dText l p most with
    | bad e => rw [hn] at h; cases h
    | ok v p' =>
      rw [hn] at h
      have hle := dText_ok hp hn
      simp only at h
      cases hm : manyT l most n p' with
      | bad e => rw [hm] at h; cases h
      | ok L' q' =>
        rw [hm] at h
        injection h with h1 h2
        subst h1 h2
        have := manyT_ok n p' L' q' (by omega) hm
        exact ⟨by simp [this.1], by omega, this.2.2⟩
end Go.Proofs.Ytniopekkfnkipaa
