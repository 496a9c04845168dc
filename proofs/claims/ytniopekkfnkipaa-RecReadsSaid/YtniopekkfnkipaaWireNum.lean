/-
  Plain mathematics: numbers as bytes, in groups of seven bits; no program here.
-/
import Derived.Below
namespace Go.Proofs.Ytniopekkfnkipaa.Wn

/-- what a number's bytes come to from group i on, with k groups left: the value, and how many bytes -/
def numF : Nat → Nat → List UInt8 → Option (Nat × Nat)
  | 0, _, _ => none
  | _ + 1, _, [] => none
  | k + 1, i, b :: r =>
    if b.toNat < 128 then (if (0 < i ∧ b.toNat = 0) ∨ (i = 9 ∧ 1 < b.toNat) then none else some (b.toNat, 1))
    else (numF k (i + 1) r).map fun x => (b.toNat - 128 + 128 * x.1, x.2 + 1)
def num (l : List UInt8) : Option (Nat × Nat) := numF 10 0 l

theorem numF_le : ∀ (k i : Nat) (l : List UInt8) (x : Nat × Nat), numF k i l = some x → x.2 ≤ l.length ∧ 0 < x.2 ∧ x.2 ≤ k := by
  intro k
  induction k with
  | zero => intro i l x h; simp [numF] at h
  | succ k ih =>
    intro i l x h
    cases l with
    | nil => simp [numF] at h
    | cons b r =>
      simp only [numF] at h
      split at h
      · split at h
        · cases h
        · injection h with h; subst h; simp
      · obtain ⟨y, hy, rfl⟩ := Option.map_eq_some_iff.1 h
        have := ih (i + 1) r y hy
        simp
        omega
theorem num_le {l : List UInt8} {x : Nat × Nat} (h : num l = some x) : x.2 ≤ l.length ∧ 0 < x.2 ∧ x.2 ≤ 10 := numF_le 10 0 l x h
theorem numF_lt : ∀ (k i : Nat) (l : List UInt8) (x : Nat × Nat), i + k = 10 → numF k i l = some x → 128 ^ i * x.1 < 18446744073709551616 := by
  intro k
  induction k with
  | zero => intro i l x _ h; simp [numF] at h
  | succ k ih =>
    intro i l x hik h
    cases l with
    | nil => simp [numF] at h
    | cons b r =>
      simp only [numF] at h
      split at h
      · rename_i hb
        split at h
        · cases h
        · rename_i hn
          injection h with h
          subst h
          have hi : i ≤ 9 := by omega
          rcases Nat.lt_or_ge i 9 with h9 | h9
          · have : 128 ^ i * b.toNat ≤ 128 ^ 8 * 127 := Nat.mul_le_mul (Nat.pow_le_pow_right (by omega) (by omega)) (by omega)
            have e : (128 : Nat) ^ 8 * 127 < 18446744073709551616 := by decide
            exact Nat.lt_of_le_of_lt this e
          · obtain rfl : i = 9 := by omega
            have : b.toNat ≤ 1 := by omega
            have h2 : (128 : Nat) ^ 9 * b.toNat ≤ 128 ^ 9 * 1 := Nat.mul_le_mul_left _ this
            have e : (128 : Nat) ^ 9 * 1 < 18446744073709551616 := by decide
            exact Nat.lt_of_le_of_lt h2 e
      · obtain ⟨y, hy, rfl⟩ := Option.map_eq_some_iff.1 h
        have h1 := ih (i + 1) r y (by omega) hy
        have hb : b.toNat < 256 := b.toNat_lt
        have hk : i < 9 := by
          rcases Nat.lt_or_ge i 9 with g | g
          · exact g
          · have : k = 0 := by omega
            subst this
            simp [numF] at hy
        have e1 : 128 ^ (i + 1) * y.1 = 128 ^ i * (128 * y.1) := by rw [Nat.pow_succ, Nat.mul_assoc]
        rw [e1] at h1
        show 128 ^ i * (b.toNat - 128 + 128 * y.1) < _
        have e2 : (18446744073709551616 : Nat) = 128 ^ i * (2 * 128 ^ (9 - i)) := by
          have : (128 : Nat) ^ i * 128 ^ (9 - i) = 128 ^ 9 := by rw [← Nat.pow_add, show i + (9 - i) = 9 from by omega]
          rw [Nat.mul_left_comm, this]
        have hp : 0 < 128 ^ i := Nat.pow_pos (by omega)
        rw [e2] at h1 ⊢
        have h2 := Nat.lt_of_mul_lt_mul_left h1
        apply Nat.mul_lt_mul_of_pos_left _ hp
        have e3 : 2 * 128 ^ (9 - i) = 128 * (2 * 128 ^ (8 - i)) := by
          rw [show 9 - i = (8 - i) + 1 from by omega, Nat.pow_succ]
          omega
        omega
theorem num_lt {l : List UInt8} {x : Nat × Nat} (h : num l = some x) : x.1 < 18446744073709551616 := by
  have := numF_lt 10 0 l x (by omega) h
  simpa using this

/-- a number's bytes, in at most k groups -/
def encF : Nat → Nat → List UInt8
  | 0, _ => []
  | k + 1, n => if n < 128 then [UInt8.ofNat n] else UInt8.ofNat (n % 128 + 128) :: encF k (n / 128)
def enc (n : Nat) : List UInt8 := encF 10 n
theorem num_encF : ∀ (k i n : Nat) (r : List UInt8), i + k = 10 → 128 ^ i * n < 18446744073709551616 → (0 < i → 0 < n) → n < 128 ^ k → numF k i (encF k n ++ r) = some (n, (encF k n).length) := by
  intro k
  induction k with
  | zero => intro i n r hik h1 h0 h2; simp at h2; subst h2; simp at h0; omega
  | succ k ih =>
    intro i n r hik h1 h0 h2
    unfold encF
    by_cases hn : n < 128
    · rw [if_pos hn]
      have e : (UInt8.ofNat n).toNat = n := by rw [UInt8.toNat_ofNat']; omega
      simp only [List.singleton_append, numF, e, if_pos hn]
      rw [if_neg (by
        rintro (⟨a, b⟩ | ⟨a, b⟩)
        · have := h0 a; omega
        · subst a
          have : (128 : Nat) ^ 9 * 2 ≤ 128 ^ 9 * n := Nat.mul_le_mul_left _ b
          have e2 : (128 : Nat) ^ 9 * 2 = 18446744073709551616 := by decide
          omega)]
      rfl
    · rw [if_neg hn]
      have e : (UInt8.ofNat (n % 128 + 128)).toNat = n % 128 + 128 := by rw [UInt8.toNat_ofNat']; omega
      simp only [List.cons_append, numF, e]
      rw [if_neg (by omega), ih (i + 1) (n / 128) r (by omega) (by
        rw [Nat.pow_succ, Nat.mul_assoc]
        exact Nat.lt_of_le_of_lt (Nat.mul_le_mul_left _ (by omega)) h1) (fun _ => by omega) (by rw [Nat.pow_succ] at h2; omega)]
      simp only [Option.map_some, List.length_cons]
      rw [show n % 128 + 128 - 128 + 128 * (n / 128) = n from by omega]
theorem num_enc (n : Nat) (h : n < 18446744073709551616) (r : List UInt8) : num (enc n ++ r) = some (n, (enc n).length) :=
  num_encF 10 0 n r (by omega) (by simpa using h) (by omega) (Nat.lt_trans h (by decide))
theorem encF_len (k n : Nat) (h : 0 < k) : 1 ≤ (encF k n).length ∧ (encF k n).length ≤ k := by
  induction k generalizing n with
  | zero => omega
  | succ k ih =>
    unfold encF
    split
    · simp
    · rcases Nat.eq_zero_or_pos k with hk | hk
      · subst hk; simp [encF]
      · have := ih (n / 128) hk; simp; omega
theorem enc_len (n : Nat) : 1 ≤ (enc n).length ∧ (enc n).length ≤ 10 := encF_len 10 n (by omega)

/-- the sign folded into the lowest bit -/
def zig (n : Int) : Nat := if 0 ≤ n then (2 * n).toNat else (-2 * n - 1).toNat
def zag (v : Nat) : Int := if v % 2 = 1 then -((v / 2 : Nat) : Int) - 1 else ((v / 2 : Nat) : Int)
theorem zag_zig (n : Int) : zag (zig n) = n := by unfold zag zig; split <;> split <;> omega
theorem zig_lt (n : Int) (h1 : -9223372036854775808 ≤ n) (h2 : n ≤ 9223372036854775807) : zig n < 18446744073709551616 := by unfold zig; split <;> omega
end Go.Proofs.Ytniopekkfnkipaa.Wn
