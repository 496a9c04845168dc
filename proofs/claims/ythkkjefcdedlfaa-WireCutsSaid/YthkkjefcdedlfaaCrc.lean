/-
  Plain mathematics of the checksum of package frame: no program here.
-/
import Derived.Below
namespace Go.Proofs.Ythkkjefcdedlfaa.Crc

/-- the polynomial -/
def poly : Nat := 3988292384
/-- one bit is shifted out -/
def zs (x : Nat) : Nat := if x % 2 = 1 then (x / 2) ^^^ poly else x / 2
/-- so many bits are shifted out -/
def zn : Nat → Nat → Nat
  | 0, x => x
  | k + 1, x => zn k (zs x)
/-- a byte is worked in -/
def upd (s : Nat) (b : UInt8) : Nat := zn 8 (s ^^^ b.toNat)
def run (s : Nat) (l : List UInt8) : Nat := l.foldl upd s
def ones : Nat := 4294967295
def more (s : Nat) (l : List UInt8) : Nat := ones ^^^ run (ones ^^^ s) l
def crc (l : List UInt8) : Nat := more 0 l

theorem zs_lt {x : Nat} (h : x < 4294967296) : zs x < 4294967296 := by
  unfold zs poly
  split
  · exact Nat.xor_lt_two_pow (n := 32) (by omega) (by omega)
  · omega
theorem zn_lt (k : Nat) : ∀ {x : Nat}, x < 4294967296 → zn k x < 4294967296 := by
  induction k with
  | zero => intro x h; exact h
  | succ k ih => intro x h; exact ih (zs_lt h)
theorem zn_succ (k : Nat) : ∀ x : Nat, zn (k + 1) x = zs (zn k x) := by
  induction k with
  | zero => intro x; rfl
  | succ k ih => intro x; show zn (k + 1) (zs x) = _; rw [ih]; rfl
theorem upd_lt {s : Nat} (b : UInt8) (h : s < 4294967296) : upd s b < 4294967296 := by
  have hb : b.toNat < 256 := b.toNat_lt
  exact zn_lt 8 (Nat.xor_lt_two_pow (n := 32) (by omega) (by omega))
theorem run_lt (l : List UInt8) : ∀ {s : Nat}, s < 4294967296 → run s l < 4294967296 := by
  induction l with
  | nil => intro s h; exact h
  | cons b l ih => intro s h; exact ih (upd_lt b h)
theorem run_append (s : Nat) (l m : List UInt8) : run s (l ++ m) = run (run s l) m := by simp [run]
theorem ones_xor_lt {s : Nat} (h : s < 4294967296) : ones ^^^ s < 4294967296 := Nat.xor_lt_two_pow (n := 32) (by unfold ones; omega) (by omega)
theorem more_lt (l : List UInt8) {s : Nat} (h : s < 4294967296) : more s l < 4294967296 := ones_xor_lt (run_lt l (ones_xor_lt h))
theorem crc_lt (l : List UInt8) : crc l < 4294967296 := more_lt l (by omega)
theorem more_append (s : Nat) (l m : List UInt8) : more s (l ++ m) = more (more s l) m := by
  unfold more
  rw [run_append, ← Nat.xor_assoc, Nat.xor_self, Nat.zero_xor]
theorem more_nil (s : Nat) : more s [] = s := by
  unfold more run
  simp only [List.foldl_nil]
  rw [← Nat.xor_assoc, Nat.xor_self, Nat.zero_xor]

/-- four bytes, the lowest one first -/
def le4 (n : Nat) : List UInt8 := [UInt8.ofNat n, UInt8.ofNat (n / 256), UInt8.ofNat (n / 65536), UInt8.ofNat (n / 16777216)]
def un4 (l : List UInt8) : Nat := (l.getD 0 0).toNat + 256 * (l.getD 1 0).toNat + 65536 * (l.getD 2 0).toNat + 16777216 * (l.getD 3 0).toNat
theorem un4_lt (l : List UInt8) : un4 l < 4294967296 := by
  have h0 := (l.getD 0 0).toNat_lt; have h1 := (l.getD 1 0).toNat_lt; have h2 := (l.getD 2 0).toNat_lt; have h3 := (l.getD 3 0).toNat_lt
  unfold un4; omega
theorem un4_le4 (n : Nat) (h : n < 4294967296) (r : List UInt8) : un4 (le4 n ++ r) = n := by
  simp only [un4, le4, List.cons_append, List.nil_append, List.getD_cons_zero, List.getD_cons_succ, UInt8.toNat_ofNat']
  omega
theorem le4_length (n : Nat) : (le4 n).length = 4 := rfl

/-- the frame of a body -/
def seal_ (b : List UInt8) : List UInt8 := (le4 b.length ++ b) ++ le4 (crc (le4 b.length ++ b))
theorem seal_length (b : List UInt8) : (seal_ b).length = b.length + 8 := by simp [seal_, le4_length]; omega

/-- the length of the frame with which bytes begin, or 0 -/
def size (b : List UInt8) : Nat :=
  if b.length < 8 then 0
  else if 262144 < un4 b ∨ b.length < un4 b + 8 then 0
  else if crc (b.take (un4 b + 4)) = un4 (b.drop (un4 b + 4)) then un4 b + 8 else 0
theorem size_le (b : List UInt8) : size b ≤ b.length := by
  unfold size
  split
  · omega
  · split
    · omega
    · split <;> omega
theorem size_bound (b : List UInt8) : size b ≤ 262152 := by
  unfold size
  split
  · omega
  · split
    · omega
    · split <;> omega
theorem size_ge (b : List UInt8) (h : size b ≠ 0) : 8 ≤ size b := by
  unfold size at h ⊢
  split
  · simp_all
  · split
    · simp_all
    · split
      · omega
      · simp_all
def body (b : List UInt8) : List UInt8 := (b.take (size b - 4)).drop 4


theorem un4_take (l : List UInt8) (j : Nat) (hj : 4 ≤ j) : un4 (l.take j) = un4 l := by
  have h : ∀ k, k < 4 → (l.take j).getD k 0 = l.getD k 0 := by
    intro k hk
    rw [List.getD_eq_getElem?_getD, List.getD_eq_getElem?_getD, List.getElem?_take, if_pos (by omega)]
  unfold un4
  rw [h 0 (by omega), h 1 (by omega), h 2 (by omega), h 3 (by omega)]
theorem seal_app (b r : List UInt8) : seal_ b ++ r = le4 b.length ++ (b ++ (le4 (crc (le4 b.length ++ b)) ++ r)) := by simp [seal_]
theorem un4_seal (b r : List UInt8) (h : b.length ≤ 262144) : un4 (seal_ b ++ r) = b.length := by
  rw [seal_app, un4_le4 _ (by omega)]
theorem take_seal (b r : List UInt8) : (seal_ b ++ r).take (b.length + 4) = le4 b.length ++ b := by
  have : (le4 b.length ++ b).length = b.length + 4 := by rw [List.length_append, le4_length]; omega
  rw [seal_app, ← List.append_assoc, ← this, List.take_left']
  rfl
theorem drop_seal (b r : List UInt8) : (seal_ b ++ r).drop (b.length + 4) = le4 (crc (le4 b.length ++ b)) ++ r := by
  have : (le4 b.length ++ b).length = b.length + 4 := by rw [List.length_append, le4_length]; omega
  rw [seal_app, ← List.append_assoc, ← this, List.drop_left']
  rfl
theorem size_seal (b r : List UInt8) (h : b.length ≤ 262144) : size (seal_ b ++ r) = b.length + 8 := by
  unfold size
  rw [un4_seal b r h, take_seal, drop_seal, un4_le4 _ (crc_lt _), List.length_append, seal_length]
  rw [if_neg (by omega), if_neg (by omega), if_pos rfl]
theorem body_seal (b r : List UInt8) (h : b.length ≤ 262144) : body (seal_ b ++ r) = b := by
  unfold body
  rw [size_seal b r h, show b.length + 8 - 4 = b.length + 4 from by omega, take_seal]
  have : (le4 b.length).length = 4 := rfl
  rw [← this, List.drop_left']
  rfl
theorem size_cut (b : List UInt8) (j : Nat) (h : b.length ≤ 262144) (hj : j < b.length + 8) : size ((seal_ b).take j) = 0 := by
  have hl := seal_length b
  unfold size
  by_cases h8 : j < 8
  · rw [if_pos (by rw [List.length_take]; omega)]
  · have hu := un4_seal b [] h
    rw [List.append_nil] at hu
    rw [un4_take _ _ (by omega), hu]
    rw [if_neg (by rw [List.length_take]; omega), if_pos (by rw [List.length_take]; omega)]
theorem size_seal0 (b : List UInt8) (h : b.length ≤ 262144) : size (seal_ b) = b.length + 8 := by have := size_seal b [] h; rwa [List.append_nil] at this
theorem body_seal0 (b : List UInt8) (h : b.length ≤ 262144) : body (seal_ b) = b := by have := body_seal b [] h; rwa [List.append_nil] at this

end Go.Proofs.Ythkkjefcdedlfaa.Crc
