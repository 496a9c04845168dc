/-
  Plain mathematics: a burst of at most 32 bits changes the checksum.
-/
import Derived.Test.YthkkjefcdedlfaaCrc
namespace Go.Proofs.Ythkkjefcdedlfaa.Crc

theorem xor_half (a b : Nat) : (a ^^^ b) / 2 = a / 2 ^^^ b / 2 := by
  apply Nat.eq_of_testBit_eq
  intro i
  simp [Nat.testBit_div_two]
theorem xor_par (a b : Nat) : (a ^^^ b) % 2 = (a % 2 + b % 2) % 2 := by
  have h := Nat.testBit_xor (x := a) (y := b) (i := 0)
  simp only [Nat.testBit_zero] at h
  rcases Nat.mod_two_eq_zero_or_one a with ha | ha <;> rcases Nat.mod_two_eq_zero_or_one b with hb | hb <;>
    rcases Nat.mod_two_eq_zero_or_one (a ^^^ b) with hc | hc <;> simp [ha, hb, hc] at h ⊢
theorem zs_xor (a b : Nat) : zs (a ^^^ b) = zs a ^^^ zs b := by
  have hp := xor_par a b
  unfold zs
  rw [xor_half]
  rcases Nat.mod_two_eq_zero_or_one a with ha | ha <;> rcases Nat.mod_two_eq_zero_or_one b with hb | hb <;> rw [hp, ha, hb] <;> simp
  · ac_rfl
  · ac_rfl
  · rw [show a / 2 ^^^ poly ^^^ (b / 2 ^^^ poly) = a / 2 ^^^ b / 2 ^^^ (poly ^^^ poly) from by ac_rfl, Nat.xor_self, Nat.xor_zero]
theorem zs_two (v : Nat) : zs (2 * v) = v := by
  unfold zs
  rw [if_neg (by omega)]
  omega
theorem zs_zero : zs 0 = 0 := zs_two 0
theorem zs_ne (x : Nat) (h : x < 4294967296) (h0 : x ≠ 0) : zs x ≠ 0 := by
  unfold zs
  split
  · intro e
    have : x / 2 = poly := by
      have h2 : x / 2 ^^^ poly ^^^ poly = 0 ^^^ poly := by rw [e]
      rw [Nat.xor_assoc, Nat.xor_self, Nat.xor_zero, Nat.zero_xor] at h2
      exact h2
    unfold poly at this
    omega
  · omega
theorem zn_ne (k : Nat) : ∀ x : Nat, x < 4294967296 → x ≠ 0 → zn k x ≠ 0 := by
  induction k with
  | zero => intro x _ h; exact h
  | succ k ih => intro x h h0; exact ih _ (zs_lt h) (zs_ne x h h0)
theorem zn_xor (k : Nat) : ∀ a b : Nat, zn k (a ^^^ b) = zn k a ^^^ zn k b := by
  induction k with
  | zero => intro a b; rfl
  | succ k ih => intro a b; show zn k (zs (a ^^^ b)) = _; rw [zs_xor, ih]; rfl
theorem zn_add (j k : Nat) : ∀ x : Nat, zn (j + k) x = zn k (zn j x) := by
  induction j with
  | zero => intro x; rw [Nat.zero_add]; rfl
  | succ j ih => intro x; rw [show j + 1 + k = (j + k) + 1 from by omega]; show zn (j + k) (zs x) = _; rw [ih]; rfl

/-- bit by bit -/
def rb (s : Nat) (f : Nat → Bool) : Nat → Nat → Nat
  | _, 0 => s
  | a, k + 1 => rb (zs (s ^^^ (f a).toNat)) f (a + 1) k
def val (f : Nat → Bool) : Nat → Nat → Nat
  | _, 0 => 0
  | a, k + 1 => (f a).toNat + 2 * val f (a + 1) k
theorem bit_add (b : Bool) (v : Nat) : b.toNat + 2 * v = b.toNat ^^^ (2 * v) := by
  apply Nat.eq_of_testBit_eq
  intro i
  cases i with
  | zero => cases b <;> simp [Nat.testBit_zero] <;> omega
  | succ i =>
    have h1 : (b.toNat + 2 * v) / 2 = v := by cases b <;> simp <;> omega
    have h2 : (b.toNat ^^^ 2 * v) / 2 = v := by rw [xor_half]; cases b <;> simp
    rw [Nat.testBit_succ, Nat.testBit_succ, h1, h2]
theorem rb_zn (k : Nat) : ∀ (s : Nat) (f : Nat → Bool) (a : Nat), rb s f a k = zn k (s ^^^ val f a k) := by
  induction k with
  | zero => intro s f a; simp [rb, val, zn]
  | succ k ih =>
    intro s f a
    show rb (zs (s ^^^ (f a).toNat)) f (a + 1) k = zn k (zs (s ^^^ val f a (k + 1)))
    rw [ih]
    show _ = zn k (zs (s ^^^ ((f a).toNat + 2 * val f (a + 1) k)))
    rw [bit_add, ← Nat.xor_assoc, zs_xor (s ^^^ (f a).toNat), zs_two]
theorem rb_congr (k : Nat) : ∀ (s : Nat) (f g : Nat → Bool) (a b : Nat), (∀ i, i < k → f (a + i) = g (b + i)) → rb s f a k = rb s g b k := by
  induction k with
  | zero => intro s f g a b _; rfl
  | succ k ih =>
    intro s f g a b h
    have h0 := h 0 (by omega)
    simp only [Nat.add_zero] at h0
    show rb (zs (s ^^^ (f a).toNat)) f (a + 1) k = rb (zs (s ^^^ (g b).toNat)) g (b + 1) k
    rw [h0]
    exact ih _ f g _ _ fun i hi => by have := h (i + 1) (by omega); rw [show a + 1 + i = a + (i + 1) from by omega, show b + 1 + i = b + (i + 1) from by omega]; exact this
theorem val_congr (k : Nat) : ∀ (f g : Nat → Bool) (a b : Nat), (∀ i, i < k → f (a + i) = g (b + i)) → val f a k = val g b k := by
  induction k with
  | zero => intro f g a b _; rfl
  | succ k ih =>
    intro f g a b h
    have h0 := h 0 (by omega)
    simp only [Nat.add_zero] at h0
    show (f a).toNat + 2 * val f (a + 1) k = (g b).toNat + 2 * val g (b + 1) k
    rw [h0, ih f g (a + 1) (b + 1) fun i hi => by have := h (i + 1) (by omega); rw [show a + 1 + i = a + (i + 1) from by omega, show b + 1 + i = b + (i + 1) from by omega]; exact this]
theorem rb_add (j k : Nat) : ∀ (s : Nat) (f : Nat → Bool) (a : Nat), rb s f a (j + k) = rb (rb s f a j) f (a + j) k := by
  induction j with
  | zero => intro s f a; rw [Nat.zero_add]; rfl
  | succ j ih => intro s f a; rw [show j + 1 + k = (j + k) + 1 from by omega]; show rb _ f (a + 1) (j + k) = _; rw [ih, show a + 1 + j = a + (j + 1) from by omega]; rfl
theorem val_bits (k : Nat) : ∀ c : Nat, val (fun i => c.testBit i) 0 k = c % 2 ^ k := by
  induction k with
  | zero => intro c; simp [val, Nat.mod_one]
  | succ k ih =>
    intro c
    show (c.testBit 0).toNat + 2 * val (fun i => c.testBit i) 1 k = _
    rw [val_congr k (fun i => c.testBit i) (fun i => (c / 2).testBit i) 1 0 (fun i _ => by simp [Nat.add_comm 1 i, Nat.testBit_succ]), ih, Nat.testBit_zero]
    rw [Nat.pow_succ, Nat.mul_comm (2 ^ k) 2, Nat.mod_mul]
    rcases Nat.mod_two_eq_zero_or_one c with hc | hc <;> simp [hc]
theorem rb_diff (k : Nat) : ∀ (s t : Nat) (f g : Nat → Bool) (a : Nat), rb s f a k ^^^ rb t g a k = rb (s ^^^ t) (fun i => f i != g i) a k := by
  induction k with
  | zero => intro s t f g a; rfl
  | succ k ih =>
    intro s t f g a
    show rb (zs (s ^^^ (f a).toNat)) f (a + 1) k ^^^ rb (zs (t ^^^ (g a).toNat)) g (a + 1) k = rb (zs (s ^^^ t ^^^ (f a != g a).toNat)) (fun i => f i != g i) (a + 1) k
    rw [ih, ← zs_xor]
    have : (f a != g a).toNat = (f a).toNat ^^^ (g a).toNat := by cases f a <;> cases g a <;> rfl
    rw [this, show s ^^^ (f a).toNat ^^^ (t ^^^ (g a).toNat) = s ^^^ t ^^^ ((f a).toNat ^^^ (g a).toNat) from by ac_rfl]
theorem val_none (k : Nat) : ∀ (f : Nat → Bool) (a : Nat), (∀ i, i < k → f (a + i) = false) → val f a k = 0 := by
  induction k with
  | zero => intro f a _; rfl
  | succ k ih =>
    intro f a h
    have h0 := h 0 (by omega)
    simp only [Nat.add_zero] at h0
    show (f a).toNat + 2 * val f (a + 1) k = 0
    rw [h0, ih f (a + 1) fun i hi => by have := h (i + 1) (by omega); rw [show a + 1 + i = a + (i + 1) from by omega]; exact this]
    rfl
theorem zn_zero (k : Nat) : zn k 0 = 0 := by
  induction k with
  | zero => rfl
  | succ k ih => show zn k (zs 0) = 0; rw [zs_zero]; exact ih

/-- the bits of bytes -/
def bt (l : List UInt8) (j : Nat) : Bool := (l.getD (j / 8) 0).toNat.testBit (j % 8)
theorem run_rb : ∀ (l : List UInt8) (s : Nat), run s l = rb s (bt l) 0 (8 * l.length) := by
  intro l
  induction l with
  | nil => intro s; rfl
  | cons c l ih =>
    intro s
    rw [List.length_cons, show 8 * (l.length + 1) = 8 + 8 * l.length from by omega, rb_add]
    show run (upd s c) l = _
    rw [ih]
    have h1 : upd s c = rb s (bt (c :: l)) 0 8 := by
      rw [rb_zn, val_congr 8 (bt (c :: l)) (fun i => c.toNat.testBit i) 0 0 (fun i hi => by
        unfold bt
        rw [Nat.zero_add, Nat.div_eq_of_lt hi, Nat.mod_eq_of_lt hi]
        rfl), val_bits]
      have := c.toNat_lt
      rw [Nat.mod_eq_of_lt (by omega)]
      rfl
    rw [h1]
    refine (rb_congr _ _ _ _ _ _ fun i hi => ?_).symm
    unfold bt
    rw [show (0 + 8 + i) / 8 = i / 8 + 1 from by omega, show (0 + 8 + i) % 8 = i % 8 from by omega, Nat.zero_add, List.getD_cons_succ]

/-- bit j is turned -/
def flip (l : List UInt8) (j : Nat) : List UInt8 := l.set (j / 8) (UInt8.ofNat ((l.getD (j / 8) 0).toNat ^^^ 2 ^ (j % 8)))
def flips (l : List UInt8) (bits at_ : Nat) : Nat → List UInt8
  | 0 => l
  | i + 1 => if bits / 2 ^ i % 2 = 1 then flip (flips l bits at_ i) (at_ + i) else flips l bits at_ i
theorem flip_length (l : List UInt8) (j : Nat) : (flip l j).length = l.length := by simp [flip]
theorem flips_length (l : List UInt8) (bits at_ i : Nat) : (flips l bits at_ i).length = l.length := by
  induction i with
  | zero => rfl
  | succ i ih =>
    unfold flips
    split
    · rw [flip_length, ih]
    · exact ih
theorem flip_lt (x : UInt8) (j : Nat) : x.toNat ^^^ 2 ^ (j % 8) < 256 := by
  have h1 := x.toNat_lt
  have h2 : 2 ^ (j % 8) < 2 ^ 8 := Nat.pow_lt_pow_right (by omega) (by omega)
  exact Nat.xor_lt_two_pow (n := 8) (by omega) h2
theorem bt_flip (l : List UInt8) (j i : Nat) (hj : j / 8 < l.length) : bt (flip l j) i = (bt l i != decide (i = j)) := by
  unfold bt flip
  rw [List.getD_eq_getElem?_getD, List.getElem?_set]
  by_cases h : j / 8 = i / 8
  · rw [if_pos h, if_pos hj]
    have hx := flip_lt (l.getD (j / 8) 0) j
    simp only [Option.getD_some]
    rw [UInt8.toNat_ofNat', Nat.mod_eq_of_lt hx, Nat.testBit_xor, Nat.testBit_two_pow, h]
    have e : decide (j % 8 = i % 8) = decide (i = j) := decide_eq_decide.2 ⟨fun e => by omega, fun e => by omega⟩
    rw [e]
  · rw [if_neg h, ← List.getD_eq_getElem?_getD]
    have e : decide (i = j) = false := decide_eq_false (fun e => h (by rw [e]))
    rw [e]
    simp
theorem bt_flips (l : List UInt8) (bits at_ i j : Nat) (hl : at_ + i ≤ 8 * l.length) : bt (flips l bits at_ i) j = (bt l j != (decide (at_ ≤ j) && decide (j < at_ + i) && bits.testBit (j - at_))) := by
  induction i with
  | zero =>
    have : (decide (at_ ≤ j) && decide (j < at_ + 0) && bits.testBit (j - at_)) = false := by
      by_cases h : at_ ≤ j
      · have : ¬ j < at_ := by omega
        simp [this]
      · simp [h]
    rw [this]
    simp [flips]
  | succ i ih =>
    have ih := ih (by omega)
    have hb : bits.testBit i = decide (bits / 2 ^ i % 2 = 1) := by rw [Nat.testBit_eq_decide_div_mod_eq]
    unfold flips
    by_cases hj : j = at_ + i
    · subst hj
      have e1 : at_ + i - at_ = i := by omega
      rw [e1] at ih ⊢
      have a1 : decide (at_ ≤ at_ + i) = true := by simp
      have a2 : decide (at_ + i < at_ + i) = false := by simp
      have a3 : decide (at_ + i < at_ + (i + 1)) = true := by simp
      rw [a1, a2] at ih
      rw [a1, a3, hb]
      split
      · rename_i h1
        rw [bt_flip _ _ _ (by rw [flips_length]; omega), ih]
        simp [h1]
      · rename_i h1
        rw [ih]
        simp [h1]
    · have e2 : decide (j < at_ + (i + 1)) = decide (j < at_ + i) := decide_eq_decide.2 ⟨fun e => by omega, fun e => by omega⟩
      rw [e2]
      split
      · rw [bt_flip _ _ _ (by rw [flips_length]; omega), ih]
        simp [hj]
      · exact ih

theorem burst_ne (l : List UInt8) (bits at_ : Nat) (hl : at_ + 32 ≤ 8 * l.length) (hb : bits < 4294967296) (h0 : bits ≠ 0) (s : Nat) : run s (flips l bits at_ 32) ≠ run s l := by
  intro e
  have hd := rb_diff (8 * l.length) s s (bt (flips l bits at_ 32)) (bt l) 0
  have r1 := run_rb (flips l bits at_ 32) s
  rw [flips_length] at r1
  rw [← r1, ← run_rb, e, Nat.xor_self, Nat.xor_self] at hd
  have hD : ∀ j, (bt (flips l bits at_ 32) j != bt l j) = (decide (at_ ≤ j) && decide (j < at_ + 32) && bits.testBit (j - at_)) := by
    intro j
    rw [bt_flips l bits at_ 32 j hl]
    cases bt l j <;> simp
  obtain ⟨k, hk⟩ : ∃ k, 8 * l.length = at_ + (32 + k) := ⟨8 * l.length - at_ - 32, by omega⟩
  rw [hk, rb_add, rb_add] at hd
  have z1 : rb 0 (fun i => bt (flips l bits at_ 32) i != bt l i) 0 at_ = 0 := by
    rw [rb_zn, val_none _ _ _ (fun i hi => by
      rw [hD]
      have : ¬ at_ ≤ 0 + i := by omega
      rw [decide_eq_false this]
      rfl)]
    exact zn_zero _
  have z2 : val (fun i => bt (flips l bits at_ 32) i != bt l i) (0 + at_) 32 = bits := by
    rw [val_congr 32 _ (fun i => bits.testBit i) (0 + at_) 0 (fun i hi => by
      show (bt (flips l bits at_ 32) (0 + at_ + i) != bt l (0 + at_ + i)) = _
      rw [hD]
      have e1 : at_ ≤ 0 + at_ + i := by omega
      have e2 : 0 + at_ + i < at_ + 32 := by omega
      have e3 : 0 + at_ + i - at_ = 0 + i := by omega
      rw [e3, decide_eq_true e1, decide_eq_true e2]
      rfl), val_bits]
    exact Nat.mod_eq_of_lt hb
  rw [z1, rb_zn 32, z2, rb_zn, val_none _ _ _ (fun i hi => by
      show (bt (flips l bits at_ 32) (0 + at_ + 32 + i) != bt l (0 + at_ + 32 + i)) = _
      rw [hD]
      have e2 : ¬ 0 + at_ + 32 + i < at_ + 32 := by omega
      rw [decide_eq_false e2, Bool.and_false]
      rfl)] at hd
  rw [Nat.xor_zero, Nat.zero_xor] at hd
  exact zn_ne k _ (zn_lt 32 hb) (zn_ne 32 bits hb h0) hd.symm

theorem add_pow_xor (k : Nat) : ∀ a b : Nat, a < 2 ^ k → a ^^^ (2 ^ k * b) = a + 2 ^ k * b := by
  induction k with
  | zero => intro a b h; have : a = 0 := by omega
            subst this; simp
  | succ k ih =>
    intro a b h
    have hp : 2 ^ (k + 1) * b = 2 * (2 ^ k * b) := by rw [Nat.pow_succ, Nat.mul_comm (2 ^ k) 2, Nat.mul_assoc]
    have hlt : a / 2 < 2 ^ k := by rw [Nat.pow_succ] at h; omega
    have h1 := ih (a / 2) b hlt
    apply Nat.eq_of_testBit_eq
    intro i
    cases i with
    | zero => rw [hp]; simp only [Nat.testBit_zero]; rw [xor_par]; congr 1; apply propext; omega
    | succ i => rw [Nat.testBit_succ, Nat.testBit_succ, xor_half, hp, show 2 * (2 ^ k * b) / 2 = 2 ^ k * b from by omega, h1, show (a + 2 * (2 ^ k * b)) / 2 = a / 2 + 2 ^ k * b from by omega]
theorem zn_pow (k : Nat) : ∀ v : Nat, zn k (2 ^ k * v) = v := by
  induction k with
  | zero => intro v; simp [zn]
  | succ k ih =>
    intro v
    show zn k (zs (2 ^ (k + 1) * v)) = v
    rw [Nat.pow_succ, Nat.mul_comm (2 ^ k) 2, Nat.mul_assoc, zs_two, ih]
/-- four bytes at once -/
theorem run_four (s : Nat) (a b c d : UInt8) : run s [a, b, c, d] = zn 32 (s ^^^ un4 [a, b, c, d]) := by
  have ha := a.toNat_lt; have hb := b.toNat_lt; have hc := c.toNat_lt; have hd := d.toNat_lt
  show zn 8 (zn 8 (zn 8 (zn 8 (s ^^^ a.toNat) ^^^ b.toNat) ^^^ c.toNat) ^^^ d.toNat) = _
  have e1 : zn 8 (s ^^^ a.toNat) ^^^ b.toNat = zn 8 (s ^^^ (a.toNat + 256 * b.toNat)) := by
    have := add_pow_xor 8 a.toNat b.toNat (by omega)
    rw [show (256 : Nat) = 2 ^ 8 from rfl, ← this, ← Nat.xor_assoc, zn_xor 8 (s ^^^ a.toNat), zn_pow]
  have e2 : zn 8 (zn 8 (s ^^^ (a.toNat + 256 * b.toNat))) ^^^ c.toNat = zn 16 (s ^^^ (a.toNat + 256 * b.toNat + 65536 * c.toNat)) := by
    have := add_pow_xor 16 (a.toNat + 256 * b.toNat) c.toNat (by omega)
    rw [← zn_add, show (65536 : Nat) = 2 ^ 16 from rfl, ← this, ← Nat.xor_assoc, zn_xor 16 (s ^^^ _), zn_pow]
  have e3 : zn 8 (zn 16 (s ^^^ (a.toNat + 256 * b.toNat + 65536 * c.toNat))) ^^^ d.toNat = zn 24 (s ^^^ (a.toNat + 256 * b.toNat + 65536 * c.toNat + 16777216 * d.toNat)) := by
    have := add_pow_xor 24 (a.toNat + 256 * b.toNat + 65536 * c.toNat) d.toNat (by omega)
    rw [← zn_add, show (16777216 : Nat) = 2 ^ 24 from rfl, ← this, ← Nat.xor_assoc, zn_xor 24 (s ^^^ _), zn_pow]
  rw [e1, e2, e3, ← zn_add]
  rfl
theorem four_of (l : List UInt8) (h : l.length = 4) : ∃ a b c d, l = [a, b, c, d] := by
  match l, h with
  | [a, b, c, d], _ => exact ⟨a, b, c, d, rfl⟩
/-- what all frames come to -/
theorem run_frame (l : List UInt8) (n : Nat) (hl : l.length = n + 8) (hs : size l = n + 8) : run ones l = zn 32 ones := by
  have hu : un4 l = n ∧ crc (l.take (un4 l + 4)) = un4 (l.drop (un4 l + 4)) := by
    unfold size at hs
    split at hs
    · omega
    · split at hs
      · omega
      · split at hs
        · exact ⟨by omega, by assumption⟩
        · omega
  obtain ⟨h1, h2⟩ := hu
  rw [h1] at h2
  obtain ⟨a, b, c, d, h4⟩ := four_of (l.drop (n + 4)) (by rw [List.length_drop]; omega)
  have e : l = l.take (n + 4) ++ [a, b, c, d] := by rw [← h4, List.take_append_drop]
  rw [h4] at h2
  rw [e, run_append, run_four]
  have h3 : crc (l.take (n + 4)) = ones ^^^ run ones (l.take (n + 4)) := by unfold crc more; rw [Nat.xor_zero]
  rw [h3] at h2
  rw [← h2, show ∀ x y : Nat, x ^^^ (y ^^^ x) = y ^^^ (x ^^^ x) from fun x y => by ac_rfl, Nat.xor_self, Nat.xor_zero]
theorem burst_size (b : List UInt8) (bits at_ : Nat) (hb : b.length ≤ 262144) (hat : at_ + 32 ≤ 8 * (b.length + 8)) (hbits : bits < 4294967296) (h0 : bits ≠ 0) :
    size (flips (seal_ b) bits at_ 32) ≠ b.length + 8 := by
  intro hs
  have hl := seal_length b
  have h1 := run_frame (flips (seal_ b) bits at_ 32) b.length (by rw [flips_length, hl]) hs
  have h2 := run_frame (seal_ b) b.length hl (size_seal0 b hb)
  exact burst_ne (seal_ b) bits at_ (by rw [hl]; omega) hbits h0 ones (h1.trans h2.symm)
end Go.Proofs.Ythkkjefcdedlfaa.Crc
