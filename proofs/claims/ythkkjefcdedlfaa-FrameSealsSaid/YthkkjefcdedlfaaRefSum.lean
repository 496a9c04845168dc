/-
  What the reference's Sum does: a row of 32 bits, bit by bit, comes to the checksum.
-/
import Derived.Test.YthkkjefcdedlfaaFewA
import Derived.Test.YthkkjefcdedlfaaBurst
namespace Go.Proofs.Ythkkjefcdedlfaa
open Go.RowKit
set_option linter.unusedVariables false
set_option linter.unusedSimpArgs false

/-- an array of 32 bools in block g -/
structure Arr (w : World) (g : Nat) (f : Nat → Bool) : Prop where
  cell : ∀ i, i < 32 → w.cell? ⟨g, i, none⟩ = some (.bool (f i))
  free : ∀ i, i < 32 → w.frozen? ⟨g, i, none⟩ = false
theorem Arr.congr {w : World} {g : Nat} {f f' : Nat → Bool} (h : Arr w g f) (e : ∀ i, i < 32 → f i = f' i) : Arr w g f' := ⟨fun i hi => by rw [← e i hi]; exact h.cell i hi, h.free⟩
theorem Arr.set_ {w : World} {g : Nat} {f : Nat → Bool} (h : Arr w g f) (i : Nat) (hi : i < 32) (b : Bool) : Arr (w.setCell ⟨g, i, none⟩ (.bool b)) g (fun j => if j = i then b else f j) := by
  refine ⟨fun j hj => ?_, fun j hj => ?_⟩
  · by_cases e : j = i
    · subst e
      rw [if_pos rfl]
      exact World.cell?_setCell_same w _ _ (h.cell j hj)
    · rw [if_neg e, World.cell?_setCell_other w _ _ _ (fun e' => e (by injection e' with _ h _; exact h.symm))]
      exact h.cell j hj
  · rw [World.frozen?_setCell]
    exact h.free j hj

theorem val_snoc (k : Nat) : ∀ (f : Nat → Bool) (a : Nat), Crc.val f a (k + 1) = Crc.val f a k + (f (a + k)).toNat * 2 ^ k := by
  induction k with
  | zero => intro f a; simp [Crc.val]
  | succ k ih =>
    intro f a
    show (f a).toNat + 2 * Crc.val f (a + 1) (k + 1) = (f a).toNat + 2 * Crc.val f (a + 1) k + _
    rw [ih, show a + 1 + k = a + (k + 1) from by omega, Nat.pow_succ, Nat.mul_add, ← Nat.mul_assoc, Nat.mul_comm 2 (f (a + (k + 1))).toNat, Nat.mul_assoc, Nat.mul_comm 2 (2 ^ k)]
    omega
theorem val_lt (k : Nat) : ∀ (f : Nat → Bool) (a : Nat), Crc.val f a k < 2 ^ k := by
  induction k with
  | zero => intro f a; simp [Crc.val]
  | succ k ih =>
    intro f a
    have := ih f (a + 1)
    have hb : (f a).toNat ≤ 1 := by cases f a <;> simp
    show (f a).toNat + 2 * Crc.val f (a + 1) k < 2 ^ (k + 1)
    rw [Nat.pow_succ]
    omega
theorem rb_snoc (s : Nat) (f : Nat → Bool) (j : Nat) : Crc.rb s f 0 (j + 1) = Crc.zs (Crc.rb s f 0 j ^^^ (f j).toNat) := by
  rw [Crc.rb_add, Nat.zero_add]
  rfl
theorem rb_byte (s : Nat) (c : UInt8) : Crc.rb s (fun i => c.toNat.testBit i) 0 8 = Crc.upd s c := by
  have := c.toNat_lt
  rw [Crc.rb_zn, Crc.val_bits, Nat.mod_eq_of_lt (by omega)]
  rfl
/-- one bit: the row is moved, and the polynomial's bits are turned if the two bits were unlike -/
theorem bit_step (x : Nat) (b : Bool) (hx : x < 4294967296) (i : Nat) (hi : i < 32) :
    (Crc.zs (x ^^^ b.toNat)).testBit i = ((x / 2).testBit i != ((x.testBit 0 != b) && Crc.poly.testBit i)) := by
  have hp := Crc.xor_par x b.toNat
  have hh : (x ^^^ b.toNat) / 2 = x / 2 := by
    rw [Crc.xor_half]
    cases b <;> simp
  unfold Crc.zs
  rw [hh, hp, Nat.testBit_zero]
  rcases Nat.mod_two_eq_zero_or_one x with h | h <;> cases b <;> simp [h, Nat.testBit_xor]
theorem ones_bits (x : Nat) (hx : x < 4294967296) : Crc.val (fun i => !x.testBit i) 0 32 = Crc.ones ^^^ x := by
  have h : Crc.ones ^^^ x < 4294967296 := Crc.ones_xor_lt hx
  rw [Crc.val_congr 32 (fun i => !x.testBit i) (fun i => (Crc.ones ^^^ x).testBit i) 0 0 (fun i hi => by
    rw [Nat.zero_add]
    show (!x.testBit i) = (Crc.ones ^^^ x).testBit i
    rw [Nat.testBit_xor, show Crc.ones = 2 ^ 32 - 1 from rfl, Nat.testBit_two_pow_sub_one]
    simp [hi]), Crc.val_bits]
  exact Nat.mod_eq_of_lt h

theorem rb_lt (j : Nat) (hj : j ≤ 8) (x : Nat) (f : Nat → Bool) (hx : x < 4294967296) : Crc.rb x f 0 j < 4294967296 := by
  rw [Crc.rb_zn]
  have h1 := val_lt j f 0
  have h2 : 2 ^ j ≤ 2 ^ 8 := Nat.pow_le_pow_right (by omega) hj
  exact Crc.zn_lt j (Nat.xor_lt_two_pow (n := 32) (by omega) (by omega))
theorem bit_of (b j : Nat) : (((b : Int) / 2 ^ j).tmod 2 == 1) = b.testBit j := by
  have : ((b : Int) / 2 ^ j) = ((b / 2 ^ j : Nat) : Int) := by simp
  rw [this, Nat.testBit_eq_decide_div_mod_eq, show ((b / 2 ^ j : Nat) : Int).tmod 2 = ((b / 2 ^ j % 2 : Nat) : Int) from rfl]
  generalize b / 2 ^ j % 2 = y
  by_cases h : y = 1
  · subst h; rfl
  · rw [decide_eq_false h, beq_eq_false_iff_ne]; omega
theorem moved (y : Nat) (hy : y < 4294967296) (i : Nat) (hi : i < 32) : (if i = 31 then false else if i < 31 then y.testBit (i + 1) else y.testBit i) = (y / 2).testBit i := by
  rw [Nat.testBit_div_two]
  by_cases h : i = 31
  · rw [if_pos h, h]
    exact (Nat.testBit_lt_two_pow (by omega)).symm
  · rw [if_neg h, if_pos (by omega)]

theorem sum_pow (v q : Nat) (hv : v < 2 ^ q) (hq : 2 ^ q ≤ 2147483648) : ((v : Int) + 2 ^ q % 4294967296) % 4294967296 = ((v + 2 ^ q : Nat) : Int) := by
  have : ((2 : Int) ^ q) = ((2 ^ q : Nat) : Int) := by simp
  rw [this]
  generalize 2 ^ q = y at *
  omega

theorem arr_zero (w : World) (cs : Array Value) (h : cs = #[.bool false, .bool false, .bool false, .bool false, .bool false, .bool false, .bool false, .bool false, .bool false, .bool false, .bool false, .bool false, .bool false, .bool false, .bool false, .bool false, .bool false, .bool false, .bool false, .bool false, .bool false, .bool false, .bool false, .bool false, .bool false, .bool false, .bool false, .bool false, .bool false, .bool false, .bool false, .bool false]) (e : TypeId) :
    Arr (w.alloc (.cells cs e)) w.heap.size (fun _ => false) := by
  have h' : cs = (List.replicate 32 (Value.bool false)).toArray := h
  subst h'
  refine ⟨fun i hi => ?_, fun i hi => ?_⟩
  · rw [World.cell?_alloc_mark]
    rw [List.getElem?_toArray, List.getElem?_replicate, if_pos hi]
  · rw [World.frozen?_alloc_mark]
    simp

set_option maxRecDepth 100000 in
set_option maxHeartbeats 2000000 in
theorem refSum_any (A : Option Addr) (n c : Nat) (l : List UInt8) (w : World) (hl : Bs w w.heap.size A n l) (hn : n ≤ maxLen) :
    Calls Try.prog 40 #[.slice A n c] w fun e w' => e = .returned (.int .u32 (Crc.crc l : Nat)) ∧ Below w.heap.size w w' := by
  unfold maxLen at hn
  have hlen := hl.len
  have hlen1 : l.length ≤ n := by omega
  have hlen2 : n ≤ l.length := by omega
  clear hlen
  go_enter Try.func40, Try.ntmps40
  go_wp2
  have hA0 := arr_zero w _ rfl 127
  have hB0 := (Below.refl w.heap.size w).alloc (Nat.le_refl _) (.cells #[.bool false, .bool false, .bool false, .bool false, .bool false, .bool false, .bool false, .bool false, .bool false, .bool false, .bool false, .bool false, .bool false, .bool false, .bool false, .bool false, .bool false, .bool false, .bool false, .bool false, .bool false, .bool false, .bool false, .bool false, .bool false, .bool false, .bool false, .bool false, .bool false, .bool false, .bool false, .bool false] 127)
  generalize w.alloc (.cells #[.bool false, .bool false, .bool false, .bool false, .bool false, .bool false, .bool false, .bool false, .bool false, .bool false, .bool false, .bool false, .bool false, .bool false, .bool false, .bool false, .bool false, .bool false, .bool false, .bool false, .bool false, .bool false, .bool false, .bool false, .bool false, .bool false, .bool false, .bool false, .bool false, .bool false, .bool false, .bool false] 127) = w0 at *
  go_loopw [4] (fun i wr => ∃ k : Nat, k ≤ 32 ∧ i = .int .i64 k ∧ Arr wr w.heap.size (fun j => decide (j < k)) ∧ Below w.heap.size w wr) (fun i _ => 32 - (intOf i).toNat)
  case atStart => exact ⟨0, by omega, rfl, hA0.congr (fun i _ => by simp), hB0⟩
  case round =>
    obtain ⟨k, hk, rfl, hA, hB⟩ := hrel
    clear hA0 hB0
    by_cases hlt : k < 32
    · have hc := hA.cell k hlt
      have hf := hA.free k hlt
      have HA := Lib.hid ((hA.set_ k hlt true).congr (f' := fun j => decide (j < k + 1)) (fun i hi => by
        by_cases e : i = k
        · simp [e]
        · rw [if_neg e]
          exact decide_eq_decide.2 ⟨fun h => by omega, fun h => by omega⟩))
      clear hA
      go_wp2
      go_roundw
      case rel => exact ⟨k + 1, by omega, by go_num, HA.out, hB.setCell (Nat.le_refl _) _⟩
      case measure => simp [intOf]; omega
    · have HA : Hid (Arr wr w.heap.size (fun j => Crc.ones.testBit j)) := hA.congr (fun i hi => by
        rw [show Crc.ones = 2 ^ 32 - 1 from rfl, Nat.testBit_two_pow_sub_one]
        exact decide_eq_decide.2 ⟨fun h => by omega, fun h => by omega⟩)
      clear hA
      go_wp2
      go_loopw [21] (fun i wr => ∃ k : Nat, k ≤ n ∧ i = .int .i64 k ∧ Arr wr w.heap.size (fun j => (Crc.run Crc.ones (l.take k)).testBit j) ∧ Below w.heap.size w wr) (fun i _ => n - (intOf i).toNat)
      case atStart => exact ⟨0, by omega, rfl, HA.out, hB⟩
      case round =>
        obtain ⟨k, hk, rfl, hA, hB⟩ := hrel
        clear HA
        have hx : Crc.run Crc.ones (l.take k) < 4294967296 := Crc.run_lt _ (by unfold Crc.ones; omega)
        by_cases hlt : k < n
        · obtain ⟨ad, rfl, hadb, hcell⟩ := (hl.below hB).at_ hlt
          have HS := Lib.hid (more_loop_in Crc.ones l k (by omega))
          have hu := (l.getD k 0).toNat_lt
          have HU := Lib.hid (rb_byte (Crc.run Crc.ones (l.take k)) (l.getD k 0))
          rw [← HU.out] at HS
          generalize Crc.run Crc.ones (l.take k) = x at *
          generalize (l.getD k 0).toNat = c' at *
          clear HU
          go_wp2
          go_loopw [7] (fun i wr => ∃ j : Nat, j ≤ 8 ∧ i = .int .i64 j ∧ Arr wr w.heap.size (fun i => (Crc.rb x (fun i => c'.testBit i) 0 j).testBit i) ∧ Below w.heap.size w wr) (fun i _ => 8 - (intOf i).toNat)
          case atStart => exact ⟨0, by omega, rfl, hA, hB⟩
          case round =>
            obtain ⟨j, hj, rfl, hA2, hB2⟩ := hrel
            clear hA hB
            have hy := rb_lt j hj x (fun i => c'.testBit i) hx
            by_cases hj8 : j < 8
            · have HN := Lib.hid (rb_snoc x (fun i => c'.testBit i) j)
              generalize Crc.rb x (fun i => c'.testBit i) 0 j = y at *
              have HBS : Hid (∀ i, i < 32 → (Crc.rb x (fun i => c'.testBit i) 0 (j + 1)).testBit i = ((y / 2).testBit i != ((!(y.testBit 0 == c'.testBit j)) && Crc.poly.testBit i))) := fun i hi => by
                rw [HN.out]
                exact bit_step y (c'.testBit j) hy i hi
              clear HN
              have hc0 := hA2.cell 0 (by omega)
              have hcb := bit_of c' j
              generalize hy0 : y.testBit 0 = y0 at hc0 HBS
              generalize hcj : c'.testBit j = cb at hcb HBS
              have HY0 := Lib.hid hy0
              have HCJ := Lib.hid hcj
              clear hy0 hcj
              go_wp2
              clear hc0 hcb HY0 HCJ
              generalize (!(y0 == cb)) = u at *
              go_loopw [9] (fun i wr => ∃ m : Nat, m ≤ 31 ∧ i = .int .i64 m ∧ Arr wr w.heap.size (fun i => if i < m then y.testBit (i + 1) else y.testBit i) ∧ Below w.heap.size w wr) (fun i _ => 31 - (intOf i).toNat)
              case atStart => exact ⟨0, by omega, rfl, hA2.congr (fun i _ => by simp), hB2⟩
              case round =>
                obtain ⟨m, hm, rfl, hA3, hB3⟩ := hrel
                clear hA2 hB2
                by_cases hm31 : m < 31
                · have hc1 := hA3.cell (m + 1) (by omega)
                  rw [if_neg (by omega)] at hc1
                  have hc2 := hA3.cell m (by omega)
                  have hf2 := hA3.free m (by omega)
                  have HA := Lib.hid ((hA3.set_ m (by omega) (y.testBit (m + 1))).congr (f' := fun i => if i < m + 1 then y.testBit (i + 1) else y.testBit i) (fun i hi => by
                    by_cases e : i = m
                    · subst e; rw [if_pos rfl, if_pos (by omega)]
                    · rw [if_neg e]
                      by_cases h2 : i < m
                      · rw [if_pos h2, if_pos (by omega)]
                      · rw [if_neg h2, if_neg (by omega)]))
                  clear hA3
                  go_wp2
                  go_roundw
                  case rel => exact ⟨m + 1, by omega, by go_num, HA.out, hB3.setCell (Nat.le_refl _) _⟩
                  case measure => simp [intOf]; omega
                · have hc2 := hA3.cell 31 (by omega)
                  have hf2 := hA3.free 31 (by omega)
                  have HA := Lib.hid ((hA3.set_ 31 (by omega) false).congr (f' := fun i => (y / 2).testBit i) (fun i hi => by
                    rw [← moved y hy i hi]
                    rw [show m = 31 from by omega]))
                  clear hA3
                  go_wp2
                  have hB4 := hB3.setCell (p := ⟨w.heap.size, 31, none⟩) (Nat.le_refl _) (.bool false)
                  generalize wr.setCell ⟨w.heap.size, 31, none⟩ (.bool false) = w4 at *
                  clear hc2 hf2
                  go_loopw [10] (fun i wr => ∃ q : Nat, q ≤ 32 ∧ i = .int .i64 q ∧ Arr wr w.heap.size (fun i => if i < q then ((y / 2).testBit i != (u && Crc.poly.testBit i)) else (y / 2).testBit i) ∧ Below w.heap.size w wr) (fun i _ => 32 - (intOf i).toNat)
                  case atStart => exact ⟨0, by omega, rfl, HA.out.congr (fun i _ => by simp), hB4⟩
                  case round =>
                    obtain ⟨q, hq, rfl, hA5, hB5⟩ := hrel
                    clear HA hB4
                    by_cases hq32 : q < 32
                    · have hcq := hA5.cell q hq32
                      rw [if_neg (by omega)] at hcq
                      have hfq := hA5.free q hq32
                      have hpb : (((3988292384 : Int) / 2 ^ q).tmod 2 == 1) = Crc.poly.testBit q := bit_of Crc.poly q
                      have HNO : Hid ((u && Crc.poly.testBit q) = false → Arr wr w.heap.size (fun i => if i < q + 1 then ((y / 2).testBit i != (u && Crc.poly.testBit i)) else (y / 2).testBit i)) := fun h => hA5.congr (fun i hi => by
                        by_cases e : i = q
                        · subst e; rw [if_neg (by omega), if_pos (by omega), h]; simp
                        · by_cases h2 : i < q
                          · rw [if_pos h2, if_pos (by omega)]
                          · rw [if_neg h2, if_neg (by omega)])
                      have HYES : Hid ((u && Crc.poly.testBit q) = true → Arr (wr.setCell ⟨w.heap.size, q, none⟩ (.bool (!(y / 2).testBit q))) w.heap.size (fun i => if i < q + 1 then ((y / 2).testBit i != (u && Crc.poly.testBit i)) else (y / 2).testBit i)) := fun h => (hA5.set_ q hq32 _).congr (fun i hi => by
                        by_cases e : i = q
                        · subst e; rw [if_pos rfl, if_pos (by omega), h]; simp
                        · rw [if_neg e]
                          by_cases h2 : i < q
                          · rw [if_pos h2, if_pos (by omega)]
                          · rw [if_neg h2, if_neg (by omega)])
                      clear hA5 HBS
                      generalize hpq : Crc.poly.testBit q = pb at *
                      have HPQ := Lib.hid hpq
                      clear hpq
                      cases u
                      · go_wp2
                        go_roundw
                        case rel => exact ⟨q + 1, by omega, by go_num, HNO.out rfl, hB5⟩
                        case measure => simp [intOf]; omega
                      · cases pb
                        · go_wp2
                          go_roundw
                          case rel => exact ⟨q + 1, by omega, by go_num, HNO.out rfl, hB5⟩
                          case measure => simp [intOf]; omega
                        · go_wp2
                          go_roundw
                          case rel => exact ⟨q + 1, by omega, by go_num, HYES.out rfl, hB5.setCell (Nat.le_refl _) _⟩
                          case measure => simp [intOf]; omega
                    · have HA6 : Hid (Arr wr w.heap.size (fun i => (Crc.rb x (fun i => c'.testBit i) 0 (j + 1)).testBit i)) := hA5.congr (fun i hi => by rw [HBS.out i hi, if_pos (by omega)])
                      clear hA5
                      go_wp2
                      go_roundw
                      case rel => exact ⟨j + 1, by omega, by go_num, HA6.out, hB5⟩
                      case measure => simp [intOf]; omega
            · have hj9 : j = 8 := by omega
              subst hj9
              rw [← HS.out] at hA2
              go_wp2
              go_roundw
              case rel => exact ⟨k + 1, by omega, by go_num, hA2, hB2⟩
              case measure => simp [intOf]; omega
        · have hT : Crc.run Crc.ones (l.take k) = Crc.run Crc.ones l := by rw [List.take_of_length_le (by omega)]
          rw [hT] at hA hx
          clear hT
          have HF : Hid (Crc.crc l = Crc.ones ^^^ Crc.run Crc.ones l) := by
            show _ = _
            unfold Crc.crc Crc.more
            rw [Nat.xor_zero]
          generalize Crc.run Crc.ones l = x at *
          go_wp2
          go_loop [11, 12] (fun s i => ∃ q : Nat, q ≤ 32 ∧ i = .int .i64 q ∧ s = .int .u32 (Crc.val (fun i => !x.testBit i) 0 q : Nat)) (fun _ i => 32 - (intOf i).toNat)
          case atStart => exact ⟨0, by omega, rfl, rfl⟩
          case round =>
            obtain ⟨q, hq, rfl, rfl⟩ := hrel
            have HV := Lib.hid (val_snoc q (fun i => !x.testBit i) 0)
            have hvl := val_lt q (fun i => !x.testBit i) 0
            by_cases hq32 : q < 32
            · have hcq := hA.cell q hq32
              have hp31 : 2 ^ q ≤ 2147483648 := by
                have : 2 ^ q ≤ 2 ^ 31 := Nat.pow_le_pow_right (by omega) (by omega)
                exact this
              rw [Nat.zero_add] at HV
              generalize Crc.val (fun i => !x.testBit i) 0 q = v at *
              generalize hb : x.testBit q = b at *
              have HB := Lib.hid hb
              clear hb
              cases b
              · have HP := Lib.hid (sum_pow v q hvl hp31)
                go_wp2
                go_round
                case rel => exact ⟨q + 1, by omega, by go_num, by rw [HP.out, HV.out]; simp⟩
                case measure => simp [intOf]; omega
              · go_wp2
                go_round
                case rel => exact ⟨q + 1, by omega, by go_num, by rw [HV.out]; simp⟩
                case measure => simp [intOf]; omega
            · obtain rfl : q = 32 := by omega
              have HO := Lib.hid (ones_bits x hx)
              go_wp2
              go_ret
              exact ⟨ret_num (by rw [HO.out, HF.out]), hB⟩
end Go.Proofs.Ythkkjefcdedlfaa
