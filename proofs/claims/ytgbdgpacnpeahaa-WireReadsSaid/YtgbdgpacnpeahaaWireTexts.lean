/-
  What wire.Texts does.
-/
import Derived.Test.YtgbdgpacnpeahaaWireText
namespace Go.Proofs.Ytgbdgpacnpeahaa
open Go.RowKit
set_option linter.unusedVariables false
set_option linter.unusedSimpArgs false

/-- '.slice A n c' is a slice of texts, none of them longer than m -/
structure Ts (w : World) (B : Nat) (A : Option Addr) (n m : Nat) (L : List ByteArray) : Prop where
  len : L.length = n
  lies : Lies w B A (L.map .string)
  most : ∀ s ∈ L, s.size ≤ m
section
variable {w w' : World} {B B' n m : Nat} {A : Option Addr} {L : List ByteArray}
theorem Ts.below (h : Ts w B A n m L) (hb : Below B w w') : Ts w' B A n m L := ⟨h.len, h.lies.keep fun _ hp => hb.cell hp, h.most⟩
theorem Ts.wider (h : Ts w B A n m L) (hB : B ≤ B') : Ts w B' A n m L := ⟨h.len, h.lies.wider hB, h.most⟩
theorem Ts.row {k : Nat} (h : Ts w B A n m L) (hk : k < n) : ∃ p, A = some p ∧ p.block < B ∧ w.cell? (p.add k) = some (.string (L.getD k ⟨#[]⟩)) ∧ (L.getD k ⟨#[]⟩).size ≤ m := by
  have hkl : k < L.length := by rw [h.len]; exact hk
  obtain ⟨p, e, hb, hc⟩ := h.lies.get k (.string (L.getD k ⟨#[]⟩)) (by rw [List.getElem?_map, List.getElem?_eq_getElem hkl, List.getD_eq_getElem?_getD, List.getElem?_eq_getElem hkl]; rfl)
  exact ⟨p, e, hb, hc, by rw [List.getD_eq_getElem?_getD, List.getElem?_eq_getElem hkl]; exact h.most _ (List.getElem_mem hkl)⟩
end
def encTs (L : List ByteArray) : List UInt8 := (L.map encT).flatten
theorem encTs_succ (L : List ByteArray) (k : Nat) (h : k < L.length) : encTs (L.take (k + 1)) = encTs (L.take k) ++ encT (L.getD k ⟨#[]⟩) := by
  unfold encTs
  rw [List.take_succ_eq_append_getElem h, List.map_append, List.flatten_append, List.getD_eq_getElem?_getD, List.getElem?_eq_getElem h]
  simp
theorem encTs_len (L : List ByteArray) (m k : Nat) (h : ∀ s ∈ L, s.size ≤ m) (hk : k ≤ L.length) : (encTs (L.take k)).length ≤ k * (m + 10) := by
  induction k with
  | zero => simp [encTs]
  | succ j ih =>
    have hj : j < L.length := by omega
    rw [encTs_succ L j hj, List.length_append, Nat.succ_mul]
    have h1 := ih (by omega)
    have h2 := encT_len (L.getD j ⟨#[]⟩)
    have h3 : (L.getD j ⟨#[]⟩).size ≤ m := by rw [List.getD_eq_getElem?_getD, List.getElem?_eq_getElem hj]; exact h _ (List.getElem_mem hj)
    omega

set_option maxRecDepth 100000 in
set_option maxHeartbeats 1000000 in
theorem wTexts_any (A : Option Addr) (n c m B : Nat) (L : List ByteArray) (w : World) (hL : Ts w B A n m L) (hB : B ≤ w.heap.size) (hn : n ≤ 1048576) (hm : m ≤ 1000) :
    Calls Try.prog 42 #[.slice A n c] w fun e w' => ∃ v', e = .returned v' ∧ Own w' w.heap.size v' (Wn.enc n ++ encTs L) ∧ Below w.heap.size w w' := by
  have HU := Lib.hid (wUint_any n w (by omega))
  have hll := hL.len
  have hlen1 : L.length ≤ n := by omega
  have hlen2 : n ≤ L.length := by omega
  clear hll
  have HEL := Lib.hid (Wn.enc_len n).2
  go_enter Try.func42, Try.ntmps42
  go_wp2_with fail
  refine HU.out.mono ?_
  rintro e w1 ⟨v1, rfl, ho1, hb1⟩
  clear HU
  go_wp2_with fail
  go_loopw [3, 12] (fun v i wr => ∃ k : Nat, k ≤ n ∧ i = .int .i64 k ∧ Own wr w.heap.size v (Wn.enc n ++ encTs (L.take k)) ∧ Below w.heap.size w wr) (fun _ i _ => n - (intOf i).toNat)
  case atStart => exact ⟨0, by omega, rfl, by simpa [encTs] using ho1, hb1⟩
  case round =>
    obtain ⟨k, hk, rfl, hown, hb⟩ := hrel
    have hz := hb.size
    by_cases hlt : k < n
    · obtain ⟨ad, rfl, hadb, hc, hsz⟩ := (hL.below (hb.mono hB)).row hlt
      have HS : Hid (Wn.enc n ++ encTs (L.take (k + 1)) = (Wn.enc n ++ encTs (L.take k)) ++ encT (L.getD k ⟨#[]⟩)) := by show _ = _; rw [encTs_succ L k (by omega), List.append_assoc]
      have h1 : (Wn.enc n ++ encTs (L.take k)).length ≤ 1099511627776 := by
        have h2 := encTs_len L m k hL.most (by omega)
        have h3 : k * (m + 10) ≤ 1048576 * 1010 := Nat.mul_le_mul (by omega) (by omega)
        have h4 := HEL.out
        rw [List.length_append]
        omega
      generalize Wn.enc n ++ encTs (L.take k) = acc at *
      generalize L.getD k ⟨#[]⟩ = s at *
      have HA := Lib.hid (addText_any u3 w.heap.size acc s wr hown h1 (by omega) hz)
      clear hown ho1 hb1
      go_wp2_with fail
      refine HA.out.mono ?_
      rintro e w2 ⟨v2, rfl, ho2, hb2⟩
      clear HA
      go_wp2_with fail
      go_roundw
      case rel => exact ⟨k + 1, by omega, by go_num, by rw [HS.out]; exact ho2, hb.trans hb2⟩
      case measure => simp [intOf]; omega
    · obtain rfl : k = n := by omega
      rw [List.take_of_length_le (by omega)] at hown
      go_wp2_with fail
      go_ret
      exact ⟨u3, rfl, hown, hb⟩
end Go.Proofs.Ytgbdgpacnpeahaa
