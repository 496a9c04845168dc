/-
  Numbers told one behind the other, cut off; numbers in memory.
-/
import Derived.Test.YtniopekkfnkipaaWireDec
import Derived.Test.YtniopekkfnkipaaWireText
namespace Go.Proofs.Ytniopekkfnkipaa
open Go.RowKit
set_option linter.unusedVariables false
set_option linter.unusedSimpArgs false

theorem numF_short : ∀ (k i n j : Nat), j < (Wn.encF k n).length → Wn.numF k i ((Wn.encF k n).take j) = none := by
  intro k
  induction k with
  | zero => intro i n j h; simp [Wn.encF] at h
  | succ k ih =>
    intro i n j h
    cases j with
    | zero => rw [List.take_zero]; exact numF_nil _ _
    | succ j =>
      by_cases hs : n < 128
      · rw [encF_small _ _ (by omega) hs] at h
        simp at h
      · rw [encF_more _ _ hs] at h ⊢
        rw [List.take_succ_cons]
        simp only [Wn.numF]
        have e : (UInt8.ofNat (n % 128 + 128)).toNat = n % 128 + 128 := by
          rw [UInt8.toNat_ofNat']
          omega
        rw [if_neg (by rw [e]; omega), ih (i + 1) (n / 128) j (by simpa using h)]
        rfl
def encIm (n : Int) : List UInt8 := Wn.enc (Wn.zig n)
def told_ (L : List Int) (k : Nat) : List UInt8 := ((L.take k).map encIm).flatten
theorem told_succ (L : List Int) (k : Nat) (h : k < L.length) : told_ L (k + 1) = told_ L k ++ encIm (L.getD k 0) := by
  unfold told_
  rw [List.take_succ_eq_append_getElem h, List.map_append, List.flatten_append, List.getD_eq_getElem?_getD, List.getElem?_eq_getElem h]
  simp
theorem told_zero (L : List Int) : told_ L 0 = [] := by simp [told_]
theorem told_split (L : List Int) (k : Nat) : told_ L L.length = told_ L k ++ ((L.drop k).map encIm).flatten := by
  unfold told_
  rw [← List.flatten_append, ← List.map_append, List.take_append_drop, List.take_length]
theorem told_len (L : List Int) : ∀ k, k ≤ L.length → (told_ L k).length ≤ k * 10 := by
  intro k
  induction k with
  | zero => intro _; simp [told_zero]
  | succ k ih =>
    intro hk
    have h1 := ih (by omega)
    have h2 := (Wn.enc_len (Wn.zig (L.getD k 0))).2
    rw [told_succ L k (by omega), List.length_append]
    unfold encIm
    omega
theorem told_pos (L : List Int) (k : Nat) (h : k < L.length) : (told_ L k).length < (told_ L (k + 1)).length := by
  have h2 := (Wn.enc_len (Wn.zig (L.getD k 0))).1
  rw [told_succ L k h, List.length_append]
  unfold encIm
  omega
theorem told_mono (L : List Int) (k : Nat) : (told_ L k).length ≤ (told_ L L.length).length := by
  rw [told_split L k, List.length_append]
  omega
theorem cut_yes (L : List Int) (k q : Nat) (h : k < L.length) (hr : -9223372036854775808 ≤ L.getD k 0 ∧ L.getD k 0 ≤ 9223372036854775807) (hq : (told_ L (k + 1)).length ≤ q) : dInt ((told_ L L.length).take q) (told_ L k).length = .ok (.int .i64 (L.getD k 0)) (told_ L (k + 1)).length := by
  have e1 : (told_ L L.length).take q = told_ L k ++ (encIm (L.getD k 0) ++ ((L.drop (k + 1)).map encIm).flatten.take (q - (told_ L (k + 1)).length)) := by
    rw [told_split L (k + 1), List.take_append, List.take_of_length_le hq, told_succ L k h, List.append_assoc]
  have e2 : ((told_ L L.length).take q).drop (told_ L k).length = encIm (L.getD k 0) ++ ((L.drop (k + 1)).map encIm).flatten.take (q - (told_ L (k + 1)).length) := by
    rw [e1]
    exact List.drop_left' rfl
  unfold dInt
  rw [e2]
  unfold encIm
  rw [Wn.num_enc _ (Wn.zig_lt _ hr.1 hr.2)]
  simp only
  rw [Wn.zag_zig]
  congr 1
  rw [told_succ L k h, List.length_append]
  rfl
theorem cut_no (L : List Int) (k q : Nat) (h : k < L.length) (hp : (told_ L k).length ≤ q) (hq : q < (told_ L (k + 1)).length) : dInt ((told_ L L.length).take q) (told_ L k).length = .bad 6 := by
  have hl : (told_ L (k + 1)).length = (told_ L k).length + (encIm (L.getD k 0)).length := by rw [told_succ L k h, List.length_append]
  have e1 : (told_ L L.length).take q = told_ L k ++ (encIm (L.getD k 0)).take (q - (told_ L k).length) := by
    rw [told_split L (k + 1), List.take_append_of_le_length (by omega), told_succ L k h, List.take_append, List.take_of_length_le hp]
  have e2 : ((told_ L L.length).take q).drop (told_ L k).length = (encIm (L.getD k 0)).take (q - (told_ L k).length) := by
    rw [e1]
    exact List.drop_left' rfl
  unfold dInt
  rw [e2]
  have e3 : Wn.num ((encIm (L.getD k 0)).take (q - (told_ L k).length)) = none := numF_short 10 0 _ _ (by show _ < (encIm (L.getD k 0)).length; omega)
  rw [e3]

/-- '.slice A n c' is a slice of numbers (int64) -/
structure Is (w : World) (B : Nat) (A : Option Addr) (n : Nat) (L : List Int) : Prop where
  len : L.length = n
  row : ∀ k, k < n → ∃ p, A = some p ∧ p.block < B ∧ w.cell? (p.add k) = some (.int .i64 (L.getD k 0)) ∧ -9223372036854775808 ≤ L.getD k 0 ∧ L.getD k 0 ≤ 9223372036854775807
section
variable {w w' : World} {B B' n : Nat} {A : Option Addr} {L : List Int}
theorem Is.below (h : Is w B A n L) (hb : Below B w w') : Is w' B A n L :=
  ⟨h.len, fun k hk => by
    obtain ⟨p, e, hp, hc, h1, h2⟩ := h.row k hk
    exact ⟨p, e, hp, (hb.cell (by rw [add_block]; exact hp)).trans hc, h1, h2⟩⟩
theorem Is.wider (h : Is w B A n L) (hB : B ≤ B') : Is w B' A n L :=
  ⟨h.len, fun k hk => by
    obtain ⟨p, e, hp, hc, h1, h2⟩ := h.row k hk
    exact ⟨p, e, by omega, hc, h1, h2⟩⟩
theorem Is.take (h : Is w B A n L) (k : Nat) (hk : k ≤ n) : Is w B A k (L.take k) := by
  have hl := h.len
  refine ⟨by rw [List.length_take]; omega, fun j hj => ?_⟩
  have e : (L.take k).getD j 0 = L.getD j 0 := by
    rw [List.getD_eq_getElem?_getD, List.getD_eq_getElem?_getD, List.getElem?_take, if_pos hj]
  rw [e]
  exact h.row j (by omega)
end
def endsI (L : List Int) (k : Nat) : List Value := (List.range k).map fun i => .int .i64 ((told_ L (i + 1)).length : Int)
theorem endsI_succ (L : List Int) (k : Nat) : endsI L (k + 1) = endsI L k ++ [.int .i64 ((told_ L (k + 1)).length : Int)] := by
  simp [endsI, List.range_succ]
theorem endsI_get (L : List Int) (n k : Nat) (h : k < n) : (endsI L n)[k]? = some (.int .i64 ((told_ L (k + 1)).length : Int)) := by
  simp [endsI, h]
end Go.Proofs.Ytniopekkfnkipaa
