/-
  Items that were cut; what they are told by.
-/
import Derived.Test.YtgbdgpacnpeahaaItemT
import Derived.Test.YtgbdgpacnpeahaaItemV
namespace Go.Proofs.Ytgbdgpacnpeahaa
open Go.RowKit
set_option linter.unusedVariables false
set_option linter.unusedSimpArgs false

def tellL (X : List Item) : List (List UInt8) := X.filterMap fun x => toldS x.cut
theorem tellL_succ (X : List Item) (k : Nat) (h : k < X.length) : tellL (X.take (k + 1)) = tellL (X.take k) ++ (toldS (X.getD k default).cut).toList := by
  unfold tellL
  rw [List.take_succ_eq_append_getElem h, List.filterMap_append, List.getD_eq_getElem?_getD, List.getElem?_eq_getElem h]
  simp only [List.filterMap_cons, List.filterMap_nil, Option.getD_some]
  cases toldS (X[k]).cut <;> rfl
theorem encTs_all (L : List ByteArray) (m : Nat) (h : ∀ s ∈ L, s.size ≤ m) : (encTs L).length ≤ L.length * (m + 10) := by
  have := encTs_len L m L.length h (Nat.le_refl _)
  rwa [List.take_of_length_le (Nat.le_refl _)] at this
theorem cut_len (x : Item) : ∀ b, toldS x.cut = some b → b.length ≤ 10000 := by
  intro b hb
  have h1 := (Wn.enc_len x.cut.u).2
  have h2 := (Wn.enc_len (Wn.zig x.cut.n)).2
  have h3 := encT_len x.cut.s
  have h3' : x.cut.s.size ≤ 300 := cutS_size _ _
  have h4 := (Wn.enc_len x.cut.L.length).2
  have h5 : x.cut.L.length ≤ 12 := by simp only [Item.cut, List.length_map, List.length_take]; omega
  have h5' := encTs_all x.cut.L 60 (by intro s hs; obtain ⟨y, _, rfl⟩ := List.mem_map.1 hs; exact cutS_size _ _)
  have h6 := (Wn.enc_len x.cut.I.length).2
  have h7 : x.cut.I.length ≤ 20 := by simp only [Item.cut, List.length_take]; omega
  have h7' := told_len x.cut.I x.cut.I.length (Nat.le_refl _)
  have h8 : (encF_ x.cut.on).length = 1 := by unfold encF_; split <;> rfl
  have h9 : x.cut.L.length * (60 + 10) ≤ 12 * 70 := Nat.mul_le_mul h5 (Nat.le_refl _)
  have h10 : x.cut.I.length * 10 ≤ 20 * 10 := Nat.mul_le_mul h7 (Nat.le_refl _)
  unfold toldS at hb
  repeat' split at hb
  all_goals first | (injection hb with hb; subst hb; (try rw [List.length_append]); omega) | cases hb
theorem tellL_len (X : List Item) : (tellL X).length ≤ X.length := List.length_filterMap_le _ _
theorem tellL_tot (X : List Item) : (tellL X).flatten.length ≤ X.length * 10000 := by
  induction X with
  | nil => simp [tellL]
  | cons x X ih =>
    have e : tellL (x :: X) = (toldS x.cut).toList ++ tellL X := by
      unfold tellL
      rw [List.filterMap_cons]
      cases toldS x.cut <;> rfl
    rw [e, List.flatten_append, List.length_append, List.length_cons]
    have h := cut_len x
    generalize (tellL X).flatten = fl at *
    cases hx : toldS x.cut with
    | none => simp only [Option.toList, List.flatten_nil, List.length_nil]; omega
    | some b => have := h b hx; simp only [Option.toList, List.flatten_cons, List.flatten_nil, List.append_nil]; omega
theorem cut_at {x : Item} {w w' : World} {B lc ic lc' : Nat} {p : Addr} {LA IA LA' : Option Addr} (h : ItAt w B p x LA lc IA ic) (hw : Below B w w') (hB : B ≤ w'.heap.size) (hl : Lies w' w'.heap.size LA' (x.cut.L.map .string)) : x.cut.at_ w' w'.heap.size LA' lc' IA ic := by
  refine ⟨⟨h.ok.k1, h.ok.k2, h.ok.u1, h.ok.n1, h.ok.n2, h.ok.m1, h.ok.m2⟩, ⟨rfl, hl, fun s hs => ?_⟩, ?_, ?_, ?_, ?_⟩
  · obtain ⟨y, _, rfl⟩ := List.mem_map.1 hs
    have := cutS_size y 60
    omega
  · have h1 := ((h.i.below hw).take (min 20 x.I.length) (Nat.min_le_right _ _)).wider hB
    have e : x.cut.I = x.I.take (min 20 x.I.length) := by
      show x.I.take 20 = _
      rw [Nat.min_def]
      split
      · rfl
      · rw [List.take_of_length_le (by omega), List.take_of_length_le (Nat.le_refl _)]
    rw [e, List.length_take]
    have e2 : min (min 20 x.I.length) x.I.length = min 20 x.I.length := by omega
    rw [e2]
    exact h1
  · simp only [Item.cut, List.length_map, List.length_take]; omega
  · simp only [Item.cut, List.length_take]; omega
  · have : x.cut.s.size ≤ 300 := cutS_size _ _
    omega

end Go.Proofs.Ytgbdgpacnpeahaa
