/-
  What the readers' calls come to at bytes that were told: what was told, and its end.
-/
import Derived.Test.YtgbdgpacnpeahaaWrP
import Derived.Test.YtgbdgpacnpeahaaWrQ
import Derived.Test.YtgbdgpacnpeahaaItemC
namespace Go.Proofs.Ytgbdgpacnpeahaa
open Go.RowKit Go.Lib Go.Sort
set_option linter.unusedVariables false
set_option linter.unusedSimpArgs false

theorem lies_rowM {w : World} {base n : Nat} {e : TypeId} {A : Option Addr} {c : Nat} {xs : List Value} (h : w.ownsRow base e 1 (.slice A n c) n xs) : Lies w w.heap.size A xs := Lies.of_row h
section
variable {l r a b : List UInt8} {p : Nat}
theorem drop_next (h : l.drop p = a ++ r) : l.drop (p + a.length) = r := by
  rw [← List.drop_drop, h, List.drop_left]
theorem drop_len (h : l.drop p = a ++ r) (ha : 0 < a.length) : p + a.length ≤ l.length := by
  have := congrArg List.length h
  rw [List.length_drop, List.length_append] at this
  omega
theorem numP_back {n : Nat} (hn : n < 18446744073709551616) (h : l.drop p = Wn.enc n ++ r) : numP (l.drop p) = (n, (Wn.enc n).length) := by
  unfold numP
  rw [h, Wn.num_enc n hn r]
  rfl
theorem uR_back {n : Nat} (hn : n < 18446744073709551616) (h : l.drop p = Wn.enc n ++ r) : uR l p 0 = (n, p + (Wn.enc n).length, 0) := by
  unfold uR
  rw [if_pos rfl, numP_back hn h, if_neg (by have := (Wn.enc_len n).1; show ¬ (Wn.enc n).length = 0; omega)]
theorem iR_back {n : Int} (h1 : -9223372036854775808 ≤ n) (h2 : n ≤ 9223372036854775807) (h : l.drop p = Wn.enc (Wn.zig n) ++ r) : iR l p 0 = (n, p + (Wn.enc (Wn.zig n)).length, 0) := by
  unfold iR
  rw [uR_back (Wn.zig_lt n h1 h2) h, Wn.zag_zig]
theorem mE_back {n : Nat} {count : Int} (hn : n < 18446744073709551616) (hc : (n : Int) ≤ count) (h : l.drop p = Wn.enc n ++ r) : mE l p 0 count = 0 := by
  unfold mE
  rw [uR_back hn h, if_neg (by show ¬ (0 = 0 ∧ count.toNat < n); omega)]
theorem textR_back {s : ByteArray} {most : Int} (hs : s.size ≤ 1099511627776) (hm : (s.size : Int) ≤ most) (h : l.drop p = encT s ++ r) : textR l p 0 most = (s.data.toList, p + (encT s).length, 0) := by
  unfold encT at h
  rw [List.append_assoc] at h
  have hu := uR_back (by omega) h
  have hm := mE_back (count := most) (by omega) (by omega) h
  have hd := drop_next h
  have hl := congrArg List.length hd
  rw [List.length_drop, List.length_append] at hl
  have hsz : s.data.toList.length = s.size := by rw [Array.length_toList]; rfl
  have hte : textE l p 0 most = 0 := by
    unfold textE
    rw [hu, hm, if_neg]
    show ¬ (0 = 0 ∧ l.length - (p + (Wn.enc s.size).length) < s.size)
    omega
  unfold textR
  rw [hte, if_neg (by simp), hu]
  simp only
  rw [hd, ← hsz, List.take_left]
  unfold encT
  rw [List.length_append, hsz, Nat.add_assoc]
theorem flagR_back {on : Bool} (h : l.drop p = encF_ on ++ r) : flagR l p 0 = (on, p + 1, 0) := by
  have hl := congrArg List.length h
  have hfl : (encF_ on).length = 1 := by unfold encF_; split <;> rfl
  rw [List.length_drop, List.length_append, hfl] at hl
  have hg : l.getD p 0 = if on then 1 else 0 := by
    have e := congrArg (fun x => x.getD 0 0) h
    simp only [List.getD_eq_getElem?_getD, List.getElem?_drop, Nat.add_zero] at e
    rw [List.getD_eq_getElem?_getD, e]
    unfold encF_
    cases on <;> rfl
  have hfe : flagE l p 0 = 0 := by
    unfold flagE
    rw [if_neg]
    rw [hg]
    rintro ⟨_, h2 | h2⟩
    · omega
    · cases on <;> simp at h2
  have hb : bytesR l p 0 1 = ([l.getD p 0], p + 1, 0) := by
    unfold bytesR
    rw [if_neg (by omega), if_neg (by omega), if_neg (by simp)]
    rw [show (1 : Int).toNat = 1 from rfl, one_byte (by omega)]
  unfold flagR byteR
  rw [hfe, hb, hg]
  cases on <;> rfl
end
theorem manyS_back {α β : Type} {l : List UInt8} (f : Nat → α × Nat × Nat) (enc : β → List UInt8) (val : β → α) : ∀ (L : List β) (p : Nat) (r : List UInt8), (∀ x ∈ L, ∀ q r, l.drop q = enc x ++ r → f q = (val x, q + (enc x).length, 0)) → l.drop p = (L.map enc).flatten ++ r →
    manyS f L.length p 0 = (L.map val, p + ((L.map enc).flatten).length, 0)
  | [], p, r, _, _ => rfl
  | x :: L, p, r, hf, h => by
    rw [List.map_cons, List.flatten_cons, List.append_assoc] at h
    rw [List.length_cons, manyS_step, hf x (by simp) p _ h]
    simp only
    rw [manyS_back f enc val L _ r (fun y hy => hf y (by simp [hy])) (drop_next h)]
    simp only [List.map_cons, List.flatten_cons, List.length_append]
    rw [Nat.add_assoc]
section
variable {l r : List UInt8} {p : Nat}
theorem listR_back {α β : Type} (f : Nat → α × Nat × Nat) (enc : β → List UInt8) (val : β → α) (L : List β) (q0 : Nat) (hf : ∀ x ∈ L, ∀ q r, l.drop q = enc x ++ r → f q = (val x, q + (enc x).length, 0)) (h : l.drop q0 = (L.map enc).flatten ++ r) :
    listR f L.length q0 0 p = (L.map val, q0 + ((L.map enc).flatten).length, 0) := by
  unfold listR
  rw [manyS_back f enc val L q0 r hf h, if_neg (by simp)]
theorem textsR_back {L : List ByteArray} (hL : ∀ s ∈ L, s.size ≤ 60) (hn : L.length ≤ 1048576) (h : l.drop p = (Wn.enc L.length ++ encTs L) ++ r) : textsR l p 0 (L.length : Int) 60 = (L.map (fun s => s.data.toList), p + (Wn.enc L.length ++ encTs L).length, 0) := by
  rw [List.append_assoc] at h
  unfold textsR
  rw [uR_back (by omega) h, mE_back (by omega) (by omega) h]
  simp only
  rw [listR_back (r := r) _ encT (fun s => s.data.toList) L _ (fun x hx q r hq => textR_back (by have := hL x hx; omega) (by have := hL x hx; omega) hq) (drop_next h), List.length_append, Nat.add_assoc]
  rfl
theorem told_all (I : List Int) : told_ I I.length = (I.map encIm).flatten := by
  unfold told_
  rw [List.take_of_length_le (Nat.le_refl _)]
theorem intsR_back {I : List Int} (hI : ∀ x ∈ I, -9223372036854775808 ≤ x ∧ x ≤ 9223372036854775807) (hn : I.length ≤ 1048576) (h : l.drop p = (Wn.enc I.length ++ told_ I I.length) ++ r) : intsR l p 0 (I.length : Int) = (I, p + (Wn.enc I.length ++ told_ I I.length).length, 0) := by
  rw [List.append_assoc, told_all] at h
  unfold intsR
  rw [uR_back (by omega) h, mE_back (by omega) (by omega) h]
  simp only
  rw [listR_back (r := r) _ encIm id I _ (fun x hx q r hq => iR_back (hI x hx).1 (hI x hx).2 hq) (drop_next h), List.length_append, Nat.add_assoc, told_all, List.map_id]
end
theorem map_encS (L : List ByteArray) : (L.map (fun s => s.data.toList)).map encS = L.map .string := by
  rw [List.map_map]
  exact List.map_congr_left fun s _ => by cases s; rfl
theorem Is.liesI {w : World} {B n : Nat} {A : Option Addr} {I : List Int} (h : Is w B A n I) : Lies w B A (I.map encI) :=
  ⟨fun j u hj => by
    rw [List.getElem?_map] at hj
    cases hx : I[j]? with
    | none => rw [hx] at hj; cases hj
    | some y =>
      rw [hx] at hj
      injection hj with hj
      have hjn : j < n := by have := (List.getElem?_eq_some_iff.1 hx).1; have := h.len; omega
      obtain ⟨q, e, hb, hc, _⟩ := h.row j hjn
      refine ⟨q, e, hb, ?_⟩
      rw [hc, ← hj, List.getD_eq_getElem?_getD, hx]
      rfl⟩
theorem Is.mems {w : World} {B n : Nat} {A : Option Addr} {I : List Int} (h : Is w B A n I) : ∀ x ∈ I, -9223372036854775808 ≤ x ∧ x ≤ 9223372036854775807 := fun x hx => by
  obtain ⟨j, hj⟩ := List.mem_iff_getElem?.1 hx
  have hjn : j < n := by have := (List.getElem?_eq_some_iff.1 hj).1; have := h.len; omega
  obtain ⟨q, e, hb, hc, h1, h2⟩ := h.row j hjn
  rw [List.getD_eq_getElem?_getD, hj] at h1 h2
  exact ⟨h1, h2⟩
end Go.Proofs.Ytgbdgpacnpeahaa
