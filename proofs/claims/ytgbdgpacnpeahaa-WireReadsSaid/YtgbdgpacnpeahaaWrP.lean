/-
  What a reader's calls do, with and without an error, in the document's words.
-/
import Derived.Test.YtgbdgpacnpeahaaWrN
import Derived.Test.YtgbdgpacnpeahaaWrO
import Derived.Test.YtgbdgpacnpeahaaWireAt
namespace Go.Proofs.Ytgbdgpacnpeahaa
open Go.RowKit Go.Lib Go.Sort
set_option linter.unusedVariables false
set_option linter.unusedSimpArgs false

section
variable {g c p err : Nat} {A : Option Addr} {l : List UInt8} {w : World}
/-- from what a call comes to, without an error and with one, to one word for both -/
theorem both_ways {f : FuncId} {args : Array Value} {z v : Value} {d : Dr} {t : Nat × Nat}
    (h0 : err = 0 → Calls Try.prog f args w (RPost w g c A l p z d)) (he : 0 < err → Calls Try.prog f args w fun e w' => e = .returned z ∧ Below w.heap.size w w') (h : Rd w g A c l p err)
    (hd : err = 0 → d = if t.2 ≠ 0 then .bad t.2 else .ok v t.1) (hz : err = 0 → t.2 ≠ 0 → v = z ∧ t.1 = p) (hn : 0 < err → v = z ∧ t = (p, err)) :
    Calls Try.prog f args w fun e w' => e = .returned v ∧ Rd w' g A c l t.1 t.2 ∧ w.grownBy w' (some g) := by
  rcases Nat.eq_zero_or_pos err with h1 | h1
  · refine (h0 h1).mono fun e w' hq => ?_
    rw [hd h1] at hq
    by_cases h2 : t.2 ≠ 0
    · rw [if_pos h2] at hq
      obtain ⟨rfl, a, b⟩ := hq
      obtain ⟨rfl, h3⟩ := hz h1 h2
      exact ⟨rfl, by rw [h3]; exact a, b⟩
    · rw [if_neg h2] at hq
      obtain ⟨rfl, a, b⟩ := hq
      exact ⟨rfl, by rw [show t.2 = 0 by omega]; exact a, b⟩
  · refine (he h1).mono fun e w' ⟨a, b⟩ => ?_
    obtain ⟨rfl, rfl⟩ := hn h1
    exact ⟨a, h.below b h.lt, grown_of_below b _⟩
theorem both_rows {α : Type} {ET : TypeId} {enc : α → Value} {f : FuncId} {args : Array Value} {d : Dl α} {t : List α × Nat × Nat}
    (h0 : err = 0 → Calls Try.prog f args w (RLp ET enc w g c A l p d)) (he : 0 < err → Calls Try.prog f args w fun e w' => e = .returned (.slice none 0 0) ∧ Below w.heap.size w w') (h : Rd w g A c l p err)
    (hd : err = 0 → d = if t.2.2 ≠ 0 then .bad t.2.2 else .ok t.1 t.2.1) (hz : err = 0 → t.2.2 ≠ 0 → t.1 = [] ∧ t.2.1 = p) (hn : 0 < err → t = ([], p, err)) :
    Calls Try.prog f args w fun e w' => ∃ v, e = .returned v ∧ w'.ownsRow w.heap.size ET 1 v t.1.length (t.1.map enc) ∧ Rd w' g A c l t.2.1 t.2.2 ∧ w.grownBy w' (some g) := by
  rcases Nat.eq_zero_or_pos err with h1 | h1
  · refine (h0 h1).mono fun e w' hq => ?_
    rw [hd h1] at hq
    by_cases h2 : t.2.2 ≠ 0
    · rw [if_pos h2] at hq
      obtain ⟨rfl, a, b⟩ := hq
      obtain ⟨h4, h3⟩ := hz h1 h2
      exact ⟨_, rfl, by rw [h4]; exact World.ownsRow_nil _ _ _ _, by rw [h3]; exact a, b⟩
    · rw [if_neg h2] at hq
      obtain ⟨v, rfl, o, a, b⟩ := hq
      exact ⟨v, rfl, o, by rw [show t.2.2 = 0 by omega]; exact a, b⟩
  · refine (he h1).mono fun e w' ⟨a, b⟩ => ?_
    rw [hn h1]
    exact ⟨_, a, World.ownsRow_nil _ _ _ _, h.below b h.lt, grown_of_below b _⟩
theorem uR_err (he : 0 < err) : uR l p err = (0, p, err) := by unfold uR; rw [if_neg (by omega)]
theorem uR_bad (h : (uR l p 0).2.2 ≠ 0) : uR l p 0 = (0, p, 6) := by
  unfold uR at *
  rw [if_pos rfl] at *
  by_cases hz : (numP (l.drop p)).2 = 0
  · rw [numP_zero hz, hz]; rfl
  · rw [if_neg hz] at h; exact absurd rfl h
theorem mE_err (count : Int) (he : 0 < err) : mE l p err count = err := by
  unfold mE
  rw [uR_err he, if_neg (by rintro ⟨a, _⟩; have a : err = 0 := a; omega)]
theorem pU_any (h : Rd w g A c l p err) : Calls Try.prog 47 #[.pointer (some ⟨g, 0, none⟩)] w fun e w' => e = .returned (.int .u64 ((uR l p err).1 : Int)) ∧ Rd w' g A c l (uR l p err).2.1 (uR l p err).2.2 ∧ w.grownBy w' (some g) :=
  both_ways (t := (uR l p err).2) (fun e => rUint_any g c p A l w (by rw [e] at h; exact h)) (fun e => eUint g c p err A l w h e) h
    (fun e => by
      subst e
      rw [dUint_num]
      unfold uR
      rw [if_pos rfl]
      by_cases hz : (numP (l.drop p)).2 = 0
      · simp [hz]
      · simp [hz])
    (fun e h2 => by subst e; rw [uR_bad h2]; exact ⟨rfl, rfl⟩) (fun e => by rw [uR_err e]; exact ⟨rfl, rfl⟩)
theorem iR_bad (h : (iR l p 0).2.2 ≠ 0) : iR l p 0 = (0, p, 6) := by
  unfold iR at *
  rw [uR_bad h]; show (Wn.zag 0, p, 6) = _; rw [show Wn.zag 0 = 0 by simp [Wn.zag]]
theorem iR_err (he : 0 < err) : iR l p err = (0, p, err) := by unfold iR; rw [uR_err he]; show (Wn.zag 0, p, err) = _; rw [show Wn.zag 0 = 0 by simp [Wn.zag]]
theorem pI_any (h : Rd w g A c l p err) : Calls Try.prog 48 #[.pointer (some ⟨g, 0, none⟩)] w fun e w' => e = .returned (.int .i64 (iR l p err).1) ∧ Rd w' g A c l (iR l p err).2.1 (iR l p err).2.2 ∧ w.grownBy w' (some g) :=
  both_ways (t := (iR l p err).2) (fun e => rInt_any g c p A l w (by rw [e] at h; exact h)) (fun e => eInt g c p err A l w h e) h
    (fun e => by subst e; exact int_m l p) (fun e h2 => by subst e; rw [iR_bad h2]; exact ⟨rfl, rfl⟩) (fun e => by rw [iR_err e]; exact ⟨rfl, rfl⟩)
theorem pW_any (lo hi : Int) (h : Rd w g A c l p err) : Calls Try.prog 64 #[.pointer (some ⟨g, 0, none⟩), .int .i64 lo, .int .i64 hi] w fun e w' => e = .returned (.int .i64 (wR l p err lo hi).1) ∧ Rd w' g A c l (wR l p err lo hi).2.1 (wR l p err lo hi).2.2 ∧ w.grownBy w' (some g) :=
  both_ways (t := (wR l p err lo hi).2) (fun e => rWithin_any g c p A l lo hi w (by rw [e] at h; exact h)) (fun e => eWithin g c p err A l lo hi w h e) h
    (fun e => by
      subst e
      have hm := int_m l p
      unfold dInt at hm
      unfold dWithin wR
      by_cases h1 : (iR l p 0).2.2 ≠ 0
      · rw [if_pos h1] at hm
        rw [if_pos h1, iR_bad h1] at *
        cases hn : Wn.num (l.drop p) with
        | none => rfl
        | some x => rw [hn] at hm; cases hm
      · rw [if_neg h1] at hm
        rw [if_neg h1]
        cases hn : Wn.num (l.drop p) with
        | none => rw [hn] at hm; cases hm
        | some x =>
          rw [hn] at hm
          simp only at hm
          injection hm with m1 m2
          injection m1 with _ m1
          show (if Wn.zag x.1 < lo ∨ hi < Wn.zag x.1 then _ else _) = _
          rw [m1, m2]
          by_cases h2 : (iR l p 0).1 < lo ∨ hi < (iR l p 0).1
          · rw [if_pos h2, if_pos h2]; rfl
          · rw [if_neg h2, if_neg h2, if_neg h1])
    (fun e h2 => by
      subst e
      unfold wR at *
      by_cases h1 : (iR l p 0).2.2 ≠ 0
      · rw [if_pos h1]; exact ⟨rfl, rfl⟩
      · rw [if_neg h1] at *
        by_cases h3 : (iR l p 0).1 < lo ∨ hi < (iR l p 0).1
        · rw [if_pos h3]; exact ⟨rfl, rfl⟩
        · rw [if_neg h3] at h2; exact absurd h2 h1)
    (fun e => by unfold wR; rw [iR_err e, if_pos (by show err ≠ 0; omega)]; exact ⟨rfl, rfl⟩)
theorem textR_bad {most : Int} (h : (textR l p err most).2.2 ≠ 0) : (textR l p err most).1 = [] ∧ (textR l p err most).2.1 = p := by
  unfold textR at *
  by_cases ht : textE l p err most ≠ 0
  · rw [if_pos ht]; exact ⟨rfl, rfl⟩
  · rw [if_neg ht] at h; exact absurd rfl h
theorem textR_err {most : Int} (he : 0 < err) : textR l p err most = ([], p, err) := by
  have : textE l p err most = err := by unfold textE; rw [mE_err most he, if_neg (by omega)]
  unfold textR
  rw [this, if_pos (by omega)]
theorem pT_any (most : Int) (hm1 : -9223372036854775808 ≤ most) (hm2 : most ≤ 9223372036854775807) (h : Rd w g A c l p err) : Calls Try.prog 49 #[.pointer (some ⟨g, 0, none⟩), .int .i64 most] w fun e w' => e = .returned (.string ⟨(textR l p err most).1.toArray⟩) ∧ Rd w' g A c l (textR l p err most).2.1 (textR l p err most).2.2 ∧ w.grownBy w' (some g) :=
  both_ways (t := (textR l p err most).2) (fun e => rText_any g c p A l most w (by rw [e] at h; exact h) hm1 hm2) (fun e => eText g c p err A l most w h e) h
    (fun e => by subst e; exact text_m l p most) (fun e h2 => by have := textR_bad h2; rw [this.1]; exact ⟨rfl, this.2⟩) (fun e => by rw [textR_err e]; exact ⟨rfl, rfl⟩)
theorem bytesR_err {n : Int} (he : 0 < err) : bytesR l p err n = ([], p, err) := by
  unfold bytesR
  rw [if_neg (show ¬ err = 0 by omega), if_neg (show ¬ err = 0 by omega)]
  split
  · rfl
  · split
    · rfl
    · rw [if_pos (by omega)]
theorem run_m (n : Int) : dRun l p n = if (bytesR l p 0 n).2.2 ≠ 0 then .bad (bytesR l p 0 n).2.2 else .ok (bytesR l p 0 n).1 (bytesR l p 0 n).2.1 := by
  unfold dRun bytesR
  by_cases h1 : n < 0
  · simp [h1]
  · by_cases h2 : ((l.length - p : Nat) : Int) < n
    · simp [h1, h2]
    · simp [h1, h2]
theorem bytesR_bad {n : Int} (h : (bytesR l p 0 n).2.2 ≠ 0) : (bytesR l p 0 n).1 = [] ∧ (bytesR l p 0 n).2.1 = p := by
  unfold bytesR at *
  by_cases h1 : n < 0
  · rw [if_pos h1]; exact ⟨rfl, rfl⟩
  · rw [if_neg h1] at *
    by_cases h2 : ((l.length - p : Nat) : Int) < n
    · rw [if_pos h2]; exact ⟨rfl, rfl⟩
    · rw [if_neg h2, if_neg (by simp)] at h; exact absurd rfl h
theorem pB_any (n : Int) (h : Rd w g A c l p err) : Calls Try.prog 66 #[.pointer (some ⟨g, 0, none⟩), .int .i64 n] w fun e w' => ∃ v, e = .returned v ∧ w'.ownsRow w.heap.size 5 1 v (bytesR l p err n).1.length ((bytesR l p err n).1.map bv) ∧ Rd w' g A c l (bytesR l p err n).2.1 (bytesR l p err n).2.2 ∧ w.grownBy w' (some g) :=
  both_rows (fun e => rBytes_any g c p A l n w (by rw [e] at h; exact h)) (fun e => eBytes g c p err A l n w h e) h (fun e => by subst e; exact run_m n) (fun e h2 => by subst e; exact bytesR_bad h2) (fun e => bytesR_err e)
theorem pR_any (h : Rd w g A c l p err) : Calls Try.prog 70 #[.pointer (some ⟨g, 0, none⟩)] w fun e w' => ∃ v, e = .returned v ∧ w'.ownsRow w.heap.size 5 1 v (bytesR l p err ((l.length : Int) - (p : Int))).1.length ((bytesR l p err ((l.length : Int) - (p : Int))).1.map bv) ∧ Rd w' g A c l (bytesR l p err ((l.length : Int) - (p : Int))).2.1 (bytesR l p err ((l.length : Int) - (p : Int))).2.2 ∧ w.grownBy w' (some g) :=
  both_rows (fun e => rRest_any g c p A l w (by rw [e] at h; exact h)) (fun e => eRest g c p err A l w h e) h (fun e => by subst e; have := h.pos; rw [show ((l.length - p : Nat) : Int) = (l.length : Int) - (p : Int) by omega]; exact run_m _) (fun e h2 => by subst e; exact bytesR_bad h2) (fun e => bytesR_err e)
theorem mE_bad {count : Int} {e0 : Nat} (h : mE l p 0 count = e0) (h0 : e0 ≠ 0) : True := trivial
theorem listR_err {α : Type} (f : Nat → α × Nat × Nat) {n p0 e0 : Nat} (he : 0 < e0) : listR f n p0 e0 p = ([], p, e0) := by
  unfold listR
  rw [manyS_end f n p0 e0 (.inr (by omega)), if_pos (by show e0 ≠ 0; omega)]
theorem list_m {α : Type} (f : Nat → α × Nat × Nat) (n p0 e0 : Nat) : dList f n p0 e0 = if (listR f n p0 e0 p).2.2 ≠ 0 then .bad (listR f n p0 e0 p).2.2 else .ok (listR f n p0 e0 p).1 (listR f n p0 e0 p).2.1 := by
  unfold dList
  by_cases h0 : e0 ≠ 0
  · rw [if_pos h0, listR_err f (by omega), if_pos h0]
  · obtain rfl : e0 = 0 := by omega
    rw [if_neg h0]
    unfold listR
    by_cases h1 : (manyS f n p0 0).2.2 ≠ 0
    · rw [if_pos h1, if_pos h1, if_pos h1]
    · rw [if_neg h1, if_neg h1, if_neg h1]
theorem listR_bad {α : Type} (f : Nat → α × Nat × Nat) {n p0 e0 : Nat} (h : (listR f n p0 e0 p).2.2 ≠ 0) : (listR f n p0 e0 p).1 = [] ∧ (listR f n p0 e0 p).2.1 = p := by
  unfold listR at *
  by_cases h1 : (manyS f n p0 e0).2.2 ≠ 0
  · rw [if_pos h1]; exact ⟨rfl, rfl⟩
  · rw [if_neg h1] at h; exact absurd h h1
theorem pIs_any (count : Int) (hm1 : -9223372036854775808 ≤ count) (hm2 : count ≤ 9223372036854775807) (h : Rd w g A c l p err) : Calls Try.prog 54 #[.pointer (some ⟨g, 0, none⟩), .int .i64 count] w fun e w' => ∃ v, e = .returned v ∧ w'.ownsRow w.heap.size 2 1 v (intsR l p err count).1.length ((intsR l p err count).1.map encI) ∧ Rd w' g A c l (intsR l p err count).2.1 (intsR l p err count).2.2 ∧ w.grownBy w' (some g) :=
  both_rows (fun e => rInts_any g c p A l count hm1 hm2 w (by rw [e] at h; exact h)) (fun e => eInts g c p err A l count w h e) h (fun e => by subst e; exact list_m _ _ _ _) (fun e h2 => listR_bad _ h2) (fun e => by unfold intsR; rw [mE_err count e]; exact listR_err _ e)
theorem pTs_any (count most : Int) (hm1 : -9223372036854775808 ≤ count) (hm2 : count ≤ 9223372036854775807) (hx1 : -9223372036854775808 ≤ most) (hx2 : most ≤ 9223372036854775807) (h : Rd w g A c l p err) : Calls Try.prog 52 #[.pointer (some ⟨g, 0, none⟩), .int .i64 count, .int .i64 most] w fun e w' => ∃ v, e = .returned v ∧ w'.ownsRow w.heap.size 9 1 v (textsR l p err count most).1.length ((textsR l p err count most).1.map encS) ∧ Rd w' g A c l (textsR l p err count most).2.1 (textsR l p err count most).2.2 ∧ w.grownBy w' (some g) :=
  both_rows (fun e => rTexts_any g c p A l count hm1 hm2 most hx1 hx2 w (by rw [e] at h; exact h)) (fun e => eTexts g c p err A l count most w h e) h (fun e => by subst e; exact list_m _ _ _ _) (fun e h2 => listR_bad _ h2) (fun e => by unfold textsR; rw [mE_err count e]; exact listR_err _ e)
theorem byteR_err (he : 0 < err) : byteR l p err = (0, p, err) := by unfold byteR; rw [bytesR_err he]
theorem one_byte (hp : p < l.length) : (l.drop p).take 1 = [l.getD p 0] := by
  rw [List.drop_eq_getElem_cons hp, List.getD_eq_getElem?_getD, List.getElem?_eq_getElem hp]; rfl
theorem byteR_0 (hp : p ≤ l.length) : byteR l p 0 = if p < l.length then ((l.getD p 0).toNat, p + 1, 0) else (0, p, 6) := by
  unfold byteR bytesR
  rw [if_neg (by omega)]
  by_cases h1 : p < l.length
  · rw [if_pos h1, if_neg (by omega), if_neg (by simp)]
    show ((match (l.drop p).take 1 with | [] => 0 | b :: _ => b.toNat), _) = _
    rw [one_byte h1]; rfl
  · rw [if_neg h1, if_pos (by omega)]; rfl
theorem pY_any (h : Rd w g A c l p err) : Calls Try.prog 68 #[.pointer (some ⟨g, 0, none⟩)] w fun e w' => e = .returned (.int .i64 ((byteR l p err).1 : Int)) ∧ Rd w' g A c l (byteR l p err).2.1 (byteR l p err).2.2 ∧ w.grownBy w' (some g) :=
  both_ways (t := (byteR l p err).2) (fun e => rByte_any g c p A l w (by rw [e] at h; exact h)) (fun e => eByte g c p err A l w h e) h
    (fun e => by
      subst e
      rw [byteR_0 h.pos]
      unfold dByte
      by_cases h1 : p < l.length
      · simp [h1]
      · simp [h1])
    (fun e h2 => by
      subst e
      rw [byteR_0 h.pos] at *
      by_cases h1 : p < l.length
      · rw [if_pos h1] at h2; exact absurd rfl h2
      · rw [if_neg h1]; exact ⟨rfl, rfl⟩)
    (fun e => by rw [byteR_err e]; exact ⟨rfl, rfl⟩)
theorem flagR_err (he : 0 < err) : flagR l p err = (false, p, err) := by
  have : flagE l p err = err := if_neg (fun q => by omega)
  unfold flagR
  rw [this, byteR_err he]; rfl
theorem flagR_0 (hp : p ≤ l.length) : flagR l p 0 = if p < l.length ∧ (l.getD p 0).toNat ≤ 1 then (((l.getD p 0).toNat : Int) == 1, p + 1, 0) else (false, p, 6) := by
  unfold flagR
  by_cases h1 : p < l.length ∧ (l.getD p 0).toNat ≤ 1
  · have : flagE l p 0 = 0 := if_neg (fun q => by omega)
    rw [this, byteR_0 hp, if_pos h1, if_pos h1.1]
  · have : flagE l p 0 = 6 := if_pos ⟨rfl, by omega⟩
    rw [this, byteR_err (by omega), if_neg h1]; rfl
theorem pF_any (h : Rd w g A c l p err) : Calls Try.prog 50 #[.pointer (some ⟨g, 0, none⟩)] w fun e w' => e = .returned (.bool (flagR l p err).1) ∧ Rd w' g A c l (flagR l p err).2.1 (flagR l p err).2.2 ∧ w.grownBy w' (some g) :=
  both_ways (t := (flagR l p err).2) (fun e => rFlag_any g c p A l w (by rw [e] at h; exact h)) (fun e => eFlag g c p err A l w h e) h
    (fun e => by
      subst e
      rw [flagR_0 h.pos]
      unfold dFlag
      generalize (l.getD p 0).toNat = b
      by_cases h1 : p < l.length
      · by_cases h2 : b ≤ 1
        · simp [h1, h2]
        · simp [h1, h2]
      · simp [h1])
    (fun e h2 => by
      subst e
      rw [flagR_0 h.pos] at *
      by_cases h1 : p < l.length ∧ (l.getD p 0).toNat ≤ 1
      · rw [if_pos h1] at h2; exact absurd rfl h2
      · rw [if_neg h1]; exact ⟨rfl, rfl⟩)
    (fun e => by rw [flagR_err e]; exact ⟨rfl, rfl⟩)
end
end Go.Proofs.Ytgbdgpacnpeahaa
