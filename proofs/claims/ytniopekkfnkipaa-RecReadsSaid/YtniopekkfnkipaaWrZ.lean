/-
  What the reader's Within, Bytes, Rest, End and Left do.
  What the reader's Bytes and Rest do.
  What the reader's Ints and Texts do.
  What the list of wire does, of texts.
  What the reader's Ints and Texts do.
  What the reader's Ints and Texts do.
  What a reader's calls do, with and without an error, in the document's words.
-/
import Derived.Test.YtniopekkfnkipaaWrI
import Derived.Shelf.Abstract
-- SOFT
namespace Go.Proofs.Ytniopekkfnkipaa
open Go.RowKit Go.Lib Go.Sort
set_option linter.unusedVariables false
set_option linter.unusedSimpArgs false

theorem box4a (w : World) (u : Value) (t : TypeId) (b d e : Obj) : ((((w.alloc (.cells #[u] t)).alloc b).alloc d).alloc e).cell? ⟨w.heap.size, 0, none⟩ = some u := by
  rw [World.cell?_alloc_lt _ _ _ (by first | (simp; done) | (simp; omega))]; exact box_a w u t b d
theorem box4b (w : World) (u : Value) (t : TypeId) (a d e : Obj) : ((((w.alloc a).alloc (.cells #[u] t)).alloc d).alloc e).cell? ⟨w.heap.size + 1, 0, none⟩ = some u := by
  rw [World.cell?_alloc_lt _ _ _ (by first | (simp; done) | (simp; omega))]; exact box_b w u t a d
theorem box4c (w : World) (u : Value) (t : TypeId) (a b e : Obj) : ((((w.alloc a).alloc b).alloc (.cells #[u] t)).alloc e).cell? ⟨w.heap.size + 2, 0, none⟩ = some u := by
  have q : w.heap.size + 2 = ((w.alloc a).alloc b).heap.size := by simp
  rw [World.cell?_alloc_lt _ _ _ (by simp), q]
  exact box_new _ u t
theorem four_blk (w : World) (a b d : Obj) (cs : Array Value) (ty : TypeId) : ((((w.alloc a).alloc b).alloc d).alloc (.cells cs ty)).heap[w.heap.size + 3]? = some (.cells cs ty (0, 0)) := by
  have e : w.heap.size + 3 = (((w.alloc a).alloc b).alloc d).heap.size := by simp
  rw [e]
  exact Array.getElem?_push_size
theorem grown_four (w : World) (a b d e : Obj) (row : Option Nat) : w.grownBy ((((w.alloc a).alloc b).alloc d).alloc e) row :=
  grown_of_below (((((Below.refl _ _).alloc (Nat.le_refl _) a).alloc (by simp) b).alloc (by simp; omega) d).alloc (by simp; omega) e) row

set_option maxHeartbeats 1000000 in
theorem pEnd_any (g c p err : Nat) (A : Option Addr) (l : List UInt8) (w : World) (h : Rd w g A c l p err) :
    Calls Try.prog 19 #[.pointer (some ⟨g, 0, none⟩)] w fun e w' => e = .returned (.int .i64 (endE l p err : Int)) ∧ Rd w' g A c l p (endE l p err) ∧ w.grownBy w' (some g) := by
  have HL := Lib.hid (left_any g c p err A l w h)
  have HRD := Lib.hid h
  have c2 := h.c2
  have f2 := h.free 2
  have hp := h.pos
  clear h
  by_cases he : err = 0
  · subst he
    by_cases hl : p < l.length
    · have hee : endE l p 0 = 6 := if_pos ⟨rfl, hl⟩
      have d1 : decide ((0 : Int) < ((l.length - p : Nat) : Int)) = true := by rw [decide_eq_true_iff]; omega
      have d2 : decide (0 < l.length - p) = true := by rw [decide_eq_true_iff]; omega
      rw [hee]
      generalize l.length - p = m at *
      clear hl hee
      go_enter Try.func19, Try.ntmps19
      go_wp2_with (first | (go_at_call 39; refine HL.out.mono ?_; rintro e w1 ⟨rfl, k, rfl⟩) | go_in)
      go_ret
      exact ⟨rfl, (HRD.out.drewN _).set2 6, grown_trans (grown_draws _ _ _) (grown_set _ _ _ _)⟩
    · have hee : endE l p 0 = 0 := if_neg (fun q => hl q.2)
      have hm : l.length - p = 0 := by omega
      rw [hee]
      rw [hm] at HL
      clear hl hee hm
      go_enter Try.func19, Try.ntmps19
      go_wp2_with (first | (go_at_call 39; refine HL.out.mono ?_; rintro e w1 ⟨rfl, k, rfl⟩) | go_in)
      go_ret
      exact ⟨rfl, HRD.out.drewN _, grown_draws _ _ _⟩
  · have hee : endE l p err = err := if_neg (fun q => he q.1)
    have z1 : ((err : Int) == 0) = false := by rw [beq_eq_false_iff_ne]; omega
    have HG0 : Hid (w.grownBy w (some g)) := World.grownBy.refl _ _
    rw [hee]
    clear hee he HL
    go_enter Try.func19, Try.ntmps19
    go_wp2_with go_in
    go_ret
    exact ⟨rfl, HRD.out, HG0.out⟩
end Go.Proofs.Ytniopekkfnkipaa
-- SOFT
namespace Go.Proofs.Ytniopekkfnkipaa
open Go.RowKit Go.Lib Go.Sort
set_option linter.unusedVariables false
set_option linter.unusedSimpArgs false

/-- what a decoder of a list comes to, in memory -/
def DLp {α : Type} (ET : TypeId) (enc : α → Value) (w : World) (g c err : Nat) (A : Option Addr) (l : List UInt8) (r : Dl α) (e : Ending) (w' : World) : Prop :=
  match r with
  | .ok L q => ∃ v, e = .returned (.tuple #[v, .int .i64 0]) ∧ w'.ownsRow w.heap.size ET 1 v L.length (L.map enc) ∧ Rd w' g A c l q err ∧ w.grownBy w' (some g)
  | .bad er => ∃ y q, e = .returned (.tuple #[y, .int .i64 (er : Int)]) ∧ 0 < er ∧ Rd w' g A c l q err ∧ w.grownBy w' (some g)
def RLp {α : Type} (ET : TypeId) (enc : α → Value) (w : World) (g c : Nat) (A : Option Addr) (l : List UInt8) (p : Nat) (r : Dl α) (e : Ending) (w' : World) : Prop :=
  match r with
  | .ok L q => ∃ v, e = .returned v ∧ w'.ownsRow w.heap.size ET 1 v L.length (L.map enc) ∧ Rd w' g A c l q 0 ∧ w.grownBy w' (some g)
  | .bad er => e = .returned (.slice none 0 0) ∧ Rd w' g A c l p er ∧ w.grownBy w' (some g)
theorem row_lower {w : World} {base base' s n : Nat} {e : TypeId} {v : Value} {xs : List Value} (h : w.ownsRow base e s v n xs) (hb : base' ≤ base) : w.ownsRow base' e s v n xs := by
  refine ⟨h.1, ?_⟩
  rcases h.2 with h2 | ⟨b, cap, cur, hv, hb', r⟩
  · exact .inl h2
  · exact .inr ⟨b, cap, cur, hv, by omega, r⟩

end Go.Proofs.Ytniopekkfnkipaa
-- SOFT
namespace Go.Proofs.Ytniopekkfnkipaa
open Go.RowKit Go.Lib Go.Sort
set_option linter.unusedVariables false
set_option linter.unusedSimpArgs false

/-- a list as the document reads it, as what a decoder comes to -/
def dList {α : Type} (f : Nat → α × Nat × Nat) (n p0 e0 : Nat) : Dl α := if e0 ≠ 0 then .bad e0 else if (manyS f n p0 0).2.2 ≠ 0 then .bad (manyS f n p0 0).2.2 else .ok (manyS f n p0 0).1 (manyS f n p0 0).2.1
theorem size_m (l : List UInt8) (p : Nat) (count : Int) : dSize l p count = if mE l p 0 count ≠ 0 then .bad (mE l p 0 count) else .ok (.int .u64 ((uR l p 0).1 : Int)) (uR l p 0).2.1 := by
  unfold dSize mE uR
  rw [if_pos rfl]
  unfold numP
  cases hn : Wn.num (l.drop p) with
  | none => rfl
  | some x =>
    have h0 := (Wn.num_le hn).2.1
    have hx : (if (((some x).getD (0, 0)).2 = 0) then 6 else 0) = 0 := if_neg (by show ¬ x.2 = 0; omega)
    simp only [hx]
    show (if count.toNat < x.1 then Dr.bad 7 else _) = _
    simp only [Option.getD_some]
    by_cases hc : count.toNat < x.1
    · simp [hc]
    · simp [hc]
theorem int_m (l : List UInt8) (p : Nat) : dInt l p = if (iR l p 0).2.2 ≠ 0 then .bad (iR l p 0).2.2 else .ok (.int .i64 (iR l p 0).1) (iR l p 0).2.1 := by
  unfold dInt iR uR
  rw [if_pos rfl]
  unfold numP
  cases hn : Wn.num (l.drop p) with
  | none => rfl
  | some x =>
    have h0 := (Wn.num_le hn).2.1
    have hx : (if (((some x).getD (0, 0)).2 = 0) then 6 else 0) = 0 := if_neg (by show ¬ x.2 = 0; omega)
    simp only [hx]
    rfl
theorem text_m (l : List UInt8) (p : Nat) (most : Int) : dText l p most = if (textR l p 0 most).2.2 ≠ 0 then .bad (textR l p 0 most).2.2 else .ok (.string ⟨(textR l p 0 most).1.toArray⟩) (textR l p 0 most).2.1 := by
  unfold textR textE mE dText uR
  rw [if_pos rfl]
  unfold numP
  cases hn : Wn.num (l.drop p) with
  | none => rfl
  | some x =>
    have h0 := (Wn.num_le hn).2.1
    have hx : (if (((some x).getD (0, 0)).2 = 0) then 6 else 0) = 0 := if_neg (by show ¬ x.2 = 0; omega)
    simp only [hx]
    show (if most.toNat < x.1 then Dr.bad 7 else if l.length - (p + x.2) < x.1 then Dr.bad 6 else _) = _
    simp only [Option.getD_some]
    by_cases hc : most.toNat < x.1
    · simp [hc]
    · by_cases hd : l.length - (p + x.2) < x.1
      · simp [hc, hd]
      · simp [hc, hd]
end Go.Proofs.Ytniopekkfnkipaa
-- SOFT
namespace Go.Proofs.Ytniopekkfnkipaa
open Go.RowKit Go.Lib Go.Sort
set_option linter.unusedVariables false
set_option linter.unusedSimpArgs false

end Go.Proofs.Ytniopekkfnkipaa
-- SOFT
namespace Go.Proofs.Ytniopekkfnkipaa
open Go.RowKit Go.Lib Go.Sort
set_option linter.unusedVariables false
set_option linter.unusedSimpArgs false

end Go.Proofs.Ytniopekkfnkipaa
-- SOFT
namespace Go.Proofs.Ytniopekkfnkipaa
open Go.RowKit Go.Lib Go.Sort
set_option linter.unusedVariables false
set_option linter.unusedSimpArgs false

end Go.Proofs.Ytniopekkfnkipaa
-- SOFT
namespace Go.Proofs.Ytniopekkfnkipaa
open Go.RowKit Go.Lib Go.Sort
set_option linter.unusedVariables false
set_option linter.unusedSimpArgs false

section
variable {g c p err : Nat} {A : Option Addr} {l : List UInt8} {w : World}
/-- from what a call comes to, without an error and with one, to one word for both -/
theorem both_ways {f : FuncId} {args : Array Value} {z v : Value} {d : Dr} {t : Nat × Nat}
    (h0 : err = 0 → Calls Try.prog f args w (RPost w g c A l p z d)) (he : 0 < err → Calls Try.prog f args w fun e w' => e = .returned z ∧ Below w.heap.size w w') (h : Rd w g A c l p err)
    (hd : err = 0 → d = if t.2 ≠ 0 then .bad t.2 else .ok v t.1) (hz : err = 0 → t.2 ≠ 0 → v = z ∧ t.1 = p) (hn : 0 < err → v = z ∧ t = (p, err)) :
    Calls Try.prog f args w fun e w' => e = .returned v ∧ Rd w' g A c l t.1 t.2 ∧ w.grownBy w' (some g) := by
  rcases Nat.eq_zero_or_pos err with h1 | h1
  · refine (h0 h1).mono fun e w' hq => ?_
    rw [hd h1] at hq
    by_cases h2 : t.2 ≠ 0
    · rw [if_pos h2] at hq
      obtain ⟨rfl, a, b⟩ := hq
      obtain ⟨rfl, h3⟩ := hz h1 h2
      exact ⟨rfl, by rw [h3]; exact a, b⟩
    · rw [if_neg h2] at hq
      obtain ⟨rfl, a, b⟩ := hq
      exact ⟨rfl, by rw [show t.2 = 0 by omega]; exact a, b⟩
  · refine (he h1).mono fun e w' ⟨a, b⟩ => ?_
    obtain ⟨rfl, rfl⟩ := hn h1
    exact ⟨a, h.below b h.lt, grown_of_below b _⟩
theorem both_rows {α : Type} {ET : TypeId} {enc : α → Value} {f : FuncId} {args : Array Value} {d : Dl α} {t : List α × Nat × Nat}
    (h0 : err = 0 → Calls Try.prog f args w (RLp ET enc w g c A l p d)) (he : 0 < err → Calls Try.prog f args w fun e w' => e = .returned (.slice none 0 0) ∧ Below w.heap.size w w') (h : Rd w g A c l p err)
    (hd : err = 0 → d = if t.2.2 ≠ 0 then .bad t.2.2 else .ok t.1 t.2.1) (hz : err = 0 → t.2.2 ≠ 0 → t.1 = [] ∧ t.2.1 = p) (hn : 0 < err → t = ([], p, err)) :
    Calls Try.prog f args w fun e w' => ∃ v, e = .returned v ∧ w'.ownsRow w.heap.size ET 1 v t.1.length (t.1.map enc) ∧ Rd w' g A c l t.2.1 t.2.2 ∧ w.grownBy w' (some g) := by
  rcases Nat.eq_zero_or_pos err with h1 | h1
  · refine (h0 h1).mono fun e w' hq => ?_
    rw [hd h1] at hq
    by_cases h2 : t.2.2 ≠ 0
    · rw [if_pos h2] at hq
      obtain ⟨rfl, a, b⟩ := hq
      obtain ⟨h4, h3⟩ := hz h1 h2
      exact ⟨_, rfl, by rw [h4]; exact World.ownsRow_nil _ _ _ _, by rw [h3]; exact a, b⟩
    · rw [if_neg h2] at hq
      obtain ⟨v, rfl, o, a, b⟩ := hq
      exact ⟨v, rfl, o, by rw [show t.2.2 = 0 by omega]; exact a, b⟩
  · refine (he h1).mono fun e w' ⟨a, b⟩ => ?_
    rw [hn h1]
    exact ⟨_, a, World.ownsRow_nil _ _ _ _, h.below b h.lt, grown_of_below b _⟩
theorem uR_err (he : 0 < err) : uR l p err = (0, p, err) := by unfold uR; rw [if_neg (by omega)]
theorem uR_bad (h : (uR l p 0).2.2 ≠ 0) : uR l p 0 = (0, p, 6) := by
  unfold uR at *
  rw [if_pos rfl] at *
  by_cases hz : (numP (l.drop p)).2 = 0
  · rw [numP_zero hz, hz]; rfl
  · rw [if_neg hz] at h; exact absurd rfl h
theorem mE_err (count : Int) (he : 0 < err) : mE l p err count = err := by
  unfold mE
  rw [uR_err he, if_neg (by rintro ⟨a, _⟩; have a : err = 0 := a; omega)]
theorem pU_any (h : Rd w g A c l p err) : Calls Try.prog 59 #[.pointer (some ⟨g, 0, none⟩)] w fun e w' => e = .returned (.int .u64 ((uR l p err).1 : Int)) ∧ Rd w' g A c l (uR l p err).2.1 (uR l p err).2.2 ∧ w.grownBy w' (some g) :=
  both_ways (t := (uR l p err).2) (fun e => rUint_any g c p A l w (by rw [e] at h; exact h)) (fun e => eUint g c p err A l w h e) h
    (fun e => by
      subst e
      rw [dUint_num]
      unfold uR
      rw [if_pos rfl]
      by_cases hz : (numP (l.drop p)).2 = 0
      · simp [hz]
      · simp [hz])
    (fun e h2 => by subst e; rw [uR_bad h2]; exact ⟨rfl, rfl⟩) (fun e => by rw [uR_err e]; exact ⟨rfl, rfl⟩)
theorem iR_bad (h : (iR l p 0).2.2 ≠ 0) : iR l p 0 = (0, p, 6) := by
  unfold iR at *
  rw [uR_bad h]; show (Wn.zag 0, p, 6) = _; rw [show Wn.zag 0 = 0 by simp [Wn.zag]]
theorem iR_err (he : 0 < err) : iR l p err = (0, p, err) := by unfold iR; rw [uR_err he]; show (Wn.zag 0, p, err) = _; rw [show Wn.zag 0 = 0 by simp [Wn.zag]]
theorem pI_any (h : Rd w g A c l p err) : Calls Try.prog 73 #[.pointer (some ⟨g, 0, none⟩)] w fun e w' => e = .returned (.int .i64 (iR l p err).1) ∧ Rd w' g A c l (iR l p err).2.1 (iR l p err).2.2 ∧ w.grownBy w' (some g) :=
  both_ways (t := (iR l p err).2) (fun e => rInt_any g c p A l w (by rw [e] at h; exact h)) (fun e => eInt g c p err A l w h e) h
    (fun e => by subst e; exact int_m l p) (fun e h2 => by subst e; rw [iR_bad h2]; exact ⟨rfl, rfl⟩) (fun e => by rw [iR_err e]; exact ⟨rfl, rfl⟩)
theorem textR_bad {most : Int} (h : (textR l p err most).2.2 ≠ 0) : (textR l p err most).1 = [] ∧ (textR l p err most).2.1 = p := by
  unfold textR at *
  by_cases ht : textE l p err most ≠ 0
  · rw [if_pos ht]; exact ⟨rfl, rfl⟩
  · rw [if_neg ht] at h; exact absurd rfl h
theorem textR_err {most : Int} (he : 0 < err) : textR l p err most = ([], p, err) := by
  have : textE l p err most = err := by unfold textE; rw [mE_err most he, if_neg (by omega)]
  unfold textR
  rw [this, if_pos (by omega)]
theorem pT_any (most : Int) (hm1 : -9223372036854775808 ≤ most) (hm2 : most ≤ 9223372036854775807) (h : Rd w g A c l p err) : Calls Try.prog 75 #[.pointer (some ⟨g, 0, none⟩), .int .i64 most] w fun e w' => e = .returned (.string ⟨(textR l p err most).1.toArray⟩) ∧ Rd w' g A c l (textR l p err most).2.1 (textR l p err most).2.2 ∧ w.grownBy w' (some g) :=
  both_ways (t := (textR l p err most).2) (fun e => rText_any g c p A l most w (by rw [e] at h; exact h) hm1 hm2) (fun e => eText g c p err A l most w h e) h
    (fun e => by subst e; exact text_m l p most) (fun e h2 => by have := textR_bad h2; rw [this.1]; exact ⟨rfl, this.2⟩) (fun e => by rw [textR_err e]; exact ⟨rfl, rfl⟩)
theorem bytesR_err {n : Int} (he : 0 < err) : bytesR l p err n = ([], p, err) := by
  unfold bytesR
  rw [if_neg (show ¬ err = 0 by omega), if_neg (show ¬ err = 0 by omega)]
  split
  · rfl
  · split
    · rfl
    · rw [if_pos (by omega)]
theorem run_m (n : Int) : dRun l p n = if (bytesR l p 0 n).2.2 ≠ 0 then .bad (bytesR l p 0 n).2.2 else .ok (bytesR l p 0 n).1 (bytesR l p 0 n).2.1 := by
  unfold dRun bytesR
  by_cases h1 : n < 0
  · simp [h1]
  · by_cases h2 : ((l.length - p : Nat) : Int) < n
    · simp [h1, h2]
    · simp [h1, h2]
theorem bytesR_bad {n : Int} (h : (bytesR l p 0 n).2.2 ≠ 0) : (bytesR l p 0 n).1 = [] ∧ (bytesR l p 0 n).2.1 = p := by
  unfold bytesR at *
  by_cases h1 : n < 0
  · rw [if_pos h1]; exact ⟨rfl, rfl⟩
  · rw [if_neg h1] at *
    by_cases h2 : ((l.length - p : Nat) : Int) < n
    · rw [if_pos h2]; exact ⟨rfl, rfl⟩
    · rw [if_neg h2, if_neg (by simp)] at h; exact absurd rfl h
theorem mE_bad {count : Int} {e0 : Nat} (h : mE l p 0 count = e0) (h0 : e0 ≠ 0) : True := trivial
theorem listR_err {α : Type} (f : Nat → α × Nat × Nat) {n p0 e0 : Nat} (he : 0 < e0) : listR f n p0 e0 p = ([], p, e0) := by
  unfold listR
  rw [manyS_end f n p0 e0 (.inr (by omega)), if_pos (by show e0 ≠ 0; omega)]
theorem list_m {α : Type} (f : Nat → α × Nat × Nat) (n p0 e0 : Nat) : dList f n p0 e0 = if (listR f n p0 e0 p).2.2 ≠ 0 then .bad (listR f n p0 e0 p).2.2 else .ok (listR f n p0 e0 p).1 (listR f n p0 e0 p).2.1 := by
  unfold dList
  by_cases h0 : e0 ≠ 0
  · rw [if_pos h0, listR_err f (by omega), if_pos h0]
  · obtain rfl : e0 = 0 := by omega
    rw [if_neg h0]
    unfold listR
    by_cases h1 : (manyS f n p0 0).2.2 ≠ 0
    · rw [if_pos h1, if_pos h1, if_pos h1]
    · rw [if_neg h1, if_neg h1, if_neg h1]
theorem listR_bad {α : Type} (f : Nat → α × Nat × Nat) {n p0 e0 : Nat} (h : (listR f n p0 e0 p).2.2 ≠ 0) : (listR f n p0 e0 p).1 = [] ∧ (listR f n p0 e0 p).2.1 = p := by
  unfold listR at *
  by_cases h1 : (manyS f n p0 e0).2.2 ≠ 0
  · rw [if_pos h1]; exact ⟨rfl, rfl⟩
  · rw [if_neg h1] at h; exact absurd h h1
theorem byteR_err (he : 0 < err) : byteR l p err = (0, p, err) := by unfold byteR; rw [bytesR_err he]
theorem one_byte (hp : p < l.length) : (l.drop p).take 1 = [l.getD p 0] := by
  rw [List.drop_eq_getElem_cons hp, List.getD_eq_getElem?_getD, List.getElem?_eq_getElem hp]; rfl
theorem byteR_0 (hp : p ≤ l.length) : byteR l p 0 = if p < l.length then ((l.getD p 0).toNat, p + 1, 0) else (0, p, 6) := by
  unfold byteR bytesR
  rw [if_neg (by omega)]
  by_cases h1 : p < l.length
  · rw [if_pos h1, if_neg (by omega), if_neg (by simp)]
    show ((match (l.drop p).take 1 with | [] => 0 | b :: _ => b.toNat), _) = _
    rw [one_byte h1]; rfl
  · rw [if_neg h1, if_pos (by omega)]; rfl
theorem pY_any (h : Rd w g A c l p err) : Calls Try.prog 35 #[.pointer (some ⟨g, 0, none⟩)] w fun e w' => e = .returned (.int .i64 ((byteR l p err).1 : Int)) ∧ Rd w' g A c l (byteR l p err).2.1 (byteR l p err).2.2 ∧ w.grownBy w' (some g) :=
  both_ways (t := (byteR l p err).2) (fun e => rByte_any g c p A l w (by rw [e] at h; exact h)) (fun e => eByte g c p err A l w h e) h
    (fun e => by
      subst e
      rw [byteR_0 h.pos]
      unfold dByte
      by_cases h1 : p < l.length
      · simp [h1]
      · simp [h1])
    (fun e h2 => by
      subst e
      rw [byteR_0 h.pos] at *
      by_cases h1 : p < l.length
      · rw [if_pos h1] at h2; exact absurd rfl h2
      · rw [if_neg h1]; exact ⟨rfl, rfl⟩)
    (fun e => by rw [byteR_err e]; exact ⟨rfl, rfl⟩)
theorem flagR_err (he : 0 < err) : flagR l p err = (false, p, err) := by
  have : flagE l p err = err := if_neg (fun q => by omega)
  unfold flagR
  rw [this, byteR_err he]; rfl
theorem flagR_0 (hp : p ≤ l.length) : flagR l p 0 = if p < l.length ∧ (l.getD p 0).toNat ≤ 1 then (((l.getD p 0).toNat : Int) == 1, p + 1, 0) else (false, p, 6) := by
  unfold flagR
  by_cases h1 : p < l.length ∧ (l.getD p 0).toNat ≤ 1
  · have : flagE l p 0 = 0 := if_neg (fun q => by omega)
    rw [this, byteR_0 hp, if_pos h1, if_pos h1.1]
  · have : flagE l p 0 = 6 := if_pos ⟨rfl, by omega⟩
    rw [this, byteR_err (by omega), if_neg h1]; rfl
theorem pF_any (h : Rd w g A c l p err) : Calls Try.prog 74 #[.pointer (some ⟨g, 0, none⟩)] w fun e w' => e = .returned (.bool (flagR l p err).1) ∧ Rd w' g A c l (flagR l p err).2.1 (flagR l p err).2.2 ∧ w.grownBy w' (some g) :=
  both_ways (t := (flagR l p err).2) (fun e => rFlag_any g c p A l w (by rw [e] at h; exact h)) (fun e => eFlag g c p err A l w h e) h
    (fun e => by
      subst e
      rw [flagR_0 h.pos]
      unfold dFlag
      generalize (l.getD p 0).toNat = b
      by_cases h1 : p < l.length
      · by_cases h2 : b ≤ 1
        · simp [h1, h2]
        · simp [h1, h2]
      · simp [h1])
    (fun e h2 => by
      subst e
      rw [flagR_0 h.pos] at *
      by_cases h1 : p < l.length ∧ (l.getD p 0).toNat ≤ 1
      · rw [if_pos h1] at h2; exact absurd rfl h2
      · rw [if_neg h1]; exact ⟨rfl, rfl⟩)
    (fun e => by rw [flagR_err e]; exact ⟨rfl, rfl⟩)
end
end Go.Proofs.Ytniopekkfnkipaa
