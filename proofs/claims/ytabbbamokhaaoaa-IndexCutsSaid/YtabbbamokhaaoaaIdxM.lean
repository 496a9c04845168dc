/-
  An index as data: what notes make of it; the index that towpathlaw05.laid lays.
-/
import Derived.Test.YtabbbamokhaaoaaIdxA
namespace Go.Proofs.Ytabbbamokhaaoaa
open Go.RowKit
set_option linter.unusedVariables false
set_option linter.unusedSimpArgs false

def Idx.note (x : Idx) (o p t : Int) : Idx :=
  { x with L := if x.L.length = 0 ∨ x.gap ≤ p - (x.L.getD (x.L.length - 1) default).pl then x.L ++ [⟨o, p, x.lat⟩] else x.L, off := o, pl := p, lat := max x.lat t }
def noteE (x : Idx) (o p t : Int) : Int :=
  if ifz 1099511627776 o && ifz 4194304 p && ifz 1099511627776 t then (if o ≤ x.off ∨ p ≤ x.pl then 21 else 0) else 2
theorem noteE_ok {x : Idx} {o p t : Int} (h1 : 0 ≤ o) (h2 : o ≤ 1099511627776) (h3 : 0 ≤ p) (h4 : p ≤ 4194304) (h5 : 0 ≤ t) (h6 : t ≤ 1099511627776) (h7 : x.off < o) (h8 : x.pl < p) : noteE x o p t = 0 := by
  unfold noteE ifz
  rw [if_pos (by simp; omega), if_neg (by omega)]
theorem getD_snoc (L : List Ent) (e : Ent) (a : Nat) : (L ++ [e]).getD a default = if a < L.length then L.getD a default else if a = L.length then e else default := by
  simp only [List.getD_eq_getElem?_getD]
  rcases Nat.lt_trichotomy a L.length with h | h | h
  · rw [List.getElem?_append_left h, if_pos h]
  · subst h
    rw [List.getElem?_append_right (Nat.le_refl _), if_neg (by omega), if_pos rfl]
    simp
  · rw [List.getElem?_append_right (by omega), if_neg (by omega), if_neg (by omega), List.getElem?_eq_none (by simp; omega)]
    rfl
theorem getD_take (L : List Ent) (r a : Nat) (h : a < r) : (L.take r).getD a default = L.getD a default := by
  simp only [List.getD_eq_getElem?_getD]
  rw [List.getElem?_take, if_pos h]

/-- entries stand in order -/
structure Srt (x : Idx) : Prop where
  off : ∀ a b, a < b → b < x.L.length → (x.L.getD a default).off < (x.L.getD b default).off
  bf : ∀ a b, a ≤ b → b < x.L.length → (x.L.getD a default).bf ≤ (x.L.getD b default).bf
  top : ∀ a, a < x.L.length → (x.L.getD a default).off ≤ x.off ∧ (x.L.getD a default).bf ≤ x.lat
theorem Srt.new (gap : Int) : Srt ⟨gap, [], -1, -1, -1⟩ := ⟨fun a b _ h => absurd h (by simp), fun a b _ h => absurd h (by simp), fun a h => absurd h (by simp)⟩
theorem Srt.note {x : Idx} (h : Srt x) {o : Int} (p t : Int) (ho : x.off < o) : Srt (x.note o p t) := by
  unfold Idx.note
  split
  · refine ⟨fun a b hab hb => ?_, fun a b hab hb => ?_, fun a ha => ?_⟩
    · simp only [List.length_append, List.length_cons, List.length_nil] at hb
      simp only [getD_snoc]
      rw [if_pos (show a < x.L.length by omega)]
      by_cases e : b < x.L.length
      · rw [if_pos e]; exact h.off a b hab e
      · rw [if_neg e, if_pos (by omega)]
        have := (h.top a (by omega)).1
        show _ < o
        omega
    · simp only [List.length_append, List.length_cons, List.length_nil] at hb
      simp only [getD_snoc]
      by_cases e : b < x.L.length
      · rw [if_pos e, if_pos (show a < x.L.length by omega)]; exact h.bf a b hab e
      · rw [if_neg e, if_pos (show b = x.L.length by omega)]
        by_cases e2 : a < x.L.length
        · rw [if_pos e2]
          exact (h.top a e2).2
        · rw [if_neg e2, if_pos (show a = x.L.length by omega)]
          exact Int.le_refl _
    · simp only [List.length_append, List.length_cons, List.length_nil] at ha
      simp only [getD_snoc]
      by_cases e : a < x.L.length
      · rw [if_pos e]
        have := h.top a e
        exact ⟨by show _ ≤ o; omega, by show _ ≤ max x.lat t; omega⟩
      · rw [if_neg e, if_pos (show a = x.L.length by omega)]
        exact ⟨Int.le_refl _, by show x.lat ≤ max x.lat t; omega⟩
  · refine ⟨h.off, h.bf, fun a ha => ?_⟩
    have := h.top a ha
    exact ⟨Int.le_trans this.1 (Int.le_of_lt ho), Int.le_trans this.2 (Int.le_max_left _ _)⟩

/-- the first r are so, all others are not -/
structure Upto (p : Ent → Bool) (L : List Ent) (r : Nat) : Prop where
  le : r ≤ L.length
  yes : ∀ t, t < r → p (L.getD t default) = true
  no : ∀ t, r ≤ t → t < L.length → p (L.getD t default) = false
theorem Upto.one {p : Ent → Bool} {L : List Ent} {r s : Nat} (h : Upto p L r) (k : Upto p L s) : r = s := by
  rcases Nat.lt_trichotomy r s with g | g | g
  · have h1 := h.no r (Nat.le_refl _) (by have := k.le; omega)
    have h2 := k.yes r g
    rw [h1] at h2; cases h2
  · exact g
  · have h1 := k.no s (Nat.le_refl _) (by have := h.le; omega)
    have h2 := h.yes s g
    rw [h1] at h2; cases h2
/-- what Find and After answer -/
def lastE (L : List Ent) (r : Nat) : Ent := if r = 0 then default else L.getD (r - 1) default
def Idx.cutAt (x : Idx) (r : Nat) : Idx :=
  { x with L := x.L.take r, off := if r = 0 then -1 else (x.L.getD (r - 1) default).off, pl := if r = 0 then -1 else (x.L.getD (r - 1) default).pl }
theorem Srt.cut {x : Idx} (h : Srt x) {r : Nat} (hr : r ≤ x.L.length) : Srt (x.cutAt r) := by
  have hl : (x.L.take r).length = r := by rw [List.length_take]; omega
  refine ⟨fun a b hab hb => ?_, fun a b hab hb => ?_, fun a ha => ?_⟩
  · have hb' : b < r := by have := hb; unfold Idx.cutAt at this; simp only [hl] at this; exact this
    show ((x.L.take r).getD a default).off < ((x.L.take r).getD b default).off
    rw [getD_take _ _ _ hb', getD_take _ _ _ (by omega)]
    exact h.off a b hab (by omega)
  · have hb' : b < r := by have := hb; unfold Idx.cutAt at this; simp only [hl] at this; exact this
    show ((x.L.take r).getD a default).bf ≤ ((x.L.take r).getD b default).bf
    rw [getD_take _ _ _ hb', getD_take _ _ _ (by omega)]
    exact h.bf a b hab (by omega)
  · have ha' : a < r := by have := ha; unfold Idx.cutAt at this; simp only [hl] at this; exact this
    show ((x.L.take r).getD a default).off ≤ (if r = 0 then -1 else (x.L.getD (r - 1) default).off) ∧ ((x.L.take r).getD a default).bf ≤ x.lat
    rw [getD_take _ _ _ ha', if_neg (by omega)]
    refine ⟨?_, (h.top a (by omega)).2⟩
    by_cases e : a = r - 1
    · rw [e]; exact Int.le_refl _
    · have := h.off a (r - 1) (by omega) (by omega)
      omega

/-- towpathlaw05.laid's places and times -/
def plc (S : List Int) : Nat → Int
  | 0 => 0
  | k + 1 => plc S k + (((S.getD k 0).natAbs % 120 : Nat) : Int) + 1
def tim (T : List Int) (k : Nat) : Int := (((T.getD k 0).natAbs % 1000 : Nat) : Int)
def tmx (T : List Int) : Nat → Int
  | 0 => -1
  | k + 1 => max (tmx T k) (tim T k)
def lay (gap : Int) (S T : List Int) : Nat → Idx
  | 0 => ⟨gap, [], -1, -1, -1⟩
  | k + 1 => (lay gap S T k).note (3 * (k : Int)) (plc S k) (tim T k)
def batch (S T : List Int) (i : Nat) : Ent := ⟨3 * (i : Int), plc S i, tim T i⟩
def batches (S T : List Int) (k : Nat) : List Ent := (List.range k).map (batch S T)
theorem batches_len (S T : List Int) (k : Nat) : (batches S T k).length = k := by simp [batches]
theorem batches_succ (S T : List Int) (k : Nat) : batches S T (k + 1) = batches S T k ++ [batch S T k] := by simp [batches, List.range_succ]
theorem batches_get (S T : List Int) (k i : Nat) (h : i < k) : (batches S T k).getD i default = batch S T i := by
  simp [batches, List.getD_eq_getElem?_getD, List.getElem?_range h]
theorem plc_step (S : List Int) (k : Nat) : plc S k < plc S (k + 1) ∧ plc S (k + 1) ≤ plc S k + 120 := by
  have : plc S (k + 1) = plc S k + (((S.getD k 0).natAbs % 120 : Nat) : Int) + 1 := rfl
  omega
theorem plc_le (S : List Int) (k : Nat) : 0 ≤ plc S k ∧ plc S k ≤ 120 * (k : Int) := by
  induction k with
  | zero => simp [plc]
  | succ k ih => have := plc_step S k; omega
theorem plc_mono (S : List Int) {i j : Nat} (h : i ≤ j) : plc S i ≤ plc S j := by
  induction j with
  | zero => rw [show i = 0 by omega]; exact Int.le_refl _
  | succ j ih =>
    by_cases e : i = j + 1
    · rw [e]; exact Int.le_refl _
    · have := ih (by omega)
      have := plc_step S j
      omega
theorem tim_le (T : List Int) (k : Nat) : 0 ≤ tim T k ∧ tim T k ≤ 999 := by unfold tim; omega
theorem tmx_low (T : List Int) (k : Nat) : -1 ≤ tmx T k := by
  induction k with
  | zero => exact Int.le_refl _
  | succ k ih => unfold tmx; omega
theorem tmx_ge (T : List Int) (k : Nat) : ∀ j, j < k → tim T j ≤ tmx T k := by
  induction k with
  | zero => intro j h; omega
  | succ k ih =>
    intro j h
    unfold tmx
    by_cases e : j = k
    · rw [e]; omega
    · have := ih j (by omega); omega
theorem tmx_at (T : List Int) (t : Int) (ht : 0 ≤ t) : ∀ k, t ≤ tmx T k → ∃ j, j < k ∧ t ≤ tim T j := by
  intro k
  induction k with
  | zero => intro h; unfold tmx at h; omega
  | succ k ih =>
    intro h
    unfold tmx at h
    by_cases e : t ≤ tim T k
    · exact ⟨k, by omega, e⟩
    · obtain ⟨j, hj, h2⟩ := ih (by omega)
      exact ⟨j, by omega, h2⟩

structure Laid (gap : Int) (S T : List Int) (k : Nat) (x : Idx) : Prop where
  gp : x.gap = gap
  off : x.off < 3 * (k : Int)
  pl : x.pl < plc S k
  lat : x.lat = tmx T k
  srt : Srt x
  each : ∀ a, a < x.L.length → ∃ i, i < k ∧ x.L.getD a default = ⟨3 * (i : Int), plc S i, tmx T i⟩
  near : ∀ i, i < k → ∃ a, a < x.L.length ∧ (x.L.getD a default).off ≤ 3 * (i : Int) ∧ plc S i - (x.L.getD a default).pl < gap
theorem laid_zero (gap : Int) (S T : List Int) : Laid gap S T 0 ⟨gap, [], -1, -1, -1⟩ :=
  ⟨rfl, by show (-1 : Int) < _; omega, by show (-1 : Int) < 0; omega, rfl, Srt.new gap, fun a h => absurd h (by simp), fun i h => absurd h (by omega)⟩
theorem laid_succ {gap : Int} {S T : List Int} {k : Nat} {x : Idx} (h : Laid gap S T k x) (hg : 1 ≤ gap) : Laid gap S T (k + 1) (x.note (3 * (k : Int)) (plc S k) (tim T k)) := by
  have hp := plc_step S k
  have hs := h.srt.note (plc S k) (tim T k) h.off
  refine ⟨h.gp, by show 3 * (k : Int) < 3 * ((k + 1 : Nat) : Int); omega, hp.1, ?_, hs, ?_, ?_⟩
  · show max x.lat (tim T k) = tmx T (k + 1)
    rw [h.lat]; rfl
  · unfold Idx.note
    split
    · intro a ha
      simp only [List.length_append, List.length_cons, List.length_nil] at ha
      simp only [getD_snoc]
      by_cases e : a < x.L.length
      · rw [if_pos e]
        obtain ⟨i, hi, he⟩ := h.each a e
        exact ⟨i, by omega, he⟩
      · rw [if_neg e, if_pos (show a = x.L.length by omega), h.lat]
        exact ⟨k, by omega, rfl⟩
    · intro a ha
      obtain ⟨i, hi, he⟩ := h.each a ha
      exact ⟨i, by omega, he⟩
  · unfold Idx.note
    split
    · intro i hi
      by_cases e : i = k
      · refine ⟨x.L.length, by simp, ?_⟩
        simp only [getD_snoc]
        rw [if_neg (by omega), if_pos trivial, e]
        exact ⟨Int.le_refl _, by show plc S k - plc S k < gap; omega⟩
      · obtain ⟨a, ha, h1, h2⟩ := h.near i (by omega)
        refine ⟨a, by simp; omega, ?_⟩
        simp only [getD_snoc]
        rw [if_pos ha]
        exact ⟨h1, h2⟩
    · rename_i hne
      intro i hi
      by_cases e : i = k
      · have hl : x.L.length ≠ 0 := fun h0 => hne (.inl h0)
        have hg2 : ¬ (x.gap ≤ plc S k - (x.L.getD (x.L.length - 1) default).pl) := fun h0 => hne (.inr h0)
        rw [h.gp] at hg2
        refine ⟨x.L.length - 1, by show x.L.length - 1 < x.L.length; omega, ?_, ?_⟩
        · have := (h.srt.top (x.L.length - 1) (by omega)).1
          have := h.off
          show (x.L.getD (x.L.length - 1) default).off ≤ _
          omega
        · show plc S i - (x.L.getD (x.L.length - 1) default).pl < gap
          rw [e]; omega
      · exact h.near i (by omega)
theorem laid_all (gap : Int) (S T : List Int) (hg : 1 ≤ gap) (k : Nat) : Laid gap S T k (lay gap S T k) := by
  induction k with
  | zero => exact laid_zero gap S T
  | succ k ih => exact laid_succ ih hg
def atMost (o : Int) : Ent → Bool := fun e => decide (e.off ≤ o)
def below_ (o : Int) : Ent → Bool := fun e => decide (e.off < o)
def ahead_ (t : Int) : Ent → Bool := fun e => decide (e.bf < t)
theorem atMost_t (o : Int) (e : Ent) : atMost o e = true ↔ e.off ≤ o := by unfold atMost; exact decide_eq_true_iff
theorem atMost_f (o : Int) (e : Ent) : atMost o e = false ↔ o < e.off := by unfold atMost; rw [decide_eq_false_iff_not]; omega
theorem below_t (o : Int) (e : Ent) : below_ o e = true ↔ e.off < o := by unfold below_; exact decide_eq_true_iff
theorem below_f (o : Int) (e : Ent) : below_ o e = false ↔ o ≤ e.off := by unfold below_; rw [decide_eq_false_iff_not]; omega
theorem ahead_t (o : Int) (e : Ent) : ahead_ o e = true ↔ e.bf < o := by unfold ahead_; exact decide_eq_true_iff
theorem ahead_f (o : Int) (e : Ent) : ahead_ o e = false ↔ o ≤ e.bf := by unfold ahead_; rw [decide_eq_false_iff_not]; omega
section
variable {gap : Int} {S T : List Int} {k : Nat} {x : Idx}
/-- what Find tells stands ahead of the batch, and less than the gap ahead -/
theorem Laid.find (h : Laid gap S T k x) {i r : Nat} {d : Int} (hi : i < k) (h0 : 0 ≤ d) (h3 : d < 3) (hr : Upto (atMost (3 * (i : Int) + d)) x.L r) :
    0 < r ∧ (x.L.getD (r - 1) default).off ≤ 3 * (i : Int) ∧ (x.L.getD (r - 1) default).pl ≤ plc S i ∧ plc S i - (x.L.getD (r - 1) default).pl < gap := by
  obtain ⟨a, ha, h1, h2⟩ := h.near i hi
  have har : a < r := by
    rcases Nat.lt_or_ge a r with g | g
    · exact g
    · have := (atMost_f _ _).1 (hr.no a g ha)
      omega
  have hl := hr.le
  obtain ⟨j, hj, he⟩ := h.each (r - 1) (by omega)
  obtain ⟨m, hm, hf⟩ := h.each a ha
  have hy := (atMost_t _ _).1 (hr.yes (r - 1) (by omega))
  rw [he] at hy ⊢
  rw [hf] at h1 h2
  simp only at hy
  simp only at h1 h2 ⊢
  have hji : j ≤ i := by omega
  have hmj : m ≤ j := by
    by_cases e : a = r - 1
    · rw [e, he] at hf
      injection hf with e1 e2 e3
      omega
    · have := h.srt.off a (r - 1) (by omega) (by omega)
      rw [he, hf] at this
      simp only at this
      omega
  have := plc_mono S hji
  have := plc_mono S hmj
  exact ⟨by omega, by omega, by omega, by omega⟩
theorem Laid.low (h : Laid gap S T k x) {r : Nat} (hr : Upto (atMost (-1)) x.L r) : r = 0 := by
  rcases Nat.eq_zero_or_pos r with g | g
  · exact g
  · have hy := (atMost_t _ _).1 (hr.yes 0 g)
    obtain ⟨i, hi, he⟩ := h.each 0 (by have := hr.le; omega)
    rw [he] at hy
    simp only at hy
    omega
/-- what After tells -/
theorem Laid.none_ (h : Laid gap S T k x) {r : Nat} {t : Int} (hr : Upto (ahead_ t) x.L r) (ht : k = 0 ∨ t < 0) : r = 0 := by
  rcases Nat.eq_zero_or_pos r with g | g
  · exact g
  · have hy := (ahead_t _ _).1 (hr.yes 0 g)
    obtain ⟨i, hi, he⟩ := h.each 0 (by have := hr.le; omega)
    rw [he] at hy
    simp only at hy
    have := tmx_low T i
    omega
theorem Laid.some_ (h : Laid gap S T k x) {r : Nat} {t : Int} (hr : Upto (ahead_ t) x.L r) (hk : 0 < k) (ht : 0 ≤ t) : 0 < r := by
  rcases Nat.eq_zero_or_pos r with g | g
  · obtain ⟨a, ha, h1, h2⟩ := h.near 0 hk
    obtain ⟨i, hi, he⟩ := h.each a ha
    have hn := (ahead_f _ _).1 (hr.no a (by omega) ha)
    rw [he] at hn h1
    simp only at h1 hn
    obtain rfl : i = 0 := by omega
    unfold tmx at hn
    omega
  · exact g
theorem Laid.before (h : Laid gap S T k x) {r j : Nat} {t : Int} (hr : Upto (ahead_ t) x.L r) (h0 : 0 < r) (hj : 3 * (j : Int) < (x.L.getD (r - 1) default).off) : tim T j < t := by
  obtain ⟨i, hi, he⟩ := h.each (r - 1) (by have := hr.le; omega)
  have hy := (ahead_t _ _).1 (hr.yes (r - 1) (by omega))
  rw [he] at hy hj
  simp only at hy hj
  have := tmx_ge T i j (by omega)
  omega
theorem Laid.behind (h : Laid gap S T k x) {r a : Nat} {t : Int} (hr : Upto (ahead_ t) x.L r) (h0 : 0 < r) (ht : 0 ≤ t) (ha : a < x.L.length) (hf : (x.L.getD (r - 1) default).off < (x.L.getD a default).off) :
    ∃ j, j < k ∧ 3 * (j : Int) < (x.L.getD a default).off ∧ t ≤ tim T j := by
  have hl := hr.le
  have har : r ≤ a := by
    rcases Nat.lt_or_ge a r with g | g
    · by_cases e : a = r - 1
      · rw [e] at hf; omega
      · have := h.srt.off a (r - 1) (by omega) (by omega)
        omega
    · exact g
  have hn := (ahead_f _ _).1 (hr.no a har ha)
  obtain ⟨i, hi, he⟩ := h.each a ha
  rw [he] at hn ⊢
  simp only at hn
  obtain ⟨j, hj, h2⟩ := tmx_at T t ht i hn
  exact ⟨j, by omega, by simp only; omega, h2⟩
end
theorem Srt.atMost {x : Idx} (h : Srt x) (o : Int) (a b : Nat) (hab : a ≤ b) (hb : b < x.L.length) (hp : atMost o (x.L.getD b default) = true) : atMost o (x.L.getD a default) = true := by
  by_cases e : a = b
  · rw [e]; exact hp
  · have := h.off a b (by omega) hb
    have := (atMost_t _ _).1 hp
    exact (atMost_t _ _).2 (by omega)
theorem Srt.below_ {x : Idx} (h : Srt x) (o : Int) (a b : Nat) (hab : a ≤ b) (hb : b < x.L.length) (hp : below_ o (x.L.getD b default) = true) : below_ o (x.L.getD a default) = true := by
  by_cases e : a = b
  · rw [e]; exact hp
  · have := h.off a b (by omega) hb
    have := (below_t _ _).1 hp
    exact (below_t _ _).2 (by omega)
theorem Srt.ahead_ {x : Idx} (h : Srt x) (t : Int) (a b : Nat) (hab : a ≤ b) (hb : b < x.L.length) (hp : ahead_ t (x.L.getD b default) = true) : ahead_ t (x.L.getD a default) = true := by
  have := h.bf a b hab hb
  have := (ahead_t _ _).1 hp
  exact (ahead_t _ _).2 (by omega)
end Go.Proofs.Ytabbbamokhaaoaa
