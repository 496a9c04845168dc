/-
  Records at their offsets, as data and in memory; what stays of them; a map of texts to numbers.
-/
import Derived.Test.YtmlekkbjmfknfaaBytesA
import Derived.Maps.RangeWalk
import Derived.StringKeys
import Derived.Deep.RegionHeld3
import Derived.Deep.DeepCutAuto
namespace Go.Proofs.Ytmlekkbjmfknfaa
open Go.RowKit Go.Maps
set_option linter.unusedVariables false
set_option linter.unusedSimpArgs false

structure AtC where
  off : Int
  key : ByteArray
  value : ByteArray
  gone : Bool
  time : Int
instance : Inhabited AtC := ⟨⟨0, ⟨#[]⟩, ⟨#[]⟩, false, 0⟩⟩
def AtC.cells (a : AtC) : List Value := [.int .i64 a.off, .string a.key, .string a.value, .bool a.gone, .int .i64 a.time]
def AtC.ok (a : AtC) : Prop := -9223372036854775808 ≤ a.off ∧ a.off ≤ 9223372036854775807 ∧ a.key.size ≤ 1000000 ∧ a.value.size ≤ 1000000 ∧ -9223372036854775808 ≤ a.time ∧ a.time ≤ 9223372036854775807
def ccells (L : List AtC) : List Value := L.flatMap AtC.cells
theorem ccells_length (L : List AtC) : (ccells L).length = L.length * 5 := by
  induction L with
  | nil => rfl
  | cons r L ih => simp only [ccells, List.flatMap_cons, List.length_append, List.length_cons] at *; rw [ih]; simp only [AtC.cells, List.length_cons, List.length_nil]; omega
theorem ccells_append (L M : List AtC) : ccells (L ++ M) = ccells L ++ ccells M := by simp [ccells]
theorem ccells_get (L : List AtC) : ∀ (k j : Nat), k < L.length → j < 5 → (ccells L)[k * 5 + j]? = ((L.getD k default).cells)[j]? := by
  induction L with
  | nil => intro k j h; exact absurd h (by simp)
  | cons r L ih =>
    intro k j h hj
    have e : ccells (r :: L) = r.cells ++ ccells L := by simp [ccells]
    have hl : r.cells.length = 5 := rfl
    rw [e]
    cases k with
    | zero => rw [List.getElem?_append_left (by omega)]; simp
    | succ k =>
      rw [List.getElem?_append_right (by omega), show (k + 1) * 5 + j - r.cells.length = k * 5 + j from by omega, ih k j (by simpa using h) hj]
      simp
theorem ccells_take (L : List AtC) : ∀ k, (ccells L).take (k * 5) = ccells (L.take k) := by
  induction L with
  | nil => intro k; simp [ccells]
  | cons r L ih =>
    intro k
    have e : ccells (r :: L) = r.cells ++ ccells L := by simp [ccells]
    have hl : r.cells.length = 5 := rfl
    cases k with
    | zero => simp [ccells]
    | succ k =>
      rw [e, show (k + 1) * 5 = r.cells.length + k * 5 from by omega, List.take_length_add_append, ih k]
      simp [ccells]
theorem ccells_drop (L : List AtC) : ∀ k, (ccells L).drop (k * 5) = ccells (L.drop k) := by
  induction L with
  | nil => intro k; simp [ccells]
  | cons r L ih =>
    intro k
    have e : ccells (r :: L) = r.cells ++ ccells L := by simp [ccells]
    have hl : r.cells.length = 5 := rfl
    cases k with
    | zero => simp
    | succ k =>
      rw [e, show (k + 1) * 5 = r.cells.length + k * 5 from by omega, List.drop_length_add_append, ih k]
      simp
/-- '.slice A n c' is a slice of the records L -/
structure Acs (w : World) (B : Nat) (A : Option Addr) (n : Nat) (L : List AtC) : Prop where
  len : L.length = n
  lies : Lies w B A (ccells L)
  fit : ∀ r ∈ L, r.ok
section
variable {w w' : World} {B B' n : Nat} {A : Option Addr} {L : List AtC}
theorem add_pos5 (p : Addr) (j : Nat) (h : 0 < j) : p.add j = ⟨p.block, p.off + j, none⟩ := by unfold Addr.add; rw [if_neg (by omega)]
theorem Acs.nil_ : Acs w B A 0 [] := ⟨rfl, Lies.empty, fun r h => by cases h⟩
theorem Acs.below (h : Acs w B A n L) (hb : Below B w w') : Acs w' B A n L := ⟨h.len, h.lies.keep fun p hp => hb.cell hp, h.fit⟩
theorem Acs.wider (h : Acs w B A n L) (hB : B ≤ B') : Acs w B' A n L := ⟨h.len, h.lies.wider hB, h.fit⟩
theorem Acs.ok_at (h : Acs w B A n L) {k : Nat} (hk : k < n) : (L.getD k default).ok := by
  have := h.len
  rw [List.getD_eq_getElem?_getD, List.getElem?_eq_getElem (by omega)]
  exact h.fit _ (List.getElem_mem _)
theorem Acs.row (h : Acs w B A n L) {k : Nat} (hk : k < n) : ∃ p, A = some p ∧ p.block < B ∧ w.cell? (p.add (k * 5)) = some (.int .i64 (L.getD k default).off) ∧
    w.cell? ⟨(p.add (k * 5)).block, (p.add (k * 5)).off + 1, none⟩ = some (.string (L.getD k default).key) ∧
    w.cell? ⟨(p.add (k * 5)).block, (p.add (k * 5)).off + 2, none⟩ = some (.string (L.getD k default).value) ∧
    w.cell? ⟨(p.add (k * 5)).block, (p.add (k * 5)).off + 3, none⟩ = some (.bool (L.getD k default).gone) ∧
    w.cell? ⟨(p.add (k * 5)).block, (p.add (k * 5)).off + 4, none⟩ = some (.int .i64 (L.getD k default).time) := by
  have hl := h.len
  have g : ∀ j u, j < 5 → ((L.getD k default).cells)[j]? = some u → ∃ p, A = some p ∧ p.block < B ∧ w.cell? ((p.add (k * 5)).add j) = some u := by
    intro j u hj hu
    obtain ⟨p, e, hb, hc⟩ := h.lies.get (k * 5 + j) u ((ccells_get L k j (by omega) hj).trans hu)
    exact ⟨p, e, hb, by rw [add_twice]; exact hc⟩
  obtain ⟨p, e, hb, c0⟩ := g 0 _ (by omega) rfl
  have g' : ∀ j u, 0 < j → j < 5 → ((L.getD k default).cells)[j]? = some u → w.cell? ⟨(p.add (k * 5)).block, (p.add (k * 5)).off + j, none⟩ = some u := fun j u h0 hj hu => by
    obtain ⟨q, e', _, c⟩ := g j u hj hu
    rw [e] at e'
    injection e' with e'
    subst e'
    rw [← add_pos5 _ j h0]; exact c
  refine ⟨p, e, hb, ?_, g' 1 _ (by omega) (by omega) rfl, g' 2 _ (by omega) (by omega) rfl, g' 3 _ (by omega) (by omega) rfl, g' 4 _ (by omega) (by omega) rfl⟩
  rw [add_twice, Nat.add_zero] at c0; exact c0
theorem Acs.take (h : Acs w B A n L) (k : Nat) (hk : k ≤ n) : Acs w B A k (L.take k) :=
  ⟨by have := h.len; simp; omega, by rw [← ccells_take]; exact h.lies.take _, fun r hr => h.fit r (List.mem_of_mem_take hr)⟩
/-- 's[k:]', as the model makes it -/
theorem Acs.drop (h : Acs w B A n L) (k c : Nat) (hk : k ≤ n) (hc : n ≤ c) : Acs w B (if c = k then A else A.map (·.add (k * 5))) (n - k) (L.drop k) := by
  have hl := h.len
  refine ⟨by simp; omega, ?_, fun r hr => h.fit r (List.mem_of_mem_drop hr)⟩
  rw [← ccells_drop]
  have := h.lies.drop (k * 5) (c * 5) (by rw [ccells_length]; omega)
  by_cases e : c = k
  · rw [if_pos e]; rw [if_pos (by omega)] at this; exact this
  · rw [if_neg e]; rw [if_neg (by omega)] at this; exact this
theorem row_any {base s n : Nat} {e : TypeId} {v : Value} {xs : List Value} (h : w.ownsRow base e s v n xs) : ∃ A c, v = .slice A n c ∧ n ≤ c ∧ c ≤ maxLen := by
  rcases h.2 with ⟨rfl, rfl⟩ | ⟨b, cap, cur, rfl, _, _, hnc, hm, _⟩
  · exact ⟨none, 0, rfl, Nat.le_refl _, Nat.zero_le _⟩
  · exact ⟨_, cap, rfl, hnc, hm⟩
/-- an owned slice of records lies in memory -/
theorem Acs.of_row {base : Nat} {T : TypeId} {v : Value} (h : w.ownsRow base T 5 v n (ccells L)) (hn : L.length = n) (hf : ∀ r ∈ L, r.ok) : ∃ A c, v = .slice A n c ∧ n ≤ c ∧ c ≤ maxLen ∧ Acs w w.heap.size A n L := by
  have h0 := h
  rcases h.2 with ⟨rfl, hz⟩ | ⟨b, cap, cur, rfl, hb, hh, hnc, hm, _⟩
  · subst hz
    have : L = [] := List.length_eq_zero_iff.1 hn
    subst this
    exact ⟨none, 0, rfl, Nat.le_refl _, Nat.zero_le _, Acs.nil_⟩
  · refine ⟨_, cap, rfl, hnc, hm, hn, ⟨fun j u hj => ?_⟩, hf⟩
    exact ⟨_, rfl, (Array.getElem?_eq_some_iff.1 hh).1, h0.cells (g := b) rfl j u hj⟩
end
theorem new_cells5 (w : World) (cs : List Value) (e : TypeId) : ∀ j u, cs[j]? = some u → (w.alloc (.cells cs.toArray e)).cell? ((⟨w.heap.size, 0, none⟩ : Addr).add j) = some u := fun j u hj => by
  obtain ⟨q, hq, _, hc⟩ := (Lies.of_new w cs.toArray e).get j u (by simpa using hj)
  injection hq with hq
  subst hq
  exact hc
theorem rowb5 {w w' : World} {base s n : Nat} {e : TypeId} {v : Value} {xs : List Value} (h : w.ownsRow base e s v n xs) (hb : Below w.heap.size w w') : w'.ownsRow base e s v n xs := by
  refine ⟨h.1, ?_⟩
  rcases h.2 with h2 | ⟨b, cap, cur, hv, hb', hh, r⟩
  · exact .inl h2
  · exact .inr ⟨b, cap, cur, hv, hb', (hb.block b (Array.getElem?_eq_some_iff.1 hh).1).trans hh, r⟩
theorem row_base5 {w : World} {base base' s n : Nat} {e : TypeId} {v : Value} {xs : List Value} (h : w.ownsRow base e s v n xs) (hb : base' ≤ base) : w.ownsRow base' e s v n xs := by
  refine ⟨h.1, ?_⟩
  rcases h.2 with h2 | ⟨b, cap, cur, hv, hb', r⟩
  · exact .inl h2
  · exact .inr ⟨b, cap, cur, hv, by omega, r⟩

/-! ### the last record of each key -/
def lastN (L : List AtC) : Nat → ByteArray → Option Nat
  | 0, _ => none
  | k + 1, s => if (L.getD k default).key = s then some k else lastN L k s
theorem lastN_lt (L : List AtC) (k : Nat) (s : ByteArray) (i : Nat) (h : lastN L k s = some i) : i < k := by
  induction k with
  | zero => cases h
  | succ k ih =>
    unfold lastN at h
    split at h
    · injection h with h; omega
    · have := ih h; omega
theorem lastN_some (L : List AtC) (k i : Nat) (hi : i < k) : ∃ j, lastN L k (L.getD i default).key = some j := by
  induction k with
  | zero => omega
  | succ k ih =>
    unfold lastN
    split
    · exact ⟨_, rfl⟩
    · rename_i hne
      exact ih (by rcases Nat.lt_or_ge i k with h | h; · exact h
                   · obtain rfl : i = k := by omega
                     exact absurd rfl hne)
theorem lastN_iff (L : List AtC) (k i : Nat) (hi : i < k) : lastN L k (L.getD i default).key = some i ↔ ∀ j, i < j → j < k → (L.getD j default).key ≠ (L.getD i default).key := by
  induction k with
  | zero => omega
  | succ k ih =>
    unfold lastN
    by_cases e : (L.getD k default).key = (L.getD i default).key
    · rw [if_pos e]
      constructor
      · intro h j h1 h2; injection h with h; omega
      · intro h
        rcases Nat.lt_or_ge i k with h1 | h1
        · exact absurd e (h k h1 (by omega))
        · rw [show k = i by omega]
    · rw [if_neg e]
      have hik : i < k := by
        rcases Nat.lt_or_ge i k with h1 | h1
        · exact h1
        · exact absurd (by rw [show i = k by omega]) e
      rw [ih hik]
      constructor
      · intro h j h1 h2
        rcases Nat.lt_or_ge j k with h3 | h3
        · exact h j h1 h3
        · rw [show j = k by omega]; exact e
      · intro h j h1 h2; exact h j h1 (by omega)
def noKey (s : ByteArray) (l : List AtC) : Bool := l.all fun x => !decide (x.key = s)
theorem noKey_iff {s : ByteArray} {l : List AtC} : noKey s l = true ↔ ∀ x ∈ l, x.key ≠ s := by simp [noKey]
def oldB (h : Int) (a : AtC) : Bool := a.gone && decide (a.time < h)
def cleanR (h : Int) : List AtC → List AtC
  | [] => []
  | a :: l => if (noKey a.key l && !oldB h a) = true then a :: cleanR h l else cleanR h l
theorem cleanR_sub (h : Int) (l : List AtC) : ∀ x ∈ cleanR h l, x ∈ l := by
  induction l with
  | nil => intro x hx; cases hx
  | cons a l ih =>
    intro x hx
    unfold cleanR at hx
    split at hx
    · rcases List.mem_cons.1 hx with rfl | hx
      · simp
      · exact List.mem_cons_of_mem _ (ih x hx)
    · exact List.mem_cons_of_mem _ (ih x hx)
theorem cleanR_len (h : Int) (l : List AtC) : (cleanR h l).length ≤ l.length := by
  induction l with
  | nil => exact Nat.le_refl _
  | cons a l ih => unfold cleanR; split <;> simp <;> omega
def keepK (h : Int) (L : List AtC) (k : Nat) : Bool := decide (lastN L L.length (L.getD k default).key = some k) && !oldB h (L.getD k default)
theorem drop_eq (L : List AtC) (k : Nat) (hk : k < L.length) : L.drop k = L.getD k default :: L.drop (k + 1) := by
  rw [List.drop_eq_getElem_cons hk, List.getD_eq_getElem?_getD, List.getElem?_eq_getElem hk]; rfl
theorem last_all (L : List AtC) (k : Nat) (hk : k < L.length) : decide (lastN L L.length (L.getD k default).key = some k) = noKey (L.getD k default).key (L.drop (k + 1)) := by
  rw [Bool.eq_iff_iff, decide_eq_true_iff, lastN_iff L _ k hk, noKey_iff]
  constructor
  · intro h x hx
    obtain ⟨i, hi, rfl⟩ := List.mem_iff_getElem.1 hx
    rw [List.getElem_drop]
    simp only [List.length_drop] at hi
    have := h (k + 1 + i) (by omega) (by omega)
    rwa [List.getD_eq_getElem?_getD, List.getElem?_eq_getElem (by omega)] at this
  · intro h j h1 h2
    have hm : L.getD j default ∈ L.drop (k + 1) := by
      rw [List.getD_eq_getElem?_getD, List.getElem?_eq_getElem h2]
      exact List.mem_iff_getElem.2 ⟨j - (k + 1), by simp; omega, by simp [List.getElem_drop, show k + 1 + (j - (k + 1)) = j by omega]⟩
    exact h _ hm
theorem clean_step (h : Int) (L : List AtC) (k : Nat) (hk : k < L.length) : cleanR h (L.drop k) = (if keepK h L k = true then [L.getD k default] else []) ++ cleanR h (L.drop (k + 1)) := by
  rw [drop_eq L k hk]
  show (if (noKey _ _ && !oldB h _) = true then _ else _) = _
  unfold keepK
  rw [last_all L k hk]
  split <;> simp
theorem clean_twice (h : Int) (d t : List AtC) : cleanR h (cleanR h t ++ d) = cleanR h (t ++ d) := by
  induction t with
  | nil => rfl
  | cons a t ih =>
    have e : ∀ l, cleanR h (a :: l) = if (noKey a.key l && !oldB h a) = true then a :: cleanR h l else cleanR h l := fun l => rfl
    rw [e t, List.cons_append, e (t ++ d)]
    by_cases hk : (noKey a.key t && !oldB h a) = true
    · rw [if_pos hk, List.cons_append, e, ih]
      rw [Bool.and_eq_true] at hk
      have h1 : noKey a.key (cleanR h t ++ d) = noKey a.key (t ++ d) := by
        have ht := noKey_iff.1 hk.1
        rw [Bool.eq_iff_iff, noKey_iff, noKey_iff]
        constructor
        · intro g x hx
          rcases List.mem_append.1 hx with hx | hx
          · exact ht x hx
          · exact g x (List.mem_append.2 (.inr hx))
        · intro g x hx
          rcases List.mem_append.1 hx with hx | hx
          · exact ht x (cleanR_sub h t x hx)
          · exact g x (List.mem_append.2 (.inr hx))
      rw [h1]
    · rw [if_neg hk, ih, if_neg]
      intro g
      rw [Bool.and_eq_true] at g
      exact hk (by rw [Bool.and_eq_true]; exact ⟨noKey_iff.2 fun x hx => noKey_iff.1 g.1 x (List.mem_append.2 (.inl hx)), g.2⟩)
theorem clean_again (h : Int) (l : List AtC) : cleanR h (cleanR h l) = cleanR h l := by
  have := clean_twice h [] l
  simpa using this
theorem clean_parts (h : Int) (l : List AtC) (k : Nat) : cleanR h (cleanR h (l.take k) ++ l.drop k) = cleanR h l := by
  rw [clean_twice, List.take_append_drop]

/-! ### a map of texts to numbers -/
def heldS (v : Value) : Option (DataW Value × List MemPlace) := some (.held v, [])
theorem heldS_inv {v : Value} {y : DataW Value × List MemPlace} (h : heldS v = some y) : y = (.held v, []) := by unfold heldS at h; injection h with h; exact h.symm
/-- block m is a map of at most n texts, which says f -/
def Ms (P : Program) (kt : TypeId) (w : World) (m n : Nat) (f : ByteArray → Option Nat) : Prop :=
  ∃ D, w.ownsMap P kt heldS m n D ∧ ∀ (s : ByteArray) z, D.atKey (.string s.data.toList) z = match f s with | some i => .held (.int .i64 i) | none => z
section
variable {P : Program} {kt : TypeId} {w w' : World} {m n : Nat} {f : ByteArray → Option Nat}
theorem Ms.lt (h : Ms P kt w m n f) : m < w.heap.size := let ⟨_, h1, _⟩ := h; h1.lt
theorem Ms.kept (h : Ms P kt w m n f) (hb : w'.heap[m]? = w.heap[m]?) : Ms P kt w' m n f := by
  obtain ⟨D, ⟨es, clock, h1, r⟩, h2⟩ := h
  exact ⟨D, ⟨es, clock, hb.trans h1, r⟩, h2⟩
theorem Ms.made (w : World) : Ms P kt (w.alloc (.map #[] 0)) w.heap.size 0 (fun _ => none) := ⟨_, World.ownsMap_made w P kt heldS, fun s z => rfl⟩
theorem Ms.look {t e : TypeId} (h : Ms P kt w m n f) (K : Keyed P kt) (ht : P.underlying t = some (.map kt e)) (hk : P.underlying kt = some .string) (hz : (zeroValue e).run P w = .ok (.int .i64 0) w) (s : ByteArray) (hs : s.size ≤ maxLen) {i : Nat} (hf : f s = some i) :
    (Instr.lookup t (.map (some m)) (.string s) false).run P w = .ok (.int .i64 i) w := by
  obtain ⟨D, h1, h2⟩ := h
  obtain ⟨v, ps, hr, hv⟩ := h1.lookup K ht hz (zd := .held (.int .i64 0)) (zp := []) rfl (WideMaps.keyOf_string_mk hk hs)
  have := heldS_inv hv
  rw [h2, hf] at this
  simp only [Prod.mk.injEq, DataW.held.injEq] at this
  rw [hr, ← this.1]
theorem Ms.store {t e : TypeId} (h : Ms P kt w m n f) (K : Keyed P kt) (ht : P.underlying t = some (.map kt e)) (hk : P.underlying kt = some .string) (hn : n < maxLen) (s : ByteArray) (hs : s.size ≤ maxLen) (i : Nat) :
    ∃ w', (Instr.mapUpdate t (.map (some m)) (.string s) (.int .i64 i)).run P w = .ok () w' ∧ Ms P kt w' m (n + 1) (fun x => if s = x then some i else f x) ∧ w.grownBy w' (some m) := by
  obtain ⟨D, h1, h2⟩ := h
  obtain ⟨w', hr, ho, hg⟩ := h1.update K ht hn (WideMaps.keyOf_string_mk hk hs) (val := .int .i64 i) (d := .held (.int .i64 i)) (ps := []) rfl
  refine ⟨w', hr, ⟨_, ho, fun x z => ?_⟩, hg⟩
  show _ = match (if s = x then some i else f x) with | some i => DataW.held (Value.int .i64 i) | none => z
  by_cases e : s = x
  · subst e
    rw [if_pos rfl, atKey_put_same h1.isMap (by constructor)]
  · rw [if_neg e, atKey_put_other (fun he => e ?_), h2]
    injection he with he
    have : x.data = s.data := Array.toList_inj.1 he
    cases x; cases s; simp at this; rw [this]
end
end Go.Proofs.Ytmlekkbjmfknfaa
