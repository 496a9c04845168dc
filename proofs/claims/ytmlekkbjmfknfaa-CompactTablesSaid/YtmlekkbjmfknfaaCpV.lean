/-
  What a table's Apply comes to, of any list; a table beside another one that turns.
-/
import Derived.Test.YtmlekkbjmfknfaaCpU
namespace Go.Proofs.Ytmlekkbjmfknfaa
open Go.RowKit Go.Lib Go.Sort
set_option linter.unusedVariables false
set_option linter.unusedSimpArgs false

def okA (next : Int) (M : List AtC) : Bool := decide (M.length = 0) || okM next M
def appE (next : Int) (M : List AtC) : Int := if okA next M = true then 0 else 8
def appN (next : Int) (M : List AtC) : Int := if M.length = 0 then next else if okM next M = true then (M.getD (M.length - 1) default).off + 1 else next
def appT (next : Int) (M L : List AtC) : List AtC := if okA next M = true then appAll M L else L
theorem Tbl.tw {w w' : World} {base base' g g' : Nat} {next : Int} {v : Value} {L : List AtC} (h : Tbl w base g next v L) (ht : Tw base' g' w w') (hb : w.heap.size ≤ base') (hg : g ≠ g') (hv : v.ownBlock ≠ some g') : Tbl w' base g next v L := by
  refine ⟨(ht.block g (by have := h.lt; omega) hg).trans h.box, ⟨h.row.1, ?_⟩, h.far, h.srt, h.ok⟩
  rcases h.row.2 with h2 | ⟨b, cap, cur, rfl, hb', hh, r⟩
  · exact .inl h2
  · have hbl : b < w.heap.size := (Array.getElem?_eq_some_iff.1 hh).1
    exact .inr ⟨b, cap, cur, rfl, hb', (ht.block b (by omega) (fun e => hv (by rw [e]; rfl))).trans hh, r⟩
theorem Apply_total (base g n c : Nat) (next : Int) (v : Value) (L M : List AtC) (A : Option Addr) (w : World) (hT : Tbl w base g next v L) (hb : base ≤ w.heap.size) (hM : Acs w base A n M) (hne : ∀ p, A = some p → p.block ≠ g) (hm : n ≤ 1000) (hL : L.length ≤ 1000) :
    Calls Try.prog 47 #[.pointer (some ⟨g, 0, none⟩), .slice A n c] w fun e w' => ∃ v', e = .returned (.int .i64 (appE next M)) ∧ Tbl w' base g (appN next M) v' (appT next M L) ∧ Tw base g w w' := by
  have hlen := hM.len
  rcases Nat.eq_zero_or_pos n with h0 | h0
  · subst h0
    have : M = [] := List.length_eq_zero_iff.1 hlen
    subst this
    refine (Apply_none g c A w).mono ?_
    rintro e w' ⟨rfl, rfl⟩
    exact ⟨v, rfl, hT, Tw.refl _ _ _⟩
  · obtain ⟨m, rfl⟩ : ∃ m, n = m + 1 := ⟨n - 1, by omega⟩
    have hl0 : ¬ M.length = 0 := by omega
    cases hok : okM next M with
    | true =>
      have ha : okA next M = true := by unfold okA; rw [hok]; simp
      refine (Apply_ok base g m c next v L M A w hT hb hM hne (by omega) hL hok).mono ?_
      rintro e w' ⟨v', rfl, h1, h2⟩
      refine ⟨v', by unfold appE; rw [if_pos ha], ?_, h2⟩
      unfold appN appT
      rw [if_pos ha, if_neg hl0, if_pos hok]; exact h1
    | false =>
      have ha : okA next M = false := by unfold okA; rw [hok]; simp [hl0]
      refine (Apply_bad base g m c next v L M A w hT (hM.wider hb) (by omega) hok).mono ?_
      rintro e w' ⟨rfl, h2⟩
      refine ⟨v, by unfold appE; rw [ha]; rfl, ?_, Tw.of_below h2 hb⟩
      unfold appN appT
      rw [ha, if_neg hl0, if_neg (by rw [hok]; simp), if_neg (by simp)]; exact hT.below h2
theorem okA_clean {next : Int} {M : List AtC} (h : Int) (hM : okA next M = true) : okA next (cleanR h M) = true := by
  by_cases hc : (cleanR h M).length = 0
  · unfold okA; simp [hc]
  · have hM0 : M ≠ [] := fun e => hc (by rw [e]; rfl)
    have hl : ¬ M.length = 0 := fun e => hM0 (List.length_eq_zero_iff.1 e)
    have hok : okM next M = true := by unfold okA at hM; simpa [hl] using hM
    have := okM_sub hok hM0 (fun e => hc (by rw [e]; rfl)) (clean_sublist h M)
    unfold okA; rw [this]; simp
end Go.Proofs.Ytmlekkbjmfknfaa
