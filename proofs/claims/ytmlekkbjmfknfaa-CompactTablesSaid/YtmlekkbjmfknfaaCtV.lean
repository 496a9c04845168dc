/-
  What a table's Apply comes to, of any list; all blocks but the table's two are as they were.
-/
import Derived.Test.YtmlekkbjmfknfaaCpV
import Derived.Test.YtmlekkbjmfknfaaCtJ
namespace Go.Proofs.Ytmlekkbjmfknfaa
open Go.RowKit Go.Lib Go.Sort
set_option linter.unusedVariables false
set_option linter.unusedSimpArgs false

theorem Apply_tg (base g n c : Nat) (next : Int) (v : Value) (L M : List AtC) (A : Option Addr) (w : World) (hT : Tbl w base g next v L) (hb : base ≤ w.heap.size) (hM : Acs w w.heap.size A n M) (hne : ∀ p, A = some p → p.block ≠ g ∧ v.ownBlock ≠ some p.block) (hm : n ≤ 1000) (hL : L.length ≤ 1000) :
    Calls Try.prog 47 #[.pointer (some ⟨g, 0, none⟩), .slice A n c] w fun e w' => ∃ v', e = .returned (.int .i64 (appE next M)) ∧ Tbl w' base g (appN next M) v' (appT next M L) ∧ Tg g w w' v v' := by
  have hlen := hM.len
  rcases Nat.eq_zero_or_pos n with h0 | h0
  · subst h0
    have : M = [] := List.length_eq_zero_iff.1 hlen
    subst this
    refine (Apply_none g c A w).mono ?_
    rintro e w' ⟨rfl, rfl⟩
    exact ⟨v, rfl, hT, Tg.refl _ _ _⟩
  · obtain ⟨m, rfl⟩ : ∃ m, n = m + 1 := ⟨n - 1, by omega⟩
    have hl0 : ¬ M.length = 0 := by omega
    cases hok : okM next M with
    | true =>
      have ha : okA next M = true := by unfold okA; rw [hok]; simp
      refine (Apply_okG base g m c next v L M A w hT hb hM hne (by omega) hL hok).mono ?_
      rintro e w' ⟨v', rfl, h1, h2⟩
      refine ⟨v', by unfold appE; rw [if_pos ha], ?_, h2⟩
      unfold appN appT
      rw [if_pos ha, if_neg hl0, if_pos hok]; exact h1
    | false =>
      have ha : okA next M = false := by unfold okA; rw [hok]; simp [hl0]
      refine (Apply_bad base g m c next v L M A w hT hM (by omega) hok).mono ?_
      rintro e w' ⟨rfl, h2⟩
      refine ⟨v, by unfold appE; rw [ha]; rfl, ?_, Tg.of_below h2⟩
      unfold appN appT
      rw [ha, if_neg hl0, if_neg (by rw [hok]; simp), if_neg (by simp)]; exact hT.below h2
end Go.Proofs.Ytmlekkbjmfknfaa
