/-
  What Apply does to a pair of tables.
-/
import Derived.Test.YtmlekkbjmfknfaaCtM
import Derived.Test.YtmlekkbjmfknfaaPkO
namespace Go.Proofs.Ytmlekkbjmfknfaa
open Go.RowKit Go.Lib Go.Sort
set_option linter.unusedVariables false
set_option linter.unusedSimpArgs false

section
variable {S S' : Nat → Prop} {w w' w'' : World} {g h : Nat} {n n' : Int} {v v' u u' : Value} {L R : List AtC}
theorem appN_in {n : Int} {M : List AtC} (h0 : 0 ≤ n) (h1 : n ≤ 1099511627777) : 0 ≤ appN n M ∧ appN n M ≤ 1099511627777 := by
  unfold appN
  by_cases hl : M.length = 0
  · rw [if_pos hl]; omega
  · rw [if_neg hl]
    by_cases hk : okM n M = true
    · rw [if_pos hk]
      rw [okM_iff _ _ (fun e => hl (by rw [e]; rfl))] at hk
      have := hk.2 (M.getD (M.length - 1) default) (by rw [List.getD_eq_getElem?_getD, List.getElem?_eq_getElem (by omega)]; exact List.getElem_mem _)
      omega
    · rw [if_neg hk]; omega
theorem appT_len (n : Int) (M L : List AtC) : (appT n M L).length ≤ L.length + M.length := by
  unfold appT
  split
  · exact app_len M L
  · omega
/-- the blocks of a pair behind a change -/
def grownS (S : Nat → Prop) (v v' u' : Value) (H : Nat) (k : Nat) : Prop := S k ∨ (H ≤ k ∧ (v'.ownBlock = some k ∨ u'.ownBlock = some k))
theorem TP.applied {M : List AtC} (h1 : TP w S g h n v u L R) (ht : Tbl w' 0 g (appN n M) v' (appT n M L)) (hg : Tg g w w' v v') (hr : Rt w'' 0 h (appN n M) u' (if okA n M = true then rAll M R else R)) (hf : Trv h w' w'' u u') :
    TP w'' (grownS S v v' u' w.heap.size) g h (appN n M) v' u' (appT n M L) (if okA n M = true then rAll M R else R) ∧ Fr S w w'' := by
  have hSz := h1.lt
  have hlg := hSz g h1.sg
  have hlh := hSz h h1.sh
  have hzz := Nat.le_trans hg.size hf.tr.size
  have hv'h : v'.ownBlock ≠ some h := fun e => by
    rcases hg.own h e with e | e
    · exact h1.vh e
    · omega
  have hv'lt := World.ownsRow.lt ht.row
  have hu'g : u'.ownBlock ≠ some g := fun e => by
    rcases hf.own g e with e | e
    · exact h1.ug e
    · have := hg.size; omega
  have hvu : ∀ k, v'.ownBlock = some k → u'.ownBlock ≠ some k := fun k e1 e2 => by
    have hk := (hv'lt k e1).2
    rcases hf.own k e2 with e3 | e3
    · rcases hg.own k e1 with e4 | e4
      · exact h1.vu k e4 e3
      · have := hSz k (h1.su k e3); omega
    · omega
  have hn := appN_in (M := M) h1.n0 h1.n1
  refine ⟨⟨?_, hr, ?_, h1.gh, hv'h, hu'g, hvu, .inl h1.sg, .inl h1.sh, fun k e => ?_, fun k e => ?_, ?_, hn.1, hn.2⟩, ⟨hf.tr.os.trans hg.os, hf.tr.tape.trans hg.tape, hf.tr.output.trans hg.output, hzz, fun k hk hS => ?_⟩⟩
  · refine ⟨(hf.tr.block g (by have := hg.size; omega) h1.gh).trans ht.box, ⟨ht.row.1, ?_⟩, ht.far, ht.srt, ht.ok⟩
    rcases ht.row.2 with h2 | ⟨b, cap, cur, rfl, hb', hh, r⟩
    · exact .inl h2
    · exact .inr ⟨b, cap, cur, rfl, hb', (hf.tr.block b (Array.getElem?_eq_some_iff.1 hh).1 (fun e => hv'h (by rw [e]; rfl))).trans hh, r⟩
  · unfold appT
    by_cases ho : okA n M = true
    · rw [if_pos ho, if_pos ho]; exact h1.alk.all M
    · rw [if_neg ho, if_neg ho]; exact h1.alk
  · rcases hg.own k e with e2 | e2
    · exact .inl (h1.sv k e2)
    · exact .inr ⟨e2, .inl e⟩
  · rcases hf.own k e with e2 | e2
    · exact .inl (h1.su k e2)
    · exact .inr ⟨Nat.le_trans hg.size e2, .inr e⟩
  · rintro k (hk | ⟨_, hk | hk⟩)
    · exact Nat.lt_of_lt_of_le (hSz k hk) hzz
    · exact Nat.lt_of_lt_of_le (hv'lt k hk).2 hf.tr.size
    · exact (World.ownsRow.lt hr.row k hk).2
  · rw [hf.tr.block k (Nat.lt_of_lt_of_le hk hg.size) (fun e => hS (by rw [e]; exact h1.sh)), hg.block k hk (fun e => hS (by rw [e]; exact h1.sg)) (fun e => hS (h1.sv k e))]
end
end Go.Proofs.Ytmlekkbjmfknfaa
