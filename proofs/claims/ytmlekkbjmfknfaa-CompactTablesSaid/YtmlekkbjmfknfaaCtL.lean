/-
  What a table's Copy does.
-/
import Derived.Test.YtmlekkbjmfknfaaCtI
namespace Go.Proofs.Ytmlekkbjmfknfaa
open Go.RowKit Go.Lib Go.Sort
set_option linter.unusedVariables false
set_option linter.unusedSimpArgs false

set_option maxRecDepth 100000 in
set_option maxHeartbeats 2000000 in
theorem copy9_any (base g : Nat) (next : Int) (v : Value) (L : List AtC) (w : World) (hT : Tbl w base g next v L) (hL : L.length ≤ 100000) :
    Calls Try.prog 10 #[.pointer (some ⟨g, 0, none⟩)] w fun e w' => ∃ g' v', e = .returned (.pointer (some ⟨g', 0, none⟩)) ∧ Tbl w' w.heap.size g' next v' L ∧ w.heap.size ≤ g' ∧ Below w.heap.size w w' := by
  obtain ⟨A, c, rfl, _, _, hA⟩ := hT.acs
  have HC : Hid (∀ W, Below w.heap.size w W → Calls Try.prog 43 #[.slice A L.length c] W fun e w' => ∃ v, e = .returned v ∧ w'.ownsRow w.heap.size 81 5 v L.length (ccells L) ∧ Below W.heap.size W w') := fun W hW => (copied_any A L.length c L W ((hA.below hW).wider hW.size) hL (fun e => (row_none hT.row e).1)).mono fun e w' ⟨v, h1, h2, h3⟩ => ⟨v, h1, row_base5 h2 hW.size, h3⟩
  have HS := Lib.hid hT.srt
  have HO := Lib.hid hT.ok
  have c0 : w.cell? ⟨g, 0, none⟩ = some (.int .i64 next) := cell_of_row _ _ 0 _ _ _ hT.box
  have c1 := hT.c1
  have hgl := hT.lt
  clear hT hA
  go_enter Try.func10, Try.ntmps10
  go_upto_region 3 with fail
  go_region_held3 (fun w' => w'.cell? ⟨g, 0, none⟩ = some (.int .i64 next) ∧ w'.cell? ⟨g, 1, none⟩ = some (.slice A L.length c)) (first | exact ⟨c0, c1⟩ | exact ⟨k0, k1⟩ | go_keep)
    ((go_at_call 43; refine (HC.out _ ((Below.refl _ _).drew)).mono ?_; rintro e w4 ⟨v4, rfl, ho4, hb4⟩; obtain ⟨A4, c4, rfl, _, _⟩ := row_any ho4; have hQ4 : Below w.heap.size w w4 := ((Below.refl _ _).drew).trans (hb4.mono (by simp)); have k0 := (hQ4.cell (p := ⟨g, 0, none⟩) hgl).trans c0; have k1 := (hQ4.cell (p := ⟨g, 1, none⟩) hgl).trans c1))
  all_goals
    go_wp2_with fail
    go_ret
    refine ⟨w4.heap.size, _, rfl, ⟨heap_alloc_new w4 _, ho4.alloc _, ?_, HS.out, HO.out⟩, hQ4.size, hQ4.alloc hQ4.size _⟩
    intro e
    have := (World.ownsRow.lt ho4 _ e).2
    omega
end Go.Proofs.Ytmlekkbjmfknfaa
