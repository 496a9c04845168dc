/-
  Free, Read, and whether parts fit.
-/
import Derived.Test.YtebkgcnldbkgeaaDkD
namespace Go.Proofs.Ytebkgcnldbkgeaa
open Go.RowKit Go.Lib Go.Sort Go.Maps
set_option linter.unusedVariables false
set_option linter.unusedSimpArgs false

theorem used_mem {H : List Hd} {f : Hd} (h : f ∈ H) : f.b.length ≤ usedH H := by
  induction H with
  | nil => cases h
  | cons y l ih =>
    have e : usedH (y :: l) = y.b.length + usedH l := by unfold usedH; simp
    rw [e]
    rcases List.mem_cons.1 h with rfl | h
    · omega
    · have := ih h; omega
def freeD (D : Dsk) : Nat := (D.room - (usedH D.H : Int)).toNat
set_option maxRecDepth 100000 in
set_option maxHeartbeats 2000000 in
theorem free_any (base d : Nat) (D : Dsk) (w : World) (h : Dk w base d D) :
    Calls Try.prog 21 #[.pointer (some ⟨d, 0, none⟩)] w fun e w' => e = .returned (.int .i64 (freeD D : Int)) ∧ Below w.heap.size w w' := by
  have HU : Hid (∀ W, Below w.heap.size w W → Calls Try.prog 20 #[.pointer (some ⟨d, 0, none⟩)] W fun e w' => e = .returned (.int .i64 (usedH D.H : Int)) ∧ Below W.heap.size W w') := fun W hW => used_any base d D W (h.below hW (Nat.le_refl _))
  have c1 := h.c1
  have r1 := h.r1
  have r2 := h.r2
  have ht := h.tot
  have hdl := h.dlt
  have hmx : max (D.room - (usedH D.H : Int)) 0 = (freeD D : Int) := by
    unfold freeD
    omega
  clear h
  generalize usedH D.H = us at *
  generalize (freeD D : Int) = fr at *
  generalize D.room = room at *
  have ew : IntKind.i64.wrap (room - (us : Int)) = room - (us : Int) := by rw [IntKind.wrap_i64]; omega
  go_enter Try.func21, Try.ntmps21
  go_upto_region 3 with fail
  go_region_held3 (fun w' => w'.cell? ⟨d, 1, none⟩ = some (.int .i64 room)) (first | exact c1 | exact x1 | go_keep)
    (first | (go_at_call 20; refine (HU.out w.drew ((Below.refl _ _).drew)).mono ?_; rintro e w1 ⟨rfl, hb1⟩; have x1 : w1.cell? ⟨d, 1, none⟩ = some (.int .i64 room) := (hb1.cell (p := ⟨d, 1, none⟩) hdl).trans c1))
  all_goals
    have HB1 := Lib.hid hb1
    go_wp2_with fail
    all_goals
      go_ret
      refine ⟨?_, ((Below.refl _ _).drew).trans HB1.out⟩
      first
        | rfl
        | (show Ending.returned (Value.int .i64 (room - (us : Int))) = Ending.returned (Value.int .i64 fr); have e9 : room - (us : Int) = fr := (by omega); rw [e9])
        | (show Ending.returned (Value.int .i64 (0 : Int)) = Ending.returned (Value.int .i64 fr); have e9 : (0 : Int) = fr := (by omega); rw [e9])
set_option maxRecDepth 100000 in
set_option maxHeartbeats 2000000 in
theorem read_any4 (base d : Nat) (D : Dsk) (s : ByteArray) (w : World) (h : Dk w base d D) (hs : s.size ≤ maxLen) :
    Calls Try.prog 12 #[.pointer (some ⟨d, 0, none⟩), .string s] w fun e w' => (match D.at_ s with | none => e = .returned (.tuple #[.slice none 0 0, .int .i64 3]) | some f => ∃ v, e = .returned (.tuple #[v, .int .i64 0]) ∧ Own w' w.heap.size v f.b) ∧ Below w.heap.size w w' := by
  have HF := Lib.hid (file_any base d D s w h hs)
  cases ha : D.at_ s with
  | none =>
    rw [ha] at HF
    unfold ptrO at HF
    simp only at HF ⊢
    clear h ha
    go_enter Try.func12, Try.ntmps12
    go_wp2_with (go_at_call 28; (with_reducible refine HF.out.mono ?_); rintro e w1 ⟨rfl, hw1⟩; have hw1' := hw1.symm; subst hw1')
    go_ret2
    exact ⟨rfl, Below.refl _ _⟩
  | some f =>
    have hfl := h.fl f (at_mem ha)
    have ht := h.tot
    obtain ⟨Af, cf, hv, hcf, hcm⟩ := slice_of_row hfl.row
    have hbl : f.b.length ≤ 4194304 := Nat.le_trans (used_mem (at_mem ha)) ht
    have hbs : Bs w w.heap.size Af f.b.length f.b := by
      have := hfl.row
      rw [hv] at this
      exact ⟨rfl, Lies.of_row this⟩
    have HC := Lib.hid (cloneD_any Af f.b.length cf w.heap.size f.b w hbs (by omega) (Nat.le_refl _))
    have c0 : w.cell? ⟨f.fb, 0, none⟩ = some f.v := cell_of_row w _ 0 _ _ _ hfl.blk
    rw [hv] at c0
    rw [ha] at HF
    unfold ptrO Hd.ptr at HF
    simp only at HF ⊢
    clear h ha hfl hv hbs
    generalize f.b.length = bl at *
    go_enter Try.func12, Try.ntmps12
    go_wp2_with (first
      | (go_at_call 28; (with_reducible refine HF.out.mono ?_); rintro e w1 ⟨rfl, hw1⟩; have hw1' := hw1.symm; subst hw1')
      | (go_at_call 37; (with_reducible refine HC.out.mono ?_); rintro e w2 ⟨v2, rfl, ho2, hb2⟩))
    go_ret2
    exact ⟨⟨_, rfl, ho2⟩, hb2⟩
end Go.Proofs.Ytebkgcnldbkgeaa
