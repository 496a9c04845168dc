/-
  What the document's table's Copy does.
-/
import Derived.Test.YtmlekkbjmfknfaaCtI
import Derived.Deep.RegionLaw
import Derived.Deep.AppendLies
namespace Go.Proofs.Ytmlekkbjmfknfaa
open Go.RowKit Go.Lib Go.Sort
set_option linter.unusedVariables false
set_option linter.unusedSimpArgs false

section
variable {P : Program} {w : World}
theorem run_append_zero (t ty e : TypeId) (i : TypeInfo) (z : Value) (ht : P.underlying t = some (.slice e)) (hi : P.info? e = some i) (hz : i.zero = some z) (A : Option Addr) (c : Nat) (w : World) :
    (Builtin.append_ #[t, t] ty #[.slice none 0 0, .slice A 0 c]).run P w = .ok (.slice none 0 0) w := by
  cases A <;> simp [Builtin.append_, run_underlying ht, sizeOf, typeInfo, hi, hz, Builtin.lenOf, Builtin.firstCells, storeCells, loadCells, loadCellsFrom]
theorem step_append_zero {ops : Array Oper} {o : Oper} {a : Act} {K : Act → World → Prop} {Q : Exit → Act → World → Prop} {E : Prop} (hgd : o.guard = none) (s x : Operand) (t : TypeId)
    (ho : o.op = .call { callee := .builtin .append, args := #[s, x], argTypes := #[t, t] })
    (e : TypeId) (i : TypeInfo) (z : Value) (ht : P.underlying t = some (.slice e)) (hi : P.info? e = some i) (hz : i.zero = some z) (A : Option Addr) (c : Nat)
    (hs : a.eval s = .slice none 0 0) (hx : a.eval x = .slice A 0 c) (h : K (a.put o.dst (.slice none 0 0)) w) :
    if Region.wanted o (yielded ops a.tmps) = true then Oper.wp P o a w K Q else E := by
  rw [if_pos (by simp [Region.wanted, hgd])]
  have hrun := run_append_zero (P := P) t o.type e i z ht hi hz A c w
  unfold Oper.wp execOp
  simp only [ho, resolve, invoke, builtin, Sem.run_bind, Sem.run_pure, Result.andThen_ok, List.map_toArray, List.map_cons, List.map_nil, hs, hx, hrun]
  exact h
end
theorem Rt.drew_ {w : World} {base g : Nat} {next : Int} {v : Value} {R : List AtC} (h : Rt w base g next v R) : Rt w.drew base g next v R := ⟨h.box, h.row, h.far, h.ok⟩
theorem own_ne (gg n cap a H : Nat) (hat : (Value.slice none 0 0).ownBlock = some gg ∨ gg = H) (h : a < H) : (Value.slice (some ⟨gg, 0, none⟩) n cap).ownBlock ≠ some a := by
  rcases hat with e | e
  · cases e
  · intro e2
    have e3 : gg = a := by injection e2
    omega
theorem Rt.copied {w W1 w2 : World} {nb : Nat} {next : Int} {v2 : Value} {R : List AtC} (hb : W1.heap[nb]? = some (.cells #[.int .i64 next, .slice none 0 0] 28 (0, 0))) (hB : Below w.heap.size w W1) (hnb : w.heap.size ≤ nb) (hg : W1.grownBy w2 none) (ho : w2.ownsRow w.heap.size 90 5 v2 R.length (ccells R)) (hv : v2.ownBlock ≠ some nb) (hok : ∀ r ∈ R, r.ok) :
    Rt (w2.setCell ⟨nb, 1, none⟩ v2) w.heap.size nb next v2 R ∧ Below w.heap.size w (w2.setCell ⟨nb, 1, none⟩ v2) := by
  have hbl := (Array.getElem?_eq_some_iff.1 hb).1
  refine ⟨⟨setR1 _ ((hg.block nb hbl (by simp)).trans hb), row_set5 ho hv, hv, hok⟩, ?_⟩
  exact (hB.trans ((Below.refl _ _).grown hg hB.size (fun k hk => by cases hk))).setCell (by show _ ≤ nb; omega) _
set_option maxRecDepth 100000 in
set_option maxHeartbeats 4000000 in
theorem rcopy9_any (base g : Nat) (next : Int) (v : Value) (R : List AtC) (w : World) (hT : Rt w base g next v R) (hR : R.length ≤ 100000) :
    Calls Try.prog 11 #[.pointer (some ⟨g, 0, none⟩)] w fun e w' => ∃ g' v', e = .returned (.pointer (some ⟨g', 0, none⟩)) ∧ Rt w' w.heap.size g' next v' R ∧ w.heap.size ≤ g' ∧ Below w.heap.size w w' := by
  obtain ⟨k0, qk0, qz0, qz1, qz2⟩ := info_parts zero_rat
  obtain ⟨A, c, rfl, hc, _, hA⟩ := Acs.of_row hT.row rfl hT.ok
  have hgl := (Array.getElem?_eq_some_iff.1 hT.box).1
  have c0 : w.cell? ⟨g, 0, none⟩ = some (.int .i64 next) := cell_of_row _ _ 0 _ _ _ hT.box
  have HOK := Lib.hid hT.ok
  have hBx : Below w.heap.size w (w.alloc (.cells #[.int .i64 next, .slice none 0 0] 28)) := (Below.refl _ _).alloc (Nat.le_refl _) _
  have hNx := heap_alloc_new w (.cells #[.int .i64 next, .slice none 0 0] 28)
  obtain ⟨w5, hw5⟩ : ∃ w5, w.alloc (.cells #[.int .i64 next, .slice none 0 0] 28) = w5 := ⟨_, rfl⟩
  rw [hw5] at hBx hNx
  have HW5 := Lib.hid hw5
  have hnl := (Array.getElem?_eq_some_iff.1 hNx).1
  have hA5 := hA.below hBx
  have c1 : w5.cell? ⟨g, 1, none⟩ = some (.slice A R.length c) := cell_of_row _ _ 1 _ _ _ ((hBx.block g hgl).trans hT.box)
  have n1 := cell_of_row _ _ 1 _ _ _ hNx
  have f1 := frozen_of_row _ w.heap.size 1 _ _ hNx
  have HBX : Hid (∀ W : World, W.heap = w5.heap → W.os = w5.os → W.tape = w5.tape → W.output = w5.output → Below w.heap.size w W) := fun W e1 e2 e3 e4 => hBx.trans ⟨e2, e3, e4, by rw [e1]; exact Nat.le_refl _, fun i _ => by rw [e1]⟩
  have HNX : Hid (∀ W : World, W.heap = w5.heap → W.heap[w.heap.size]? = some (.cells #[.int .i64 next, .slice none 0 0] 28 (0, 0))) := fun W e => by rw [e]; exact hNx
  have HNL : Hid (∀ W : World, W.heap = w5.heap → w.heap.size < W.heap.size) := fun W e => by rw [e]; exact hnl
  clear hw5 hBx hNx hT
  go_enter Try.func11, Try.ntmps11
  go_upto_region 2 with fail
  rw [HW5.out]
  clear c0
  rcases Nat.eq_zero_or_pos R.length with h0 | h0
  · have hr : R = [] := List.length_eq_zero_iff.1 h0
    subst hr
    rw [show ([] : List AtC).length = 0 from rfl] at c1
    clear h0 hA hA5
    go_region_law (refine step_append_zero (by rfl) (.tmp 14) (.tmp 18) 26 (by rfl) 90 k0 _ Try.underlying26 qk0 qz0 A c (by rfl) (by rfl) ?_)
    all_goals
      go_wp2_with fail
      go_ret
      have hf := Rt.copied (R := []) (HNX.out _ (by rfl)) (HBX.out _ (by rfl) (by rfl) (by rfl) (by rfl)) (Nat.le_refl _) (World.grownBy.refl _ _) (World.ownsRow_nil _ _ _ _) (by simp [Value.ownBlock]) (by intro r hr; cases hr)
      first | exact ⟨_, _, rfl, hf.1, Nat.le_refl _, hf.2⟩ | exact ⟨_, _, rfl, hf.1.drew_, Nat.le_refl _, hf.2.drew⟩
  · cases A with
    | none =>
      exfalso
      obtain ⟨p, hp, _⟩ := hA.row (k := 0) h0
      cases hp
    | some p =>
      have HNW : Hid (∀ W : World, W.heap = w5.heap → ∀ j u, (ccells R)[j]? = some u → W.cell? (p.add j) = some u) := fun W e j u hj => by
        obtain ⟨q, hq, _, hcq⟩ := hA5.lies.get j u hj
        injection hq with hq
        subst hq
        exact (World.cell?_of_block (a := p.add j) (by rw [e])).trans hcq
      clear hA hA5
      go_region_law (refine step_append_lies _ (by rfl) (.tmp 14) (.tmp 18) 26 (by rfl) w.heap.size 90 k0 _ 5 56 Try.underlying26 qk0 qz0 qz1 qz2 (by rfl) (by decide) (.slice none 0 0) 0 [] (by rfl) (World.ownsRow_nil _ _ _ _) p R.length c (ccells R) (by rfl) (ccells_length R) (HNW.out _ (by rfl)) (ccells_one R) h0 (by unfold maxLen; omega) (by omega) (by have := HNL.out _ (by rfl); exact Nat.le_of_lt this) _ rfl ?_; intro gg cap w1 hown1 hgrow hat hlt'; have y6' := (hgrow.cell_far ⟨w.heap.size, 1, none⟩ (HNL.out _ (by rfl)) (by simp [Value.ownBlock])).trans (cell_of_row _ _ 1 _ _ _ (HNX.out _ (by rfl))); have f6' := (hgrow.frozen_far ⟨w.heap.size, 1, none⟩ (HNL.out _ (by rfl)) (by simp [Value.ownBlock])).trans (frozen_of_row _ _ 1 _ _ (HNX.out _ (by rfl))); have HF1 := Lib.hid (Rt.copied (R := R) (v2 := .slice (some ⟨gg, 0, none⟩) R.length cap) (HNX.out _ (by rfl)) (HBX.out _ (by rfl) (by rfl) (by rfl) (by rfl)) (Nat.le_refl _) hgrow (by simpa using hown1) (own_ne gg R.length cap w.heap.size _ hat (HNL.out _ (by rfl))) HOK.out); clear hgrow hown1 hat)
      all_goals
        go_wp2_with fail
        go_ret
        exact ⟨_, _, rfl, HF1.out.1, Nat.le_refl _, HF1.out.2⟩
end Go.Proofs.Ytmlekkbjmfknfaa
