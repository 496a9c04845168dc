/-
  What slices.Insert does to a slice of records, one record being put into it.
-/
import Derived.Test.YtmlekkbjmfknfaaCpD
namespace Go.Proofs.Ytmlekkbjmfknfaa
open Go.RowKit Go.Lib
set_option linter.unusedVariables false
set_option linter.unusedSimpArgs false

theorem take_put {α : Type} (cur vs : List α) (off k : Nat) (h : off ≤ cur.length) (hk : k = off + vs.length) : (cur.take off ++ vs ++ cur.drop (off + vs.length)).take k = cur.take off ++ vs := by
  subst hk
  rw [List.take_append_of_le_length (by simp; omega), List.take_of_length_le (by simp; omega)]
theorem size_put {α : Type} (cur vs : List α) (off : Nat) (h : off + vs.length ≤ cur.length) : (cur.take off ++ vs ++ cur.drop (off + vs.length)).length = cur.length := by simp; omega
theorem add_lit5 (g o t : Nat) : (⟨g, o, none⟩ : Addr).add t = ⟨g, o + t, none⟩ := by unfold Addr.add; split <;> simp_all

def insP (base i : Nat) (v : Value) (L : List AtC) (x : AtC) (w : World) (e : Ending) (w' : World) : Prop :=
  ∃ v', e = .returned v' ∧ w'.ownsRow base 81 5 v' (L.length + 1) (ccells (L.take i ++ x :: L.drop i)) ∧ (v'.ownBlock = v.ownBlock ∨ v'.ownBlock = some w.heap.size) ∧ w.grownBy w' v.ownBlock

set_option maxRecDepth 100000 in
set_option maxHeartbeats 4000000 in
theorem insert_end (base xb : Nat) (v : Value) (L : List AtC) (x : AtC) (w : World) (hrow : w.ownsRow base 81 5 v L.length (ccells L)) (hb : base ≤ w.heap.size) (hn : L.length ≤ 1000000) (hx : w.heap[xb]? = some (.cells x.cells.toArray 81 (0, 0))) :
    Calls Try.prog 92 #[v, .int .i64 (L.length : Int), .slice (some ⟨xb, 0, none⟩) 1 1] w fun e w' => insP base L.length v L x w e w' := by
  obtain ⟨j0, qj0, qy0, qy1, qy2⟩ := info_parts zero_at
  have hnews : ∀ j u, x.cells[j]? = some u → w.cell? ((⟨xb, 0, none⟩ : Addr).add j) = some u := fun j u hu => by
    rw [add_lit5, Nat.zero_add]
    exact cell_of_row _ _ j _ _ _ hx |>.trans (by simpa using hu)
  have e1 : ccells (L.take L.length ++ x :: L.drop L.length) = ccells L ++ x.cells := by rw [List.take_length, List.drop_length, ccells_append]; simp [ccells]
  obtain ⟨A, c, hv, hc, hcm⟩ := row_any hrow
  subst hv
  unfold insP
  rw [e1]
  have h1 : ∀ u ∈ x.cells, u.oneCell' = true := by have := ccells_one [x]; simpa [ccells] using this
  have hxl : x.cells.length = 1 * 5 := rfl
  generalize x.cells = xc at *
  obtain ⟨n, hnn⟩ : ∃ n, L.length = n := ⟨_, rfl⟩
  rw [hnn] at hrow hn hc ⊢
  generalize ccells L = LC at *
  clear hx e1 hnn
  by_cases hcn : c = n
  · have hcn := hcn.symm
    subst hcn
    go_enter Try.func92, Try.ntmps92
    go_wp2_with (at_builtin; go_loud (refine wpList_append_own_at _ rfl (.tmp 23) (.tmp 24) 68 rfl base 81 j0 _ 5 56 Try.underlying68 qj0 qy0 qy1 qy2 rfl (by decide) _ n LC rfl hrow ⟨xb, 0, none⟩ 1 1 xc rfl hxl hnews h1 ?g2 ?g3 hb ?_))
    case g2 => unfold maxLen; omega
    case g3 => omega
    intro va w7 hown7 hg7 _ hat
    go_wp2_with fail
    go_ret
    exact ⟨va, rfl, hown7, hat, hg7⟩
  · skip
    go_enter Try.func92, Try.ntmps92
    go_wp2_with (at_builtin; go_loud (refine wpList_append_own_at _ rfl (.tmp 23) (.tmp 24) 68 rfl base 81 j0 _ 5 56 Try.underlying68 qj0 qy0 qy1 qy2 rfl (by decide) _ n LC rfl hrow ⟨xb, 0, none⟩ 1 1 xc rfl hxl hnews h1 ?g2 ?g3 hb ?_))
    case g2 => unfold maxLen; omega
    case g3 => omega
    intro va w7 hown7 hg7 _ hat
    go_wp2_with fail
    go_ret
    exact ⟨va, rfl, hown7, hat, hg7⟩
set_option maxRecDepth 100000 in
set_option maxHeartbeats 4000000 in
theorem insert_shift (base i g cap xb : Nat) (L : List AtC) (x : AtC) (w : World) (hrow : w.ownsRow base 81 5 (.slice (some ⟨g, 0, none⟩) L.length cap) L.length (ccells L)) (hi : i < L.length) (hcap : L.length + 1 ≤ cap) (hn : L.length ≤ 1000000) (hx : w.heap[xb]? = some (.cells x.cells.toArray 81 (0, 0))) (hne : xb ≠ g) :
    Calls Try.prog 92 #[.slice (some ⟨g, 0, none⟩) L.length cap, .int .i64 i, .slice (some ⟨xb, 0, none⟩) 1 1] w fun e w' => insP base i (.slice (some ⟨g, 0, none⟩) L.length cap) L x w e w' := by
  obtain ⟨j0, qj0, qy0, qy1, qy2⟩ := info_parts zero_at
  rcases hrow.2 with ⟨hz, _⟩ | ⟨g', cap', cur, hv, hb, hh, hnc, hm, hsz, htk⟩
  · cases hz
  injection hv with e1 _ e2
  injection e1 with e1
  injection e1 with e1
  subst e1 e2
  obtain ⟨n, hnn⟩ : ∃ n, L.length = n := ⟨_, rfl⟩
  unfold insP
  rw [hnn] at hrow hi hcap hn hnc htk ⊢
  have hcell : ∀ t u, (ccells L)[t]? = some u → w.cell? ⟨g, t, none⟩ = some u := fun t u hu => by
    have := hrow.cells (g := g) rfl t u hu
    rwa [add_lit5, Nat.zero_add] at this
  obtain ⟨tl, htl⟩ : ∃ tl, tl = ccells (L.drop i) := ⟨_, rfl⟩
  have htll : tl.length = (n - i) * 5 := by rw [htl, ccells_length, List.length_drop, hnn]
  have hov : ∀ lb cb, (callFunc 109 #[.slice (some ⟨xb, 0, none⟩) 1 1, .slice (some ⟨g, (i + 1) * 5, none⟩) lb cb]).run Try.prog w = .ok (.value (.bool false)) w := fun lb cb => by
    rw [run_callFunc_extern Try.func109 (by kernel_rfl) (by kernel_rfl) (by kernel_rfl) (e := Extern.SlicesOverlaps.overlaps #[68, 68] #[4]) (by kernel_rfl),
      Lib.run_overlaps_apart w 68 4 81 Try.underlying68 5 (fun w => by kernel_rfl) ⟨xb, 0, none⟩ ⟨g, (i + 1) * 5, none⟩ 1 1 lb cb hne 81 81 5 (cap * 5) (by simp [World.shape?, hx, AtC.cells]) (by simp [World.shape?, hh, hsz]) (by omega) (by simp [World.frozen?, hx]) (by simp [World.frozen?, hx])]
    rfl
  obtain ⟨C1, hC1⟩ : ∃ C1 : Array Value, C1 = (cur.toList.take ((i + 1) * 5) ++ tl ++ cur.toList.drop ((i + 1) * 5 + tl.length)).toArray := ⟨_, rfl⟩
  obtain ⟨W1, hW1⟩ : ∃ W1, W1 = w.drew.setRow g C1 := ⟨_, rfl⟩
  have hs1 : C1.size = cap * 5 := by rw [hC1]; simp [htll, hsz]; omega
  have hcp1 : Hid (∀ ty, (Builtin.copy_ #[68, 68] ty #[.slice (some ⟨g, (i + 1) * 5, none⟩) (n + 1 - (i + 1)) (cap - (i + 1)), .slice (some ⟨g, i * 5, none⟩) (n + 1 - i) (cap - i)]).run Try.prog w.drew = .ok (.int .i64 ((n - i : Nat) : Int)) W1) := fun ty => by
    have := run_copy_row (P := Try.prog) w.drew 68 68 ty 81 j0 5 g ((i + 1) * 5) (n + 1 - (i + 1)) (cap - (i + 1)) cur ⟨g, i * 5, none⟩ (n + 1 - i) (cap - i) (n - i) tl Try.underlying68 qj0 qy1 (by simp only [Nat.min_def]; split <;> omega) htll
      (fun t u hu => by rw [add_lit5]; exact hcell _ _ (by rwa [htl, ← ccells_drop, List.getElem?_drop] at hu)) hh (by rw [htll, hsz]; omega) (by rw [htl]; exact ccells_one _)
    rw [this, hW1, hC1]; rfl
  have hh1 : W1.heap[g]? = some (.cells C1 81 (0, 0)) := by rw [hW1]; exact setRow_heap w.drew g cur C1 _ _ hh
  have hx1 : W1.heap[xb]? = some (.cells x.cells.toArray 81 (0, 0)) := by rw [hW1]; exact (setRow_other w.drew g xb C1 hne).trans hx
  have hxl : x.cells.length = 5 := rfl
  have h1x : ∀ u ∈ x.cells, u.oneCell' = true := by have := ccells_one [x]; simpa [ccells] using this
  obtain ⟨C2, hC2⟩ : ∃ C2 : Array Value, C2 = (C1.toList.take (i * 5) ++ x.cells ++ C1.toList.drop (i * 5 + x.cells.length)).toArray := ⟨_, rfl⟩
  obtain ⟨W2, hW2⟩ : ∃ W2, W2 = W1.setRow g C2 := ⟨_, rfl⟩
  have hcp2 : Hid (∀ ty, (Builtin.copy_ #[68, 68] ty #[.slice (some ⟨g, i * 5, none⟩) (n + 1 - i) (cap - i), .slice (some ⟨xb, 0, none⟩) 1 1]).run Try.prog W1 = .ok (.int .i64 1) W2) := fun ty => by
    have := run_copy_row (P := Try.prog) W1 68 68 ty 81 j0 5 g (i * 5) (n + 1 - i) (cap - i) C1 ⟨xb, 0, none⟩ 1 1 1 x.cells Try.underlying68 qj0 qy1 (by simp only [Nat.min_def]; split <;> omega) hxl
      (fun t u hu => by rw [add_lit5, Nat.zero_add]; exact (cell_of_row _ _ t _ _ _ hx1).trans (by simpa using hu)) hh1 (by rw [hxl, hs1]; omega) h1x
    rw [this, hW2, hC2]; rfl
  have hh2 : W2.heap[g]? = some (.cells C2 81 (0, 0)) := by rw [hW2]; exact setRow_heap W1 g C1 C2 _ _ hh1
  have hs2 : C2.size = cap * 5 := by rw [hC2]; simp [hxl, hs1]; omega
  have HR : Hid (W2.ownsRow base 81 5 (.slice (some ⟨g, 0, none⟩) (n + 1) cap) (n + 1) (ccells (L.take i ++ x :: L.drop i))) := by
    refine ⟨by rw [ccells_length]; simp [hnn]; omega, .inr ⟨g, cap, C2, rfl, hb, hh2, hcap, hm, hs2, ?_⟩⟩
    have e1 : cur.toList.take (i * 5) = ccells (L.take i) := by rw [← ccells_take, ← htk, List.take_take, Nat.min_eq_left (by omega)]
    have hcl : cur.toList.length = cap * 5 := by simp [hsz]
    have e3 : C1.toList.take (i * 5) = ccells (L.take i) := by
      rw [hC1, ← e1]; simp only [List.append_assoc]; rw [List.take_append_of_le_length (by simp [hsz]; omega), List.take_take, Nat.min_eq_left (by omega)]
    have e4 : C1.toList.take ((n + 1) * 5) = cur.toList.take ((i + 1) * 5) ++ tl := by rw [hC1]; exact take_put _ _ _ _ (by rw [hcl]; omega) (by rw [htll]; omega)
    have e5 : C1.toList.drop (i * 5 + 5) = (C1.toList.drop (i * 5 + 5)) := rfl
    rw [hC2]
    show ((C1.toList.take (i * 5) ++ x.cells) ++ C1.toList.drop (i * 5 + x.cells.length)).take ((n + 1) * 5) = _
    rw [List.take_append, List.take_of_length_le (by simp [hxl]; omega), e3]
    have e6 : (C1.toList.drop (i * 5 + x.cells.length)).take ((n + 1) * 5 - (ccells (L.take i) ++ x.cells).length) = tl := by
      rw [List.length_append, ccells_length, List.length_take, hnn, hxl, Nat.min_eq_left (by omega), ← List.drop_take, e4, List.drop_append_of_le_length (by simp [hsz]; omega), List.drop_of_length_le (by simp; omega), List.nil_append]
    rw [e6, ccells_append]
    show _ = _ ++ (x.cells ++ ccells (L.drop i))
    rw [List.append_assoc, htl]
  have HG : Hid (w.grownBy W2 (some g)) := by
    show World.grownBy _ _ _
    rw [hW2, hW1]
    exact grown_setRow (grown_setRow (show w.grownBy w.drew (some g) from ⟨rfl, rfl, rfl, Nat.le_refl _, fun _ _ _ => rfl⟩) C1) C2
  have a0 : ¬ ((i : Int) = (n : Int)) := by omega
  have a1 : ¬ cap = i + 1 := by omega
  have a2 : ¬ cap = i := by omega
  have a3 : ¬ cap < n + 1 := by omega
  have a4 : (((n : Int) + 1) > (cap : Int)) = False := by simp; omega
  have a5 : decide ((cap : Int) < (n : Int) + 1) = false := by simp; omega
  have a6 : i ≤ n := by omega
  have a7 : i ≤ n + 1 := by omega
  have hw1 : IntKind.i64.wrap ((i : Int) + 1) = (i : Int) + 1 := by rw [IntKind.wrap_i64]; omega
  have hb1 : (0 : Int) ≤ (i : Int) + 1 := by omega
  have hb3 : (i : Int) ≤ (n : Int) := by omega
  have hb4 : (i : Int) ≤ (n : Int) + 1 := by omega
  have a8 : ((i : Int) + 1).toNat = i + 1 := by omega
  have a9 : ((n : Int) + 1).toNat = n + 1 := by omega
  clear hW1 hW2 hh1 hh2 hs1 hs2 hC1 hC2 hcell htl htll h1x hxl hh hsz htk hrow hnn hx hx1
  have mixed : Try.prog.follows Departure.mixedOrders = true := by kernel_rfl
  go_enter Try.func92, Try.ntmps92
  go_wp2_with (simp only [hov])
  go_region_law_o (refine step_copy_runI rfl _ _ 68 68 rfl _ _ (by simp [Act.eval, Act.put]) (by simp [Act.eval, Act.put]) (hcp1.out _) ?_)
  have hcp2' := hcp2.out
  go_wp2_with fail
  go_ret
  exact ⟨_, rfl, HR.out, .inl rfl, HG.out⟩
end Go.Proofs.Ytmlekkbjmfknfaa
