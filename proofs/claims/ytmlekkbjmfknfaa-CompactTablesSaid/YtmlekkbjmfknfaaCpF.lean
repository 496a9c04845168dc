/-
  What slices.Insert does to a slice of records that has no room; and to any.
-/
import Derived.Test.YtmlekkbjmfknfaaCpE
namespace Go.Proofs.Ytmlekkbjmfknfaa
open Go.RowKit Go.Lib
set_option linter.unusedVariables false
set_option linter.unusedSimpArgs false

set_option maxRecDepth 100000 in
set_option maxHeartbeats 4000000 in
theorem insert_grow (base i g cap xb : Nat) (L : List AtC) (x : AtC) (w : World) (hrow : w.ownsRow base 81 5 (.slice (some ⟨g, 0, none⟩) L.length cap) L.length (ccells L)) (hbw : base ≤ w.heap.size) (hi : i < L.length) (hcap : cap < L.length + 1) (hn : L.length ≤ 1000000) (hx : w.heap[xb]? = some (.cells x.cells.toArray 81 (0, 0))) :
    Calls Try.prog 92 #[.slice (some ⟨g, 0, none⟩) L.length cap, .int .i64 i, .slice (some ⟨xb, 0, none⟩) 1 1] w fun e w' => insP base i (.slice (some ⟨g, 0, none⟩) L.length cap) L x w e w' := by
  obtain ⟨j0, qj0, qy0, qy1, qy2⟩ := info_parts zero_at
  rcases hrow.2 with ⟨hz, _⟩ | ⟨g', cap', cur, hv, hb, hh, hnc, hm, hsz, htk⟩
  · cases hz
  injection hv with e1 _ e2
  injection e1 with e1
  injection e1 with e1
  subst e1 e2
  obtain ⟨n, hnn⟩ : ∃ n, L.length = n := ⟨_, rfl⟩
  unfold insP
  rw [hnn] at hrow hi hcap hn hnc htk ⊢
  have hgw : g < w.heap.size := (Array.getElem?_eq_some_iff.1 hh).1
  have hxw : xb < w.heap.size := (Array.getElem?_eq_some_iff.1 hx).1
  have hcell : ∀ t u, (ccells L)[t]? = some u → w.cell? ⟨g, t, none⟩ = some u := fun t u hu => by
    have := hrow.cells (g := g) rfl t u hu
    rwa [add_lit5, Nat.zero_add] at this
  obtain ⟨tl, htl⟩ : ∃ tl, tl = ccells (L.drop i) := ⟨_, rfl⟩
  have htll : tl.length = (n - i) * 5 := by rw [htl, ccells_length, List.length_drop, hnn]
  obtain ⟨hd, hhd⟩ : ∃ hd, hd = ccells (L.take i) := ⟨_, rfl⟩
  have hhdl : hd.length = i * 5 := by rw [hhd, ccells_length, List.length_take, hnn, Nat.min_eq_left (by omega)]
  have hold : (Builtin.firstCells j0.size i (.slice (some ⟨g, 0, none⟩) i cap)).run Try.prog w.drew = .ok hd.toArray w.drew := by
    rw [qy1]
    refine run_firstCells_some (P := Try.prog) w.drew 5 i ⟨g, 0, none⟩ i cap hd hhdl fun t u hu => ?_
    rw [add_lit5, Nat.zero_add]
    refine hcell t u ?_
    rw [hhd, ← ccells_take, List.getElem?_take] at hu
    split at hu
    · exact hu
    · cases hu
  obtain ⟨G, hG⟩ : ∃ G, G = grownCap w (i + (n + 1 - i)) cap 81 := ⟨_, rfl⟩
  have hrz := fun ty => run_append_grow_zeros (P := Try.prog) w 68 3 ty 81 j0 _ .i64 .i64 Try.underlying68 Try.underlying3 qj0 qy0 (some ⟨g, 0, none⟩) i cap hd hold (n + 1 - i) (by omega) (by rw [qy1]; omega) (by omega) (by omega) (by rw [qy2]; omega) (by rw [qy2, show i + (n + 1 - i) = n + 1 by omega]; exact growslice_fits hcap (by omega))
  have hGn : n + 1 ≤ G := by rw [hG]; have := grownCap_ge w (i + (n + 1 - i)) cap 81; omega
  have hGm : G ≤ maxLen := by rw [hG]; exact grownCap_le_maxLen w _ _ _ (by unfold maxLen; omega)
  obtain ⟨C1, hC1⟩ : ∃ C1 : Array Value, C1 = hd.toArray ++ Builtin.zeroCells (Value.cells (.agg #[.int .i64 0, .string ⟨#[]⟩, .string ⟨#[]⟩, .bool false, .int .i64 0])) (n + 1 - i) ++ Builtin.zeroCells (Value.cells (.agg #[.int .i64 0, .string ⟨#[]⟩, .string ⟨#[]⟩, .bool false, .int .i64 0])) (G - (i + (n + 1 - i))) := ⟨_, rfl⟩
  rw [← hG, ← hC1] at hrz
  obtain ⟨W1, hW1⟩ : ∃ W1, W1 = w.drew.alloc (.cells C1 81) := ⟨_, rfl⟩
  obtain ⟨N, hN⟩ : ∃ N, N = w.heap.size := ⟨_, rfl⟩
  have HRZ : Hid (∀ ty, (Builtin.append_ #[68, 3] ty #[.slice (some ⟨g, 0, none⟩) i cap, .int .i64 ((n : Int) + 1 - (i : Int))]).run Try.prog w = .ok (.slice (some ⟨N, 0, none⟩) (n + 1) G) W1) := fun ty => by
    have := hrz ty
    rw [← hW1, ← hN, show i + (n + 1 - i) = n + 1 by omega, show ((n + 1 - i : Nat) : Int) = (n : Int) + 1 - (i : Int) by omega] at this
    exact this
  have hs1 : C1.size = G * 5 := by
    rw [hC1]; simp only [Array.size_append, size_zeroCells, List.size_toArray, hhdl]
    show i * 5 + (n + 1 - i) * 5 + (G - (i + (n + 1 - i))) * 5 = _
    omega
  have ht1 : C1.toList.take (i * 5) = hd := by
    rw [hC1, Array.toList_append, Array.toList_append, List.append_assoc, List.take_append_of_le_length (by simp [hhdl]), List.take_of_length_le (by simp [hhdl])]
  have hh1 : W1.heap[N]? = some (.cells C1 81 (0, 0)) := by rw [hW1, hN]; exact heap_alloc_new w.drew _
  have ho1 : ∀ k, k < N → W1.heap[k]? = w.heap[k]? := fun k hk => by rw [hW1]; exact heap_alloc_old w.drew _ (by rw [hN] at hk; exact hk)
  have hz1 : W1.heap.size = N + 1 := by rw [hW1, hN]; simp
  have hxl : x.cells.length = 5 := rfl
  have h1x : ∀ u ∈ x.cells, u.oneCell' = true := by have := ccells_one [x]; simpa [ccells] using this
  obtain ⟨C2, hC2⟩ : ∃ C2 : Array Value, C2 = (C1.toList.take (i * 5) ++ x.cells ++ C1.toList.drop (i * 5 + x.cells.length)).toArray := ⟨_, rfl⟩
  obtain ⟨W2, hW2⟩ : ∃ W2, W2 = W1.setRow N C2 := ⟨_, rfl⟩
  have hcp1 : ∀ ty, (Builtin.copy_ #[68, 68] ty #[.slice (some ⟨N, i * 5, none⟩) (n + 1 - i) (G - i), .slice (some ⟨xb, 0, none⟩) 1 1]).run Try.prog W1 = .ok (.int .i64 1) W2 := fun ty => by
    have := run_copy_row (P := Try.prog) W1 68 68 ty 81 j0 5 N (i * 5) (n + 1 - i) (G - i) C1 ⟨xb, 0, none⟩ 1 1 1 x.cells Try.underlying68 qj0 qy1 (by simp only [Nat.min_def]; split <;> omega) hxl
      (fun t u hu => by rw [add_lit5, Nat.zero_add]; exact (cell_of_row _ _ t _ _ _ ((ho1 xb (by omega)).trans hx)).trans (by simpa using hu)) hh1 (by rw [hxl, hs1]; omega) h1x
    rw [this, hW2, hC2]; rfl
  have hh2 : W2.heap[N]? = some (.cells C2 81 (0, 0)) := by rw [hW2]; exact setRow_heap W1 N C1 C2 _ _ hh1
  have hs2 : C2.size = G * 5 := by rw [hC2]; simp [hxl, hs1]; omega
  have ht2 : C2.toList.take ((i + 1) * 5) = hd ++ x.cells := by
    have e : C2.toList = C1.toList.take (i * 5) ++ x.cells ++ C1.toList.drop (i * 5 + x.cells.length) := by rw [hC2]
    rw [e, take_put _ _ _ _ (by simp [hs1]; omega) (by rw [hxl]; omega), ht1]
  have ho2 : ∀ k, k < N → W2.heap[k]? = w.heap[k]? := fun k hk => by rw [hW2, setRow_other W1 N k C2 (by omega)]; exact ho1 k hk
  obtain ⟨C3, hC3⟩ : ∃ C3 : Array Value, C3 = (C2.toList.take ((i + 1) * 5) ++ tl ++ C2.toList.drop ((i + 1) * 5 + tl.length)).toArray := ⟨_, rfl⟩
  obtain ⟨W3, hW3⟩ : ∃ W3, W3 = W2.drew.setRow N C3 := ⟨_, rfl⟩
  have hcp2 : Hid (∀ ty, (Builtin.copy_ #[68, 68] ty #[.slice (some ⟨N, (i + 1) * 5, none⟩) (n + 1 - (i + 1)) (G - (i + 1)), .slice (some ⟨g, i * 5, none⟩) (n - i) (cap - i)]).run Try.prog W2.drew = .ok (.int .i64 ((n - i : Nat) : Int)) W3) := fun ty => by
    have := run_copy_row (P := Try.prog) W2.drew 68 68 ty 81 j0 5 N ((i + 1) * 5) (n + 1 - (i + 1)) (G - (i + 1)) C2 ⟨g, i * 5, none⟩ (n - i) (cap - i) (n - i) tl Try.underlying68 qj0 qy1 (by simp only [Nat.min_def]; split <;> omega) htll
      (fun t u hu => by rw [add_lit5]; exact (World.cell?_of_block (a := ⟨g, i * 5 + t, none⟩) (ho2 g (by omega))).trans (hcell _ _ (by rwa [htl, ← ccells_drop, List.getElem?_drop] at hu))) hh2 (by rw [htll, hs2]; omega) (by rw [htl]; exact ccells_one _)
    rw [this, hW3, hC3]; rfl
  have hh3 : W3.heap[N]? = some (.cells C3 81 (0, 0)) := by rw [hW3]; exact setRow_heap W2.drew N C2 C3 _ _ hh2
  have HR : Hid (W3.ownsRow base 81 5 (.slice (some ⟨N, 0, none⟩) (n + 1) G) (n + 1) (ccells (L.take i ++ x :: L.drop i))) := by
    refine ⟨by rw [ccells_length]; simp [hnn]; omega, .inr ⟨N, G, C3, rfl, by rw [hN]; exact hbw, hh3, hGn, hGm, by rw [hC3]; simp [htll, hs2]; omega, ?_⟩⟩
    have e : C3.toList = C2.toList.take ((i + 1) * 5) ++ tl ++ C2.toList.drop ((i + 1) * 5 + tl.length) := by rw [hC3]
    rw [e, take_put _ _ _ _ (by simp [hs2]; omega) (by rw [htll]; omega), ht2, ccells_append, hhd, htl]
    show _ = _ ++ (x.cells ++ ccells (L.drop i))
    rw [List.append_assoc]
  have HG : Hid (w.grownBy W3 (some g)) := by
    refine ⟨?_, ?_, ?_, ?_, fun k hk _ => ?_⟩
    · rw [hW3, hW2, hW1]; rfl
    · rw [hW3, hW2, hW1]; rfl
    · rw [hW3, hW2, hW1]; rfl
    · rw [hW3, hW2]; simp [World.setRow, hz1]; omega
    · rw [hW3, setRow_other _ N k C3 (by omega)]; exact ho2 k (by omega)
  have a0 : ¬ ((i : Int) = (n : Int)) := by omega
  have a1 : ¬ G = i + 1 := by omega
  have a2 : ¬ G = i := by omega
  have a3 : ¬ cap = i := by omega
  have a5 : decide ((cap : Int) < (n : Int) + 1) = true := by simp; omega
  have a6 : i ≤ n := by omega
  have a7 : i ≤ n + 1 := by omega
  have a10 : i ≤ cap := by omega
  have hw1 : IntKind.i64.wrap ((i : Int) + 1) = (i : Int) + 1 := by rw [IntKind.wrap_i64]; omega
  have hb1 : (0 : Int) ≤ (i : Int) + 1 := by omega
  have hb3 : (i : Int) ≤ (n : Int) := by omega
  have hb4 : (i : Int) ≤ (n : Int) + 1 := by omega
  have a8 : ((i : Int) + 1).toNat = i + 1 := by omega
  have a9 : ((n : Int) + 1).toNat = n + 1 := by omega
  clear hW1 hW2 hW3 hh1 hh2 hh3 hs1 hs2 hC1 hC2 hC3 hcell htl htll hhd hhdl h1x hxl hh hsz htk hrow hnn hx hold hrz ht1 ht2 ho1 ho2 hz1 hG
  have HN := Lib.hid hN
  clear hN
  have mixed : Try.prog.follows Departure.mixedOrders = true := by kernel_rfl
  go_enter Try.func92, Try.ntmps92
  go_wp2_with (at_builtin; refine Lib.wpList_append_run _ rfl _ _ _ _ rfl _ _ rfl rfl _ _ (HRZ.out _) ?_)
  go_region_law_o (refine step_copy_runI rfl _ _ 68 68 rfl _ _ (by simp [Act.eval, Act.put]) (by simp [Act.eval, Act.put]) (hcp2.out _) ?_)
  go_wp2_with fail
  go_ret
  exact ⟨_, rfl, HR.out, .inr (by show some N = _; rw [HN.out]), HG.out⟩

theorem insert_any (base i xb : Nat) (v : Value) (L : List AtC) (x : AtC) (w : World) (hrow : w.ownsRow base 81 5 v L.length (ccells L)) (hbw : base ≤ w.heap.size) (hi : i ≤ L.length) (hn : L.length ≤ 1000000) (hx : w.heap[xb]? = some (.cells x.cells.toArray 81 (0, 0))) (hne : v.ownBlock ≠ some xb) :
    Calls Try.prog 92 #[v, .int .i64 i, .slice (some ⟨xb, 0, none⟩) 1 1] w fun e w' => insP base i v L x w e w' := by
  by_cases he : i = L.length
  · subst he
    exact insert_end base xb v L x w hrow hbw hn hx
  · rcases hrow.2 with ⟨_, hz⟩ | ⟨g, cap, cur, rfl, hb, hh, hnc, hm, _, _⟩
    · omega
    · rcases Nat.lt_or_ge cap (L.length + 1) with hc | hc
      · exact insert_grow base i g cap xb L x w hrow hbw (by omega) hc hn hx
      · exact insert_shift base i g cap xb L x w hrow (by omega) hc hn hx (fun e => hne (by rw [e]; rfl))
end Go.Proofs.Ytmlekkbjmfknfaa
