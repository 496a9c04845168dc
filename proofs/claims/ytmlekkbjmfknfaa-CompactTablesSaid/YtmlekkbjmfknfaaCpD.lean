/-
  What slices.Delete does to a slice of records.
-/
import Derived.Test.YtmlekkbjmfknfaaCpC
import Derived.Shelf.Spec.SlicesInsert
import Derived.Lib.AppendZerosOnto
namespace Go.Proofs.Ytmlekkbjmfknfaa
open Go.RowKit Go.Lib
set_option linter.unusedVariables false
set_option linter.unusedSimpArgs false

theorem step_wanted {P : Program} {ops : Array Oper} {o : Oper} {a : Act} {w : World} {K : Act → World → Prop} {Q : Exit → Act → World → Prop} {E : Prop} (hg : o.guard = none) (h : Oper.wp P o a w K Q) :
    if Region.wanted o (yielded ops a.tmps) = true then Oper.wp P o a w K Q else E := by
  have hw : Region.wanted o (yielded ops a.tmps) = true := by simp [Region.wanted, hg]
  rw [if_pos hw]; exact h
/-- copy, into a row of memory of elements of any size -/
theorem run_copy_row {P : Program} (w : World) (dT sT ty elem : TypeId) (i : TypeInfo) (s g off dLen dCap : Nat) (cur : Array Value) (a : Addr) (sLen sCap m : Nat) (cs : List Value) (hu : P.underlying dT = some (.slice elem)) (hi : P.info? elem = some i) (hs : i.size = s)
    (hm : Nat.min sLen dLen = m) (hl : cs.length = m * s) (hsrc : ∀ j v, cs[j]? = some v → w.cell? (a.add j) = some v) (hg : w.heap[g]? = some (.cells cur elem (0, 0))) (hfit : off + cs.length ≤ cur.size) (h1 : ∀ v ∈ cs, v.oneCell' = true) :
    (Builtin.copy_ #[dT, sT] ty #[.slice (some ⟨g, off, none⟩) dLen dCap, .slice (some a) sLen sCap]).run P w = .ok (goInt m) (w.setRow g (cur.toList.take off ++ cs ++ cur.toList.drop (off + cs.length)).toArray) := by
  subst hs
  have hf := run_firstCells_some (P := P) w i.size m a sLen sCap cs hl hsrc
  have hst := run_storeCells_at P g off elem cs 0 cur w hg (by simpa using hfit) h1
  simp only [Nat.add_zero] at hst
  simp [Builtin.copy_, run_underlying hu, Builtin.lenOf, sizeOf, typeInfo, hi, hm, hf, hst]
/-- clear, of a row of memory -/
theorem run_clear_row {P : Program} (w : World) (t e ty : TypeId) (z : Value) (ht : P.underlying t = some (.slice e)) (hv : ∀ w, (zeroValue e).run P w = .ok z w) (g off c : Nat) (cur : Array Value) (hg : w.heap[g]? = some (.cells cur e (0, 0)))
    (hfit : off + z.cells.size ≤ cur.size) (h1 : ∀ v ∈ z.cells.toList, v.oneCell' = true) :
    (Builtin.clear_ #[t] ty #[.slice (some ⟨g, off, none⟩) 1 c]).run P w = .ok (.tuple #[]) (w.setRow g (cur.toList.take off ++ z.cells.toList ++ cur.toList.drop (off + z.cells.toList.length)).toArray) := by
  have hzc : (Builtin.zeroCells z.cells 1).toList = z.cells.toList := by
    simp only [Builtin.zeroCells, Nat.one_mul]
    apply List.ext_getElem
    · simp
    · intro i h1 h2
      simp at h1 h2
      simp [Nat.mod_eq_of_lt h2]
      rw [getElem!_pos z.cells i h2]
  have hst := run_storeCells_at P g off e z.cells.toList 0 cur w hg (by simpa using hfit) h1
  simp only [Nat.add_zero] at hst
  simp [Builtin.clear_, run_underlying ht, hv, hzc, hst]
theorem zero_at_run (w : World) : (zeroValue 81).run Try.prog w = .ok (.agg #[.int .i64 0, .string ⟨#[]⟩, .string ⟨#[]⟩, .bool false, .int .i64 0]) w := by kernel_rfl
theorem ccells_one (L : List AtC) : ∀ u ∈ ccells L, u.oneCell' = true := by
  intro u hu
  obtain ⟨a, _, ha⟩ := List.mem_flatMap.1 hu
  simp only [AtC.cells, List.mem_cons, List.not_mem_nil, or_false] at ha
  rcases ha with rfl | rfl | rfl | rfl | rfl <;> rfl
theorem grown_setRow {w w1 : World} {g : Nat} (h : w.grownBy w1 (some g)) (cs : Array Value) : w.grownBy (w1.setRow g cs) (some g) :=
  ⟨h.1, h.2, h.3, by simpa [World.setRow] using h.size, fun k hk hne => by rw [setRow_other w1 g k cs (fun e => hne (by rw [e]))]; exact h.block k hk hne⟩

set_option maxRecDepth 100000 in
set_option maxHeartbeats 4000000 in
theorem delete_any (base i : Nat) (v : Value) (L : List AtC) (w : World) (hrow : w.ownsRow base 81 5 v L.length (ccells L)) (hi : i < L.length) :
    Calls Try.prog 91 #[v, .int .i64 i, .int .i64 ((i : Int) + 1)] w fun e w' => ∃ v', e = .returned v' ∧ w'.ownsRow base 81 5 v' (L.length - 1) (ccells (L.take i ++ L.drop (i + 1))) ∧ v'.ownBlock = v.ownBlock ∧ w.grownBy w' v.ownBlock := by
  obtain ⟨j0, qj0, qy0, qy1, qy2⟩ := info_parts zero_at
  rcases hrow.2 with ⟨_, hz⟩ | ⟨g, cap, cur, rfl, hb, hh, hnc, hm, hsz, htk⟩
  · omega
  obtain ⟨n, hn⟩ : ∃ n, L.length = n := ⟨_, rfl⟩
  rw [hn] at hrow hi hnc htk ⊢
  obtain ⟨j, hj⟩ : ∃ j, j = i + 1 := ⟨_, rfl⟩
  have hiz : (i : Int) + 1 = (j : Int) := by omega
  have hij : ¬ (i = j) := by omega
  have hijd : decide ((i : Int) = (j : Int)) = false := by simp; omega
  rw [hiz, ← hj]
  have hjn : j ≤ n := by omega
  obtain ⟨news, hnews⟩ : ∃ news, news = ccells (L.drop j) := ⟨_, rfl⟩
  have hnl : news.length = (n - j) * 5 := by rw [hnews, ccells_length, List.length_drop, hn]
  have hcell : ∀ t u, (ccells L)[t]? = some u → w.cell? ⟨g, t, none⟩ = some u := fun t u hu => by
    have := hrow.cells (g := g) rfl t u hu
    rwa [show (⟨g, 0, none⟩ : Addr).add t = ⟨g, t, none⟩ from by unfold Addr.add; split <;> simp_all] at this
  obtain ⟨A, hA, hsrc⟩ : ∃ A : Addr, (if cap = j then some (⟨g, 0, none⟩ : Addr) else some ⟨g, j * 5, none⟩) = some A ∧ Hid (∀ t u, news[t]? = some u → w.drew.cell? (A.add t) = some u) := by
    by_cases h : cap = j
    · refine ⟨⟨g, 0, none⟩, by simp [h], fun t u hu => ?_⟩
      have h0 : news.length = 0 := by rw [hnl]; omega
      rw [List.length_eq_zero_iff.1 h0] at hu
      simp at hu
    · refine ⟨⟨g, j * 5, none⟩, by simp [h], fun t u hu => ?_⟩
      rw [hnews, ← ccells_drop, List.getElem?_drop] at hu
      have := hcell _ _ hu
      rwa [show (⟨g, j * 5, none⟩ : Addr).add t = ⟨g, j * 5 + t, none⟩ from by unfold Addr.add; split <;> simp_all]
  have h1 : ∀ u ∈ news, u.oneCell' = true := by rw [hnews]; exact ccells_one _
  obtain ⟨C1, hC1⟩ : ∃ C1 : Array Value, C1 = (cur.toList.take (i * 5) ++ news ++ cur.toList.drop (i * 5 + news.length)).toArray := ⟨_, rfl⟩
  have hap : Hid (∀ ty, (Builtin.append_ #[68, 68] ty #[.slice (some ⟨g, 0, none⟩) i cap, .slice (some A) (n - j) (cap - j)]).run Try.prog w.drew = .ok (.slice (some ⟨g, 0, none⟩) (i + (n - j)) cap) (w.drew.setRow g C1)) := fun ty => by
    have := run_append_room (P := Try.prog) w.drew 68 ty 81 j0 Try.underlying68 qj0 g i cap cur hh A (n - j) (cap - j) news (by rw [qy1]; exact hnl) hsrc.out h1 (by omega) (by rw [qy1, hnl, hsz]; omega)
    rw [qy1, ← hC1] at this
    exact this
  have hh1 : (w.drew.setRow g C1).heap[g]? = some (.cells C1 81 (0, 0)) := setRow_heap w.drew g cur C1 _ _ hh
  have hs1 : C1.size = cap * 5 := by rw [hC1]; simp [hnl, hsz]; omega
  obtain ⟨W1, hW1⟩ : ∃ W1, W1 = w.drew.setRow g C1 := ⟨_, rfl⟩
  rw [← hW1] at hh1
  have HAP : Hid (∀ ty, (Builtin.append_ #[68, 68] ty #[.slice (some ⟨g, 0, none⟩) i cap, .slice (some A) (n - j) (cap - j)]).run Try.prog w.drew = .ok (.slice (some ⟨g, 0, none⟩) (i + (n - j)) cap) W1) := fun ty => by rw [hW1]; exact hap.out ty
  obtain ⟨C2, hC2⟩ : ∃ C2 : Array Value, C2 = (C1.toList.take ((i + (n - j)) * 5) ++ ([.int .i64 0, .string ⟨#[]⟩, .string ⟨#[]⟩, .bool false, .int .i64 0] : List Value) ++ C1.toList.drop ((i + (n - j)) * 5 + 5)).toArray := ⟨_, rfl⟩
  have hcl : ∀ ty, (Builtin.clear_ #[68] ty #[.slice (some ⟨g, (i + (n - j)) * 5, none⟩) (n - (i + (n - j))) (cap - (i + (n - j)))]).run Try.prog W1 = .ok (.tuple #[]) (W1.setRow g C2) := fun ty => by
    rw [show n - (i + (n - j)) = 1 by omega]
    have := run_clear_row (P := Try.prog) W1 68 81 ty _ Try.underlying68 zero_at_run g ((i + (n - j)) * 5) (cap - (i + (n - j))) C1 hh1 (by rw [hs1]; show _ + 5 ≤ _; omega) (by intro u hu; simp [Value.cells] at hu; rcases hu with rfl | rfl | rfl | rfl <;> rfl)
    rw [this, hC2]
    rfl
  have hh2 : (W1.setRow g C2).heap[g]? = some (.cells C2 81 (0, 0)) := setRow_heap W1 g C1 C2 _ _ hh1
  have HR : Hid ((W1.setRow g C2).ownsRow base 81 5 (.slice (some ⟨g, 0, none⟩) (i + (n - j)) cap) (n - 1) (ccells (L.take i ++ L.drop j))) := by
    have e1 : cur.toList.take (i * 5) = ccells (L.take i) := by
      rw [← ccells_take, ← htk, List.take_take, Nat.min_eq_left (by omega)]
    have e2 : (cur.toList.take (i * 5)).length = i * 5 := by rw [e1, ccells_length, List.length_take, hn, Nat.min_eq_left (by omega)]
    refine ⟨by rw [ccells_length]; simp [hn]; omega, .inr ⟨g, cap, C2, by rw [show i + (n - j) = n - 1 by omega], hb, hh2, by omega, hm, ?_, ?_⟩⟩
    · rw [hC2]; simp [hs1]; omega
    · rw [hC2, ccells_append, ← e1, ← hnews]
      have e3 : (C1.toList.take ((i + (n - j)) * 5)).length = (n - 1) * 5 := by simp [hs1]; omega
      simp only [List.append_assoc]
      rw [List.take_append_of_le_length (by rw [e3]; exact Nat.le_refl _), List.take_take, Nat.min_eq_left (by omega), hC1]
      simp only []
      rw [List.append_assoc, ← List.append_assoc, List.take_append_of_le_length (by simp only [List.length_append, e2, hnl]; omega), List.take_of_length_le (by simp only [List.length_append, e2, hnl]; omega)]
  have HG : Hid (w.grownBy (W1.setRow g C2) (some g)) := by
    show World.grownBy _ _ _
    rw [hW1]
    exact grown_setRow (grown_setRow (show w.grownBy w.drew (some g) from ⟨rfl, rfl, rfl, Nat.le_refl _, fun _ _ _ => rfl⟩) C1) C2
  have hj0 : ¬ cap = i + (n - j) := by omega
  have a1 : j ≤ cap := by omega
  have a2 : i ≤ cap := by omega
  have a3 : i + (n - j) ≤ n := by omega
  have a4 : i ≤ j := by omega
  clear hW1 hh1 hh2 hap hs1 hC1 hC2 hsrc hcell hnews hnl h1 hh hsz htk hrow hj hi hn
  have mixed : Try.prog.follows Departure.mixedOrders = true := by kernel_rfl
  go_enter Try.func91, Try.ntmps91
  go_wp2_with fail
  go_region_law_o (refine step_wanted rfl (Lib.wp_append_run _ (.tmp 22) (.tmp 25) 68 68 rfl _ _ (by simp [Act.eval, Act.put]) (by simp [Act.eval, Act.put]) _ _ (HAP.out _) ?_))
  go_wp2_with fail
  go_ret
  exact ⟨_, rfl, HR.out, rfl, HG.out⟩
end Go.Proofs.Ytmlekkbjmfknfaa
