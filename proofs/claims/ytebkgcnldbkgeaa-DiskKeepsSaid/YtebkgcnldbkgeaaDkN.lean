/-
  The names of a disk's files.
-/
import Derived.Test.YtebkgcnldbkgeaaDkJ
import Derived.Test.YtebkgcnldbkgeaaIter
import Derived.Lib.Strings
import Derived.Lib.Slices
import Derived.Lib.Walk
namespace Go.Proofs.Ytebkgcnldbkgeaa
open Go.RowKit Go.Lib Go.Sort Go.Maps Go.Shelf
set_option linter.unusedVariables false
set_option linter.unusedSimpArgs false

theorem before_lt : ∀ (a b : List UInt8), bytesBefore a b = true → a < b
  | [], [], h => by simp [bytesBefore] at h
  | [], _ :: _, _ => List.nil_lt_cons _ _
  | _ :: _, [], h => by simp [bytesBefore] at h
  | a :: r, b :: s, h => by
    simp only [bytesBefore, Bool.or_eq_true, decide_eq_true_eq, Bool.and_eq_true, beq_iff_eq] at h
    rcases h with h | ⟨rfl, h⟩
    · exact List.Lex.rel h
    · exact List.Lex.cons (before_lt r s h)
theorem rise_sorted {α : Type} {kf : α → List UInt8} {L : List α} (h : RiseT kf L) : (L.map kf).mergeSort leB = L.map kf := by
  refine List.mergeSort_of_pairwise ?_
  rw [List.pairwise_map]
  exact h.imp fun {a b} hab => by
    show decide (kf a ≤ kf b) = true
    rw [decide_eq_true_iff]
    exact List.le_of_lt (before_lt _ _ hab)
set_option maxHeartbeats 1000000 in
theorem hasPrefix_any (s p : ByteArray) (w : World) :
    Calls Try.prog 32 #[.string s, .string p] w fun e w' => e = .returned (.bool (Lib.hasPrefix s.data.toList p.data.toList)) ∧ w' = w := by
  rw [← Lib.hasPrefix_of_take, ← Lib.size_eq, ← Lib.size_eq]
  go_enter Try.func32, Try.ntmps32
  go_wp2
  · rename_i h
    go_ret
    refine ⟨?_, rfl⟩
    show Ending.returned (Value.bool ((s.extract 0 p.size).toList == p.toList)) = _
    rw [Lib.extract_toList, Lib.toList_data]
    simp [h]
  · rename_i h
    go_ret
    refine ⟨?_, rfl⟩
    show Ending.returned (Value.bool false) = _
    simp [h]
/-- Names' closure: a name that does not begin so -/
theorem other_any (x : List UInt8) (p : ByteArray) (pb : Nat) (W : World) (hc : W.cell? ⟨pb, 0, none⟩ = some (.string p)) :
    FnGives Try.prog 31 #[.pointer (some ⟨pb, 0, none⟩)] #[encStr x] (.bool (!Lib.hasPrefix x p.data.toList)) W := by
  show Calls Try.prog 31 #[encStr x, .pointer (some ⟨pb, 0, none⟩)] W _
  have HP : Hid (∀ W, Calls Try.prog 32 #[encStr x, .string p] W fun e w' => e = .returned (.bool (Lib.hasPrefix x p.data.toList)) ∧ w' = W) := fun W => by
    have := hasPrefix_any ⟨x.toArray⟩ p W
    simpa [encStr] using this
  generalize Lib.hasPrefix x p.data.toList = b at *
  unfold encStr at *
  go_enter Try.func31, Try.ntmps31
  go_wp2_with (go_at_call 32; (with_reducible refine (HP.out _).mono ?_); rintro e w1 ⟨rfl, hw1⟩; have hw1' := hw1.symm; subst hw1')
  go_ret
  exact ⟨rfl, 0, rfl⟩
/-- the names that begin so, by rising names -/
def namesD (D : Dsk) (p : ByteArray) : List (List UInt8) := (D.H.map Hd.key).filter fun k => Lib.hasPrefix k p.data.toList
theorem deleteN (v : Value) (L : List (List UInt8)) (p : ByteArray) (pb base : Nat) (w : World) (hown : w.ownsRow base 9 1 v L.length (L.map encStr)) (hpb : pb < w.heap.size) (hne : v.ownBlock ≠ some pb) (hbs : base ≤ w.heap.size) (hc : w.cell? ⟨pb, 0, none⟩ = some (.string p)) :
    Calls Try.prog 33 #[v, .func (.func 31) #[] #[.pointer (some ⟨pb, 0, none⟩)]] w fun e w' => ∃ A c, e = .returned (.slice A (L.filter fun k => Lib.hasPrefix k p.data.toList).length c) ∧ (L.filter fun k => Lib.hasPrefix k p.data.toList).length ≤ c ∧ c ≤ maxLen ∧ Lies w' w'.heap.size A ((L.filter fun k => Lib.hasPrefix k p.data.toList).map encStr) ∧ Below base w w' ∧ ∀ q, A = some q → base ≤ q.block := by
  rcases hown.2 with ⟨rfl, hz⟩ | ⟨blk, cap, cur, rfl, hbb, hh, hcap, hcm, hsz, htk⟩
  · have hL : L = [] := List.length_eq_zero_iff.1 hz
    subst hL
    have HI := Lib.hid (AnyE.slices_IndexFunc_empty (P := Try.prog) (ρ := Try.deleteFunc_ren) { Try.deleteFunc with } none 0 (.func (.func 31) #[] #[.pointer (some ⟨pb, 0, none⟩)]) w)
    change Hid (Calls Try.prog 56 _ _ _) at HI
    go_enter Try.func33, Try.ntmps33
    go_wp2_with (go_at_call 56; (with_reducible refine HI.out.mono ?_); rintro e w1 ⟨rfl, hw1⟩; have hw1' := hw1.symm; subst hw1')
    go_ret
    exact ⟨none, 0, rfl, Nat.le_refl _, by simp [maxLen], Lies.empty, Below.refl _ _, fun q e => by cases e⟩
  · have hpn : pb ≠ blk := fun e => hne (by rw [e]; rfl)
    have hbl := (Array.getElem?_eq_some_iff.1 hh).1
    have hcell : ∀ j, j < L.length → w.cell? ⟨blk, 0 + j, none⟩ = some (encStr L.toArray[j]!) := fun j hj => by
      have h1 : (L.map encStr)[j]? = some (encStr L.toArray[j]!) := by
        rw [List.getElem?_map, List.getElem?_eq_getElem hj]
        simp [hj]
      have h2 : cur.toList[j]? = some (encStr L.toArray[j]!) := by
        rw [← h1, ← htk, List.getElem?_take_of_lt (by omega)]
      have h3 : cur[j]? = some (encStr L.toArray[j]!) := by rw [← Array.getElem?_toList]; exact h2
      rw [Nat.zero_add]
      exact (cell_of_row w blk j _ _ _ hh).trans h3
    have hH : Holds encStr w blk 0 L.toArray := fun j hj => ⟨hcell j (by simpa using hj), by rw [Nat.zero_add]; exact frozen_of_row w blk j _ _ hh⟩
    have hcon := AnyE.slices_DeleteFunc Try.deleteFunc encStr (fun _ => rfl) (fun k => !Lib.hasPrefix k p.data.toList) 31 #[.pointer (some ⟨pb, 0, none⟩)] (enters_of Try.func31 (by kernel_rfl) rfl) [] (fun W => Try.zeroValue9 W) blk 0 cap L.toArray w
      (fun W x hb => other_any x p pb W ((hb.cell (p := ⟨pb, 0, none⟩) hpb).trans hc))
      (fun n os dk x _ => other_any x p pb _ (by
        unfold sortWorld
        rw [cell?_grow _ _ _ (by show pb < (putRow _ _ _ _ _).heap.size; rw [size_putRow]; exact hpb), cell?_putRow_other _ _ blk 0 _ _ (Or.inl hpn)]
        exact hc)) hH (by simp; unfold maxLen at hcm; omega) (by simpa using hcap)
    change Calls Try.prog 33 _ _ _ at hcon
    have e1 : (L.toArray.toList.filter fun x => !(!Lib.hasPrefix x p.data.toList)) = L.filter fun k => Lib.hasPrefix k p.data.toList := by simp
    rw [e1] at hcon
    have hfl : (L.filter fun k => Lib.hasPrefix k p.data.toList).length ≤ L.length := List.length_filter_le _ _
    have hcap2 : L.length ≤ cap := hcap
    generalize (L.filter fun k => Lib.hasPrefix k p.data.toList) = R at *
    rw [List.size_toArray] at hcon
    refine hcon.mono fun e w' h => ?_
    obtain ⟨he, q, hw⟩ := h
    subst hw
    refine ⟨_, _, he, (by omega), hcm, ⟨fun j u hj => ⟨_, rfl, ?_, ?_⟩⟩, ?_, fun q e => by injection e with e; subst e; exact hbb⟩
    · rw [size_putRow]; exact hbl
    · have hjR : j < R.length := by
        have := (List.getElem?_eq_some_iff.1 hj).1
        simpa using this
      have hu : u = encStr (R[j]'hjR) := by
        rw [List.getElem?_map, List.getElem?_eq_getElem hjR] at hj
        injection hj with hj
        exact hj.symm
      have := cell?_putRow encStr (Go.Sort.ahead w q) blk 0 L.toArray (R ++ List.replicate (L.length - R.length) []).toArray (fun j hj => hH j hj) (by simp; omega) j (by simp; omega)
      rw [Nat.zero_add] at this
      have hg : (R ++ List.replicate (L.length - R.length) []).toArray[j]! = R[j] := by
        rw [getElem!_pos _ j (by simp; omega)]
        simp [hjR]
      rw [hg] at this
      rw [hu]
      rw [show (⟨blk, 0, none⟩ : Addr).add j = ⟨blk, j, none⟩ from by unfold Addr.add; by_cases h0 : j = 0 <;> simp [h0]]
      exact this
    · refine ⟨rfl, rfl, rfl, by rw [size_putRow]; exact Nat.le_refl _, fun k hk => ?_⟩
      have hkb : blk ≠ k := by omega
      simp only [putRow, mapBlock]
      rw [Array.getElem?_modify]
      simp [hkb]
set_option maxRecDepth 100000 in
set_option maxHeartbeats 2000000 in
theorem names_new (base d : Nat) (D : Dsk) (p : ByteArray) (w : World) (h : Dk w base d D) :
    Calls Try.prog 10 #[.pointer (some ⟨d, 0, none⟩), .string p] w fun e w' => ∃ A c, e = .returned (.slice A (namesD D p).length c) ∧ (namesD D p).length ≤ c ∧ c ≤ maxLen ∧ Lies w' w'.heap.size A ((namesD D p).map encStr) ∧ Below w.heap.size w w' ∧ ∀ q, A = some q → w.heap.size ≤ q.block := by
  have hal := (Below.refl w.heap.size w).alloc (Nat.le_refl _) (.cells #[.string p] 9)
  have hN := heap_alloc_new w (.cells #[.string p] 9)
  have c0 : (w.alloc (.cells #[.string p] 9)).cell? ⟨d, 0, none⟩ = some (.map D.mp) := (h.alloc _).c0
  have hzz : (w.alloc (.cells #[.string p] 9)).heap.size = w.heap.size + 1 := by simp
  have HSN : Hid (∃ w3, ∀ K : World → World, True) := ⟨w, fun _ => trivial⟩
  have HSO : Hid (Calls Try.prog 34 #[.func (.func 59) #[] #[.pointer (some ⟨w.heap.size + 1, 0, none⟩)]] ((w.alloc (.cells #[.string p] 9)).alloc (.cells #[.map D.mp] 55)) fun e w' => ∃ v, e = .returned v ∧ w'.ownsRow (w.heap.size + 2) 9 1 v (D.H.map Hd.key).length ((D.H.map Hd.key).map encStr) ∧ Below (w.heap.size + 2) ((w.alloc (.cells #[.string p] 9)).alloc (.cells #[.map D.mp] 55)) w') := by
    cases hm : D.mp with
    | none =>
      have h1 := (callsIn_wide (n := 5)).1 (Try.slices_Sorted_keys_nil_34_35 (w.alloc (.cells #[.string p] 9)))
      rw [h.mp0 hm]
      rw [hzz] at h1
      refine Calls.mono h1 fun e w' h2 => ?_
      obtain ⟨v, ss, a1, a2, a3, a4, a5⟩ := h2
      subst a2
      refine ⟨v, a1, ?_, ?_⟩
      · simpa using a3
      · simpa using a5
    | some m =>
      obtain ⟨hbm, hM⟩ := h.mp1 m hm
      obtain ⟨n, hn, hown⟩ := (hM.kept (w' := w.alloc (.cells #[.string p] 9)) (Below.heap_alloc _ _ _ hM.lt)).own
      have hl := h.len
      have h1 := (callsIn_wide (n := 5)).1 (Try.slices_Sorted_keys_34_35 m n _ heldT (w.alloc (.cells #[.string p] 9)) hown (by rw [size_mapT]; unfold maxLen; omega) (by rw [size_mapT]; omega))
      rw [hzz] at h1
      refine Calls.mono h1 fun e w' h2 => ?_
      obtain ⟨v, ss, a1, a2, a3, a4, a5⟩ := h2
      rw [keys_mapT] at a2
      have e1 : ss.mergeSort leB = D.H.map Hd.key := by rw [mergeSort_of_perm a2, rise_sorted hM.rise]
      have e2 : ss.length = (D.H.map Hd.key).length := a2.length_eq
      have a3' : w'.ownsRow _ 9 1 v ss.length ((ss.mergeSort leB).map encStr) := a3
      rw [e1, e2] at a3'
      refine ⟨v, a1, ?_, ?_⟩
      · simpa using a3'
      · simpa using a5
  have HKE : Hid (Calls Try.prog 35 #[.map D.mp] (w.alloc (.cells #[.string p] 9)) fun e w' => e = .returned (.func (.func 59) #[] #[.pointer (some ⟨w.heap.size + 1, 0, none⟩)]) ∧ w' = (w.alloc (.cells #[.string p] 9)).alloc (.cells #[.map D.mp] 55)) := by
    have h1 := (callsIn_wide (n := 5)).1 (Try.maps_Keys_35 D.mp (w.alloc (.cells #[.string p] 9)))
    rw [hzz] at h1
    exact h1
  have HDE : Hid (∀ v W, W.ownsRow (w.heap.size + 2) 9 1 v (D.H.map Hd.key).length ((D.H.map Hd.key).map encStr) → Below (w.heap.size + 2) ((w.alloc (.cells #[.string p] 9)).alloc (.cells #[.map D.mp] 55)) W → Calls Try.prog 33 #[v, .func (.func 31) #[] #[.pointer (some ⟨w.heap.size, 0, none⟩)]] W fun e w' => ∃ A c, e = .returned (.slice A (namesD D p).length c) ∧ (namesD D p).length ≤ c ∧ c ≤ maxLen ∧ Lies w' w'.heap.size A ((namesD D p).map encStr) ∧ Below (w.heap.size + 2) W w' ∧ ∀ q, A = some q → w.heap.size + 2 ≤ q.block) := fun v W hv hW => by
    have hsz := hW.size
    simp at hsz
    refine deleteN v (D.H.map Hd.key) p w.heap.size (w.heap.size + 2) W hv (by omega) (fun e => by have := (World.ownsRow.lt hv _ e).1; omega) (by omega) ?_
    have hb : W.heap[w.heap.size]? = some (.cells #[.string p] 9 (0, 0)) := by
      rw [hW.block _ (by omega), Below.heap_alloc _ _ _ (by simp)]
      exact hN
    exact cell_of_row _ _ 0 _ _ _ hb
  have HAL := Lib.hid (hal.alloc (by simp) (.cells #[.map D.mp] 55))
  clear hal hN HSN h hzz
  generalize namesD D p = R at *
  generalize (D.H.map Hd.key) = ks at *
  go_enter Try.func10, Try.ntmps10
  go_wp2_with (first
    | (go_at_call 35; (with_reducible refine HKE.out.mono ?_); rintro e w1 ⟨rfl, rfl⟩)
    | (go_at_call 34; (with_reducible refine HSO.out.mono ?_); rintro e w2 ⟨v2, rfl, hv2, hb2⟩)
    | (go_at_call 33; (with_reducible refine (HDE.out _ _ hv2 hb2).mono ?_); rintro e w3 ⟨A3, c3, rfl, h31, h32, h33, hb3, hq3⟩))
  go_ret
  exact ⟨A3, c3, rfl, h31, h32, h33, (HAL.out.trans (hb2.mono (by omega))).trans (hb3.mono (by omega)), fun q e => by have := hq3 q e; omega⟩
theorem names_any (base d : Nat) (D : Dsk) (p : ByteArray) (w : World) (h : Dk w base d D) :
    Calls Try.prog 10 #[.pointer (some ⟨d, 0, none⟩), .string p] w fun e w' => ∃ A c, e = .returned (.slice A (namesD D p).length c) ∧ (namesD D p).length ≤ c ∧ c ≤ maxLen ∧ Lies w' w'.heap.size A ((namesD D p).map encStr) ∧ Below w.heap.size w w' :=
  (names_new base d D p w h).mono fun e w' ⟨A, c, h1, h2, h3, h4, h5, _⟩ => ⟨A, c, h1, h2, h3, h4, h5⟩
end Go.Proofs.Ytebkgcnldbkgeaa
