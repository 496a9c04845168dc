/-
  Which names a file may have; a disk's room; its fuse; a new disk.
-/
import Derived.Test.YtebkgcnldbkgeaaDkA
namespace Go.Proofs.Ytebkgcnldbkgeaa
open Go.RowKit Go.Lib Go.Sort
set_option linter.unusedVariables false
set_option linter.unusedSimpArgs false

def inNB (x : Nat) : Bool := (decide (97 ≤ x) && decide (x ≤ 122)) || (decide (48 ≤ x) && decide (x ≤ 57)) || x == 46 || x == 45
set_option maxRecDepth 100000 in
set_option maxHeartbeats 4000000 in
theorem inNames_any (x : Nat) (hx : x < 256) (w : World) : Calls Try.prog 69 #[.int .u8 (x : Int)] w fun e w' => e = .returned (.bool (inNB x)) ∧ w' = w := by
  rcases (show (97 ≤ x ∧ x ≤ 122) ∨ (122 < x) ∨ (57 < x ∧ x < 97) ∨ (48 ≤ x ∧ x ≤ 57) ∨ x = 46 ∨ x = 45 ∨ (x < 48 ∧ x ≠ 46 ∧ x ≠ 45) by omega) with ⟨h1, h2⟩ | h1 | ⟨h1, h2⟩ | ⟨h1, h2⟩ | rfl | rfl | ⟨h1, h2, h3⟩
  · have HV : Hid (inNB x = true) := by show _ = _; unfold inNB; simp [h1, h2]
    have d1 : decide ((97 : Int) ≤ (x : Int)) = true := by rw [decide_eq_true_iff]; omega
    have d1' : decide (97 ≤ x) = true := decide_eq_true h1
    have d2 : decide ((x : Int) ≤ (122 : Int)) = true := by rw [decide_eq_true_iff]; omega
    have d2' : decide (x ≤ 122) = true := decide_eq_true h2
    go_enter Try.func69, Try.ntmps69
    go_wp2_with fail
    go_ret
    exact ⟨by rw [HV.out]; rfl, rfl⟩
  · have HV : Hid (inNB x = false) := by show _ = _; unfold inNB; simp; omega
    have d1 : decide ((97 : Int) ≤ (x : Int)) = true := by rw [decide_eq_true_iff]; omega
    have d1' : decide (97 ≤ x) = true := decide_eq_true (by omega)
    have d2 : decide ((x : Int) ≤ (122 : Int)) = false := by rw [decide_eq_false_iff_not]; omega
    have d2' : decide (x ≤ 122) = false := decide_eq_false (by omega)
    have d3 : decide ((48 : Int) ≤ (x : Int)) = true := by rw [decide_eq_true_iff]; omega
    have d3' : decide (48 ≤ x) = true := decide_eq_true (by omega)
    have d4 : decide ((x : Int) ≤ (57 : Int)) = false := by rw [decide_eq_false_iff_not]; omega
    have d4' : decide (x ≤ 57) = false := decide_eq_false (by omega)
    have d5 : ((x : Int) == 46) = false := by rw [beq_eq_false_iff_ne]; omega
    have d6 : ((x : Int) == 45) = false := by rw [beq_eq_false_iff_ne]; omega
    go_enter Try.func69, Try.ntmps69
    go_wp2_with fail
    go_ret
    exact ⟨by rw [HV.out]; rfl, rfl⟩
  · have HV : Hid (inNB x = false) := by show _ = _; unfold inNB; simp; omega
    have d1 : decide ((97 : Int) ≤ (x : Int)) = false := by rw [decide_eq_false_iff_not]; omega
    have d1' : decide (97 ≤ x) = false := decide_eq_false (by omega)
    have d3 : decide ((48 : Int) ≤ (x : Int)) = true := by rw [decide_eq_true_iff]; omega
    have d3' : decide (48 ≤ x) = true := decide_eq_true (by omega)
    have d4 : decide ((x : Int) ≤ (57 : Int)) = false := by rw [decide_eq_false_iff_not]; omega
    have d4' : decide (x ≤ 57) = false := decide_eq_false (by omega)
    have d5 : ((x : Int) == 46) = false := by rw [beq_eq_false_iff_ne]; omega
    have d6 : ((x : Int) == 45) = false := by rw [beq_eq_false_iff_ne]; omega
    go_enter Try.func69, Try.ntmps69
    go_wp2_with fail
    go_ret
    exact ⟨by rw [HV.out]; rfl, rfl⟩
  · have HV : Hid (inNB x = true) := by show _ = _; unfold inNB; simp [h1, h2]
    have d1 : decide ((97 : Int) ≤ (x : Int)) = false := by rw [decide_eq_false_iff_not]; omega
    have d1' : decide (97 ≤ x) = false := decide_eq_false (by omega)
    have d3 : decide ((48 : Int) ≤ (x : Int)) = true := by rw [decide_eq_true_iff]; omega
    have d3' : decide (48 ≤ x) = true := decide_eq_true (by omega)
    have d4 : decide ((x : Int) ≤ (57 : Int)) = true := by rw [decide_eq_true_iff]; omega
    have d4' : decide (x ≤ 57) = true := decide_eq_true (by omega)
    go_enter Try.func69, Try.ntmps69
    go_wp2_with fail
    go_ret
    exact ⟨by rw [HV.out]; rfl, rfl⟩
  · go_enter Try.func69, Try.ntmps69
    go_wp2_with fail
    go_ret
    exact ⟨rfl, rfl⟩
  · go_enter Try.func69, Try.ntmps69
    go_wp2_with fail
    go_ret
    exact ⟨rfl, rfl⟩
  · have HV : Hid (inNB x = false) := by show _ = _; unfold inNB; simp; omega
    have d1 : decide ((97 : Int) ≤ (x : Int)) = false := by rw [decide_eq_false_iff_not]; omega
    have d1' : decide (97 ≤ x) = false := decide_eq_false (by omega)
    have d3 : decide ((48 : Int) ≤ (x : Int)) = false := by rw [decide_eq_false_iff_not]; omega
    have d3' : decide (48 ≤ x) = false := decide_eq_false (by omega)
    have d5 : ((x : Int) == 46) = false := by rw [beq_eq_false_iff_ne]; omega
    have d6 : ((x : Int) == 45) = false := by rw [beq_eq_false_iff_ne]; omega
    go_enter Try.func69, Try.ntmps69
    go_wp2_with fail
    go_ret
    exact ⟨by rw [HV.out]; rfl, rfl⟩
theorem getD_byteD (a : ByteArray) (k : Nat) (h : k < a.size) : a[k] = a.data.toList.getD k 0 := by
  rw [List.getD_eq_getElem?_getD, List.getElem?_eq_getElem (by simpa using h)]
  rfl
/-- may a file be named so? -/
def nameB (s : ByteArray) : Bool := decide (1 ≤ s.size) && decide (s.size ≤ 24) && s.data.toList.all fun c => inNB c.toNat
set_option maxRecDepth 100000 in
set_option maxHeartbeats 4000000 in
theorem name_any (s : ByteArray) (w : World) (hs : s.size ≤ 1099511627776) : Calls Try.prog 53 #[.string s] w fun e w' => e = .returned (.bool (nameB s)) ∧ w' = w := by
  have HLa : Hid (s.data.toList.length = s.size) := by show _ = _; simp
  by_cases h0 : s.size = 0
  · have HV : Hid (nameB s = false) := by show _ = _; unfold nameB; simp; omega
    have e0 : s = ⟨#[]⟩ := by
      apply ByteArray.ext
      exact Array.eq_empty_of_size_eq_zero h0
    subst e0
    go_enter Try.func53, Try.ntmps53
    go_wp2_with fail
    go_ret
    exact ⟨by rw [HV.out]; rfl, rfl⟩
  · have n0 : (s.toList == ([] : List UInt8)) = false := by
      rw [beq_eq_false_iff_ne, ByteArray.toList_eq]
      intro e
      have := HLa.out
      rw [e] at this
      exact h0 this.symm
    by_cases h24 : 24 < s.size
    · have HV : Hid (nameB s = false) := by show _ = _; unfold nameB; simp; omega
      have d1 : decide ((24 : Int) < (s.size : Int)) = true := by rw [decide_eq_true_iff]; omega
      have d1' : decide (24 < s.size) = true := decide_eq_true h24
      go_enter Try.func53, Try.ntmps53
      go_wp2_with fail
      go_ret
      exact ⟨by rw [HV.out]; rfl, rfl⟩
    · have d1 : decide ((24 : Int) < (s.size : Int)) = false := by rw [decide_eq_false_iff_not]; omega
      have d1' : decide (24 < s.size) = false := decide_eq_false h24
      have HV : Hid (nameB s = s.data.toList.all fun c => inNB c.toNat) := by
        show _ = _
        unfold nameB
        rw [decide_eq_true (show 1 ≤ s.size by omega), decide_eq_true (show s.size ≤ 24 by omega)]
        simp
      go_enter Try.func53, Try.ntmps53
      go_wp2_with fail
      go_loopw [13] (fun i wr => ∃ k : Nat, k ≤ s.size ∧ i = .int .i64 k ∧ wr = w ∧ Hid ((s.data.toList.take k).all (fun c => inNB c.toNat) = true)) (fun i _ => s.size - (RowKit.intOf i).toNat)
      case atStart => exact ⟨0, by omega, rfl, rfl, rfl⟩
      case round =>
        obtain ⟨k, hk, rfl, hwr, HA⟩ := hrel
        have hwr' := hwr.symm
        subst hwr'
        clear hwr
        by_cases hlt : k < s.size
        · have HG := Lib.hid (getD_byteD s k hlt)
          have hb := (s[k]).toNat_lt
          have HST : Hid ((s.data.toList.take (k + 1)).all (fun c => inNB c.toNat) = ((s.data.toList.take k).all (fun c => inNB c.toNat) && inNB (s[k]).toNat)) := by
            show _ = _
            rw [List.take_succ_eq_append_getElem (by rw [HLa.out]; exact hlt), List.all_append, HG.out, List.getD_eq_getElem?_getD, List.getElem?_eq_getElem (by rw [HLa.out]; exact hlt)]
            simp
          have HIN := Lib.hid (inNames_any (s[k]).toNat (by omega) w)
          obtain ⟨bb, hbb⟩ : ∃ bb, inNB (s[k]).toNat = bb := ⟨_, rfl⟩
          rw [hbb] at HST HIN
          have HBB := Lib.hid hbb
          clear hbb
          cases bb with
          | true =>
            go_wp2_with (go_at_call 69; (with_reducible refine HIN.out.mono ?_); rintro e w1 ⟨rfl, hw1⟩; have hw1' := hw1.symm; subst hw1')
            go_roundw
            case rel => exact ⟨k + 1, by omega, by go_num, (by first | rfl | trivial), by show _ = _; rw [HST.out, HA.out]; rfl⟩
            case measure => simp [RowKit.intOf]; omega
          | false =>
            have HF : Hid ((s.data.toList.all fun c => inNB c.toNat) = false) := by
              show _ = _
              rw [← List.take_append_drop (k + 1) s.data.toList, List.all_append, HST.out, HA.out]
              rfl
            go_wp2_with (go_at_call 69; (with_reducible refine HIN.out.mono ?_); rintro e w1 ⟨rfl, hw1⟩; have hw1' := hw1.symm; subst hw1')
            go_ret
            exact ⟨by rw [HV.out, HF.out]; rfl, rfl⟩
        · have d8 : decide ((k : Int) < (s.size : Int)) = false := by rw [decide_eq_false_iff_not]; omega
          have HT : Hid ((s.data.toList.all fun c => inNB c.toNat) = true) := by
            have := HA.out
            rw [List.take_of_length_le (by rw [HLa.out]; omega)] at this
            exact this
          go_wp2_with fail
          go_ret
          exact ⟨by rw [HV.out, HT.out]; rfl, rfl⟩
set_option maxHeartbeats 1000000 in
theorem room_any (base d : Nat) (D : Dsk) (n : Int) (w : World) (h : Dk w base d D) :
    Calls Try.prog 40 #[.pointer (some ⟨d, 0, none⟩), .int .i64 n] w fun e w' => e = .returned (.int .i64 (if n < 0 ∨ 4194304 < n then 2 else 0)) ∧ Dk w' base d (if n < 0 ∨ 4194304 < n then D else { D with room := n }) ∧ Turn [d] w w' := by
  have c1 := h.c1
  have f1 := h.free 1
  have HD := Lib.hid h
  clear h
  by_cases h1 : n < 0
  · rw [if_pos (Or.inl h1), if_pos (Or.inl h1)]
    have d1 : decide (n < 0) = true := decide_eq_true h1
    go_enter Try.func40, Try.ntmps40
    go_wp2_with fail
    go_ret
    exact ⟨rfl, HD.out, Turn.refl _ _⟩
  · have d1 : decide (n < 0) = false := decide_eq_false h1
    by_cases h2 : 4194304 < n
    · rw [if_pos (Or.inr h2), if_pos (Or.inr h2)]
      have d2 : decide (4194304 < n) = true := decide_eq_true h2
      go_enter Try.func40, Try.ntmps40
      go_wp2_with fail
      go_ret
      exact ⟨rfl, HD.out, Turn.refl _ _⟩
    · rw [if_neg (by rintro (h | h) <;> omega), if_neg (by rintro (h | h) <;> omega)]
      have d2 : decide (4194304 < n) = false := decide_eq_false h2
      have HR : Hid (Dk (w.setCell ⟨d, 1, none⟩ (.int .i64 n)) base d { D with room := n }) := HD.out.own n D.set D.left (by rw [heap_setCell_same w d 1 _ _ _ HD.out.blk]; rfl) (fun k hk hne => Below.heap_setCell w _ _ k (fun e => hne e)) (by omega) (by omega) HD.out.l1 HD.out.l2
      go_enter Try.func40, Try.ntmps40
      go_wp2_with fail
      go_ret
      exact ⟨rfl, HR.out, Turn.of_grown (grown_setD w d 1 _) (by simp)⟩
def newD (room : Int) : Dsk := ⟨none, room, false, 0, []⟩
theorem newD_dk (w : World) (base : Nat) (hb : base ≤ w.heap.size) : Dk (w.alloc (.cells #[.map none, .int .i64 0, .bool false, .int .i64 0] 59)) base w.heap.size (newD 0) :=
  ⟨hb, heap_alloc_new w _, fun _ => rfl, fun m hm => (by cases hm), fun h hh => (by cases hh), List.Pairwise.nil, (by unfold newD; simp), (by unfold newD; simp), (by unfold newD; simp), (by unfold newD; simp), (by unfold newD; simp), (by unfold newD usedH; simp)⟩
set_option maxHeartbeats 1000000 in
theorem new_any4 (n : Int) (w : World) : Calls Try.prog 15 #[.int .i64 n] w fun e w' => (if n < 0 ∨ 4194304 < n then e = .returned (.tuple #[.pointer none, .int .i64 2]) else ∃ d, e = .returned (.tuple #[.pointer (some ⟨d, 0, none⟩), .int .i64 0]) ∧ w.heap.size ≤ d ∧ Dk w' w.heap.size d (newD n)) ∧ Below w.heap.size w w' := by
  have HR := Lib.hid (room_any w.heap.size w.heap.size (newD 0) n _ (newD_dk w w.heap.size (Nat.le_refl _)))
  have hal := (Below.refl w.heap.size w).alloc (Nat.le_refl _) (.cells #[.map none, .int .i64 0, .bool false, .int .i64 0] 59)
  have HAL := Lib.hid hal
  clear hal
  by_cases h1 : n < 0 ∨ 4194304 < n
  · simp only [if_pos h1]
    rw [if_pos h1, if_pos h1] at HR
    clear h1
    go_enter Try.func15, Try.ntmps15
    go_wp2_with (go_at_call 40; (with_reducible refine HR.out.mono ?_); rintro e w1 ⟨rfl, hd1, ht1⟩)
    go_ret2
    exact ⟨rfl, HAL.out.trans (ht1.below (by simp) (by simp))⟩
  · simp only [if_neg h1]
    rw [if_neg h1, if_neg h1] at HR
    clear h1
    go_enter Try.func15, Try.ntmps15
    go_wp2_with (go_at_call 40; (with_reducible refine HR.out.mono ?_); rintro e w1 ⟨rfl, hd1, ht1⟩)
    go_ret2
    exact ⟨⟨_, rfl, Nat.le_refl _, hd1⟩, HAL.out.trans (ht1.below (by simp) (by simp))⟩
/-- Fuse -/
def fuseD (D : Dsk) (n : Int) : Dsk := if burntB D = true then D else { D with set := decide (0 ≤ n), left := if n < 0 then 0 else n }
end Go.Proofs.Ytebkgcnldbkgeaa
