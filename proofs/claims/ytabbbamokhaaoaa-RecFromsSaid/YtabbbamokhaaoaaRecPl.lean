/-
  What rec.Flat and towpathref03.Flat do, of one batch.
-/
import Derived.Test.YtabbbamokhaaoaaRecPr
namespace Go.Proofs.Ytabbbamokhaaoaa
open Go.RowKit
set_option linter.unusedVariables false
set_option linter.unusedSimpArgs false

structure AtR where
  off : Int
  r : Rec
instance : Inhabited AtR := ⟨⟨0, default⟩⟩
def AtR.cells (a : AtR) : List Value := .int .i64 a.off :: a.r.cells
def acells (L : List AtR) : List Value := L.flatMap AtR.cells
theorem acells_length (L : List AtR) : (acells L).length = L.length * 5 := by
  induction L with
  | nil => rfl
  | cons r L ih => simp only [acells, List.flatMap_cons, List.length_append, List.length_cons] at *; rw [ih]; simp only [AtR.cells, Rec.cells, List.length_cons, List.length_nil]; omega
theorem acells_append (L M : List AtR) : acells (L ++ M) = acells L ++ acells M := by simp [acells]
theorem acells_get (L : List AtR) : ∀ (k j : Nat), k < L.length → j < 5 → (acells L)[k * 5 + j]? = ((L.getD k default).cells)[j]? := by
  induction L with
  | nil => intro k j h; exact absurd h (by simp)
  | cons r L ih =>
    intro k j h hj
    have e : acells (r :: L) = r.cells ++ acells L := by simp [acells]
    have hl : r.cells.length = 5 := rfl
    rw [e]
    cases k with
    | zero => rw [List.getElem?_append_left (by omega)]; simp
    | succ k =>
      rw [List.getElem?_append_right (by omega), show (k + 1) * 5 + j - r.cells.length = k * 5 + j from by omega, ih k j (by simpa using h) hj]
      simp
theorem rowb {w w' : World} {base s n : Nat} {e : TypeId} {v : Value} {xs : List Value} (h : w.ownsRow base e s v n xs) (hb : Below w.heap.size w w') : w'.ownsRow base e s v n xs := by
  refine ⟨h.1, ?_⟩
  rcases h.2 with h2 | ⟨b, cap, cur, hv, hb', hh, r⟩
  · exact .inl h2
  · exact .inr ⟨b, cap, cur, hv, hb', (hb.block b (Array.getElem?_eq_some_iff.1 hh).1).trans hh, r⟩
def flatTo (b : Bat) (k : Nat) : List AtR := (List.range k).map fun (i : Nat) => ⟨b.base + (i : Int), b.L.getD i default⟩
def flatL (b : Bat) : List AtR := if markB b then [] else flatTo b b.L.length
theorem flatTo_succ (b : Bat) (k : Nat) : flatTo b (k + 1) = flatTo b k ++ [⟨b.base + (k : Int), b.L.getD k default⟩] := by simp [flatTo, List.range_succ]
theorem flatTo_len (b : Bat) (k : Nat) : (flatTo b k).length = k := by simp [flatTo]
theorem flatTo_get (b : Bat) (k i : Nat) (h : i < k) : (flatTo b k).getD i default = ⟨b.base + (i : Int), b.L.getD i default⟩ := by
  simp [flatTo, List.getD_eq_getElem?_getD, List.getElem?_range h]
theorem zero_at : (Try.prog.info? 86).map (fun i => (i.zero, i.size, i.bytes)) = some (some (.agg #[.int .i64 0, .string ⟨#[]⟩, .string ⟨#[]⟩, .bool false, .int .i64 0]), 5, 56) := by kernel_rfl
theorem zero_rat : (Try.prog.info? 98).map (fun i => (i.zero, i.size, i.bytes)) = some (some (.agg #[.int .i64 0, .string ⟨#[]⟩, .string ⟨#[]⟩, .bool false, .int .i64 0]), 5, 56) := by kernel_rfl

set_option maxRecDepth 100000 in
set_option maxHeartbeats 8000000 in
theorem flat_any (b : Bat) (A : Option Addr) (c g : Nat) (w : World) (hk : w.heap[g]? = some (.cells (b.cells A c) 66 (0, 0))) (hL : Rcs w w.heap.size A b.L.length b.L) (hl : b.L.length ≤ 80) (h1 : 0 ≤ b.base) (h2 : b.base ≤ 2199023255552) :
    Calls Try.prog 46 #[.slice (some ⟨g, 0, none⟩) 1 1] w fun e w' => ∃ v, e = .returned v ∧ w'.ownsRow w.heap.size 86 5 v (flatL b).length (acells (flatL b)) ∧ Below w.heap.size w w' := by
  obtain ⟨j0, qj0, qy0, qy1, qy2⟩ := info_parts zero_at
  have HMK : Hid (∀ W, Calls Try.prog 81 #[.agg (b.cells A c)] W fun e w' => e = .returned (.bool (markB b)) ∧ Below W.heap.size W w') := fun W => marker_any b A c W
  have HFL : Hid (flatL b = if markB b then [] else flatTo b b.L.length) := rfl
  have HFS : Hid (∀ k, flatTo b (k + 1) = flatTo b k ++ [⟨b.base + (k : Int), b.L.getD k default⟩]) := fun k => flatTo_succ b k
  have HF0 : Hid (flatTo b 0 = []) := rfl
  have HFN : Hid (∀ k, (flatTo b k).length = k) := fun k => flatTo_len b k
  generalize flatL b = FL at *
  generalize markB b = MK at *
  generalize flatTo b = FT at *
  obtain ⟨base, pid, epoch, seq, kind, time, L⟩ := b
  simp only [Bat.cells] at *
  have y0 := cell_of_row _ _ 0 _ _ _ hk
  have y1 := cell_of_row _ _ 1 _ _ _ hk
  have y2 := cell_of_row _ _ 2 _ _ _ hk
  have y3 := cell_of_row _ _ 3 _ _ _ hk
  have y4 := cell_of_row _ _ 4 _ _ _ hk
  have y5 := cell_of_row _ _ 5 _ _ _ hk
  have y6 := cell_of_row _ _ 6 _ _ _ hk
  have HL := Lib.hid hL
  have hgl : g < w.heap.size := (Array.getElem?_eq_some_iff.1 hk).1
  clear hL hk
  go_enter Try.func46, Try.ntmps46
  go_wp2_with fail
  go_loopw [3, 10] (fun v i wr => (v = .slice none 0 0 ∧ i = .int .i64 0 ∧ w = wr) ∨ (i = .int .i64 1 ∧ Hid (wr.ownsRow w.heap.size 86 5 v FL.length (acells FL)) ∧ Hid (Below w.heap.size w wr))) (fun _ i _ => 1 - (intOf i).toNat)
  case atStart => exact .inl ⟨rfl, rfl, rfl⟩
  case round =>
    rcases hrel with ⟨rfl, rfl, rfl⟩ | ⟨rfl, HO, HB⟩
    · obtain ⟨w3, hw3⟩ : ∃ w3, w.alloc (.cells #[.int .i64 base, .int .i64 pid, .int .i64 epoch, .int .i64 seq, .int .i64 kind, .int .i64 time, .slice A L.length c] 66) = w3 := ⟨_, rfl⟩
      have hal : Below w.heap.size w w3 := by rw [← hw3]; exact (Below.refl _ _).alloc (Nat.le_refl _) _
      have HN3 : Hid (w3.heap[w.heap.size]? = some (.cells #[.int .i64 base, .int .i64 pid, .int .i64 epoch, .int .i64 seq, .int .i64 kind, .int .i64 time, .slice A L.length c] 66 (0, 0))) := by rw [← hw3]; exact heap_alloc_new w _
      have hz3 : w3.heap.size = w.heap.size + 1 := by rw [← hw3]; simp
      have HAL := Lib.hid hal
      have HZ3 := Lib.hid hz3
      clear hal hz3
      have HW3 := Lib.hid hw3
      clear hw3
      go_upto_region 5 with fail
      rw [HW3.out]
      have x0 := cell_of_row _ _ 0 _ _ _ HN3.out
      have x1 := cell_of_row _ _ 1 _ _ _ HN3.out
      have x2 := cell_of_row _ _ 2 _ _ _ HN3.out
      have x3 := cell_of_row _ _ 3 _ _ _ HN3.out
      have x4 := cell_of_row _ _ 4 _ _ _ HN3.out
      have x5 := cell_of_row _ _ 5 _ _ _ HN3.out
      have x6 := cell_of_row _ _ 6 _ _ _ HN3.out
      go_wp2_with fail
      refine (HMK.out _).mono ?_
      rintro e w4 ⟨rfl, hb4⟩
      have HN4 := Lib.hid ((hb4.block w.heap.size (by have := HZ3.out; omega)).trans HN3.out)
      have HB4 := Lib.hid (HAL.out.trans (hb4.mono HAL.out.size))
      have HZ4 := Lib.hid hb4.size
      clear hb4 x0 x1 x2 x3 x4 x5 x6
      cases MK with
      | true =>
        go_wp2_with fail
        go_roundw
        case rel =>
          right
          refine ⟨by first | rfl | go_num, ?_, HB4⟩
          have e := HFL.out
          simp only [if_true, reduceIte] at e
          subst e
          exact World.ownsRow_nil _ _ _ _
        case measure => simp [intOf]
      | false =>
        have x6 := cell_of_row _ _ 6 _ _ _ HN4.out
        go_wp2_with fail
        clear x6
        go_loopw [3, 19] (fun v i ws => ∃ k : Nat, k ≤ L.length ∧ i = .int .i64 k ∧ Hid (ws.ownsRow w4.heap.size 86 5 v k (acells (FT k))) ∧ Hid (Below w4.heap.size w4 ws)) (fun _ i _ => L.length - (intOf i).toNat)
        case atStart => exact ⟨0, by omega, rfl, by rw [HF0.out]; exact World.ownsRow_nil _ _ _ _, Below.refl _ _⟩
        case round =>
          obtain ⟨k, hk, rfl, HO, HB⟩ := hrel
          have hzr := HB.out.size
          have hz4 : w.heap.size < w4.heap.size := (Array.getElem?_eq_some_iff.1 HN4.out).1
          have HN5 := Lib.hid ((HB.out.block w.heap.size hz4).trans HN4.out)
          have HBW := Lib.hid (HB4.out.trans (HB.out.mono (Nat.le_of_lt hz4)))
          by_cases hlt : k < L.length
          · obtain ⟨p, rfl, hp, r0, r1, r2, r3⟩ := (HL.out.below HBW.out).row hlt
            have hkz : (k : Int) < (L.length : Int) := by omega
            have HS := Lib.hid (HFS.out k)
            generalize L.getD k default = re at *
            obtain ⟨key, value, gone, rt⟩ := re
            simp only at r0 r1 r2 r3 HS
            have hal5 := (Below.refl wr.heap.size wr).alloc (Nat.le_refl _) (.cells #[.string key, .string value, .bool gone, .int .i64 rt] 84)
            have hN5 := heap_alloc_new wr (.cells #[.string key, .string value, .bool gone, .int .i64 rt] 84)
            have hz5 : (wr.alloc (.cells #[.string key, .string value, .bool gone, .int .i64 rt] 84)).heap.size = wr.heap.size + 1 := by simp
            have hM5 := (hal5.block w.heap.size (by omega)).trans HN5.out
            have HO5 := Lib.hid (HO.out.alloc (.cells #[.string key, .string value, .bool gone, .int .i64 rt] 84))
            have HB5 := Lib.hid (HB.out.trans (hal5.mono hzr))
            obtain ⟨w5, hw5⟩ : ∃ w5, wr.alloc (.cells #[.string key, .string value, .bool gone, .int .i64 rt] 84) = w5 := ⟨_, rfl⟩
            rw [hw5] at hN5 hz5 hM5 HO5 HB5
            have HW5 := Lib.hid hw5
            have HN5' := Lib.hid hN5
            have HM5 := Lib.hid hM5
            have HZ5 := Lib.hid hz5
            clear hw5 hal5
            go_upto_region 9 with fail
            rw [HW5.out]
            have n0 := cell_of_row _ _ 0 _ _ _ hN5
            have n1 := cell_of_row _ _ 1 _ _ _ hN5
            have n2 := cell_of_row _ _ 2 _ _ _ hN5
            have n3 := cell_of_row _ _ 3 _ _ _ hN5
            have b0 := cell_of_row _ _ 0 _ _ _ hM5
            have hown := HO5.out
            have hk80 : k ≤ 80 := by omega
            clear hz5
            obtain ⟨acc, hacc⟩ : ∃ acc, FT k = acc := ⟨_, rfl⟩
            rw [hacc] at hown HS
            have hown8 := hown.alloc (.cells #[.int .i64 (base + (k : Int)), .string key, .string value, .bool gone, .int .i64 rt] 86)
            go_wp2_with (at_builtin; go_loud (refine wpList_append_own_at _ rfl (.tmp 24) (.tmp 31) 81 rfl w4.heap.size 86 j0 _ 5 56 Try.underlying81 qj0 qy0 qy1 qy2 rfl (by decide) _ k (acells acc) rfl hown8 ⟨w5.heap.size, 0, none⟩ 1 1 [.int .i64 (base + (k : Int)), .string key, .string value, .bool gone, .int .i64 rt] rfl rfl (new_cellsR w5 [.int .i64 (base + (k : Int)), .string key, .string value, .bool gone, .int .i64 rt] _) ?g1 ?g2 ?g3 ?g4 ?_))
            case g1 => intro u hu; simp at hu; rcases hu with rfl | rfl | rfl | rfl | rfl <;> rfl
            case g2 => unfold maxLen; omega
            case g3 => omega
            case g4 => have := HB5.out.size; simp; omega
            intro va w7 hown7 hg7 _ _
            have HO7 : Hid (w7.ownsRow w4.heap.size 86 5 va (k + 1) (acells (FT (k + 1)))) := by show World.ownsRow _ _ _ _ _ _ _; rw [HS.out, acells_append]; simpa [acells, AtR.cells, Rec.cells] using hown7
            have HB7 := Lib.hid ((HB5.out.alloc HB5.out.size _).trans ((Below.refl _ _).grown hg7 (by have := HB5.out.size; simp; omega) (fun q hq => (World.ownsRow.lt hown8 q hq).1)))
            clear hown8 hown7 hg7 hown n0 n1 n2 n3 b0
            go_wp2_with fail
            go_roundw
            case rel => exact ⟨k + 1, by omega, by go_num, HO7, HB7⟩
            case measure => simp [intOf]; omega
          · have d8 : decide ((k : Int) < (L.length : Int)) = false := by rw [decide_eq_false_iff_not]; omega
            have d9 : decide (k < L.length) = false := by rw [decide_eq_false_iff_not]; omega
            obtain hkl : k = L.length := by omega
            have HFIN : Hid (wr.ownsRow w.heap.size 86 5 u3 FL.length (acells FL)) := by
              have e := HFL.out
              have hq := row_base HO.out (base' := w.heap.size) (Nat.le_of_lt hz4)
              simp only [Bool.false_eq_true, if_false] at e
              subst e
              rw [HFN.out, ← hkl]
              exact hq
            clear hlt hkl
            go_wp2_with fail
            go_roundw
            case rel => exact .inr ⟨by first | rfl | go_num, HFIN, HBW⟩
            case measure => simp [intOf]
    · go_wp2_with fail
      go_ret
      exact ⟨_, rfl, HO.out, HB.out⟩
set_option maxRecDepth 100000 in
set_option maxHeartbeats 8000000 in
theorem rflat_any (b : Bat) (A : Option Addr) (c g : Nat) (w : World) (hk : w.heap[g]? = some (.cells (b.cells A c) 66 (0, 0))) (hL : Rcs w w.heap.size A b.L.length b.L) (hl : b.L.length ≤ 80) (h1 : 0 ≤ b.base) (h2 : b.base ≤ 2199023255552) :
    Calls Try.prog 51 #[.slice (some ⟨g, 0, none⟩) 1 1] w fun e w' => ∃ v, e = .returned v ∧ w'.ownsRow w.heap.size 98 5 v (flatL b).length (acells (flatL b)) ∧ Below w.heap.size w w' := by
  obtain ⟨j0, qj0, qy0, qy1, qy2⟩ := info_parts zero_rat
  have HMK : Hid (∀ W, Calls Try.prog 87 #[.agg (b.cells A c)] W fun e w' => e = .returned (.bool (markB b)) ∧ Below W.heap.size W w') := fun W => rmark_any b A c W
  have HFL : Hid (flatL b = if markB b then [] else flatTo b b.L.length) := rfl
  have HFS : Hid (∀ k, flatTo b (k + 1) = flatTo b k ++ [⟨b.base + (k : Int), b.L.getD k default⟩]) := fun k => flatTo_succ b k
  have HF0 : Hid (flatTo b 0 = []) := rfl
  have HFN : Hid (∀ k, (flatTo b k).length = k) := fun k => flatTo_len b k
  generalize flatL b = FL at *
  generalize markB b = MK at *
  generalize flatTo b = FT at *
  obtain ⟨base, pid, epoch, seq, kind, time, L⟩ := b
  simp only [Bat.cells] at *
  have y0 := cell_of_row _ _ 0 _ _ _ hk
  have y1 := cell_of_row _ _ 1 _ _ _ hk
  have y2 := cell_of_row _ _ 2 _ _ _ hk
  have y3 := cell_of_row _ _ 3 _ _ _ hk
  have y4 := cell_of_row _ _ 4 _ _ _ hk
  have y5 := cell_of_row _ _ 5 _ _ _ hk
  have y6 := cell_of_row _ _ 6 _ _ _ hk
  have HL := Lib.hid hL
  have hgl : g < w.heap.size := (Array.getElem?_eq_some_iff.1 hk).1
  clear hL hk
  go_enter Try.func51, Try.ntmps51
  go_wp2_with fail
  go_loopw [3, 10] (fun v i wr => (v = .slice none 0 0 ∧ i = .int .i64 0 ∧ w = wr) ∨ (i = .int .i64 1 ∧ Hid (wr.ownsRow w.heap.size 98 5 v FL.length (acells FL)) ∧ Hid (Below w.heap.size w wr))) (fun _ i _ => 1 - (intOf i).toNat)
  case atStart => exact .inl ⟨rfl, rfl, rfl⟩
  case round =>
    rcases hrel with ⟨rfl, rfl, rfl⟩ | ⟨rfl, HO, HB⟩
    · obtain ⟨w3, hw3⟩ : ∃ w3, w.alloc (.cells #[.int .i64 base, .int .i64 pid, .int .i64 epoch, .int .i64 seq, .int .i64 kind, .int .i64 time, .slice A L.length c] 66) = w3 := ⟨_, rfl⟩
      have hal : Below w.heap.size w w3 := by rw [← hw3]; exact (Below.refl _ _).alloc (Nat.le_refl _) _
      have HN3 : Hid (w3.heap[w.heap.size]? = some (.cells #[.int .i64 base, .int .i64 pid, .int .i64 epoch, .int .i64 seq, .int .i64 kind, .int .i64 time, .slice A L.length c] 66 (0, 0))) := by rw [← hw3]; exact heap_alloc_new w _
      have hz3 : w3.heap.size = w.heap.size + 1 := by rw [← hw3]; simp
      have HAL := Lib.hid hal
      have HZ3 := Lib.hid hz3
      clear hal hz3
      have HW3 := Lib.hid hw3
      clear hw3
      go_upto_region 5 with fail
      rw [HW3.out]
      have HN4 := HN3
      have HB4 := HAL
      have HZ4 : Hid (w3.heap.size ≤ w3.heap.size) := Nat.le_refl _
      have x6 := cell_of_row _ _ 6 _ _ _ HN4.out
      go_wp2_with fail
      clear x6
      go_loopw [3, 17] (fun v i ws => ∃ k : Nat, k ≤ L.length ∧ i = .int .i64 k ∧ Hid (ws.ownsRow w3.heap.size 98 5 v (if MK then 0 else k) (acells (if MK then [] else FT k))) ∧ Hid (Below w3.heap.size w3 ws)) (fun _ i _ => L.length - (intOf i).toNat)
      case atStart => exact ⟨0, by omega, rfl, by rw [HF0.out]; cases MK <;> exact World.ownsRow_nil _ _ _ _, Below.refl _ _⟩
      case round =>
        obtain ⟨k, hk, rfl, HO, HB⟩ := hrel
        have hzr := HB.out.size
        have hz4 : w.heap.size < w3.heap.size := (Array.getElem?_eq_some_iff.1 HN4.out).1
        have HN5 := Lib.hid ((HB.out.block w.heap.size hz4).trans HN4.out)
        have HBW := Lib.hid (HB4.out.trans (HB.out.mono (Nat.le_of_lt hz4)))
        by_cases hlt : k < L.length
        · obtain ⟨p, rfl, hp, r0, r1, r2, r3⟩ := (HL.out.below HBW.out).row hlt
          have hkz : (k : Int) < (L.length : Int) := by omega
          have HS := Lib.hid (HFS.out k)
          generalize L.getD k default = re at *
          obtain ⟨key, value, gone, rt⟩ := re
          simp only at r0 r1 r2 r3 HS
          have hal5 := (Below.refl wr.heap.size wr).alloc (Nat.le_refl _) (.cells #[.string key, .string value, .bool gone, .int .i64 rt] 84)
          have hN5 := heap_alloc_new wr (.cells #[.string key, .string value, .bool gone, .int .i64 rt] 84)
          have hz5 : (wr.alloc (.cells #[.string key, .string value, .bool gone, .int .i64 rt] 84)).heap.size = wr.heap.size + 1 := by simp
          have hM5 := (hal5.block w.heap.size (by omega)).trans HN5.out
          have HO5 := Lib.hid (HO.out.alloc (.cells #[.string key, .string value, .bool gone, .int .i64 rt] 84))
          have HB5 := Lib.hid (HB.out.trans (hal5.mono hzr))
          obtain ⟨w5, hw5⟩ : ∃ w5, wr.alloc (.cells #[.string key, .string value, .bool gone, .int .i64 rt] 84) = w5 := ⟨_, rfl⟩
          rw [hw5] at hN5 hz5 hM5 HO5 HB5
          have HW5 := Lib.hid hw5
          have HN5' := Lib.hid hN5
          have HM5 := Lib.hid hM5
          have HZ5 := Lib.hid hz5
          clear hw5 hal5
          go_upto_region 8 with fail
          rw [HW5.out]
          have x0 := cell_of_row _ _ 0 _ _ _ hM5
          have x1 := cell_of_row _ _ 1 _ _ _ hM5
          have x2 := cell_of_row _ _ 2 _ _ _ hM5
          have x3 := cell_of_row _ _ 3 _ _ _ hM5
          have x4 := cell_of_row _ _ 4 _ _ _ hM5
          have x5 := cell_of_row _ _ 5 _ _ _ hM5
          have x6 := cell_of_row _ _ 6 _ _ _ hM5
          clear hM5 hN5
          go_wp2_with fail
          refine (HMK.out _).mono ?_
          rintro e w6 ⟨rfl, hb6⟩
          have hN6 := (hb6.block wr.heap.size (by omega)).trans HN5'.out
          have hM6 := (hb6.block w.heap.size (by omega)).trans HM5.out
          have HB6 := Lib.hid (HB5.out.trans (hb6.mono HB5.out.size))
          have HO6 := Lib.hid (rowb HO5.out hb6)
          have hz6 := hb6.size
          clear hb6 x0 x1 x2 x3 x4 x5 x6
          cases MK with
          | true =>
            go_wp2_with fail
            go_roundw
            case rel => exact ⟨k + 1, by omega, by go_num, HO6, HB6⟩
            case measure => simp [intOf]; omega
          | false =>
            simp only [Bool.false_eq_true, if_false] at HO6
            have n0 := cell_of_row _ _ 0 _ _ _ hN6
            have n1 := cell_of_row _ _ 1 _ _ _ hN6
            have n2 := cell_of_row _ _ 2 _ _ _ hN6
            have n3 := cell_of_row _ _ 3 _ _ _ hN6
            have b0 := cell_of_row _ _ 0 _ _ _ hM6
            have hown := HO6.out
            have hk80 : k ≤ 80 := by omega
            clear hz5
            obtain ⟨acc, hacc⟩ : ∃ acc, FT k = acc := ⟨_, rfl⟩
            rw [hacc] at hown HS
            have hown8 := hown.alloc (.cells #[.int .i64 (base + (k : Int)), .string key, .string value, .bool gone, .int .i64 rt] 98)
            go_wp2_with (at_builtin; go_loud (refine wpList_append_own_at _ rfl (.tmp 25) (.tmp 32) 95 rfl w3.heap.size 98 j0 _ 5 56 Try.underlying95 qj0 qy0 qy1 qy2 rfl (by decide) _ k (acells acc) rfl hown8 ⟨w6.heap.size, 0, none⟩ 1 1 [.int .i64 (base + (k : Int)), .string key, .string value, .bool gone, .int .i64 rt] rfl rfl (new_cellsR w6 [.int .i64 (base + (k : Int)), .string key, .string value, .bool gone, .int .i64 rt] _) ?g1 ?g2 ?g3 ?g4 ?_))
            case g1 => intro u hu; simp at hu; rcases hu with rfl | rfl | rfl | rfl | rfl <;> rfl
            case g2 => unfold maxLen; omega
            case g3 => omega
            case g4 => have := HB6.out.size; simp; omega
            intro va w7 hown7 hg7 _ _
            have HO7 : Hid (w7.ownsRow w3.heap.size 98 5 va (k + 1) (acells (FT (k + 1)))) := by show World.ownsRow _ _ _ _ _ _ _; rw [HS.out, acells_append]; simpa [acells, AtR.cells, Rec.cells] using hown7
            have HB7 := Lib.hid ((HB6.out.alloc HB6.out.size _).trans ((Below.refl _ _).grown hg7 (by have := HB6.out.size; simp; omega) (fun q hq => (World.ownsRow.lt hown8 q hq).1)))
            clear hown8 hown7 hg7 hown n0 n1 n2 n3 b0
            go_wp2_with fail
            go_roundw
            case rel => exact ⟨k + 1, by omega, by go_num, by simp only [Bool.false_eq_true, if_false]; exact HO7, HB7⟩
            case measure => simp [intOf]; omega
        · have d8 : decide ((k : Int) < (L.length : Int)) = false := by rw [decide_eq_false_iff_not]; omega
          have d9 : decide (k < L.length) = false := by rw [decide_eq_false_iff_not]; omega
          obtain hkl : k = L.length := by omega
          have HFIN : Hid (wr.ownsRow w.heap.size 98 5 u3 FL.length (acells FL)) := by
            have e := HFL.out
            have hq := row_base HO.out (base' := w.heap.size) (Nat.le_of_lt hz4)
            rw [hkl] at hq
            cases MK with
            | true => simp only [if_true, reduceIte] at e hq; subst e; exact hq
            | false => simp only [Bool.false_eq_true, if_false, reduceIte] at e hq; subst e; rw [HFN.out]; exact hq
          clear hlt hkl
          go_wp2_with fail
          go_roundw
          case rel => exact .inr ⟨by first | rfl | go_num, HFIN, HBW⟩
          case measure => simp [intOf]
    · go_wp2_with fail
      go_ret
      exact ⟨_, rfl, HO.out, HB.out⟩
end Go.Proofs.Ytabbbamokhaaoaa
