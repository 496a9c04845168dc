/-
  What law02's few and all do, and the reference's Same.
-/
import Derived.Test.YthkkjefcdedlfaaAwake2
import Derived.Test.YthkkjefcdedlfaaRows2
namespace Go.Proofs.Ythkkjefcdedlfaa
open Go.RowKit
set_option linter.unusedVariables false
set_option linter.unusedSimpArgs false

theorem slice_info : (Try.prog.info? 23).map (fun i => (i.zero, i.size, i.bytes)) = some (some (.slice none 0 0), 1, 24) := by kernel_rfl

set_option maxHeartbeats 400000 in
theorem short_any (A : Option Addr) (n c m : Nat) (w : World) (hn : n ≤ c) (hc : c ≤ maxLen) (hm : m ≤ 100000) :
    Calls Try.prog 47 #[.slice A n c, .int .i64 (m : Int)] w fun e w' => e = .returned (.slice A (min n m) c) ∧ w = w' := by
  unfold maxLen at hc
  rcases Nat.lt_or_ge m n with h | h
  · have HM := Lib.hid (Nat.min_eq_right (Nat.le_of_lt h))
    go_enter Try.func47, Try.ntmps47
    go_wp2
    go_ret
    exact ⟨by rw [HM.out]; rfl, rfl⟩
  · have HM := Lib.hid (Nat.min_eq_left h)
    go_enter Try.func47, Try.ntmps47
    go_wp2
    go_ret
    exact ⟨by rw [HM.out]; rfl, rfl⟩

def few (L : List (List UInt8)) : List (List UInt8) := (L.take 8).map (·.take 200)
def fewTo (L : List (List UInt8)) (k : Nat) : List (List UInt8) := (L.take k).map (·.take 200)
theorem fewTo_succ (L : List (List UInt8)) (k : Nat) (h : k < L.length) : fewTo L (k + 1) = fewTo L k ++ [(L.getD k []).take 200] := by
  unfold fewTo
  rw [List.take_succ_eq_append_getElem h, List.map_append, List.getD_eq_getElem?_getD, List.getElem?_eq_getElem h]
  rfl
theorem fewTo_length (L : List (List UInt8)) (k : Nat) (h : k ≤ L.length) : (fewTo L k).length = k := by
  unfold fewTo
  rw [List.length_map, List.length_take]
  omega
theorem few_eq (L : List (List UInt8)) : few L = fewTo L 8 := rfl
theorem few_all (L : List (List UInt8)) (h : L.length ≤ 8) : few L = fewTo L L.length := by
  unfold few fewTo
  rw [List.take_length, List.take_of_length_le h]

set_option maxRecDepth 100000 in
set_option maxHeartbeats 1000000 in
theorem few_any (A : Option Addr) (n c : Nat) (L : List (List UInt8)) (w : World) (hL : Rs w w.heap.size A n L) (hn : n ≤ maxLen) :
    Calls Try.prog 38 #[.slice A n c] w fun e w' => ∃ v, e = .returned v ∧ OwnR w' w.heap.size v (few L) ∧ Below w.heap.size w w' := by
  obtain ⟨i0, hi0, hz0, hz1, hz2⟩ := info_parts slice_info
  unfold maxLen at hn
  have hlen := hL.len
  have hlen1 : L.length ≤ n := by omega
  have hlen2 : n ≤ L.length := by omega
  clear hlen
  go_enter Try.func38, Try.ntmps38
  go_wp2
  go_loopw [3, 8] (fun v i wr => ∃ k : Nat, k ≤ n ∧ k ≤ 8 ∧ i = .int .i64 k ∧ OwnR wr w.heap.size v (fewTo L k) ∧ Below w.heap.size w wr) (fun _ i _ => 9 - (intOf i).toNat)
  case atStart => exact ⟨0, by omega, by omega, rfl, OwnR.nil_ _ _, Below.refl _ _⟩
  case round =>
    obtain ⟨k, hk, hk8, rfl, hown, hb⟩ := hrel
    by_cases hlt : k < n
    · obtain ⟨ad, A', c', rfl, hadb, hc, hl, hm, hr⟩ := (hL.below hb).row k hlt
      by_cases h8 : k < 8
      · have HS := Lib.hid (fewTo_succ L k (by omega))
        have HLN := Lib.hid (fewTo_length L k (by omega))
        have hsh := hr.take (min (L.getD k []).length 200) (Nat.min_le_left _ _)
        rw [show (L.getD k []).take (min (L.getD k []).length 200) = (L.getD k []).take 200 from by rw [List.take_eq_take_iff]; omega] at hsh
        have hmin : min (L.getD k []).length 200 ≤ c' := by omega
        have HSH := Lib.hid (short_any A' (L.getD k []).length c' 200 wr hl hm (by omega))
        obtain ⟨vs, hown1, hrow1⟩ := hown.cells
        have hlt1 := hown.lt
        generalize (L.getD k []).take 200 = l at *
        generalize min (L.getD k []).length 200 = m at *
        generalize (L.getD k []).length = n' at *
        have HR := Lib.hid hrow1
        have HW := Lib.hid hown1
        have HLT := Lib.hid hlt1
        clear hrow1 hown1 hlt1 hown
        unfold maxLen at hm
        go_wp2_with fail
        refine HSH.out.mono ?_
        rintro e w2 ⟨rfl, rfl⟩
        go_wp2_with (at_builtin; refine wpList_append_src _ rfl (.tmp 15) (.tmp 18) 24 rfl w.heap.size 23 i0 _ 24 Try.underlying24 hi0 hz0 hz1 hz2 rfl _ (fewTo L k).length vs rfl (HW.out.alloc _) (wr.heap.size + 1) (some ⟨wr.heap.size, 0, none⟩) 1 1 _ rfl rfl (Lies.of_new _ _ _) ?h1 ?h2 ?h3 ?h4 ?_)
        case h1 => rfl
        case h2 => have := HLN.out; unfold maxLen; omega
        case h3 => have := HLN.out; omega
        case h4 => have := hb.size; simp; omega
        intro v' w3 hown3 hg3 hat3
        have hbz := hb.size
        have hba : Below wr.heap.size wr (wr.alloc (.cells #[.slice A' m c'] 23)) := (Below.refl _ _).alloc (Nat.le_refl _) _
        have hne : ∀ p, A' = some p → l ≠ [] → some p.block ≠ u3.ownBlock := by
          intro p hp hl0 he
          have h1 := hsh.block_lt hl0 p hp
          have h2 := (HLT.out p.block he.symm).1
          omega
        have R : OwnR w3 w.heap.size v' (fewTo L k ++ [l]) := OwnR.push (HW.out.alloc _) (rows_below hba HR.out) (((hsh.wider hbz).below hba).wider (by simp)) hmin hm hne hown3 hg3 (by simpa using hat3)
        have hb3 : Below w.heap.size w w3 := (hb.alloc hbz _).trans ((Below.refl _ _).grown hg3 (by simp; omega) (fun k hk => (HLT.out k hk).1))
        clear hown3 hg3 hat3 HW HR HLT hsh hb
        go_wp2
        go_roundw
        case rel => exact ⟨k + 1, by omega, by omega, by go_num, by rw [HS.out]; exact R, hb3⟩
        case measure => simp [intOf]; omega
      · have HE : Hid (few L = fewTo L k) := by
          rw [few_eq, show k = 8 from by omega]
          rfl
        unfold maxLen at hm
        go_wp2
        go_ret
        exact ⟨u3, rfl, by rw [HE.out]; exact hown, hb⟩
    · obtain rfl : k = n := by omega
      have HE : Hid (few L = fewTo L k) := by
        rw [few_all L (by omega), show L.length = k from by omega]
        rfl
      go_wp2
      go_ret
      exact ⟨u3, rfl, by rw [HE.out]; exact hown, hb⟩

theorem flat_len (L : List (List UInt8)) (k m : Nat) (h : ∀ l ∈ L, l.length ≤ m) : ((L.take k).flatten).length ≤ k * m := by
  induction L generalizing k with
  | nil => simp
  | cons l L ih =>
    cases k with
    | zero => simp
    | succ k =>
      have h1 := ih k (fun x hx => h x (List.mem_cons_of_mem _ hx))
      have h2 := h l List.mem_cons_self
      simp only [List.take_succ_cons, List.flatten_cons, List.length_append, Nat.succ_mul]
      omega

set_option maxRecDepth 100000 in
set_option maxHeartbeats 1000000 in
theorem all_any (A : Option Addr) (n c : Nat) (L : List (List UInt8)) (w : World) (hL : Rs w w.heap.size A n L) (hn : n ≤ maxLen) (ht : tot L ≤ 1099511627776) :
    Calls Try.prog 39 #[.slice A n c] w fun e w' => ∃ v, e = .returned v ∧ Own w' w.heap.size v L.flatten ∧ Below w.heap.size w w' := by
  obtain ⟨i0, hi0, hz0, hz1, hz2⟩ := info_parts byte_info
  unfold maxLen at hn
  have hlen := hL.len
  have hlen1 : L.length ≤ n := by omega
  have hlen2 : n ≤ L.length := by omega
  clear hlen
  go_enter Try.func39, Try.ntmps39
  go_wp2
  go_loopw [3, 8] (fun v i wr => ∃ k : Nat, k ≤ n ∧ i = .int .i64 k ∧ Own wr w.heap.size v ((L.take k).flatten) ∧ Below w.heap.size w wr) (fun _ i _ => n - (intOf i).toNat)
  case atStart => exact ⟨0, by omega, rfl, Own.nil_ _ _, Below.refl _ _⟩
  case round =>
    obtain ⟨k, hk, rfl, hown, hb⟩ := hrel
    by_cases hlt : k < n
    · obtain ⟨ad, A', c', rfl, hadb, hc, hl, hm, hr⟩ := (hL.below hb).row k hlt
      have HS := Lib.hid (flat_take L k (by omega))
      have h1 : ((L.take k).flatten).length + (L.getD k []).length ≤ 1099511627776 := by
        have := tot_take L k (by omega)
        have := tot_le L (k + 1)
        unfold tot at *
        omega
      clear ht
      generalize L.getD k [] = l at *
      generalize (L.take k).flatten = acc at *
      unfold maxLen at hm
      go_wp2_with (at_builtin; refine wpList_append_src _ rfl (.tmp 12) (.tmp 13) 23 rfl w.heap.size 5 i0 _ 1 Try.underlying23 hi0 hz0 hz1 hz2 rfl _ acc.length (bvs acc) rfl hown w.heap.size A' l.length c' (bvs l) rfl (bvs_length l) hr.lies (bvs_one l) (by unfold maxLen; omega) (by omega) hb.size ?_)
      intro v' w4 hown4 hg4 _
      have hb4 := hb.trans (grown_below hown hg4 hb.size)
      have R : Own w4 w.heap.size v' (acc ++ l) := by
        unfold Own
        rw [bvs_append, List.length_append]
        exact hown4
      clear hown4 hg4 hown hb hc hr
      go_wp2
      go_roundw
      case rel => exact ⟨k + 1, by omega, by go_num, by rw [HS.out]; exact R, hb4⟩
      case measure => simp [intOf]; omega
    · obtain rfl : k = n := by omega
      have hT : (L.take k).flatten = L.flatten := by rw [List.take_of_length_le (by omega)]
      rw [hT] at hown
      clear hT
      go_wp2
      go_ret
      exact ⟨u3, rfl, hown, hb⟩

set_option maxRecDepth 100000 in
set_option maxHeartbeats 1000000 in
/-- two lists of rows that are the same -/
theorem same_yes (A A2 : Option Addr) (n c c2 B : Nat) (L : List (List UInt8)) (w : World) (hL : Rs w B A n L) (hM : Rs w B A2 n L) (hn : n ≤ maxLen) :
    Calls Try.prog 52 #[.slice A n c, .slice A2 n c2] w fun e w' => e = .returned (.bool true) ∧ Below w.heap.size w w' := by
  unfold maxLen at hn
  go_enter Try.func52, Try.ntmps52
  go_wp2
  go_loopw [13] (fun i wr => ∃ k q : Nat, k ≤ n ∧ i = .int .i64 k ∧ wr = w.drewN q) (fun i _ => n - (intOf i).toNat)
  case atStart => exact ⟨0, 0, by omega, rfl, rfl⟩
  case round =>
    obtain ⟨k, q, hk, rfl, rfl⟩ := hrel
    by_cases hlt : k < n
    · obtain ⟨ad, A', c', rfl, hadb, hc, hl, hm, hr⟩ := hL.row k hlt
      obtain ⟨ad2, A2', c2', rfl, hadb2, hc2, hl2, hm2, hr2⟩ := hM.row k hlt
      generalize L.getD k [] = l at *
      have s1 := fun q => (hr.drewN q).str (P := Try.prog) (src := 23) (dst := 9) (e := 5) Try.underlying23 Try.underlying5 Try.underlying9 c'
      have s2 := fun q => (hr2.drewN q).str (P := Try.prog) (src := 23) (dst := 9) (e := 5) Try.underlying23 Try.underlying5 Try.underlying9 c2'
      unfold maxLen at hm hm2
      clear hr hr2
      have k1 : (k : Int) < (n : Int) := by omega
      go_wp2
      go_quiet (fail)
      go_wp2
      go_roundw
      case rel => exact ⟨k + 1, _, by omega, by go_num, rfl⟩
      case measure => simp [intOf]; omega
    · go_wp2
      go_ret
      exact ⟨rfl, below_draws (Below.refl _ _) _⟩
end Go.Proofs.Ythkkjefcdedlfaa
