/-
  What towpathlaw05.gapped and laid do.
-/
import Derived.Test.YtabbbamokhaaoaaIdxF
import Derived.Test.YtabbbamokhaaoaaIdxN
namespace Go.Proofs.Ytabbbamokhaaoaa
open Go.RowKit
set_option linter.unusedVariables false
set_option linter.unusedSimpArgs false

def gapI (n : Int) : Int := ((n.natAbs % 300 : Nat) : Int) + 1
theorem gapI_le (n : Int) : 1 ≤ gapI n ∧ gapI n ≤ 300 := by unfold gapI; omega
theorem tmod_abs (n : Int) (m : Nat) (hm : 0 < m) : ((Int.tmod n m < 0 → -(Int.tmod n m) = ((n.natAbs % m : Nat) : Int)) ∧ (¬ Int.tmod n m < 0 → Int.tmod n m = ((n.natAbs % m : Nat) : Int))) := by
  rcases Int.natAbs_eq n with h | h
  · have e : Int.tmod n m = ((n.natAbs % m : Nat) : Int) := by
      conv => lhs; rw [h]
      rw [← Int.ofNat_tmod]
    rw [e]
    exact ⟨fun h => by omega, fun _ => rfl⟩
  · have e : Int.tmod n m = -((n.natAbs % m : Nat) : Int) := by
      conv => lhs; rw [h]
      rw [Int.neg_tmod, ← Int.ofNat_tmod]
    rw [e]
    exact ⟨fun _ => by omega, fun h => by omega⟩

set_option maxRecDepth 100000 in
set_option maxHeartbeats 1000000 in
theorem gapped_any (n : Int) (w : World) (h1 : -9223372036854775808 ≤ n) (h2 : n ≤ 9223372036854775807) :
    Calls Try.prog 26 #[.int .i64 n] w fun e w' => e = .returned (.int .i64 (gapI n)) ∧ w' = w := by
  obtain ⟨ha, hb⟩ := tmod_abs n 300 (by omega)
  have hr : n.natAbs % 300 < 300 := by omega
  have HG : Hid (gapI n = ((n.natAbs % 300 : Nat) : Int) + 1) := rfl
  generalize gapI n = gp at *
  generalize n.natAbs % 300 = m at *
  by_cases hn : Int.tmod n (300 : Nat) < 0
  · have e := ha hn
    have hm : Int.tmod n 300 = -(m : Int) := by have : ((300 : Nat) : Int) = 300 := rfl; rw [this] at e; omega
    have d1 : decide (-(m : Int) < 0) = true := by have : ((300 : Nat) : Int) = 300 := rfl; rw [this, hm] at hn; simpa using hn
    have d2 : decide (0 < m) = true := by simp at d1; simpa using d1
    clear ha hb hn e d1
    go_enter Try.func26, Try.ntmps26
    go_wp2
    go_ret
    exact ⟨by rw [HG.out]; first | rfl | simp, rfl⟩
  · have e := hb hn
    have hm : Int.tmod n 300 = (m : Int) := by have : ((300 : Nat) : Int) = 300 := rfl; rw [this] at e; omega
    have d1 : decide ((m : Int) < 0) = false := by have : ((300 : Nat) : Int) = 300 := rfl; rw [this, hm] at hn; exact decide_eq_false hn
    clear ha hb hn e
    go_enter Try.func26, Try.ntmps26
    go_wp2
    go_ret
    exact ⟨by rw [HG.out]; first | rfl | simp, rfl⟩

theorem abs_cases (n : Int) (m : Nat) (hm : 0 < m) : Int.tmod n m = ((n.natAbs % m : Nat) : Int) ∨ (Int.tmod n m = -((n.natAbs % m : Nat) : Int) ∧ 0 < n.natAbs % m) := by
  obtain ⟨h1, h2⟩ := tmod_abs n m hm
  by_cases h : Int.tmod n m < 0
  · have := h1 h
    exact .inr ⟨by omega, by omega⟩
  · exact .inl (h2 h)
theorem lay_len (gap : Int) (S T : List Int) (k : Nat) : (lay gap S T k).L.length ≤ k := by
  induction k with
  | zero => exact Nat.le_refl _
  | succ k ih =>
    show (Idx.note _ _ _ _).L.length ≤ _
    unfold Idx.note
    split
    · simp; omega
    · show (lay gap S T k).L.length ≤ _; omega
theorem Ix.grown {w w' : World} {base g : Nat} {v : Value} {x : Idx} {o : Option Nat} (h : Ix w base g v x) (hg : w.grownBy w' o) (h1 : some g ≠ o) (h2 : v.ownBlock = none ∨ v.ownBlock ≠ o) : Ix w' base g v x :=
  ⟨(hg.block g h.lt h1).trans h.blk, h.own.kept hg h2, h.ne, h.lo⟩
theorem zero_noted : (Try.prog.info? 38).map (fun i => (i.zero, i.size, i.bytes)) = some (some (.agg #[.int .i64 0, .int .i64 0, .int .i64 0]), 3, 24) := by kernel_rfl
theorem batches_cells (S T : List Int) (k : Nat) : ecells (batches S T (k + 1)) = ecells (batches S T k) ++ [.int .i64 (3 * (k : Int)), .int .i64 (plc S k), .int .i64 (tim T k)] := by
  rw [batches_succ, ecells_append]; rfl

/-- what stands at the loop's head -/
structure Lay (w : World) (gap : Int) (S T : List Int) (wr : World) (k : Nat) (va v : Value) : Prop where
  ix : Ix wr w.heap.size w.heap.size v (lay gap S T k)
  own : wr.ownsRow w.heap.size 38 3 va k (ecells (batches S T k))
  ne : va.ownBlock ≠ some w.heap.size
  apart : va.ownBlock = none ∨ va.ownBlock ≠ v.ownBlock
  below : Below w.heap.size w wr
/-- one round -/
theorem Lay.step {w wr w4 w5 : World} {gap : Int} {S T : List Int} {k : Nat} {va v va' v' : Value} {o : Obj} (h : Lay w gap S T wr k va v) (hown : w4.ownsRow w.heap.size 38 3 va' (k + 1) (ecells (batches S T (k + 1)))) (hg : (wr.alloc o).grownBy w4 va.ownBlock)
    (hat : va'.ownBlock = va.ownBlock ∨ va'.ownBlock = some (wr.heap.size + 1)) (hx : Ix w5 w.heap.size w.heap.size v' (lay gap S T (k + 1))) (hb : But w.heap.size v.ownBlock w4 w5) (hn : Newer w4 v.ownBlock v'.ownBlock) : Lay w gap S T w5 (k + 1) va' v' := by
  have hwr := h.below.size
  have hgl := h.ix.lt
  have hvl := World.ownsRow.lt h.ix.own
  have hal := World.ownsRow.lt h.own
  have hz : (wr.alloc o).heap.size = wr.heap.size + 1 := by simp
  have hs4 := hg.size
  have hal4 := World.ownsRow.lt hown
  have n1 : va'.ownBlock ≠ some w.heap.size := by
    rcases hat with e | e
    · rw [e]; exact h.ne
    · rw [e]; intro e2; injection e2 with e2; omega
  have n2 : va'.ownBlock = none ∨ va'.ownBlock ≠ v.ownBlock := by
    rcases hat with e | e
    · rw [e]; exact h.apart
    · right; rw [e]; intro e2; have := (hvl _ e2.symm).2; omega
  refine ⟨hx, hb.row hown n1 n2, n1, ?_, ?_⟩
  · rcases hn with e | ⟨j, e, hj⟩
    · rw [e]; exact n2
    · cases hv : va'.ownBlock with
      | none => exact .inl rfl
      | some a => right; rw [e]; intro e2; injection e2 with e2; have := (hal4 a hv).2; omega
  · have b1 := h.below.alloc hwr o
    have b2 : Below w.heap.size (wr.alloc o) w4 := ⟨hg.os, hg.tape, hg.output, hg.size, fun i hi => hg.block i (by omega) (fun e => by have := (hal i e.symm).1; omega)⟩
    exact (b1.trans b2).trans (hb.below (Nat.le_refl _) (fun j hj => (hvl j hj).1) (by omega))
theorem Lay.ix4 {w wr w4 : World} {gap : Int} {S T : List Int} {k : Nat} {va v : Value} {o : Obj} (h : Lay w gap S T wr k va v) (hg : (wr.alloc o).grownBy w4 va.ownBlock) : Ix w4 w.heap.size w.heap.size v (lay gap S T k) :=
  (h.ix.below ((Below.refl _ _).alloc (Nat.le_refl _) o) (Nat.le_refl _)).grown hg (fun e => h.ne e.symm) (by
    rcases h.apart with e | e
    · cases hv : v.ownBlock with
      | none => exact .inl rfl
      | some a => right; rw [e]; simp
    · exact .inr (fun e2 => e e2.symm))

set_option maxRecDepth 100000 in
set_option maxHeartbeats 8000000 in
theorem laid_any (gap : Int) (S T : List Int) (A1 A2 : Option Addr) (c1 c2 : Nat) (w : World) (hg1 : -9223372036854775808 ≤ gap) (hg2 : gap ≤ 9223372036854775807) (hS : Ins w w.heap.size A1 S.length S) (hT : Ins w w.heap.size A2 T.length T) (hs : S.length ≤ maxLen) (ht : T.length ≤ maxLen) :
    Calls Try.prog 20 #[.int .i64 gap, .slice A1 S.length c1, .slice A2 T.length c2] w fun e w' => ∃ k va v, e = .returned (.tuple #[.pointer (some ⟨w.heap.size, 0, none⟩), va]) ∧ (k = S.length ∨ k = 80) ∧ k ≤ S.length ∧ k ≤ 80 ∧ Lay w (gapI gap) S T w' k va v := by
  obtain ⟨j0, qj0, qy0, qy1, qy2⟩ := info_parts zero_noted
  have HG := Lib.hid (gapped_any gap w hg1 hg2)
  obtain ⟨k1, k2⟩ := gapI_le gap
  have HLA := Lib.hid (laid_all (gapI gap) S T k1)
  have HW := Lib.hid (new_any (gapI gap) w k1 (by omega))
  unfold maxLen at hs ht
  have HS := Lib.hid hS
  have HT := Lib.hid hT
  generalize gapI gap = gp at *
  clear hS hT
  go_enter Try.func20, Try.ntmps20
  go_wp2_with fail
  refine HG.out.mono ?_
  rintro e w1 ⟨rfl, hw1⟩
  rw [hw1]
  clear hw1 w1
  go_wp2_with fail
  refine HW.out.mono ?_
  rintro e w2 ⟨rfl, hx2, hb2⟩
  have HX2 := Lib.hid hx2
  have HB2 := Lib.hid hb2
  clear hx2 hb2 HG HW
  go_wp2_with fail
  go_loopw [10, 11, 23] (fun va pv i wr => ∃ k : Nat, k ≤ S.length ∧ k ≤ 80 ∧ i = .int .i64 k ∧ pv = .int .i64 (plc S k) ∧ ∃ v, Lay w gp S T wr k va v) (fun _ _ i _ => S.length - (intOf i).toNat)
  case atStart => exact ⟨0, by omega, by omega, rfl, rfl, _, HX2.out, World.ownsRow_nil _ _ _ _, by simp [Value.ownBlock], .inl rfl, HB2.out⟩
  case round =>
    obtain ⟨k, hk, hk8, rfl, rfl, v, hl⟩ := hrel
    have HL := Lib.hid hl
    clear hl
    by_cases hlt : k < S.length
    · obtain ⟨p, rfl, hp, hc, b1, b2⟩ := (HS.out.below HL.out.below).row k hlt
      have hz : (k : Int) < (S.length : Int) := by omega
      by_cases h8 : k < 80
      · have d8 : decide ((80 : Int) ≤ (k : Int)) = false := by rw [decide_eq_false_iff_not]; omega
        have HPB : Hid (0 ≤ plc S k ∧ plc S k ≤ 4194304) := by have := plc_le S k; exact ⟨by omega, by omega⟩
        have HLL : Hid ((lay gp S T k).L.length ≤ 1000000) := by have := lay_len gp S T k; show _ ≤ _; omega
        have HQ : Hid (∀ a, a < (lay gp S T k).L.length → 0 ≤ ((lay gp S T k).L.getD a default).pl ∧ ((lay gp S T k).L.getD a default).pl ≤ 4194304) := fun a ha => by
          obtain ⟨i, hi, e⟩ := (HLA.out k).each a ha
          rw [e]
          have := plc_le S i
          exact ⟨by show 0 ≤ plc S i; omega, by show plc S i ≤ _; omega⟩
        have hpb := plc_le S k
        have HP : Hid (plc S (k + 1) = plc S k + (((S.getD k 0).natAbs % 120 : Nat) : Int) + 1) := rfl
        have hab := abs_cases (S.getD k 0) 120 (by omega)
        have hal : (S.getD k 0).natAbs % 120 < 120 := by omega
        have h120 : ((120 : Nat) : Int) = 120 := rfl
        rw [h120] at hab
        have h1000 : ((1000 : Nat) : Int) = 1000 := rfl
        generalize (S.getD k 0).natAbs % 120 = a at *
        generalize S.getD k 0 = sv at *
        clear h120
        rcases hab with hm | ⟨hm, ha⟩
        · have d1 : decide ((a : Int) < 0) = false := by rw [decide_eq_false_iff_not]; omega
          by_cases hkt : k < T.length
          · obtain ⟨p2, rfl, hp2, hc2, b3, b4⟩ := (HT.out.below HL.out.below).row k hkt
            have hz2 : (k : Int) < (T.length : Int) := by omega
            have htb := abs_cases (T.getD k 0) 1000 (by omega)
            have htl : (T.getD k 0).natAbs % 1000 < 1000 := by omega
            rw [h1000] at htb
            have HTT : Hid (tim T k = (((T.getD k 0).natAbs % 1000 : Nat) : Int)) := rfl
            generalize (T.getD k 0).natAbs % 1000 = b at *
            generalize T.getD k 0 = tv at *
            rcases htb with hm2 | ⟨hm2, hb2⟩
            · have d2 : decide ((b : Int) < 0) = false := by rw [decide_eq_false_iff_not]; omega
              go_wp2_with (at_builtin; refine wpList_append_own_at _ rfl (.tmp 49) (.tmp 55) 34 rfl w.heap.size 38 j0 _ 3 24 Try.underlying34 qj0 qy0 qy1 qy2 rfl (by decide) _ k (ecells (batches S T k)) rfl (HL.out.own.alloc _) ⟨wr.heap.size, 0, none⟩ 1 1 [.int .i64 (3 * (k : Int)), .int .i64 (plc S k), .int .i64 (b : Int)] rfl rfl (new_cells1 wr [.int .i64 (3 * (k : Int)), .int .i64 (plc S k), .int .i64 (b : Int)] _) ?g1 ?g2 ?g3 ?g4 ?_)
              case g1 => intro u hu; simp at hu; rcases hu with rfl | rfl | rfl <;> rfl
              case g2 => unfold maxLen; omega
              case g3 => omega
              case g4 => have := HL.out.below.size; simp; omega
              intro va4 w4 hown4 hg4 _ hat4
              have hx4 := HL.out.ix4 hg4
              have hz4 : w.heap.size ≤ w4.heap.size := by have := hx4.lt; omega
              have HN := Lib.hid (note_ok _ _ _ (lay gp S T k) (3 * (k : Int)) (plc S k) (b : Int) w4 hx4 hz4 HLL.out (by omega) (by omega) HPB.out.1 HPB.out.2 (by omega) (by omega) (HLA.out k).off (HLA.out k).pl HQ.out)
              have HO4 : Hid (w4.ownsRow w.heap.size 38 3 va4 (k + 1) (ecells (batches S T (k + 1)))) := by show World.ownsRow _ _ _ _ _ _ _; rw [batches_cells, HTT.out]; exact hown4
              have HG4 := Lib.hid hg4
              have HA4 := Lib.hid hat4
              clear hown4 hg4 hat4 hx4 hz4
              go_wp2_with fail
              refine HN.out.mono ?_
              rintro e w5 ⟨rfl, v5, hx5, hbt5, hn5⟩
              have HL5 := Lib.hid (HL.out.step (T := T) HO4.out HG4.out HA4.out (by show Ix _ _ _ _ ((lay gp S T k).note (3 * (k : Int)) (plc S k) (tim T k)); rw [HTT.out]; exact hx5) hbt5 hn5)
              clear hx5 hbt5 hn5 HN HO4 HG4 HA4
              go_wp2_with fail
              go_roundw
              case rel => exact ⟨k + 1, by omega, by omega, by go_num, by rw [HP.out]; first | rfl | go_num | (congr 1; omega), v5, HL5.out⟩
              case measure => simp [intOf]; omega
            · have d2 : decide (0 < b) = true := by rw [decide_eq_true_iff]; omega
              go_wp2_with (at_builtin; refine wpList_append_own_at _ rfl (.tmp 49) (.tmp 55) 34 rfl w.heap.size 38 j0 _ 3 24 Try.underlying34 qj0 qy0 qy1 qy2 rfl (by decide) _ k (ecells (batches S T k)) rfl (HL.out.own.alloc _) ⟨wr.heap.size, 0, none⟩ 1 1 [.int .i64 (3 * (k : Int)), .int .i64 (plc S k), .int .i64 (b : Int)] rfl rfl (new_cells1 wr [.int .i64 (3 * (k : Int)), .int .i64 (plc S k), .int .i64 (b : Int)] _) ?g1 ?g2 ?g3 ?g4 ?_)
              case g1 => intro u hu; simp at hu; rcases hu with rfl | rfl | rfl <;> rfl
              case g2 => unfold maxLen; omega
              case g3 => omega
              case g4 => have := HL.out.below.size; simp; omega
              intro va4 w4 hown4 hg4 _ hat4
              have hx4 := HL.out.ix4 hg4
              have hz4 : w.heap.size ≤ w4.heap.size := by have := hx4.lt; omega
              have HN := Lib.hid (note_ok _ _ _ (lay gp S T k) (3 * (k : Int)) (plc S k) (b : Int) w4 hx4 hz4 HLL.out (by omega) (by omega) HPB.out.1 HPB.out.2 (by omega) (by omega) (HLA.out k).off (HLA.out k).pl HQ.out)
              have HO4 : Hid (w4.ownsRow w.heap.size 38 3 va4 (k + 1) (ecells (batches S T (k + 1)))) := by show World.ownsRow _ _ _ _ _ _ _; rw [batches_cells, HTT.out]; exact hown4
              have HG4 := Lib.hid hg4
              have HA4 := Lib.hid hat4
              clear hown4 hg4 hat4 hx4 hz4
              go_wp2_with fail
              refine HN.out.mono ?_
              rintro e w5 ⟨rfl, v5, hx5, hbt5, hn5⟩
              have HL5 := Lib.hid (HL.out.step (T := T) HO4.out HG4.out HA4.out (by show Ix _ _ _ _ ((lay gp S T k).note (3 * (k : Int)) (plc S k) (tim T k)); rw [HTT.out]; exact hx5) hbt5 hn5)
              clear hx5 hbt5 hn5 HN HO4 HG4 HA4
              go_wp2_with fail
              go_roundw
              case rel => exact ⟨k + 1, by omega, by omega, by go_num, by rw [HP.out]; first | rfl | go_num | (congr 1; omega), v5, HL5.out⟩
              case measure => simp [intOf]; omega
          · have hz2 : decide ((k : Int) < (T.length : Int)) = false := by rw [decide_eq_false_iff_not]; omega
            have hz3 : decide (k < T.length) = false := by rw [decide_eq_false_iff_not]; omega
            have HTT : Hid (tim T k = 0) := by show _ = _; unfold tim; rw [List.getD_eq_getElem?_getD, List.getElem?_eq_none (by omega)]; rfl
            clear hkt
            go_wp2_with (at_builtin; refine wpList_append_own_at _ rfl (.tmp 49) (.tmp 55) 34 rfl w.heap.size 38 j0 _ 3 24 Try.underlying34 qj0 qy0 qy1 qy2 rfl (by decide) _ k (ecells (batches S T k)) rfl (HL.out.own.alloc _) ⟨wr.heap.size, 0, none⟩ 1 1 [.int .i64 (3 * (k : Int)), .int .i64 (plc S k), .int .i64 0] rfl rfl (new_cells1 wr [.int .i64 (3 * (k : Int)), .int .i64 (plc S k), .int .i64 0] _) ?g1 ?g2 ?g3 ?g4 ?_)
            case g1 => intro u hu; simp at hu; rcases hu with rfl | rfl | rfl <;> rfl
            case g2 => unfold maxLen; omega
            case g3 => omega
            case g4 => have := HL.out.below.size; simp; omega
            intro va4 w4 hown4 hg4 _ hat4
            have hx4 := HL.out.ix4 hg4
            have hz4 : w.heap.size ≤ w4.heap.size := by have := hx4.lt; omega
            have HN := Lib.hid (note_ok _ _ _ (lay gp S T k) (3 * (k : Int)) (plc S k) 0 w4 hx4 hz4 HLL.out (by omega) (by omega) HPB.out.1 HPB.out.2 (by omega) (by omega) (HLA.out k).off (HLA.out k).pl HQ.out)
            have HO4 : Hid (w4.ownsRow w.heap.size 38 3 va4 (k + 1) (ecells (batches S T (k + 1)))) := by show World.ownsRow _ _ _ _ _ _ _; rw [batches_cells, HTT.out]; exact hown4
            have HG4 := Lib.hid hg4
            have HA4 := Lib.hid hat4
            clear hown4 hg4 hat4 hx4 hz4
            go_wp2_with fail
            refine HN.out.mono ?_
            rintro e w5 ⟨rfl, v5, hx5, hbt5, hn5⟩
            have HL5 := Lib.hid (HL.out.step (T := T) HO4.out HG4.out HA4.out (by show Ix _ _ _ _ ((lay gp S T k).note (3 * (k : Int)) (plc S k) (tim T k)); rw [HTT.out]; exact hx5) hbt5 hn5)
            clear hx5 hbt5 hn5 HN HO4 HG4 HA4
            go_wp2_with fail
            go_roundw
            case rel => exact ⟨k + 1, by omega, by omega, by go_num, by rw [HP.out]; first | rfl | go_num | (congr 1; omega), v5, HL5.out⟩
            case measure => simp [intOf]; omega
        · have d1 : decide (0 < a) = true := by rw [decide_eq_true_iff]; omega
          by_cases hkt : k < T.length
          · obtain ⟨p2, rfl, hp2, hc2, b3, b4⟩ := (HT.out.below HL.out.below).row k hkt
            have hz2 : (k : Int) < (T.length : Int) := by omega
            have htb := abs_cases (T.getD k 0) 1000 (by omega)
            have htl : (T.getD k 0).natAbs % 1000 < 1000 := by omega
            rw [h1000] at htb
            have HTT : Hid (tim T k = (((T.getD k 0).natAbs % 1000 : Nat) : Int)) := rfl
            generalize (T.getD k 0).natAbs % 1000 = b at *
            generalize T.getD k 0 = tv at *
            rcases htb with hm2 | ⟨hm2, hb2⟩
            · have d2 : decide ((b : Int) < 0) = false := by rw [decide_eq_false_iff_not]; omega
              go_wp2_with (at_builtin; refine wpList_append_own_at _ rfl (.tmp 49) (.tmp 55) 34 rfl w.heap.size 38 j0 _ 3 24 Try.underlying34 qj0 qy0 qy1 qy2 rfl (by decide) _ k (ecells (batches S T k)) rfl (HL.out.own.alloc _) ⟨wr.heap.size, 0, none⟩ 1 1 [.int .i64 (3 * (k : Int)), .int .i64 (plc S k), .int .i64 (b : Int)] rfl rfl (new_cells1 wr [.int .i64 (3 * (k : Int)), .int .i64 (plc S k), .int .i64 (b : Int)] _) ?g1 ?g2 ?g3 ?g4 ?_)
              case g1 => intro u hu; simp at hu; rcases hu with rfl | rfl | rfl <;> rfl
              case g2 => unfold maxLen; omega
              case g3 => omega
              case g4 => have := HL.out.below.size; simp; omega
              intro va4 w4 hown4 hg4 _ hat4
              have hx4 := HL.out.ix4 hg4
              have hz4 : w.heap.size ≤ w4.heap.size := by have := hx4.lt; omega
              have HN := Lib.hid (note_ok _ _ _ (lay gp S T k) (3 * (k : Int)) (plc S k) (b : Int) w4 hx4 hz4 HLL.out (by omega) (by omega) HPB.out.1 HPB.out.2 (by omega) (by omega) (HLA.out k).off (HLA.out k).pl HQ.out)
              have HO4 : Hid (w4.ownsRow w.heap.size 38 3 va4 (k + 1) (ecells (batches S T (k + 1)))) := by show World.ownsRow _ _ _ _ _ _ _; rw [batches_cells, HTT.out]; exact hown4
              have HG4 := Lib.hid hg4
              have HA4 := Lib.hid hat4
              clear hown4 hg4 hat4 hx4 hz4
              go_wp2_with fail
              refine HN.out.mono ?_
              rintro e w5 ⟨rfl, v5, hx5, hbt5, hn5⟩
              have HL5 := Lib.hid (HL.out.step (T := T) HO4.out HG4.out HA4.out (by show Ix _ _ _ _ ((lay gp S T k).note (3 * (k : Int)) (plc S k) (tim T k)); rw [HTT.out]; exact hx5) hbt5 hn5)
              clear hx5 hbt5 hn5 HN HO4 HG4 HA4
              go_wp2_with fail
              go_roundw
              case rel => exact ⟨k + 1, by omega, by omega, by go_num, by rw [HP.out]; first | rfl | go_num | (congr 1; omega), v5, HL5.out⟩
              case measure => simp [intOf]; omega
            · have d2 : decide (0 < b) = true := by rw [decide_eq_true_iff]; omega
              go_wp2_with (at_builtin; refine wpList_append_own_at _ rfl (.tmp 49) (.tmp 55) 34 rfl w.heap.size 38 j0 _ 3 24 Try.underlying34 qj0 qy0 qy1 qy2 rfl (by decide) _ k (ecells (batches S T k)) rfl (HL.out.own.alloc _) ⟨wr.heap.size, 0, none⟩ 1 1 [.int .i64 (3 * (k : Int)), .int .i64 (plc S k), .int .i64 (b : Int)] rfl rfl (new_cells1 wr [.int .i64 (3 * (k : Int)), .int .i64 (plc S k), .int .i64 (b : Int)] _) ?g1 ?g2 ?g3 ?g4 ?_)
              case g1 => intro u hu; simp at hu; rcases hu with rfl | rfl | rfl <;> rfl
              case g2 => unfold maxLen; omega
              case g3 => omega
              case g4 => have := HL.out.below.size; simp; omega
              intro va4 w4 hown4 hg4 _ hat4
              have hx4 := HL.out.ix4 hg4
              have hz4 : w.heap.size ≤ w4.heap.size := by have := hx4.lt; omega
              have HN := Lib.hid (note_ok _ _ _ (lay gp S T k) (3 * (k : Int)) (plc S k) (b : Int) w4 hx4 hz4 HLL.out (by omega) (by omega) HPB.out.1 HPB.out.2 (by omega) (by omega) (HLA.out k).off (HLA.out k).pl HQ.out)
              have HO4 : Hid (w4.ownsRow w.heap.size 38 3 va4 (k + 1) (ecells (batches S T (k + 1)))) := by show World.ownsRow _ _ _ _ _ _ _; rw [batches_cells, HTT.out]; exact hown4
              have HG4 := Lib.hid hg4
              have HA4 := Lib.hid hat4
              clear hown4 hg4 hat4 hx4 hz4
              go_wp2_with fail
              refine HN.out.mono ?_
              rintro e w5 ⟨rfl, v5, hx5, hbt5, hn5⟩
              have HL5 := Lib.hid (HL.out.step (T := T) HO4.out HG4.out HA4.out (by show Ix _ _ _ _ ((lay gp S T k).note (3 * (k : Int)) (plc S k) (tim T k)); rw [HTT.out]; exact hx5) hbt5 hn5)
              clear hx5 hbt5 hn5 HN HO4 HG4 HA4
              go_wp2_with fail
              go_roundw
              case rel => exact ⟨k + 1, by omega, by omega, by go_num, by rw [HP.out]; first | rfl | go_num | (congr 1; omega), v5, HL5.out⟩
              case measure => simp [intOf]; omega
          · have hz2 : decide ((k : Int) < (T.length : Int)) = false := by rw [decide_eq_false_iff_not]; omega
            have hz3 : decide (k < T.length) = false := by rw [decide_eq_false_iff_not]; omega
            have HTT : Hid (tim T k = 0) := by show _ = _; unfold tim; rw [List.getD_eq_getElem?_getD, List.getElem?_eq_none (by omega)]; rfl
            clear hkt
            go_wp2_with (at_builtin; refine wpList_append_own_at _ rfl (.tmp 49) (.tmp 55) 34 rfl w.heap.size 38 j0 _ 3 24 Try.underlying34 qj0 qy0 qy1 qy2 rfl (by decide) _ k (ecells (batches S T k)) rfl (HL.out.own.alloc _) ⟨wr.heap.size, 0, none⟩ 1 1 [.int .i64 (3 * (k : Int)), .int .i64 (plc S k), .int .i64 0] rfl rfl (new_cells1 wr [.int .i64 (3 * (k : Int)), .int .i64 (plc S k), .int .i64 0] _) ?g1 ?g2 ?g3 ?g4 ?_)
            case g1 => intro u hu; simp at hu; rcases hu with rfl | rfl | rfl <;> rfl
            case g2 => unfold maxLen; omega
            case g3 => omega
            case g4 => have := HL.out.below.size; simp; omega
            intro va4 w4 hown4 hg4 _ hat4
            have hx4 := HL.out.ix4 hg4
            have hz4 : w.heap.size ≤ w4.heap.size := by have := hx4.lt; omega
            have HN := Lib.hid (note_ok _ _ _ (lay gp S T k) (3 * (k : Int)) (plc S k) 0 w4 hx4 hz4 HLL.out (by omega) (by omega) HPB.out.1 HPB.out.2 (by omega) (by omega) (HLA.out k).off (HLA.out k).pl HQ.out)
            have HO4 : Hid (w4.ownsRow w.heap.size 38 3 va4 (k + 1) (ecells (batches S T (k + 1)))) := by show World.ownsRow _ _ _ _ _ _ _; rw [batches_cells, HTT.out]; exact hown4
            have HG4 := Lib.hid hg4
            have HA4 := Lib.hid hat4
            clear hown4 hg4 hat4 hx4 hz4
            go_wp2_with fail
            refine HN.out.mono ?_
            rintro e w5 ⟨rfl, v5, hx5, hbt5, hn5⟩
            have HL5 := Lib.hid (HL.out.step (T := T) HO4.out HG4.out HA4.out (by show Ix _ _ _ _ ((lay gp S T k).note (3 * (k : Int)) (plc S k) (tim T k)); rw [HTT.out]; exact hx5) hbt5 hn5)
            clear hx5 hbt5 hn5 HN HO4 HG4 HA4
            go_wp2_with fail
            go_roundw
            case rel => exact ⟨k + 1, by omega, by omega, by go_num, by rw [HP.out]; first | rfl | go_num | (congr 1; omega), v5, HL5.out⟩
            case measure => simp [intOf]; omega
      · have d8 : decide ((80 : Int) ≤ (k : Int)) = true := by rw [decide_eq_true_iff]; omega
        generalize S.getD k 0 = sv at *
        go_wp2_with fail
        go_ret2
        exact ⟨k, _, v, rfl, .inr (by omega), hk, hk8, HL.out⟩
    · have d8 : decide ((k : Int) < (S.length : Int)) = false := by rw [decide_eq_false_iff_not]; omega
      have d9 : decide (k < S.length) = false := by rw [decide_eq_false_iff_not]; omega
      clear hlt
      go_wp2_with fail
      go_ret2
      exact ⟨k, _, v, rfl, .inl (by simp at d9; omega), hk, hk8, HL.out⟩
end Go.Proofs.Ytabbbamokhaaoaa
