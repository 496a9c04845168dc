/-
  An item of chapter 1's law, in memory; what towpathlaw01.cut does.
-/
import Derived.Test.YtgbdgpacnpeahaaWireInts
import Derived.Deep.DeepCutAuto
import Derived.Deep.RegionHeld3
namespace Go.Proofs.Ytgbdgpacnpeahaa
open Go.RowKit
set_option linter.unusedVariables false
set_option linter.unusedSimpArgs false

/-- an item, as data -/
structure Item where
  kind : Int
  u : Nat
  n : Int
  m : Int
  s : ByteArray
  on : Bool
  L : List ByteArray
  I : List Int

/-- its numbers fit -/
structure Item.ok (x : Item) : Prop where
  k1 : -9223372036854775808 ≤ x.kind
  k2 : x.kind ≤ 9223372036854775807
  u1 : x.u < 18446744073709551616
  n1 : -9223372036854775808 ≤ x.n
  n2 : x.n ≤ 9223372036854775807
  m1 : -9223372036854775808 ≤ x.m
  m2 : x.m ≤ 9223372036854775807

/-- the cells of an item whose lists lie at LA and IA -/
def Item.cells (x : Item) (LA : Option Addr) (lc : Nat) (IA : Option Addr) (ic : Nat) : Array Value :=
  #[.int .i64 x.kind, .int .u64 (x.u : Int), .int .i64 x.n, .int .i64 x.m, .string x.s, .bool x.on, .slice LA x.L.length lc, .slice IA x.I.length ic]

theorem str_infoA : (Try.prog.info? 9).map (fun i => (i.zero, i.size, i.bytes)) = some (some (.string ⟨#[]⟩), 1, 16) := by kernel_rfl

def cutS (s : ByteArray) (n : Nat) : ByteArray := if n < s.size then s.extract 0 n else s
theorem cutS_size (s : ByteArray) (n : Nat) : (cutS s n).size ≤ n := by
  unfold cutS
  split
  · rw [ByteArray.size_extract]; omega
  · omega
def Item.cut (x : Item) : Item := { x with s := cutS x.s 300, L := (x.L.take 12).map (cutS · 60), I := x.I.take 20 }
theorem map_take_succ (L : List ByteArray) (k : Nat) (h : k < L.length) : ((L.take (k + 1)).map (cutS · 60)).map Value.string = ((L.take k).map (cutS · 60)).map Value.string ++ [.string (cutS (L.getD k ⟨#[]⟩) 60)] := by
  rw [List.take_succ_eq_append_getElem h, List.map_append, List.map_append, List.getD_eq_getElem?_getD, List.getElem?_eq_getElem h]
  rfl
theorem row_below' {w w' : World} {B base : Nat} {e : TypeId} {s : Nat} {v : Value} {n : Nat} {xs : List Value} (h : w.ownsRow base e s v n xs) (hb : Below B w w') (hB : w.heap.size ≤ B) : w'.ownsRow base e s v n xs := by
  refine ⟨h.1, ?_⟩
  rcases h.2 with h2 | ⟨g, cap, cur, hv, hg, hh, r⟩
  · exact .inl h2
  · have hgl : g < w.heap.size := (Array.getElem?_eq_some_iff.1 hh).1
    exact .inr ⟨g, cap, cur, hv, hg, (hb.block g (by omega)).trans hh, r⟩
theorem row_form' {w : World} {base : Nat} {e : TypeId} {v : Value} {n : Nat} {xs : List Value} (h : w.ownsRow base e 1 v n xs) : ∃ A c, v = .slice A n c ∧ n ≤ c ∧ c ≤ maxLen ∧ Lies w w.heap.size A xs ∧ (∀ p, A = some p → base ≤ p.block) := by
  rcases h.2 with ⟨rfl, hn⟩ | ⟨g, cap, cur, rfl, hb, hg, hnc, hm, _⟩
  · subst hn
    have : xs = [] := List.length_eq_zero_iff.1 (by have := h.1; omega)
    subst this
    exact ⟨none, 0, rfl, by omega, by simp [maxLen], Lies.empty, fun p h => by cases h⟩
  · exact ⟨_, cap, rfl, hnc, hm, Lies.of_row h, fun p h => by injection h with h; subst h; exact hb⟩

theorem Lies.far {w w' : World} {B : Nat} {A : Option Addr} {xs : List Value} (h : Lies w B A xs) (hk : ∀ p, A = some p → ∀ i, w'.cell? (p.add i) = w.cell? (p.add i)) : Lies w' B A xs :=
  ⟨fun j u hj => by
    obtain ⟨p, e, hb, hc⟩ := h.get j u hj
    exact ⟨p, e, hb, (hk p e j).trans hc⟩⟩
theorem alloc2_0 (w : World) (a b : Obj) : ((w.alloc a).alloc b).heap[w.heap.size]? = some a := by
  rw [← heap_alloc_new w a]
  exact ((Below.refl (w.alloc a).heap.size (w.alloc a)).alloc (Nat.le_refl _) b).block w.heap.size (by simp)
theorem alloc2_1 (w : World) (a b : Obj) : ((w.alloc a).alloc b).heap[w.heap.size + 1]? = some b := by
  have h := heap_alloc_new (w.alloc a) b
  rwa [show (w.alloc a).heap.size = w.heap.size + 1 from by simp] at h
theorem alloc2_z (w : World) (a b : Obj) : ((w.alloc a).alloc b).heap.size = w.heap.size + 2 := by simp

set_option maxRecDepth 100000 in
set_option maxHeartbeats 2000000 in
theorem cutI_any (x : Item) (LA IA : Option Addr) (lc ic B : Nat) (w : World) (hL : Lies w B LA (x.L.map .string)) (hB : B ≤ w.heap.size) (hl1 : x.L.length ≤ lc) (hl2 : lc ≤ maxLen) (hi1 : x.I.length ≤ ic) (hi2 : ic ≤ maxLen) :
    Calls Try.prog 8 #[.agg (x.cells LA lc IA ic)] w fun e w' => ∃ LA' lc', e = .returned (.agg (x.cut.cells LA' lc' IA ic)) ∧ x.cut.L.length ≤ lc' ∧ lc' ≤ maxLen ∧ Lies w' w'.heap.size LA' (x.cut.L.map .string) ∧ Below w.heap.size w w' := by
  obtain ⟨j0, hj0, hy0, hy1, hy2⟩ := info_parts str_infoA
  obtain ⟨k, u, n, m, s, on, L, I⟩ := x
  simp only [Item.cells, Item.cut] at *
  have HC : Hid ((300 < s.size → s.extract 0 300 = cutS s 300) ∧ (s.size ≤ 300 → s = cutS s 300)) := ⟨fun h => by unfold cutS; rw [if_pos h], fun h => by unfold cutS; rw [if_neg (by omega)]⟩
  have HN : Hid (∃ N, N = min 12 L.length) := ⟨_, rfl⟩
  obtain ⟨N, hN⟩ := HN.out
  have hN1 : N ≤ 12 := by omega
  have hN2 : N ≤ L.length := by omega
  have HMN : Hid ((L.length ≤ 12 → L.length = N) ∧ (12 < L.length → N = 12)) := ⟨fun h => by omega, fun h => by omega⟩
  have HNL : Hid (L.take 12 = L.take N) := by
    show _ = _
    rw [hN, Nat.min_def]
    split
    · rfl
    · rw [List.take_of_length_le (by omega), List.take_of_length_le (by omega)]
  clear HN hN
  go_enter Try.func8, Try.ntmps8
  go_upto_if 9 with fail
  go_cut [9] (fun s9 wx => wx = (w.alloc (.cells #[.int .i64 k, .int .u64 (u : Int), .int .i64 n, .int .i64 m, .string (cutS s 300), .bool on, .slice LA L.length lc, .slice IA I.length ic] 28)).alloc (.cells #[.int .i64 0, .int .u64 0, .int .i64 0, .int .i64 0, .string ⟨#[]⟩, .bool false, .slice none 0 0, .slice none 0 0] 28))
  case first =>
    rcases Nat.lt_or_ge 300 s.size with h1 | h1
    · go_wp2_with fail
      go_meet
      rw [← HC.out.1 h1]
    · go_wp2_with fail
      go_meet
      rw [← HC.out.2 h1]
  case rest =>
    subst hcut
    go_upto_if 17 with fail
    go_cut [17] (fun s17 wx => wx = (w.alloc (.cells #[.int .i64 k, .int .u64 (u : Int), .int .i64 n, .int .i64 m, .string (cutS s 300), .bool on, .slice LA N lc, .slice IA I.length ic] 28)).alloc (.cells #[.int .i64 0, .int .u64 0, .int .i64 0, .int .i64 0, .string ⟨#[]⟩, .bool false, .slice none 0 0, .slice none 0 0] 28))
    case first =>
      rcases Nat.lt_or_ge 12 L.length with h1 | h1
      · have h12 : 12 ≤ lc := by omega
        have e12 := Lib.hid (HMN.out.2 h1)
        go_wp2_with fail
        go_meet
        rw [e12.out]
      · have e12 := Lib.hid (HMN.out.1 h1)
        go_wp2_with fail
        go_meet
        rw [← e12.out]
    case rest =>
      subst hcut
      have HW := Lib.hid (((Below.refl w.heap.size w).alloc (Nat.le_refl _) (.cells #[.int .i64 k, .int .u64 (u : Int), .int .i64 n, .int .i64 m, .string (cutS s 300), .bool on, .slice LA N lc, .slice IA I.length ic] 28)).alloc (by simp) (.cells #[.int .i64 0, .int .u64 0, .int .i64 0, .int .i64 0, .string ⟨#[]⟩, .bool false, .slice none 0 0, .slice none 0 0] 28))
      clear HC HMN
      obtain ⟨s', hs'⟩ : ∃ s', cutS s 300 = s' := ⟨_, rfl⟩
      rw [hs'] at HW ⊢
      have HSS := Lib.hid hs'
      clear hs'
      generalize hW0 : (w.alloc (.cells #[.int .i64 k, .int .u64 (u : Int), .int .i64 n, .int .i64 m, .string s', .bool on, .slice LA N lc, .slice IA I.length ic] 28)).alloc (.cells #[.int .i64 0, .int .u64 0, .int .i64 0, .int .i64 0, .string ⟨#[]⟩, .bool false, .slice none 0 0, .slice none 0 0] 28) = W0 at *
      have b0 : W0.heap[w.heap.size]? = some (.cells #[.int .i64 k, .int .u64 (u : Int), .int .i64 n, .int .i64 m, .string s', .bool on, .slice LA N lc, .slice IA I.length ic] 28 (0, 0)) := by rw [← hW0]; exact alloc2_0 _ _ _
      have b1 : W0.heap[w.heap.size + 1]? = some (.cells #[.int .i64 0, .int .u64 0, .int .i64 0, .int .i64 0, .string ⟨#[]⟩, .bool false, .slice none 0 0, .slice none 0 0] 28 (0, 0)) := by rw [← hW0]; exact alloc2_1 _ _ _
      have z0 : W0.heap.size = w.heap.size + 2 := by rw [← hW0]; exact alloc2_z _ _ _
      have hz0' : w.heap.size + 2 ≤ W0.heap.size := by omega
      have HZ0 := Lib.hid z0
      have HB0 := Lib.hid b0
      have HB1 := Lib.hid b1
      have c6 : W0.cell? ⟨w.heap.size, 6, none⟩ = some (.slice LA N lc) := cell_of_row W0 _ 6 _ _ _ b0
      clear hW0 z0 b0 b1
      go_wp2_with fail
      clear c6
      go_loopw [3, 25] (fun v i wr => ∃ k : Nat, k ≤ N ∧ i = .int .i64 k ∧ wr.ownsRow W0.heap.size 9 1 v k (((L.take k).map (cutS · 60)).map .string) ∧ Below W0.heap.size W0 wr) (fun _ i _ => N - (intOf i).toNat)
      case atStart => exact ⟨0, by omega, rfl, World.ownsRow_nil _ _ _ _, Below.refl _ _⟩
      case round =>
        obtain ⟨q, hq, rfl, hown, hb⟩ := hrel
        have hz := hb.size
        by_cases hlt : q < N
        · have hLq := hL.keep (w' := wr) (fun p hp => (hb.cell (by omega)).trans (HW.out.cell (by omega)))
          obtain ⟨ad, rfl, hadb, hc⟩ := hLq.get q (.string (L.getD q ⟨#[]⟩)) (by rw [List.getElem?_map, List.getElem?_eq_getElem (by omega), List.getD_eq_getElem?_getD, List.getElem?_eq_getElem (by omega)]; rfl)
          have HS := Lib.hid (map_take_succ L q (by omega))
          have HC2 : Hid ((60 < (L.getD q ⟨#[]⟩).size → (L.getD q ⟨#[]⟩).extract 0 60 = cutS (L.getD q ⟨#[]⟩) 60) ∧ ((L.getD q ⟨#[]⟩).size ≤ 60 → L.getD q ⟨#[]⟩ = cutS (L.getD q ⟨#[]⟩) 60)) := ⟨fun h => by unfold cutS; rw [if_pos h], fun h => by unfold cutS; rw [if_neg (by omega)]⟩
          generalize L.getD q ⟨#[]⟩ = x at *
          generalize ((L.take q).map (cutS · 60)).map Value.string = acc at *
          have HOWN := Lib.hid hown
          clear hown hLq
          rcases Nat.lt_or_ge 60 x.size with h1 | h1
          all_goals
            have e60 := Lib.hid (by first | exact HC2.out.1 h1 | exact HC2.out.2 h1)
            go_wp2_with (at_builtin; refine wpList_append_src _ rfl (.tmp 34) (.tmp 36) 25 rfl W0.heap.size 9 j0 _ 16 Try.underlying25 hj0 hy0 hy1 hy2 rfl _ q acc rfl (HOWN.out.alloc _) (wr.heap.size + 1) (some ⟨wr.heap.size, 0, none⟩) 1 1 _ rfl rfl (Lies.of_new _ _ _) ?g1 ?g2 ?g3 ?g4 ?_)
            case g1 => rfl
            case g2 => unfold maxLen; omega
            case g3 => omega
            case g4 => simp; omega
            intro v4 w4 hown4 hg4 _
            rw [e60.out] at hown4
            have hb4 : Below W0.heap.size W0 w4 := (hb.alloc hz _).trans ((Below.refl _ _).grown hg4 (by simp; omega) (fun k hk => (World.ownsRow.lt HOWN.out k hk).1))
            clear hg4 HOWN
            go_wp2
            go_roundw
            case rel => exact ⟨q + 1, by omega, by go_num, by rw [HS.out]; exact hown4, hb4⟩
            case measure => simp [intOf]; omega
        · obtain rfl : q = N := by omega
          obtain ⟨LA', lc', rfl, hlc, hlm, hlies, hbase⟩ := row_form' hown
          have b0 := (hb.block w.heap.size (by omega)).trans HB0.out
          have b1 := (hb.block (w.heap.size + 1) (by omega)).trans HB1.out
          have c0 : wr.cell? ⟨w.heap.size, 0, none⟩ = some (.int .i64 k) := cell_of_row wr _ 0 _ _ _ b0
          have c1 : wr.cell? ⟨w.heap.size, 1, none⟩ = some (.int .u64 (u : Int)) := cell_of_row wr _ 1 _ _ _ b0
          have c2 : wr.cell? ⟨w.heap.size, 2, none⟩ = some (.int .i64 n) := cell_of_row wr _ 2 _ _ _ b0
          have c3 : wr.cell? ⟨w.heap.size, 3, none⟩ = some (.int .i64 m) := cell_of_row wr _ 3 _ _ _ b0
          have c4 : wr.cell? ⟨w.heap.size, 4, none⟩ = some (.string s') := cell_of_row wr _ 4 _ _ _ b0
          have c5 : wr.cell? ⟨w.heap.size, 5, none⟩ = some (.bool on) := cell_of_row wr _ 5 _ _ _ b0
          have c6 : wr.cell? ⟨w.heap.size, 6, none⟩ = some (.slice LA q lc) := cell_of_row wr _ 6 _ _ _ b0
          have c7 : wr.cell? ⟨w.heap.size, 7, none⟩ = some (.slice IA I.length ic) := cell_of_row wr _ 7 _ _ _ b0
          have d0 : wr.cell? ⟨w.heap.size + 1, 0, none⟩ = some (.int .i64 0) := cell_of_row wr _ 0 _ _ _ b1
          have g0 : wr.frozen? ⟨w.heap.size + 1, 0, none⟩ = false := frozen_of_row wr _ 0 _ _ b1
          have d1 : wr.cell? ⟨w.heap.size + 1, 1, none⟩ = some (.int .u64 0) := cell_of_row wr _ 1 _ _ _ b1
          have g1 : wr.frozen? ⟨w.heap.size + 1, 1, none⟩ = false := frozen_of_row wr _ 1 _ _ b1
          have d2 : wr.cell? ⟨w.heap.size + 1, 2, none⟩ = some (.int .i64 0) := cell_of_row wr _ 2 _ _ _ b1
          have g2 : wr.frozen? ⟨w.heap.size + 1, 2, none⟩ = false := frozen_of_row wr _ 2 _ _ b1
          have d3 : wr.cell? ⟨w.heap.size + 1, 3, none⟩ = some (.int .i64 0) := cell_of_row wr _ 3 _ _ _ b1
          have g3 : wr.frozen? ⟨w.heap.size + 1, 3, none⟩ = false := frozen_of_row wr _ 3 _ _ b1
          have d4 : wr.cell? ⟨w.heap.size + 1, 4, none⟩ = some (.string ⟨#[]⟩) := cell_of_row wr _ 4 _ _ _ b1
          have g4 : wr.frozen? ⟨w.heap.size + 1, 4, none⟩ = false := frozen_of_row wr _ 4 _ _ b1
          have d5 : wr.cell? ⟨w.heap.size + 1, 5, none⟩ = some (.bool false) := cell_of_row wr _ 5 _ _ _ b1
          have g5 : wr.frozen? ⟨w.heap.size + 1, 5, none⟩ = false := frozen_of_row wr _ 5 _ _ b1
          have d6 : wr.cell? ⟨w.heap.size + 1, 6, none⟩ = some (.slice none 0 0) := cell_of_row wr _ 6 _ _ _ b1
          have g6 : wr.frozen? ⟨w.heap.size + 1, 6, none⟩ = false := frozen_of_row wr _ 6 _ _ b1
          have d7 : wr.cell? ⟨w.heap.size + 1, 7, none⟩ = some (.slice none 0 0) := cell_of_row wr _ 7 _ _ _ b1
          have g7 : wr.frozen? ⟨w.heap.size + 1, 7, none⟩ = false := frozen_of_row wr _ 7 _ _ b1
          have f6 : wr.frozen? ⟨w.heap.size, 6, none⟩ = false := frozen_of_row wr _ 6 _ _ b0
          have f7 : wr.frozen? ⟨w.heap.size, 7, none⟩ = false := frozen_of_row wr _ 7 _ _ b0
          have HBW := Lib.hid (HW.out.trans (hb.mono HW.out.size))
          have HLI := Lib.hid hlies
          have HBA := Lib.hid hbase
          clear b0 b1 hown hbase hlies
          have HTL : Hid (((L.take q).map (cutS · 60)).length = q) := by show _ = _; rw [List.length_map, List.length_take]; omega
          rcases Nat.lt_or_ge 20 I.length with h20 | h20
          · have h20' : 20 ≤ ic := by omega
            go_wp2_with fail
            refine bodyPost_ret (v := .agg #[.int .i64 k, .int .u64 (u : Int), .int .i64 n, .int .i64 m, .string s', .bool on, .slice LA' q lc', .slice IA 20 ic]) (by simp [results, Try.results8, go_sem, d0, d1, d2, d3, d4, d5, d6, d7]) rfl ?_
            refine ⟨LA', lc', ?_, ?_, hlm, ?_, ?_⟩
            · rw [HSS.out, HNL.out, HTL.out, show (I.take 20).length = 20 from by rw [List.length_take]; omega]
            · rw [HNL.out, HTL.out]; exact hlc
            · rw [HNL.out]
              refine Lies.wider (B := wr.heap.size) (HLI.out.far fun p hp i => ?_) (by simp)
              have hpb := HBA.out p hp
              have hpi := add_block p i
              have n0 : ¬ w.heap.size = (p.add i).block := by rw [hpi]; omega
              have n1 : ¬ w.heap.size + 1 = (p.add i).block := by rw [hpi]; omega
              simp only [World.cell?_setCell_far, ne_eq, n0, n1, not_false_eq_true]
            · repeat refine Below.setCell ?_ (by simp) _
              exact HBW.out
          · have h20d : decide ((20 : Int) < (I.length : Int)) = false := by rw [decide_eq_false_iff_not]; omega
            go_wp2_with fail
            refine bodyPost_ret (v := .agg #[.int .i64 k, .int .u64 (u : Int), .int .i64 n, .int .i64 m, .string s', .bool on, .slice LA' q lc', .slice IA I.length ic]) (by simp [results, Try.results8, go_sem, d0, d1, d2, d3, d4, d5, d6, d7]) rfl ?_
            refine ⟨LA', lc', ?_, ?_, hlm, ?_, ?_⟩
            · rw [HSS.out, HNL.out, HTL.out, show (I.take 20).length = I.length from by rw [List.length_take]; omega]
            · rw [HNL.out, HTL.out]; exact hlc
            · rw [HNL.out]
              refine Lies.wider (B := wr.heap.size) (HLI.out.far fun p hp i => ?_) (by simp)
              have hpb := HBA.out p hp
              have hpi := add_block p i
              have n0 : ¬ w.heap.size = (p.add i).block := by rw [hpi]; omega
              have n1 : ¬ w.heap.size + 1 = (p.add i).block := by rw [hpi]; omega
              simp only [World.cell?_setCell_far, ne_eq, n0, n1, not_false_eq_true]
            · repeat refine Below.setCell ?_ (by simp) _
              exact HBW.out
end Go.Proofs.Ytgbdgpacnpeahaa
