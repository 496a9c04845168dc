/-
  What towpathlaw01.told does.
-/
import Derived.Test.YtgbdgpacnpeahaaItemA
namespace Go.Proofs.Ytgbdgpacnpeahaa
open Go.RowKit
set_option linter.unusedVariables false
set_option linter.unusedSimpArgs false

/-- the bytes of an item -/
def toldS (x : Item) : Option (List UInt8) :=
  if x.kind = 0 then some (Wn.enc x.u) else if x.kind = 1 then some (Wn.enc (Wn.zig x.n)) else if x.kind = 2 then some (encT x.s) else if x.kind = 3 then some (encF_ x.on)
  else if x.kind = 4 then some (Wn.enc x.L.length ++ encTs x.L) else if x.kind = 5 then some (Wn.enc x.I.length ++ told_ x.I x.I.length) else none
/-- an item's lists lie in memory -/
structure Item.at_ (x : Item) (w : World) (B : Nat) (LA : Option Addr) (lc : Nat) (IA : Option Addr) (ic : Nat) : Prop where
  ok : x.ok
  l : Ts w B LA x.L.length 1000 x.L
  i : Is w B IA x.I.length x.I
  l1 : x.L.length ≤ 1048576
  i1 : x.I.length ≤ 1048576
  s1 : x.s.size ≤ 1099511627776
def ToldPost (w : World) (x : Item) (e : Ending) (w' : World) : Prop :=
  match toldS x with
  | some b => ∃ v1 v2, e = .returned (.tuple #[v1, v2, .bool true]) ∧ Own w' w.heap.size v1 b ∧ Own w' w.heap.size v2 b ∧ Below w.heap.size w w'
  | none => e = .returned (.tuple #[.slice none 0 0, .slice none 0 0, .bool false]) ∧ Below w.heap.size w w'

set_option maxRecDepth 100000 in
set_option maxHeartbeats 2000000 in
theorem told_0 (LA IA : Option Addr) (lc ic B u : Nat) (n m : Int) (s : ByteArray) (on : Bool) (L : List ByteArray) (I : List Int) (w : World) (hu : u < 18446744073709551616) :
    Calls Try.prog 9 #[.agg #[.int .i64 0, .int .u64 (u : Int), .int .i64 n, .int .i64 m, .string s, .bool on, .slice LA L.length lc, .slice IA I.length ic]] w fun e w' => ∃ v1 v2, e = .returned (.tuple #[v1, v2, .bool true]) ∧ Own w' w.heap.size v1 (Wn.enc u) ∧ Own w' w.heap.size v2 (Wn.enc u) ∧ Below w.heap.size w w' := by
  have HW := Lib.hid ((Below.refl w.heap.size w).alloc (Nat.le_refl _) (.cells #[.int .i64 0, .int .u64 (u : Int), .int .i64 n, .int .i64 m, .string s, .bool on, .slice LA L.length lc, .slice IA I.length ic] 28))
  have c0 : (w.alloc (.cells #[.int .i64 0, .int .u64 (u : Int), .int .i64 n, .int .i64 m, .string s, .bool on, .slice LA L.length lc, .slice IA I.length ic] 28)).cell? ⟨w.heap.size, 0, none⟩ = some (.int .i64 0) := cell_of_row _ _ 0 _ _ _ (heap_alloc_new w _)
  have cj : (w.alloc (.cells #[.int .i64 0, .int .u64 (u : Int), .int .i64 n, .int .i64 m, .string s, .bool on, .slice LA L.length lc, .slice IA I.length ic] 28)).cell? ⟨w.heap.size, 1, none⟩ = some (.int .u64 (u : Int)) := cell_of_row _ _ 1 _ _ _ (heap_alloc_new w _)
  have hz : w.heap.size + 1 ≤ (w.alloc (.cells #[.int .i64 0, .int .u64 (u : Int), .int .i64 n, .int .i64 m, .string s, .bool on, .slice LA L.length lc, .slice IA I.length ic] 28)).heap.size := by simp

  have H1 : Hid (∀ W, Below w.heap.size w W → Calls Try.prog 34 #[.int .u64 (u : Int)] W fun e w' => ∃ v', e = .returned v' ∧ Own w' W.heap.size v' (Wn.enc u) ∧ Below W.heap.size W w') := fun W h => wUint_any u _ hu
  have H2 : Hid (∀ W, Below w.heap.size w W → Calls Try.prog 35 #[.int .u64 (u : Int)] W fun e w' => ∃ v', e = .returned v' ∧ Own w' W.heap.size v' (Wn.enc u) ∧ Below W.heap.size W w') := fun W h => refUint_any u _ hu
  generalize Wn.enc u = b at *
  go_enter Try.func9, Try.ntmps9
  go_wp2_with fail
  generalize w.alloc (.cells #[.int .i64 0, .int .u64 (u : Int), .int .i64 n, .int .i64 m, .string s, .bool on, .slice LA L.length lc, .slice IA I.length ic] 28) = W at *
  go_region_held3 (fun w' => w'.cell? ⟨w.heap.size, 1, none⟩ = some (.int .u64 (u : Int))) (first | exact cj | exact cj1 | exact cj2)
    (first
      | (go_at_call 34; refine (H1.out _ HW.out.drew).mono ?_; rintro e w1 ⟨v1, rfl, ho1, hb1⟩; have cj1 := (hb1.cell (p := ⟨w.heap.size, 1, none⟩) (by simp; omega)).trans cj; have HO1 := Lib.hid ho1; have HB1 := Lib.hid (HW.out.drew.trans (hb1.mono HW.out.size)); have HB1' := Lib.hid hb1; clear ho1 hb1)
      | (go_at_call 35; refine (H2.out _ HB1.out).mono ?_; rintro e w2 ⟨v2, rfl, ho2, hb2⟩; have cj2 := (hb2.cell (p := ⟨w.heap.size, 1, none⟩) (by have := HB1'.out.size; simp at this; show w.heap.size < _; omega)).trans cj1; have HO2 := Lib.hid ho2; have HB2 := Lib.hid hb2; clear ho2 hb2))
  all_goals
    go_wp2_with fail
    go_ret3
    exact ⟨_, _, rfl, (HO1.out.below HB2.out (Nat.le_refl _)).base_le (by simp; omega), HO2.out.base_le HB1.out.size, HB1.out.trans (HB2.out.mono HB1.out.size)⟩

set_option maxRecDepth 100000 in
set_option maxHeartbeats 2000000 in
theorem told_1 (LA IA : Option Addr) (lc ic B u : Nat) (n m : Int) (s : ByteArray) (on : Bool) (L : List ByteArray) (I : List Int) (w : World) (hn1 : -9223372036854775808 ≤ n) (hn2 : n ≤ 9223372036854775807) :
    Calls Try.prog 9 #[.agg #[.int .i64 1, .int .u64 (u : Int), .int .i64 n, .int .i64 m, .string s, .bool on, .slice LA L.length lc, .slice IA I.length ic]] w fun e w' => ∃ v1 v2, e = .returned (.tuple #[v1, v2, .bool true]) ∧ Own w' w.heap.size v1 (Wn.enc (Wn.zig n)) ∧ Own w' w.heap.size v2 (Wn.enc (Wn.zig n)) ∧ Below w.heap.size w w' := by
  have HW := Lib.hid ((Below.refl w.heap.size w).alloc (Nat.le_refl _) (.cells #[.int .i64 1, .int .u64 (u : Int), .int .i64 n, .int .i64 m, .string s, .bool on, .slice LA L.length lc, .slice IA I.length ic] 28))
  have c0 : (w.alloc (.cells #[.int .i64 1, .int .u64 (u : Int), .int .i64 n, .int .i64 m, .string s, .bool on, .slice LA L.length lc, .slice IA I.length ic] 28)).cell? ⟨w.heap.size, 0, none⟩ = some (.int .i64 1) := cell_of_row _ _ 0 _ _ _ (heap_alloc_new w _)
  have cj : (w.alloc (.cells #[.int .i64 1, .int .u64 (u : Int), .int .i64 n, .int .i64 m, .string s, .bool on, .slice LA L.length lc, .slice IA I.length ic] 28)).cell? ⟨w.heap.size, 2, none⟩ = some (.int .i64 n) := cell_of_row _ _ 2 _ _ _ (heap_alloc_new w _)
  have hz : w.heap.size + 1 ≤ (w.alloc (.cells #[.int .i64 1, .int .u64 (u : Int), .int .i64 n, .int .i64 m, .string s, .bool on, .slice LA L.length lc, .slice IA I.length ic] 28)).heap.size := by simp

  have H1 : Hid (∀ W, Below w.heap.size w W → Calls Try.prog 36 #[.int .i64 n] W fun e w' => ∃ v', e = .returned v' ∧ Own w' W.heap.size v' (Wn.enc (Wn.zig n)) ∧ Below W.heap.size W w') := fun W h => wInt_any n _ hn1 hn2
  have H2 : Hid (∀ W, Below w.heap.size w W → Calls Try.prog 37 #[.int .i64 n] W fun e w' => ∃ v', e = .returned v' ∧ Own w' W.heap.size v' (Wn.enc (Wn.zig n)) ∧ Below W.heap.size W w') := fun W h => refInt_any n _ hn1 hn2
  generalize Wn.enc (Wn.zig n) = b at *
  go_enter Try.func9, Try.ntmps9
  go_wp2_with fail
  generalize w.alloc (.cells #[.int .i64 1, .int .u64 (u : Int), .int .i64 n, .int .i64 m, .string s, .bool on, .slice LA L.length lc, .slice IA I.length ic] 28) = W at *
  go_region_held3 (fun w' => w'.cell? ⟨w.heap.size, 2, none⟩ = some (.int .i64 n)) (first | exact cj | exact cj1 | exact cj2)
    (first
      | (go_at_call 36; refine (H1.out _ HW.out.drew).mono ?_; rintro e w1 ⟨v1, rfl, ho1, hb1⟩; have cj1 := (hb1.cell (p := ⟨w.heap.size, 2, none⟩) (by simp; omega)).trans cj; have HO1 := Lib.hid ho1; have HB1 := Lib.hid (HW.out.drew.trans (hb1.mono HW.out.size)); have HB1' := Lib.hid hb1; clear ho1 hb1)
      | (go_at_call 37; refine (H2.out _ HB1.out).mono ?_; rintro e w2 ⟨v2, rfl, ho2, hb2⟩; have cj2 := (hb2.cell (p := ⟨w.heap.size, 2, none⟩) (by have := HB1'.out.size; simp at this; show w.heap.size < _; omega)).trans cj1; have HO2 := Lib.hid ho2; have HB2 := Lib.hid hb2; clear ho2 hb2))
  all_goals
    go_wp2_with fail
    go_ret3
    exact ⟨_, _, rfl, (HO1.out.below HB2.out (Nat.le_refl _)).base_le (by simp; omega), HO2.out.base_le HB1.out.size, HB1.out.trans (HB2.out.mono HB1.out.size)⟩

set_option maxRecDepth 100000 in
set_option maxHeartbeats 2000000 in
theorem told_2 (LA IA : Option Addr) (lc ic B u : Nat) (n m : Int) (s : ByteArray) (on : Bool) (L : List ByteArray) (I : List Int) (w : World) (hs : s.size ≤ 1099511627776) :
    Calls Try.prog 9 #[.agg #[.int .i64 2, .int .u64 (u : Int), .int .i64 n, .int .i64 m, .string s, .bool on, .slice LA L.length lc, .slice IA I.length ic]] w fun e w' => ∃ v1 v2, e = .returned (.tuple #[v1, v2, .bool true]) ∧ Own w' w.heap.size v1 (encT s) ∧ Own w' w.heap.size v2 (encT s) ∧ Below w.heap.size w w' := by
  have HW := Lib.hid ((Below.refl w.heap.size w).alloc (Nat.le_refl _) (.cells #[.int .i64 2, .int .u64 (u : Int), .int .i64 n, .int .i64 m, .string s, .bool on, .slice LA L.length lc, .slice IA I.length ic] 28))
  have c0 : (w.alloc (.cells #[.int .i64 2, .int .u64 (u : Int), .int .i64 n, .int .i64 m, .string s, .bool on, .slice LA L.length lc, .slice IA I.length ic] 28)).cell? ⟨w.heap.size, 0, none⟩ = some (.int .i64 2) := cell_of_row _ _ 0 _ _ _ (heap_alloc_new w _)
  have cj : (w.alloc (.cells #[.int .i64 2, .int .u64 (u : Int), .int .i64 n, .int .i64 m, .string s, .bool on, .slice LA L.length lc, .slice IA I.length ic] 28)).cell? ⟨w.heap.size, 4, none⟩ = some (.string s) := cell_of_row _ _ 4 _ _ _ (heap_alloc_new w _)
  have hz : w.heap.size + 1 ≤ (w.alloc (.cells #[.int .i64 2, .int .u64 (u : Int), .int .i64 n, .int .i64 m, .string s, .bool on, .slice LA L.length lc, .slice IA I.length ic] 28)).heap.size := by simp

  have H1 : Hid (∀ W, Below w.heap.size w W → Calls Try.prog 38 #[.string s] W fun e w' => ∃ v', e = .returned v' ∧ Own w' W.heap.size v' (encT s) ∧ Below W.heap.size W w') := fun W h => wText_any s _ hs
  have H2 : Hid (∀ W, Below w.heap.size w W → Calls Try.prog 39 #[.string s] W fun e w' => ∃ v', e = .returned v' ∧ Own w' W.heap.size v' (encT s) ∧ Below W.heap.size W w') := fun W h => refText_any s _ hs
  generalize encT s = b at *
  go_enter Try.func9, Try.ntmps9
  go_wp2_with fail
  generalize w.alloc (.cells #[.int .i64 2, .int .u64 (u : Int), .int .i64 n, .int .i64 m, .string s, .bool on, .slice LA L.length lc, .slice IA I.length ic] 28) = W at *
  go_region_held3 (fun w' => w'.cell? ⟨w.heap.size, 4, none⟩ = some (.string s)) (first | exact cj | exact cj1 | exact cj2)
    (first
      | (go_at_call 38; refine (H1.out _ HW.out.drew).mono ?_; rintro e w1 ⟨v1, rfl, ho1, hb1⟩; have cj1 := (hb1.cell (p := ⟨w.heap.size, 4, none⟩) (by simp; omega)).trans cj; have HO1 := Lib.hid ho1; have HB1 := Lib.hid (HW.out.drew.trans (hb1.mono HW.out.size)); have HB1' := Lib.hid hb1; clear ho1 hb1)
      | (go_at_call 39; refine (H2.out _ HB1.out).mono ?_; rintro e w2 ⟨v2, rfl, ho2, hb2⟩; have cj2 := (hb2.cell (p := ⟨w.heap.size, 4, none⟩) (by have := HB1'.out.size; simp at this; show w.heap.size < _; omega)).trans cj1; have HO2 := Lib.hid ho2; have HB2 := Lib.hid hb2; clear ho2 hb2))
  all_goals
    go_wp2_with fail
    go_ret3
    exact ⟨_, _, rfl, (HO1.out.below HB2.out (Nat.le_refl _)).base_le (by simp; omega), HO2.out.base_le HB1.out.size, HB1.out.trans (HB2.out.mono HB1.out.size)⟩

set_option maxRecDepth 100000 in
set_option maxHeartbeats 2000000 in
theorem told_3 (LA IA : Option Addr) (lc ic B u : Nat) (n m : Int) (s : ByteArray) (on : Bool) (L : List ByteArray) (I : List Int) (w : World) :
    Calls Try.prog 9 #[.agg #[.int .i64 3, .int .u64 (u : Int), .int .i64 n, .int .i64 m, .string s, .bool on, .slice LA L.length lc, .slice IA I.length ic]] w fun e w' => ∃ v1 v2, e = .returned (.tuple #[v1, v2, .bool true]) ∧ Own w' w.heap.size v1 (encF_ on) ∧ Own w' w.heap.size v2 (encF_ on) ∧ Below w.heap.size w w' := by
  have HW := Lib.hid ((Below.refl w.heap.size w).alloc (Nat.le_refl _) (.cells #[.int .i64 3, .int .u64 (u : Int), .int .i64 n, .int .i64 m, .string s, .bool on, .slice LA L.length lc, .slice IA I.length ic] 28))
  have c0 : (w.alloc (.cells #[.int .i64 3, .int .u64 (u : Int), .int .i64 n, .int .i64 m, .string s, .bool on, .slice LA L.length lc, .slice IA I.length ic] 28)).cell? ⟨w.heap.size, 0, none⟩ = some (.int .i64 3) := cell_of_row _ _ 0 _ _ _ (heap_alloc_new w _)
  have cj : (w.alloc (.cells #[.int .i64 3, .int .u64 (u : Int), .int .i64 n, .int .i64 m, .string s, .bool on, .slice LA L.length lc, .slice IA I.length ic] 28)).cell? ⟨w.heap.size, 5, none⟩ = some (.bool on) := cell_of_row _ _ 5 _ _ _ (heap_alloc_new w _)
  have hz : w.heap.size + 1 ≤ (w.alloc (.cells #[.int .i64 3, .int .u64 (u : Int), .int .i64 n, .int .i64 m, .string s, .bool on, .slice LA L.length lc, .slice IA I.length ic] 28)).heap.size := by simp

  have H1 : Hid (∀ W, Below w.heap.size w W → Calls Try.prog 40 #[.bool on] W fun e w' => ∃ v', e = .returned v' ∧ Own w' W.heap.size v' (encF_ on) ∧ Below W.heap.size W w') := fun W h => wFlag_any on _
  have H2 : Hid (∀ W, Below w.heap.size w W → Calls Try.prog 41 #[.bool on] W fun e w' => ∃ v', e = .returned v' ∧ Own w' W.heap.size v' (encF_ on) ∧ Below W.heap.size W w') := fun W h => refFlag_any on _
  generalize encF_ on = b at *
  go_enter Try.func9, Try.ntmps9
  go_wp2_with fail
  generalize w.alloc (.cells #[.int .i64 3, .int .u64 (u : Int), .int .i64 n, .int .i64 m, .string s, .bool on, .slice LA L.length lc, .slice IA I.length ic] 28) = W at *
  go_region_held3 (fun w' => w'.cell? ⟨w.heap.size, 5, none⟩ = some (.bool on)) (first | exact cj | exact cj1 | exact cj2)
    (first
      | (go_at_call 40; refine (H1.out _ HW.out.drew).mono ?_; rintro e w1 ⟨v1, rfl, ho1, hb1⟩; have cj1 := (hb1.cell (p := ⟨w.heap.size, 5, none⟩) (by simp; omega)).trans cj; have HO1 := Lib.hid ho1; have HB1 := Lib.hid (HW.out.drew.trans (hb1.mono HW.out.size)); have HB1' := Lib.hid hb1; clear ho1 hb1)
      | (go_at_call 41; refine (H2.out _ HB1.out).mono ?_; rintro e w2 ⟨v2, rfl, ho2, hb2⟩; have cj2 := (hb2.cell (p := ⟨w.heap.size, 5, none⟩) (by have := HB1'.out.size; simp at this; show w.heap.size < _; omega)).trans cj1; have HO2 := Lib.hid ho2; have HB2 := Lib.hid hb2; clear ho2 hb2))
  all_goals
    go_wp2_with fail
    go_ret3
    exact ⟨_, _, rfl, (HO1.out.below HB2.out (Nat.le_refl _)).base_le (by simp; omega), HO2.out.base_le HB1.out.size, HB1.out.trans (HB2.out.mono HB1.out.size)⟩

set_option maxRecDepth 100000 in
set_option maxHeartbeats 2000000 in
theorem told_4 (LA IA : Option Addr) (lc ic B u : Nat) (n m : Int) (s : ByteArray) (on : Bool) (L : List ByteArray) (I : List Int) (w : World) (hL : Ts w B LA L.length 1000 L) (hB : B ≤ w.heap.size) (hl1 : L.length ≤ 1048576) :
    Calls Try.prog 9 #[.agg #[.int .i64 4, .int .u64 (u : Int), .int .i64 n, .int .i64 m, .string s, .bool on, .slice LA L.length lc, .slice IA I.length ic]] w fun e w' => ∃ v1 v2, e = .returned (.tuple #[v1, v2, .bool true]) ∧ Own w' w.heap.size v1 (Wn.enc L.length ++ encTs L) ∧ Own w' w.heap.size v2 (Wn.enc L.length ++ encTs L) ∧ Below w.heap.size w w' := by
  have HW := Lib.hid ((Below.refl w.heap.size w).alloc (Nat.le_refl _) (.cells #[.int .i64 4, .int .u64 (u : Int), .int .i64 n, .int .i64 m, .string s, .bool on, .slice LA L.length lc, .slice IA I.length ic] 28))
  have c0 : (w.alloc (.cells #[.int .i64 4, .int .u64 (u : Int), .int .i64 n, .int .i64 m, .string s, .bool on, .slice LA L.length lc, .slice IA I.length ic] 28)).cell? ⟨w.heap.size, 0, none⟩ = some (.int .i64 4) := cell_of_row _ _ 0 _ _ _ (heap_alloc_new w _)
  have cj : (w.alloc (.cells #[.int .i64 4, .int .u64 (u : Int), .int .i64 n, .int .i64 m, .string s, .bool on, .slice LA L.length lc, .slice IA I.length ic] 28)).cell? ⟨w.heap.size, 6, none⟩ = some (.slice LA L.length lc) := cell_of_row _ _ 6 _ _ _ (heap_alloc_new w _)
  have hz : w.heap.size + 1 ≤ (w.alloc (.cells #[.int .i64 4, .int .u64 (u : Int), .int .i64 n, .int .i64 m, .string s, .bool on, .slice LA L.length lc, .slice IA I.length ic] 28)).heap.size := by simp

  have HT : Hid (∀ W, Below w.heap.size w W → Ts W B LA L.length 1000 L) := fun W h => hL.below (h.mono hB)
  have HS : Hid (∀ W, Below w.heap.size w W → B ≤ W.heap.size) := fun W h => Nat.le_trans hB h.size
  clear hL hB

  have H1 : Hid (∀ W, Below w.heap.size w W → Calls Try.prog 42 #[.slice LA L.length lc] W fun e w' => ∃ v', e = .returned v' ∧ Own w' W.heap.size v' (Wn.enc L.length ++ encTs L) ∧ Below W.heap.size W w') := fun W h => wTexts_any LA L.length lc 1000 B L _ (HT.out _ h) (HS.out _ h) hl1 (by omega)
  have H2 : Hid (∀ W, Below w.heap.size w W → Calls Try.prog 43 #[.slice LA L.length lc] W fun e w' => ∃ v', e = .returned v' ∧ Own w' W.heap.size v' (Wn.enc L.length ++ encTs L) ∧ Below W.heap.size W w') := fun W h => refTexts_any LA L.length lc 1000 B L _ (HT.out _ h) (HS.out _ h) hl1 (by omega)
  generalize Wn.enc L.length ++ encTs L = b at *
  go_enter Try.func9, Try.ntmps9
  go_wp2_with fail
  generalize w.alloc (.cells #[.int .i64 4, .int .u64 (u : Int), .int .i64 n, .int .i64 m, .string s, .bool on, .slice LA L.length lc, .slice IA I.length ic] 28) = W at *
  go_region_held3 (fun w' => w'.cell? ⟨w.heap.size, 6, none⟩ = some (.slice LA L.length lc)) (first | exact cj | exact cj1 | exact cj2)
    (first
      | (go_at_call 42; refine (H1.out _ HW.out.drew).mono ?_; rintro e w1 ⟨v1, rfl, ho1, hb1⟩; have cj1 := (hb1.cell (p := ⟨w.heap.size, 6, none⟩) (by simp; omega)).trans cj; have HO1 := Lib.hid ho1; have HB1 := Lib.hid (HW.out.drew.trans (hb1.mono HW.out.size)); have HB1' := Lib.hid hb1; clear ho1 hb1)
      | (go_at_call 43; refine (H2.out _ HB1.out).mono ?_; rintro e w2 ⟨v2, rfl, ho2, hb2⟩; have cj2 := (hb2.cell (p := ⟨w.heap.size, 6, none⟩) (by have := HB1'.out.size; simp at this; show w.heap.size < _; omega)).trans cj1; have HO2 := Lib.hid ho2; have HB2 := Lib.hid hb2; clear ho2 hb2))
  all_goals
    go_wp2_with fail
    go_ret3
    exact ⟨_, _, rfl, (HO1.out.below HB2.out (Nat.le_refl _)).base_le (by simp; omega), HO2.out.base_le HB1.out.size, HB1.out.trans (HB2.out.mono HB1.out.size)⟩

set_option maxRecDepth 100000 in
set_option maxHeartbeats 2000000 in
theorem told_5 (LA IA : Option Addr) (lc ic B u : Nat) (n m : Int) (s : ByteArray) (on : Bool) (L : List ByteArray) (I : List Int) (w : World) (hI : Is w B IA I.length I) (hB : B ≤ w.heap.size) (hi1 : I.length ≤ 1048576) :
    Calls Try.prog 9 #[.agg #[.int .i64 5, .int .u64 (u : Int), .int .i64 n, .int .i64 m, .string s, .bool on, .slice LA L.length lc, .slice IA I.length ic]] w fun e w' => ∃ v1 v2, e = .returned (.tuple #[v1, v2, .bool true]) ∧ Own w' w.heap.size v1 (Wn.enc I.length ++ told_ I I.length) ∧ Own w' w.heap.size v2 (Wn.enc I.length ++ told_ I I.length) ∧ Below w.heap.size w w' := by
  have HW := Lib.hid ((Below.refl w.heap.size w).alloc (Nat.le_refl _) (.cells #[.int .i64 5, .int .u64 (u : Int), .int .i64 n, .int .i64 m, .string s, .bool on, .slice LA L.length lc, .slice IA I.length ic] 28))
  have c0 : (w.alloc (.cells #[.int .i64 5, .int .u64 (u : Int), .int .i64 n, .int .i64 m, .string s, .bool on, .slice LA L.length lc, .slice IA I.length ic] 28)).cell? ⟨w.heap.size, 0, none⟩ = some (.int .i64 5) := cell_of_row _ _ 0 _ _ _ (heap_alloc_new w _)
  have cj : (w.alloc (.cells #[.int .i64 5, .int .u64 (u : Int), .int .i64 n, .int .i64 m, .string s, .bool on, .slice LA L.length lc, .slice IA I.length ic] 28)).cell? ⟨w.heap.size, 7, none⟩ = some (.slice IA I.length ic) := cell_of_row _ _ 7 _ _ _ (heap_alloc_new w _)
  have hz : w.heap.size + 1 ≤ (w.alloc (.cells #[.int .i64 5, .int .u64 (u : Int), .int .i64 n, .int .i64 m, .string s, .bool on, .slice LA L.length lc, .slice IA I.length ic] 28)).heap.size := by simp

  have HI : Hid (∀ W, Below w.heap.size w W → Is W B IA I.length I) := fun W h => hI.below (h.mono hB)
  have HS : Hid (∀ W, Below w.heap.size w W → B ≤ W.heap.size) := fun W h => Nat.le_trans hB h.size
  clear hI hB

  have H1 : Hid (∀ W, Below w.heap.size w W → Calls Try.prog 44 #[.slice IA I.length ic] W fun e w' => ∃ v', e = .returned v' ∧ Own w' W.heap.size v' (Wn.enc I.length ++ told_ I I.length) ∧ Below W.heap.size W w') := fun W h => wInts_any IA I.length ic B I _ (HI.out _ h) (HS.out _ h) hi1
  have H2 : Hid (∀ W, Below w.heap.size w W → Calls Try.prog 45 #[.slice IA I.length ic] W fun e w' => ∃ v', e = .returned v' ∧ Own w' W.heap.size v' (Wn.enc I.length ++ told_ I I.length) ∧ Below W.heap.size W w') := fun W h => refInts_any IA I.length ic B I _ (HI.out _ h) (HS.out _ h) hi1
  generalize Wn.enc I.length ++ told_ I I.length = b at *
  go_enter Try.func9, Try.ntmps9
  go_wp2_with fail
  generalize w.alloc (.cells #[.int .i64 5, .int .u64 (u : Int), .int .i64 n, .int .i64 m, .string s, .bool on, .slice LA L.length lc, .slice IA I.length ic] 28) = W at *
  go_region_held3 (fun w' => w'.cell? ⟨w.heap.size, 7, none⟩ = some (.slice IA I.length ic)) (first | exact cj | exact cj1 | exact cj2)
    (first
      | (go_at_call 44; refine (H1.out _ HW.out.drew).mono ?_; rintro e w1 ⟨v1, rfl, ho1, hb1⟩; have cj1 := (hb1.cell (p := ⟨w.heap.size, 7, none⟩) (by simp; omega)).trans cj; have HO1 := Lib.hid ho1; have HB1 := Lib.hid (HW.out.drew.trans (hb1.mono HW.out.size)); have HB1' := Lib.hid hb1; clear ho1 hb1)
      | (go_at_call 45; refine (H2.out _ HB1.out).mono ?_; rintro e w2 ⟨v2, rfl, ho2, hb2⟩; have cj2 := (hb2.cell (p := ⟨w.heap.size, 7, none⟩) (by have := HB1'.out.size; simp at this; show w.heap.size < _; omega)).trans cj1; have HO2 := Lib.hid ho2; have HB2 := Lib.hid hb2; clear ho2 hb2))
  all_goals
    go_wp2_with fail
    go_ret3
    exact ⟨_, _, rfl, (HO1.out.below HB2.out (Nat.le_refl _)).base_le (by simp; omega), HO2.out.base_le HB1.out.size, HB1.out.trans (HB2.out.mono HB1.out.size)⟩

set_option maxRecDepth 100000 in
set_option maxHeartbeats 2000000 in
theorem told_no (LA IA : Option Addr) (lc ic u : Nat) (k n m : Int) (s : ByteArray) (on : Bool) (L : List ByteArray) (I : List Int) (w : World) (h0 : k ≠ 0) (h1 : k ≠ 1) (h2 : k ≠ 2) (h3 : k ≠ 3) (h4 : k ≠ 4) (h5 : k ≠ 5) :
    Calls Try.prog 9 #[.agg #[.int .i64 k, .int .u64 (u : Int), .int .i64 n, .int .i64 m, .string s, .bool on, .slice LA L.length lc, .slice IA I.length ic]] w fun e w' => e = .returned (.tuple #[.slice none 0 0, .slice none 0 0, .bool false]) ∧ Below w.heap.size w w' := by
  have e0 : (k == 0) = false := beq_eq_false_iff_ne.2 h0
  have e1 : (k == 1) = false := beq_eq_false_iff_ne.2 h1
  have e2 : (k == 2) = false := beq_eq_false_iff_ne.2 h2
  have e3 : (k == 3) = false := beq_eq_false_iff_ne.2 h3
  have e4 : (k == 4) = false := beq_eq_false_iff_ne.2 h4
  have e5 : (k == 5) = false := beq_eq_false_iff_ne.2 h5
  clear h0 h1 h2 h3 h4 h5
  go_enter Try.func9, Try.ntmps9
  go_wp2_with fail
  go_ret3
  exact ⟨rfl, (Below.refl _ _).alloc (Nat.le_refl _) _⟩

theorem told_any (x : Item) (LA IA : Option Addr) (lc ic B : Nat) (w : World) (h : x.at_ w B LA lc IA ic) (hB : B ≤ w.heap.size) :
    Calls Try.prog 9 #[.agg (x.cells LA lc IA ic)] w (ToldPost w x) := by
  obtain ⟨k, u, n, m, s, on, L, I⟩ := x
  unfold ToldPost toldS Item.cells
  simp only
  by_cases h0 : k = 0
  · subst h0; exact told_0 LA IA lc ic B u n m s on L I w h.ok.u1
  by_cases h1 : k = 1
  · subst h1; exact told_1 LA IA lc ic B u n m s on L I w h.ok.n1 h.ok.n2
  by_cases h2 : k = 2
  · subst h2; exact told_2 LA IA lc ic B u n m s on L I w h.s1
  by_cases h3 : k = 3
  · subst h3; exact told_3 LA IA lc ic B u n m s on L I w
  by_cases h4 : k = 4
  · subst h4; exact told_4 LA IA lc ic B u n m s on L I w h.l hB h.l1
  by_cases h5 : k = 5
  · subst h5; exact told_5 LA IA lc ic B u n m s on L I w h.i hB h.i1
  rw [if_neg h0, if_neg h1, if_neg h2, if_neg h3, if_neg h4, if_neg h5]
  exact told_no LA IA lc ic u k n m s on L I w h0 h1 h2 h3 h4 h5
end Go.Proofs.Ytgbdgpacnpeahaa
